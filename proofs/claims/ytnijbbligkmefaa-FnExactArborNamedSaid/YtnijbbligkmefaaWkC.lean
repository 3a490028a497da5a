/-
  The model's conversions of works: laws.toWorks and what it calls.
-/
import Derived.Test.YtnijbbligkmefaaWkA
namespace Go.Proofs.Ytnijbbligkmefaa
open Go.RowKit

theorem infoArb : (Try.prog.info? 42).map (fun i => (i.zero, i.size, i.bytes)) = some (some (.agg #[.string ByteArray.empty, .slice none 0 0]), 2, 40) := by kernel_rfl
theorem infoMsh : (Try.prog.info? 52).map (fun i => (i.zero, i.size, i.bytes)) = some (some (.agg #[.int .i64 0, .int .i64 0, .int .i64 0, .int .i64 0]), 4, 32) := by kernel_rfl
theorem made_len (z : Array Value) (m : Nat) : (madeCells z m).toList.length = m := by simp [madeCells]
theorem set2_at {xs : List Value} {j : Nat} {u v : Value} (h : j * 2 + 1 < xs.length) : ((xs.set (j * 2) u).set (j * 2 + 1) v)[j * 2]? = some u ∧ ((xs.set (j * 2) u).set (j * 2 + 1) v)[j * 2 + 1]? = some v ∧ ∀ i, i < j → ((xs.set (j * 2) u).set (j * 2 + 1) v)[i * 2]? = xs[i * 2]? ∧ ((xs.set (j * 2) u).set (j * 2 + 1) v)[i * 2 + 1]? = xs[i * 2 + 1]? := by
  refine ⟨?_, ?_, fun i hi => ⟨?_, ?_⟩⟩
  · rw [List.getElem?_set_ne (by omega), List.getElem?_set_self (by omega)]
  · rw [List.getElem?_set_self (by simp; omega)]
  · rw [List.getElem?_set_ne (by omega), List.getElem?_set_ne (by omega)]
  · rw [List.getElem?_set_ne (by omega), List.getElem?_set_ne (by omega)]
/-- What toArbor returns. -/
def ToAbRet (s : ByteArray) (ts : List Int) (w : World) (e : Ending) (w' : World) : Prop := ∃ u, e = .returned (.agg #[.string s, u]) ∧ SlF w.heap.size w' u ts ∧ Below w.heap.size w w'
theorem bsetW {w x : World} {b o : Nat} {v : Value} (h : Below w.heap.size w x) (ha : w.heap.size ≤ b) : Below w.heap.size w (x.setCell ⟨b, o, none⟩ v) := h.setCell ha v
set_option maxRecDepth 100000 in
set_option maxHeartbeats 4000000 in
theorem toArbor_any (s : ByteArray) (v : Value) (ts : List Int) (w : World) (h : ArgI w v ts) (hl : ts.length ≤ 1048576) :
    Calls Try.prog 20 #[.agg #[.string s, v]] w (ToAbRet s ts w) := by
  have A2 := Lib.hid ((BoxU.at_ (w := w.alloc (.cells #[.string s, v] 38)) (b := w.heap.size + 1) (u := .string ⟨#[]⟩) (v := .slice none 0 0) (T := 42) (by simp)).alloc (.cells #[.string s, .slice none 0 0] 42))
  have A3 := Lib.hid (BoxU.at_ (w := (w.alloc (.cells #[.string s, v] 38)).alloc (.cells #[.string ⟨#[]⟩, .slice none 0 0] 42)) (b := w.heap.size + 1 + 1) (u := .string s) (v := .slice none 0 0) (T := 42) (by simp))
  have L0 := Lib.hid (bA (bA (bA (bR w) (.cells #[.string s, v] 38)) (.cells #[.string ⟨#[]⟩, .slice none 0 0] 42)) (.cells #[.string s, .slice none 0 0] 42))
  have H0 := Lib.hid (h.keep L0.out)
  have hlt0 : w.heap.size + 1 + 1 < (((w.alloc (.cells #[.string s, v] 38)).alloc (.cells #[.string ⟨#[]⟩, .slice none 0 0] 42)).alloc (.cells #[.string s, .slice none 0 0] 42)).heap.size := A3.out.lt
  have hle2 : w.heap.size < w.heap.size + 1 := by omega
  have hle3 : w.heap.size + 1 < w.heap.size + 1 + 1 := by omega
  clear h
  go_enter Try.func20, Try.ntmps20
  go_wp2_with fail
  generalize ((w.alloc (.cells #[.string s, v] 38)).alloc (.cells #[.string ⟨#[]⟩, .slice none 0 0] 42)).alloc (.cells #[.string s, .slice none 0 0] 42) = W at *
  generalize w.heap.size + 1 + 1 = b3 at *
  generalize w.heap.size + 1 = b2 at *
  obtain ⟨a, len, cap, zs, rfl, hrow, rfl⟩ := H0.out
  have HLen := (row64_of hrow).2.1
  refine (toInt64S_any a len cap zs _ hrow (by omega)).mono ?_
  generalize zs.take len = ts at *
  rintro e w1 ⟨rfl, hr, hb⟩
  have B2 := Lib.hid (A2.out.keep hb)
  have B3 := Lib.hid (A3.out.keep hb)
  have L1 := Lib.hid (bT L0.out hb)
  have P1 := Lib.hid (slF_row hr (Nat.le_refl _))
  clear hb hr A2 A3 H0 hrow
  subst HLen
  generalize W.heap.size = g at *
  have C3 := Lib.hid (B3.out.set1 (.slice (some ⟨g, 0, none⟩) ts.length ts.length))
  have C2 := Lib.hid (B2.out.other (b' := b3) (o := 1) (x := .slice (some ⟨g, 0, none⟩) ts.length ts.length) (by omega))
  have F2 := Lib.hid ((C2.out.set0 (.string s)).set1 (.slice (some ⟨g, 0, none⟩) ts.length ts.length))
  have P5 := Lib.hid ((((P1.out.other (b := b3) (o := 1) (x := .slice (some ⟨g, 0, none⟩) ts.length ts.length) (by omega)).other (b := b2) (o := 0) (x := .string s) (by omega)).other (b := b2) (o := 1) (x := .slice (some ⟨g, 0, none⟩) ts.length ts.length) (by omega)).low (B' := w.heap.size) (by omega))
  have L5 := Lib.hid (bsetW (b := b2) (o := 1) (v := .slice (some ⟨g, 0, none⟩) ts.length ts.length) (bsetW (b := b2) (o := 0) (v := .string s) (bsetW (b := b3) (o := 1) (v := .slice (some ⟨g, 0, none⟩) ts.length ts.length) L1.out (by omega)) (by omega)) (by omega))
  obtain ⟨x0, x1, x2, x3, x4⟩ := B3.out
  obtain ⟨y0, y1, y2, y3, y4⟩ := C3.out
  obtain ⟨v0, v1, v2, v3, v4⟩ := C2.out
  obtain ⟨z0, z1, z2, z3, z4⟩ := F2.out
  go_wp2_with fail
  refine bodyPost_ret (v := .agg #[.string s, .slice (some ⟨g, 0, none⟩) ts.length ts.length]) ?_ rfl ⟨_, rfl, P5.out, L5.out⟩
  simp [results, Try.results20, go_sem, z0, z1]
end Go.Proofs.Ytnijbbligkmefaa
