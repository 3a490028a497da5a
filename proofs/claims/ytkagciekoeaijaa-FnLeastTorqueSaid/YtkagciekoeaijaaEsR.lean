/-
  slices.Repeat of one number.
-/
import Derived.Test.YtkagciekoeaijaaEsA
import Derived.Test.YtkagciekoeaijaaTo64
import Derived.Test.YtkagciekoeaijaaShelf
import Derived.Laws.CopyOwn
import Derived.Deep.RegionLaw
namespace Go.Proofs.Ytkagciekoeaijaa
open Go.RowKit

def ReP (q : Int) (n : Nat) (w : World) (en : Ending) (w' : World) : Prop := en = .returned (.slice (some ⟨w.heap.size, 0, none⟩) n n) ∧ w'.ownsRow w.heap.size 2 1 (.slice (some ⟨w.heap.size, 0, none⟩) n n) n (intC (List.replicate n q)) ∧ Below w.heap.size w w'
/-- The row while it is filled. -/
def reL (q : Int) (n c : Nat) : List Int := List.replicate c q ++ List.replicate (n - c) 0
theorem reL_len (q : Int) {n c : Nat} (h : c ≤ n) : (reL q n c).length = n := by simp [reL]; omega
theorem reL_all (q : Int) (n : Nat) : reL q n n = List.replicate n q := by simp [reL]
theorem intC_len (ts : List Int) : (intC ts).length = ts.length := by simp [intC]
theorem reL_splice (q : Int) {n c d : Nat} (h : c + d ≤ n) : splice (intC (reL q n c)) c (intC (List.replicate d q)) = intC (reL q n (c + d)) := by
  unfold splice reL intC
  rw [List.map_append, List.take_append_of_le_length (by simp), List.take_of_length_le (by simp), List.length_map, List.length_replicate, List.drop_append, List.drop_of_length_le (by simp), List.nil_append, List.length_map, List.length_replicate]
  rw [List.map_replicate, List.map_replicate, List.map_replicate, List.drop_replicate, List.map_append, List.map_replicate, List.map_replicate, ← List.append_assoc, List.replicate_append_replicate]
  congr 2; omega
theorem re_one (q : Int) (d : Nat) : ∀ v ∈ intC (List.replicate d q), v.oneCell' = true := by
  intro v hv
  obtain ⟨x, _, rfl⟩ := List.mem_map.1 hv
  rfl
theorem re_src {W : World} {b d : Nat} {q : Int} (h : W.cell? ⟨b, 0, none⟩ = some (.int .i64 q)) (hd : d ≤ 1) {j : Nat} {v : Value} (hj : (intC (List.replicate d q))[j]? = some v) : W.cell? ⟨b, j, none⟩ = some v := by
  unfold intC at hj
  rw [List.map_replicate, List.getElem?_replicate] at hj
  split at hj
  · obtain rfl : j = 0 := by omega
    cases hj
    exact h
  · cases hj
theorem re_cell {W : World} {g n c d : Nat} {q : Int} {T : TypeId} (h : W.heap[g]? = some (.cells (intC (reL q n c)).toArray T (0, 0))) (hd : d ≤ c) {j : Nat} {v : Value} (hj : (intC (List.replicate d q))[j]? = some v) : W.cell? ((⟨g, 0, none⟩ : Addr).add j) = some v := by
  have e : (⟨g, 0, none⟩ : Addr).add j = ⟨g, j, none⟩ := by cases j <;> simp [Addr.add]
  rw [e]
  unfold intC at hj
  rw [List.map_replicate, List.getElem?_replicate] at hj
  split at hj
  · cases hj
    unfold World.cell?
    rw [h]
    simp [intC, reL, List.getElem?_append, show j < c by omega]
  · cases hj
def ReR (w : World) (q : Int) (n : Nat) (v : Value) (wr : World) : Prop :=
  ∃ c : Nat, v = .int .i64 c ∧ c ≤ n ∧ (0 < n → 0 < c) ∧ wr.heap[w.heap.size]? = some (.cells (intC (reL q n c)).toArray 2 (0, 0)) ∧ Below w.heap.size w wr
set_option maxRecDepth 100000 in
set_option maxHeartbeats 600000 in
theorem repeat_any (q : Int) (n b : Nat) (w : World) (hn : n ≤ 2000) (hc : w.cell? ⟨b, 0, none⟩ = some (.int .i64 q)) (hb : b < w.heap.size) :
    Calls Try.prog 50 #[.slice (some ⟨b, 0, none⟩) 1 1, .int .i64 n] w (ReP q n w) := by
  obtain ⟨i0, hi, hz0, hz1, hz2⟩ := info_parts infoI64
  have HC := Lib.hid hc
  have hneg : ¬ (n : Int) < 0 := by omega
  have M := Lib.hid (show Calls Try.prog 64 #[.int .u64 1, .int .u64 n] w fun e w' => e = .returned (.tuple #[.int .u64 0, .int .u64 n]) ∧ w = w' from by
    refine (Try.bits_Mul 1 n (by omega) (by omega) w).mono ?_
    rintro e w' ⟨rfl, rfl⟩
    rw [Nat.one_mul, Nat.div_eq_of_lt (by omega), Nat.mod_eq_of_lt (by omega)]
    exact ⟨rfl, rfl⟩)
  clear hc
  go_enter Try.func50, Try.ntmps50
  go_wp2_with fail
  refine M.out.mono ?_
  rintro e w1 ⟨rfl, rfl⟩
  go_wp2_with (at_make; refine wpList_make_full _ rfl _ _ 26 rfl w.heap.size 2 i0 (.int .i64 0) 1 Try.underlying26 hi hz0 hz1 .i64 .i64 _ _ n rfl rfl rfl rfl ?m1 ?m2 (Nat.le_refl _) ?_)
  case m1 => rw [hz2]; omega
  case m2 => unfold maxLen; omega
  intro w1 hown hg
  rw [made_ints] at hown
  have HB := Lib.hid (grown_low hg)
  have HG := Lib.hid (show w1.heap[w.heap.size]? = some (.cells (intC (reL q n 0)).toArray 2 (0, 0)) from by
    obtain ⟨hl, h0 | ⟨g', cap', cur, e1, hB, hh, h1, h2, h3, h4⟩⟩ := hown
    · cases h0.1
    · cases e1
      rw [hh]
      have : cur = (intC (reL q n 0)).toArray := by
        apply Array.ext'
        rw [List.toList_toArray]
        have e5 : cur.toList.take (n * 1) = cur.toList := List.take_of_length_le (by simp; omega)
        rw [← e5]
        simpa [reL] using h4
      rw [this])
  clear hown hg
  have hsz : (Try.prog.info? 2).map (·.size) = some 1 := by rw [hi]; simp [hz1]
  have hcb := (HB.out.cell (p := ⟨b, 0, none⟩) hb).trans HC.out
  go_wp2_with (refine wpList_copy_splice (o := ⟨some 33, _, _, _, _, _⟩) rfl (.tmp 31) (.tmp 32) 26 26 rfl 2 Try.underlying26 hsz (some ⟨w.heap.size, 0, none⟩) (some ⟨b, 0, none⟩) n n 1 1 ?hd ?hs w.heap.size 0 (intC (reL q n 0)) 2 HG.out (intC (List.replicate (min 1 n) q)) ?c1 ?c2 ?c3 ?c4 w.heap.size w HB.out (Nat.le_refl _) ?_)
  case hd => rfl
  case hs => rfl
  case c1 => rw [intC_len, List.length_replicate]
  case c2 => exact fun _ j v hj => re_src hcb (by omega) hj
  case c3 => rw [intC_len, intC_len, List.length_replicate, reL_len q (Nat.zero_le _)]; omega
  case c4 => exact re_one _ _
  intro w2 hg2 hb2
  rw [reL_splice q (by omega), Nat.zero_add] at hg2
  rw [intC_len, List.length_replicate]
  have RS := Lib.hid (show ReR w q n (.int .i64 (min 1 n : Nat)) w2 from ⟨min 1 n, rfl, by omega, by omega, hg2.out, hb2⟩)
  clear hg2 hb2 hcb HG HB HC M
  generalize min 1 n = c0 at *
  go_wp2_with fail
  go_loopw [8] (fun v wr => ReR w q n v wr) (fun v _ => n - (intOf v).toNat)
  case atStart => exact RS.out
  case round =>
    obtain ⟨c, rfl, hcn, hc1, hh, hbl⟩ := hrel
    have HH := Lib.hid hh
    have HL := Lib.hid hbl
    clear hh hbl RS
    by_cases hlt : c < n
    · have hc0 : 0 < c := hc1 (by omega)
      have hsrc : ∀ (j : Nat) (v : Value), (intC (List.replicate (min c (n - c)) q))[j]? = some v → wr.cell? ((⟨w.heap.size, 0, none⟩ : Addr).add j) = some v := fun j v hj => re_cell HH.out (by omega) hj
      have HS := Lib.hid hsrc
      clear hsrc
      go_wp2_with fail
      have HHd := Lib.hid (show wr.drew.heap[w.heap.size]? = some (.cells (intC (reL q n c)).toArray 2 (0, 0)) from HH.out)
      have HSd := Lib.hid (show ∀ (j : Nat) (v : Value), (intC (List.replicate (min c (n - c)) q))[j]? = some v → wr.drew.cell? ((⟨w.heap.size, 0, none⟩ : Addr).add j) = some v from HS.out)
      have HLd := Lib.hid HL.out.drew
      clear HH HS HL
      have HNE := Lib.hid (show ¬ n = c by omega)
      go_region_law (refine step_copy_splice (by rfl) (.tmp 41) (.tmp 44) 26 26 (by rfl) 2 Try.underlying26 hsz (if n = c then some ⟨w.heap.size, 0, none⟩ else some ⟨w.heap.size, c, none⟩) (some ⟨w.heap.size, 0, none⟩) (n - c) (n - c) c n (by simp [go_sem]) (by simp [go_sem]) w.heap.size c (intC (reL q n c)) 2 HHd.out (intC (List.replicate (min c (n - c)) q)) (by rw [intC_len, List.length_replicate]) (fun _ => ⟨if_neg HNE.out, _, rfl, HSd.out⟩) (by rw [intC_len, intC_len, List.length_replicate, reL_len q hcn]; omega) (re_one _ _) w.heap.size w HLd.out (Nat.le_refl _) ?_; intro w4 hg4 hb4)
      rw [reL_splice q (by omega)] at hg4
      rw [intC_len, List.length_replicate]
      have RS := Lib.hid (show ReR w q n (.int .i64 ((c + min c (n - c) : Nat) : Int)) w4 from ⟨c + min c (n - c), rfl, by omega, by omega, hg4.out, hb4⟩)
      have hd : 0 < min c (n - c) := by omega
      have hd2 : min c (n - c) ≤ n - c := by omega
      clear hg4 hb4
      generalize min c (n - c) = d at *
      have hw : IntKind.i64.wrap ((c : Int) + (d : Int)) = (c : Int) + (d : Int) := IntWalk.i64_in _ (by omega)
      go_wp2_with fail
      go_roundw
      case rel =>
        have e : ((c + d : Nat) : Int) = (c : Int) + (d : Int) := by omega
        rw [← e]
        exact RS.out
      case measure => simp [intOf]; omega
    · obtain rfl : c = n := by omega
      go_wp2_with fail
      go_ret
      refine ⟨rfl, ?_, HL.out⟩
      have h := HH.out
      rw [reL_all] at h
      exact ⟨by rw [intC_len, List.length_replicate, Nat.mul_one], .inr ⟨w.heap.size, c, (intC (List.replicate c q)).toArray, rfl, Nat.le_refl _, h, Nat.le_refl _, by unfold maxLen; omega, by simp [intC], by simp [intC]⟩⟩
end Go.Proofs.Ytkagciekoeaijaa
