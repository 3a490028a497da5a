/-
  Rates between readings, jumps: both sides.
-/
import Derived.Test.YtmmmbchlkjljaaaRgS
import Derived.Test.YtmmmbchlkjljaaaRgL
import Derived.Test.YtmmmbchlkjljaaaRgQ
import Derived.Test.YtmmmbchlkjljaaaApd
import Derived.Test.YtmmmbchlkjljaaaScl
import Derived.Deep.AppendLies
import Derived.Deep.RegionLaw
namespace Go.Proofs.Ytmmmbchlkjljaaa
open Go.RowKit

def SlC (ts : List Int) (c : Int) (w : World) (e : Ending) (w' : World) : Prop := ∃ v, e = .returned (.tuple #[v, .int .i64 c]) ∧ w'.ownsRow w.heap.size 2 1 v ts.length (intC ts) ∧ Below w.heap.size w w'

theorem row_src2 (w : World) (T : TypeId) (x y : Int) : ∀ (j : Nat) (u : Value), [Value.int .i64 x, Value.int .i64 y][j]? = some u → (w.alloc (.cells #[.int .i64 x, .int .i64 y] T)).cell? ((⟨w.heap.size, 0, none⟩ : Addr).add j) = some u := by
  intro j u hj
  match j with
  | 0 => simp at hj; subst hj; simp [go_sem, Addr.add]
  | 1 => simp at hj; subst hj; simp [go_sem, Addr.add]
  | j + 2 => simp at hj
theorem appRd {ops : Array Oper} {rest : List Oper} {o : Oper} {a : Act} {Q : Exit → Act → World → Prop} {B : Nat} {w : World} (hgd : o.guard = none) (s x : Operand)
    (ho : o.op = .call { callee := .builtin .append, args := #[s, x], argTypes := #[27, 27] }) (v : Value) (xs : List (Int × Int)) (g h' : Int) (hs : a.eval s = v) (hr : w.ownsRow B 53 2 v xs.length (pairC xs)) (hB : B ≤ w.heap.size)
    (hx : a.eval x = .slice (some ⟨w.heap.size, 0, none⟩) 1 1) (hl : xs.length ≤ 1000000)
    (h : ∀ v' w', w'.ownsRow B 53 2 v' (xs ++ [(g, h')]).length (pairC (xs ++ [(g, h')])) → Apd v v' w w' → wpList Try.prog ops Q rest (a.put o.dst v') w') : wpList Try.prog ops Q (o :: rest) a (w.alloc (.cells #[.int .i64 g, .int .i64 h'] 53)) := by
  obtain ⟨i0, hi, hz0, hz1, hz2⟩ := info_parts infoReading
  refine wpList_append_own_at _ hgd s x 27 ho B 53 i0 (.agg #[.int .i64 0, .int .i64 0]) 2 16 Try.underlying27 hi hz0 hz1 hz2 rfl (by decide) v xs.length (pairC xs) hs (own_keep hr (bA (bR w) _)) ⟨w.heap.size, 0, none⟩ 1 1 [.int .i64 g, .int .i64 h'] hx rfl (row_src2 _ _ _ _) (by intro y hy; simp at hy; rcases hy with rfl | rfl <;> rfl) (by unfold maxLen; omega) (by omega) (by simp; omega) ?_
  intro v' w' hown hg _ hat
  have hsz := hg.size
  simp only [World.size_alloc] at hsz
  refine h v' w' ?_ ⟨hg.os, hg.tape, hg.output, by omega, fun k hk hn => (hg.block k (by simp; omega) (fun e => hn e.symm)).trans (Below.heap_alloc _ _ _ hk), ?_⟩
  · rw [pairC_snoc, List.length_append]; exact hown
  · rcases hat with e | e
    · exact .inl e
    · exact .inr ⟨_, e, by simp⟩

theorem row0p (w : World) (t : TypeId) : (w.alloc (.cells #[] t)).ownsRow w.heap.size t 2 (.slice (some ⟨w.heap.size, 0, none⟩) 0 0) 0 [] :=
  ⟨rfl, .inr ⟨w.heap.size, 0, #[], rfl, Nat.le_refl _, (MapKept.heap_alloc w _).1, Nat.le_refl _, Nat.zero_le _, rfl, rfl⟩⟩

theorem own_heapR {W W' : World} {B : Nat} {t : TypeId} {sz n : Nat} {v : Value} {xs : List Value} (h : W.ownsRow B t sz v n xs) (e : W'.heap = W.heap) : W'.ownsRow B t sz v n xs := by
  unfold World.ownsRow at h ⊢; rw [e]; exact h
theorem bel_grownR {a b c : World} {row : Option Nat} {B : Nat} (h : Below B a b) (g : b.grownBy c row) (hB : B ≤ b.heap.size) (hr : ∀ r, row = some r → B ≤ r) : Below B a c :=
  ⟨g.os.trans h.os, g.tape.trans h.tape, g.output.trans h.output, Nat.le_trans h.size g.size, fun k hk => (g.block k (Nat.lt_of_lt_of_le hk hB) (fun e => by have := hr k e.symm; omega)).trans (h.block k hk)⟩
theorem row_srcR (w : World) (T : TypeId) (n : Nat) (x y : Value) (h : w.heap.size = n) : ∀ (j : Nat) (u : Value), [x, y][j]? = some u → (w.alloc (.cells #[x, y] T)).cell? ((⟨n, 0, none⟩ : Addr).add j) = some u := by
  subst h
  intro j u hj
  match j with
  | 0 => simp at hj; subst hj; simp [go_sem, Addr.add]
  | 1 => simp at hj; subst hj; simp [go_sem, Addr.add]
  | j + 2 => simp at hj
theorem row_srcQ (w : World) (T : TypeId) (n : Nat) (x : Value) (h : w.heap.size = n) : ∀ (j : Nat) (u : Value), [x][j]? = some u → (w.alloc (.cells #[x] T)).cell? ((⟨n, 0, none⟩ : Addr).add j) = some u := by
  subst h
  intro j u hj
  match j with
  | 0 => simp at hj; subst hj; simp [go_sem, Addr.add]
  | j + 1 => simp at hj
set_option maxRecDepth 100000 in
set_option maxHeartbeats 4000000 in
theorem stepsOf_any (ps : List (Int × Int)) (v : Value) (w : World) (ha : SlQ w v ps) (h : okRd ps = true) :
    Calls Try.prog 56 #[v] w fun e w' => ∃ u, e = .returned u ∧ w'.ownsRow w.heap.size 53 2 u (stL ps).length (pairC (stL ps)) ∧ Below w.heap.size w w' := by
  obtain ⟨i0, hi, hz0, hz1, hz2⟩ := info_parts infoReading
  obtain ⟨ao, cap, rfl, _, ha⟩ := ha
  have HA := Lib.hid ha
  have hln := okRd_len h
  have HB := Lib.hid (fun i (hi : i < ps.length) => okRd_at h hi)
  have R0 := Lib.hid (World.ownsRow_nil w w.heap.size 53 2)
  clear ha h
  go_enter Try.func56, Try.ntmps56
  go_wp2_with fail
  go_loopw [3, 4] (fun vo vi wr => ∃ m j : Nat, m < j ∧ j ≤ m + 1 ∧ (j ≤ ps.length ∨ j = 1) ∧ vi = .int .i64 j ∧ wr.ownsRow w.heap.size 53 2 vo (stK ps m).length (pairC (stK ps m)) ∧ Below w.heap.size w wr) (fun _ vi _ => ps.length - (intOf vi).toNat)
  case atStart => exact ⟨0, 1, by omega, by omega, Or.inr rfl, rfl, R0.out, bR _⟩
  case round =>
    obtain ⟨m, j, hm1, hm2, hjl, rfl, hrow, hbel⟩ := hrel
    have RW := Lib.hid hrow
    have BL := Lib.hid hbel
    have HOB := Lib.hid (own_blk hrow)
    clear hrow R0
    by_cases hlt : j < ps.length
    · obtain ⟨g, o, rfl, hg, hc⟩ := HA.out (by omega)
      have HC := hc.keep hg hbel
      obtain ⟨c1, c2⟩ := HC j hlt
      obtain ⟨d1, d2⟩ := HC m (by omega)
      have e1 : (j : Int) - 1 = (m : Int) := by omega
      have hml : m < ps.length := by omega
      have w1 : IntKind.i64.wrap ((j : Int) - 1) = (m : Int) := by rw [e1]; exact IntWalk.i64_in _ (by omega)
      have w2 : IntKind.i64.wrap (m : Int) = (m : Int) := IntWalk.i64_in _ (by omega)
      have bj := HB.out j hlt
      have bm := HB.out m hml
      have HT := Lib.hid (stK_succ ps m)
      have hj : m + 1 = j := by omega
      rw [hj] at HT
      have hol : (stK ps m).length ≤ 60 := by rw [stK_len]; omega
      have hgw : g < wr.heap.size := Nat.lt_of_lt_of_le hg hbel.size
      have hwr := hbel.size
      have HJ := Lib.hid hj
      clear hc HC HA HB hbel hj hm1 hm2
      generalize (pat ps j).1 = x at *
      generalize (pat ps j).2 = y at *
      generalize (pat ps m).1 = x0 at *
      generalize (pat ps m).2 = y0 at *
      have w3 : IntKind.i64.wrap (x - x0) = x - x0 := IntWalk.i64_in _ (by omega)
      have w4 : IntKind.i64.wrap (y - y0) = y - y0 := IntWalk.i64_in _ (by omega)
      clear bj bm
      generalize stK ps m = out at *
      go_wp2_with fail
      go_region_law (refine step_append_lies _ (by rfl) _ _ 27 (by rfl) w.heap.size 53 i0 (.agg #[.int .i64 0, .int .i64 0]) 2 16 Try.underlying27 hi hz0 hz1 hz2 (by rfl) (by decide) _ out.length (pairC out) (by rfl) ((own_heapR (W' := wr.drew) RW.out rfl).alloc _) ⟨wr.heap.size, 0, none⟩ 1 1 [.int .i64 (x - x0), .int .i64 (y - y0)] (by rfl) (by rfl) (row_srcR _ _ _ _ _ (by rfl)) (by intro u hu; simp at hu; rcases hu with rfl | rfl <;> rfl) (by omega) (by unfold maxLen; omega) (by omega) (by simp; omega) _ (by rfl) ?_; intro g' cap' w5 hown5 hg5 hat5 hlt5; have N5 := Lib.hid hown5; have G5 := Lib.hid hg5; clear hown5 hg5 hat5 hlt5)
      all_goals go_wp2_with fail
      all_goals exact ⟨⟨m + 1, j + 1, by have := HJ.out; omega, by have := HJ.out; omega, Or.inl (by omega), by go_num, by rw [HJ.out, HT.out, pairC_snoc, List.length_append]; exact N5.out, bel_grownR (bA BL.out.drew _) G5.out (by simp; omega) (fun r e => (HOB.out r e).1)⟩, by simp [intOf]; omega⟩
    · have hm : m = ps.length - 1 := by omega
      have HE := Lib.hid (show stK ps m = stL ps from by rw [hm]; rfl)
      clear hm1 hm2 hjl hm HA HB
      go_wp2_with fail
      go_ret
      exact ⟨_, rfl, by rw [← HE.out]; exact RW.out, BL.out⟩
end Go.Proofs.Ytmmmbchlkjljaaa
