/-
  SitesOutside: both sides.
-/
import Derived.Test.YtgkfelochpllgaaPlJ
import Derived.Test.YtgkfelochpllgaaTo64
import Derived.Laws.OwnMore
import Derived.Deep.QuietTactic
import Derived.BigQuiet
namespace Go.Proofs.Ytgkfelochpllgaa
open Go.RowKit

/-- A list of numbers that a call makes for itself. -/
def SoR (w0 w : World) (v : Value) (ts : List Int) : Prop := w.ownsRow w0.heap.size 2 1 v ts.length (intC ts) ∧ Below w0.heap.size w0 w
theorem SoR.keep {w0 w w' : World} {v : Value} {ts : List Int} (h : SoR w0 w v ts) (hb : Below w.heap.size w w') : SoR w0 w' v ts := ⟨own_keep h.1 hb, bT h.2 hb⟩
theorem SoR.nil {w w' : World} (hb : Below w.heap.size w w') : SoR w w' (.slice none 0 0) [] := ⟨World.ownsRow_nil _ _ _ _, hb⟩
theorem bel_grownS {a b c : World} {row : Option Nat} (h : Below a.heap.size a b) (g : b.grownBy c row) (hr : ∀ r, row = some r → a.heap.size ≤ r) : Below a.heap.size a c :=
  ⟨g.os.trans h.os, g.tape.trans h.tape, g.output.trans h.output, Nat.le_trans h.size g.size, fun k hk => (g.block k (Nat.lt_of_lt_of_le hk h.size) (fun e => by have := hr k e.symm; omega)).trans (h.block k hk)⟩
theorem app_i64 {ops : Array Oper} {rest : List Oper} {o : Oper} {a : Act} {Q : Exit → Act → World → Prop} {w0 w : World} (hgd : o.guard = none) (s x : Operand)
    (ho : o.op = .call { callee := .builtin .append, args := #[s, x], argTypes := #[56, 56] }) (v : Value) (xs : List Int) (g : Int) (hs : a.eval s = v) (hr : SoR w0 w v xs)
    (hx : a.eval x = .slice (some ⟨w.heap.size, 0, none⟩) 1 1) (hl : xs.length ≤ 100)
    (h : ∀ v' w', SoR w0 w' v' (xs ++ [g]) → wpList Try.prog ops Q rest (a.put o.dst v') w') : wpList Try.prog ops Q (o :: rest) a (w.alloc (.cells #[.int .i64 g] 2)) := by
  obtain ⟨i0, hi, hz0, hz1, hz2⟩ := info_parts infoI64
  refine wpList_append_own _ hgd s x 56 ho w0.heap.size 2 i0 (.int .i64 0) 1 8 Try.underlying56 hi hz0 hz1 hz2 rfl (by decide) v xs.length (intC xs) hs ((hr.keep (bA (bR w) _)).1) ⟨w.heap.size, 0, none⟩ 1 1 [.int .i64 g] hx rfl (row_src _ _ _) (by intro y hy; simp at hy; rw [hy]; rfl) (by unfold maxLen; omega) (by omega) (by have := hr.2.size; simp; omega) ?_
  intro v' w' hown hg _
  refine h v' w' ⟨?_, bel_grownS (bA hr.2 _) hg (fun r e => (own_blk hr.1 r e).1)⟩
  have e : intC (xs ++ [g]) = intC xs ++ [.int .i64 g] := by simp [intC]
  rw [e, List.length_append]; exact hown
theorem l00MinQ_any (x y : Int) (w : World) :
    Calls Try.prog 60 #[.int .i64 x, .int .i64 y] w fun e w' => e = .returned (.int .i64 (min x y)) ∧ w = w' := by
  by_cases h : x < y
  · go_enter Try.func60, Try.ntmps60
    go_wp2
    go_ret
    exact ⟨ret_int (by omega), rfl⟩
  · go_enter Try.func60, Try.ntmps60
    go_wp2
    go_ret
    exact ⟨ret_int (by omega), rfl⟩
theorem rowQ0 (w : World) (t : TypeId) : (w.alloc (.cells #[] t)).ownsRow w.heap.size t 1 (.slice (some ⟨w.heap.size, 0, none⟩) 0 0) 0 [] :=
  ⟨rfl, .inr ⟨w.heap.size, 0, #[], rfl, Nat.le_refl _, (MapKept.heap_alloc w _).1, Nat.le_refl _, Nat.zero_le _, rfl, rfl⟩⟩
theorem SoR.low {w w1 w' : World} {v : Value} {ts : List Int} (hb : Below w.heap.size w w1) (h : SoR w1 w' v ts) : SoR w w' v ts := ⟨own_lower h.1 hb.size, bT hb h.2⟩
/-- The distance of a site from the nearest border, and whether it lies outside. -/
def soV (W H : Int) (s : Sit) : Int := min s.x (min (W - s.x) (min s.y (H - s.y)))
def soB (W H M : Int) (s : Sit) : Bool := decide (soV W H s < s.st + M)
def soL (W H M : Int) (ss : List Sit) : Nat → List Int
  | 0 => []
  | n + 1 => soL W H M ss n ++ (if soB W H M (siAt ss n) then [(n : Int)] else [])
theorem soL_len (W H M : Int) (ss : List Sit) : ∀ n, (soL W H M ss n).length ≤ n
  | 0 => Nat.le_refl _
  | n + 1 => by
    have := soL_len W H M ss n
    rw [soL, List.length_append]
    split <;> simp <;> omega
/-- What SitesOutside returns. -/
def soF (W H M G : Int) (ss : List Sit) : List Int × Int := if okPl W H M G ss then (soL W H M ss ss.length, 0) else ([], 1)
def SoPost (w : World) (x : List Int × Int) (e : Ending) (w' : World) : Prop := ∃ v, e = .returned (.tuple #[v, .int .i64 x.2]) ∧ SoR w w' v x.1
def SoRel (w : World) (W H M : Int) (ss : List Sit) (v i : Value) (wr : World) : Prop := ∃ k : Nat, k ≤ ss.length ∧ i = .int .i64 k ∧ SoR w wr v (soL W H M ss k)
theorem soB_yes {W H M : Int} {ss : List Sit} {k : Nat} (h : min (siAt ss k).x (min (W - (siAt ss k).x) (min (siAt ss k).y (H - (siAt ss k).y))) < (siAt ss k).st + M) : soL W H M ss (k + 1) = soL W H M ss k ++ [(k : Int)] := by
  rw [soL, show soB W H M (siAt ss k) = true from decide_eq_true h]; rfl
theorem soB_no {W H M : Int} {ss : List Sit} {k : Nat} (h : ¬ min (siAt ss k).x (min (W - (siAt ss k).x) (min (siAt ss k).y (H - (siAt ss k).y))) < (siAt ss k).st + M) : soL W H M ss (k + 1) = soL W H M ss k := by
  rw [soL, show soB W H M (siAt ss k) = false from decide_eq_false h]; simp
set_option maxRecDepth 100000 in
set_option maxHeartbeats 8000000 in
theorem SitesOutsideS_any (p : Pl4) (ss : List Sit) (v : Value) (w : World) (ha : SlSi w v ss) :
    Calls Try.prog 26 #[plV p v] w (SoPost w (soF p.W p.H p.M p.G ss)) := by
  obtain ⟨W, H, M, G⟩ := p
  obtain ⟨h0, ao, cap, rfl, hcp, hc⟩ := ha
  have HV := Lib.hid (fun W' (h : SlSi W' (.slice ao ss.length cap) ss) => l09Plate_any ⟨W, H, M, G⟩ ss (.slice ao ss.length cap) W' h)
  unfold plV at HV
  simp only at HV
  unfold plV
  simp only
  have X := Lib.hid (BoxL.new w [.int .i64 W, .int .i64 H, .int .i64 M, .int .i64 G, .slice ao ss.length cap] 49)
  have L0 := Lib.hid (bA (bR w) (.cells #[.int .i64 W, .int .i64 H, .int .i64 M, .int .i64 G, .slice ao ss.length cap] 49))
  have HA := Lib.hid (SlSi.keep (show SlSi w (.slice ao ss.length cap) ss from ⟨h0, ao, cap, rfl, hcp, hc⟩) L0.out)
  clear hc hcp
  cases hok : okPl W H M G ss
  · rw [show soF W H M G ss = ([], 1) by simp [soF, hok]]
    rw [hok] at HV
    go_enter Try.func26, Try.ntmps26
    go_wp2_with fail
    refine (HV.out _ HA.out).mono ?_
    rintro e w1 ⟨rfl, hb⟩
    go_wp2_with fail
    go_ret2
    exact ⟨_, rfl, SoR.nil (bT L0.out hb)⟩
  rw [show soF W H M G ss = (soL W H M ss ss.length, 0) by simp [soF, hok]]
  rw [hok] at HV
  have h20 := (okPl_parts hok).2.2.2.2.1
  obtain ⟨⟨hW1, hW2⟩, ⟨hH1, hH2⟩, ⟨hM1, hM2⟩, _, _, _⟩ := okPl_parts hok
  go_enter Try.func26, Try.ntmps26
  go_wp2_with fail
  refine (HV.out _ HA.out).mono ?_
  rintro e w1 ⟨rfl, hb⟩
  have L1 := Lib.hid (bT L0.out hb)
  have H1 := Lib.hid (HA.out.keep hb)
  have X1 := Lib.hid (X.out.keep hb)
  clear hb X L0 HA HV
  have HC := Lib.hid (show 1 ≤ ss.length → ∃ g, ao = some ⟨g, 0, none⟩ ∧ g < w1.heap.size ∧ SitesAt w1 g ss from by obtain ⟨_, a', c', e, _, h⟩ := H1.out; cases e; exact h)
  have RS := Lib.hid (show SoRel w1 W H M ss (.slice (some ⟨w1.heap.size, 0, none⟩) 0 0) (.int .i64 0) (w1.alloc (.cells #[] 2)) from ⟨0, by omega, rfl, rowQ0 _ _, bA (bR _) _⟩)
  have HB := Lib.hid (fun i (hi : i < ss.length) => siB_bd (okPl_site hok hi))
  clear hok
  go_wp2_with fail
  go_loopw [4, 5] (fun v i wr => SoRel w1 W H M ss v i wr) (fun _ i _ => ss.length - (intOf i).toNat)
  case atStart => exact RS.out
  case round =>
    obtain ⟨k, hk, rfl, hS⟩ := hrel
    have HS := Lib.hid hS
    obtain ⟨x0, x1, x2, x3, x4, x5⟩ := (X1.out.keep hS.2).c5
    by_cases hlt : k < ss.length
    · obtain ⟨g, rfl, hg, hc⟩ := HC.out (by omega)
      obtain ⟨c0, c1, c2, c3, c4, hsz⟩ := (hc.keep hg hS.2) k hlt
      obtain ⟨_, ⟨hx1, hx2⟩, ⟨hy1, hy2⟩, ⟨hs1, hs2⟩, _, _⟩ := HB.out k hlt
      have hlen := soL_len W H M ss k
      have HY := Lib.hid (soB_yes (W := W) (H := H) (M := M) (ss := ss) (k := k))
      have HN := Lib.hid (soB_no (W := W) (H := H) (M := M) (ss := ss) (k := k))
      clear hS hc hg HC RS HB
      generalize (siAt ss k).nm = m0 at *
      generalize (siAt ss k).x = m1 at *
      generalize (siAt ss k).y = m2 at *
      generalize (siAt ss k).wh = m3 at *
      generalize (siAt ss k).st = m4 at *
      by_cases ho : min m1 (min (W - m1) (min m2 (H - m2))) < m4 + M
      · have HY' := Lib.hid (HY.out ho)
        clear HY HN
        go_wp2_with fail
        go_quiet ((go_at_call 60; exact quiet_eq (l00MinQ_any _ _ _)))
        have S2 := Lib.hid (HS.out.keep (bD (bA (bR wr) (.cells #[.string m0, .int .i64 m1, .int .i64 m2, .int .i64 m3, .int .i64 m4] 90)) nq))
        go_wp2_with (at_builtin; refine app_i64 rfl _ _ rfl _ _ (k : Int) rfl S2.out (by show Value.slice (some ⟨wr.heap.size + 1, 0, none⟩) 1 1 = _; simp [World.drewN]) (by omega) ?_)
        intro v' w' hR
        have R := Lib.hid hR
        clear hR S2
        go_wp2_with fail
        go_roundw
        case rel => exact ⟨k + 1, by omega, by go_num, by rw [HY'.out]; exact R.out⟩
        case measure => simp [intOf]; omega
      · have HN' := Lib.hid (HN.out ho)
        clear HY HN
        go_wp2_with fail
        go_quiet ((go_at_call 60; exact quiet_eq (l00MinQ_any _ _ _)))
        have S2 := Lib.hid (HS.out.keep (bD (bA (bR wr) (.cells #[.string m0, .int .i64 m1, .int .i64 m2, .int .i64 m3, .int .i64 m4] 90)) nq))
        go_wp2_with fail
        go_roundw
        case rel => exact ⟨k + 1, by omega, by go_num, by rw [HN'.out]; exact S2.out⟩
        case measure => simp [intOf]; omega
    · obtain rfl : k = ss.length := by omega
      have HE := Lib.hid (HS.out.low L1.out)
      go_wp2_with fail
      go_ret2
      exact ⟨_, rfl, HE.out⟩
end Go.Proofs.Ytgkfelochpllgaa
