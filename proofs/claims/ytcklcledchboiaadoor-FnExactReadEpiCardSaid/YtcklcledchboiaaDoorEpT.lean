/-
  The text of planetary gears: the contracts of spec.l07Text, spec.EpiText, impl.EpiText; the walk of laws.FnExactEpiText.
-/
import Derived.Test.YtcklcledchboiaaDoorWEp
import Derived.Test.YtcklcledchboiaaDoorWText
import Derived.Deep.RegionHeld3
namespace Go.Proofs.YtcklcledchboiaaDoor
open Go.RowKit

def teV (s p c : Int) : ByteArray := decT s ++ ⟨#[32]⟩ ++ decT p ++ ⟨#[32]⟩ ++ decT c
def teB (s r p c : Int) : ByteArray := if okE s r p c then teV s p c else ⟨#[]⟩
theorem te_no {s r p c : Int} (h : okE s r p c = false) : teB s r p c = ⟨#[]⟩ := by simp [teB, h]
theorem te_yes {s r p c : Int} (h : okE s r p c = true) : teB s r p c = teV s p c := by simp [teB, h]
/-- The gears' numbers that a text loads. -/
def LdT (W : World) (k : Nat) (s p c : Int) (w' : World) : Prop :=
  w'.cell? ⟨k, 0, none⟩ = some (.int .i64 s) ∧ w'.cell? ⟨k, 2, none⟩ = some (.int .i64 p) ∧ w'.cell? ⟨k, 3, none⟩ = some (.int .i64 c) ∧ Below W.heap.size W w'
theorem LdT.of {W : World} {k : Nat} {s r p c : Int} (h : Box4 W k s r p c) {w' : World} (hb : Below W.heap.size W w') : LdT W k s p c w' := ⟨(h.keep hb).c0, (h.keep hb).c2, (h.keep hb).c3, hb⟩
theorem LdT.bel {W : World} {k : Nat} {s p c : Int} {w' : World} (h : LdT W k s p c w') : Below W.heap.size W w' := h.2.2.2
structure TeQ (a b c : ByteArray) : Prop where
  q1 : Op.stringOp .add a ⟨#[32]⟩ = pure (.string (a ++ ⟨#[32]⟩))
  q2 : Op.stringOp .add (a ++ ⟨#[32]⟩) b = pure (.string (a ++ ⟨#[32]⟩ ++ b))
  q3 : Op.stringOp .add (a ++ ⟨#[32]⟩ ++ b) ⟨#[32]⟩ = pure (.string (a ++ ⟨#[32]⟩ ++ b ++ ⟨#[32]⟩))
  q4 : Op.stringOp .add (a ++ ⟨#[32]⟩ ++ b ++ ⟨#[32]⟩) c = pure (.string (a ++ ⟨#[32]⟩ ++ b ++ ⟨#[32]⟩ ++ c))
theorem teQ {a b c : ByteArray} (h1 : a.size ≤ 21) (h2 : b.size ≤ 21) (h3 : c.size ≤ 21) : TeQ a b c := by
  have z : (⟨#[32]⟩ : ByteArray).size = 1 := rfl
  exact ⟨strAdd _ _ (by omega) (by omega), strAdd _ _ (by rw [cat_size]; omega) (by omega), strAdd _ _ (by rw [cat_size, cat_size]; omega) (by omega), strAdd _ _ (by rw [cat_size, cat_size, cat_size]; omega) (by omega)⟩
set_option maxRecDepth 100000 in
set_option maxHeartbeats 4000000 in
theorem l07Text_any (s r p c : Int) (w : World) (h : okE s r p c = true) :
    Calls Tryd.prog 85 #[.agg #[.int .i64 s, .int .i64 r, .int .i64 p, .int .i64 c]] w fun e w' => e = .returned (.string (teV s p c)) ∧ Below w.heap.size w w' := by
  obtain ⟨⟨a1, a2⟩, ⟨b1, b2⟩, ⟨c1, c2⟩, d1, d2⟩ := okE_bd h
  have z1 := decT_size (n := s) (by omega) (by omega)
  have z2 := decT_size (n := p) (by omega) (by omega)
  have z3 := decT_size (n := c) (by omega) (by omega)
  obtain ⟨q1, q2, q3, q4⟩ := teQ z1 z2 z3
  have HV := Lib.hid (show teV s p c = decT s ++ ⟨#[32]⟩ ++ decT p ++ ⟨#[32]⟩ ++ decT c from rfl)
  clear h z1 z2 z3 b1 b2
  have B0 := Lib.hid (Box4.new w s r p c 25)
  have L0 := Lib.hid (bA (bR w) (.cells #[.int .i64 s, .int .i64 r, .int .i64 p, .int .i64 c] 25))
  go_enter Tryd.func85, Tryd.ntmps85
  go_upto_region 1 with fail
  generalize w.alloc (.cells #[.int .i64 s, .int .i64 r, .int .i64 p, .int .i64 c] 25) = W0 at *
  generalize hk : w.heap.size = k at *
  have HK := Lib.hid (fun (w' : World) (hb : Below W0.heap.size W0 w') => LdT.of B0.out hb)
  go_region_held3 (fun w' => w'.cell? ⟨k, 0, none⟩ = some (.int .i64 s) ∧ w'.cell? ⟨k, 2, none⟩ = some (.int .i64 p) ∧ w'.cell? ⟨k, 3, none⟩ = some (.int .i64 c) ∧ Below W0.heap.size W0 w') (first | exact HK.out _ (bR _).drew | exact HK.out _ (bT (LdT.bel (k := k) (s := s) (p := p) (c := c) (by assumption)) hb))
    ((go_at_call 105; refine (l01DecT _ _ (by omega) (by omega)).mono ?_; rintro e w' ⟨rfl, hb⟩; have hT := Lib.hid (show Below W0.heap.size W0 w' from bT (LdT.bel (k := k) (s := s) (p := p) (c := c) (by assumption)) hb)))
  all_goals go_wp2_with fail
  all_goals go_ret
  all_goals exact ⟨ret_txt HV.out.symm, bT (by rw [hk]; exact L0.out) hT.out⟩
set_option maxRecDepth 100000 in
set_option maxHeartbeats 4000000 in
theorem EpiTextI_any (s r p c : Int) (w : World) (hp : Pow10 w) (hS : Sines w) :
    Calls Tryd.prog 48 #[.agg #[.int .i64 s, .int .i64 r, .int .i64 p, .int .i64 c]] w fun e w' => e = .returned (.string (teB s r p c)) ∧ Below w.heap.size w w' := by
  have B0 := Lib.hid (Box4.new w s r p c 25)
  have L0 := Lib.hid (bA (bR w) (.cells #[.int .i64 s, .int .i64 r, .int .i64 p, .int .i64 c] 25))
  have HS := Lib.hid (hS.keep L0.out)
  have HP := Lib.hid (Pow10.keep L0.out hp)
  have VE := Lib.hid (fun W h => ValidEpiI_any s r p c W h)
  clear hS hp
  cases h : okE s r p c
  · rw [te_no h]
    rw [h] at VE
    clear h
    go_enter Tryd.func48, Tryd.ntmps48
    go_wp2_with fail
    refine (VE.out _ HS.out).mono ?_
    rintro e w1 ⟨rfl, hb⟩
    have L1 := Lib.hid (bT L0.out hb)
    clear hb
    go_wp2_with fail
    go_ret
    exact ⟨rfl, L1.out⟩
  · obtain ⟨⟨a1, a2⟩, ⟨b1, b2⟩, ⟨c1, c2⟩, d1, d2⟩ := okE_bd h
    have z1 := decT_size (n := s) (by omega) (by omega)
    have z2 := decT_size (n := p) (by omega) (by omega)
    have z3 := decT_size (n := c) (by omega) (by omega)
    obtain ⟨q1, q2, q3, q4⟩ := teQ z1 z2 z3
    have HV := Lib.hid (show teB s r p c = decT s ++ ⟨#[32]⟩ ++ decT p ++ ⟨#[32]⟩ ++ decT c from te_yes h)
    rw [h] at VE
    clear h z1 z2 z3 b1 b2
    go_enter Tryd.func48, Tryd.ntmps48
    go_wp2_with fail
    generalize w.alloc (.cells #[.int .i64 s, .int .i64 r, .int .i64 p, .int .i64 c] 25) = W0 at *
    generalize hk : w.heap.size = k at *
    refine (VE.out _ HS.out).mono ?_
    rintro e w1 ⟨rfl, hb⟩
    have B1 := Lib.hid (B0.out.keep hb)
    have HP1 := Lib.hid (Pow10.keep hb HP.out)
    have L1 := Lib.hid (show Below w.heap.size w w1 from bT (by rw [hk]; exact L0.out) hb)
    clear hb
    have HK := Lib.hid (fun (w' : World) (hb : Below w1.heap.size w1 w') => LdT.of B1.out hb)
    have HQ := Lib.hid (fun (w' : World) (hb : Below w1.heap.size w1 w') => Pow10.keep hb HP1.out)
    go_upto_region 3 with fail
    go_region_held3 (fun w' => w'.cell? ⟨k, 0, none⟩ = some (.int .i64 s) ∧ w'.cell? ⟨k, 2, none⟩ = some (.int .i64 p) ∧ w'.cell? ⟨k, 3, none⟩ = some (.int .i64 c) ∧ Below w1.heap.size w1 w') (first | exact HK.out _ (bR _).drew | exact HK.out _ (bT (LdT.bel (k := k) (s := s) (p := p) (c := c) (by assumption)) hb))
      ((go_at_call 86; refine (DecimalT _ _ (HQ.out _ (LdT.bel (k := k) (s := s) (p := p) (c := c) (by assumption))) (by omega) (by omega)).mono ?_; rintro e w' ⟨rfl, hb⟩; have hT := Lib.hid (show Below w1.heap.size w1 w' from bT (LdT.bel (k := k) (s := s) (p := p) (c := c) (by assumption)) hb)))
    all_goals go_wp2_with fail
    all_goals go_ret
    all_goals exact ⟨ret_txt HV.out.symm, bT L1.out hT.out⟩
set_option maxHeartbeats 1000000 in
theorem EpiTextS_any (s r p c : Int) (w : World) :
    Calls Tryd.prog 47 #[.agg #[.int .i64 s, .int .i64 r, .int .i64 p, .int .i64 c]] w fun e w' => e = .returned (.string (teB s r p c)) ∧ Below w.heap.size w w' := by
  have B0 := Lib.hid (Box4.new w s r p c 25)
  have L0 := Lib.hid (bA (bR w) (.cells #[.int .i64 s, .int .i64 r, .int .i64 p, .int .i64 c] 25))
  have VE := Lib.hid (fun W => l07Ok_any s r p c W)
  cases h : okE s r p c
  · rw [te_no h]
    rw [h] at VE
    clear h
    go_enter Tryd.func47, Tryd.ntmps47
    go_wp2_with fail
    refine (VE.out _).mono ?_
    rintro e w1 ⟨rfl, hb⟩
    have L1 := Lib.hid (bT L0.out hb)
    clear hb
    go_wp2_with fail
    go_ret
    exact ⟨rfl, L1.out⟩
  · rw [te_yes h]
    have TX := Lib.hid (fun W => l07Text_any s r p c W h)
    rw [h] at VE
    clear h
    generalize teV s p c = x at *
    go_enter Tryd.func47, Tryd.ntmps47
    go_wp2_with fail
    refine (VE.out _).mono ?_
    rintro e w1 ⟨rfl, hb⟩
    have L1 := Lib.hid (bT L0.out hb)
    obtain ⟨c0, c1, c2, c3, _⟩ := B0.out.keep hb
    clear hb
    go_wp2_with fail
    refine (TX.out _).mono ?_
    rintro e w2 ⟨rfl, hb⟩
    go_wp2_with fail
    go_ret
    exact ⟨rfl, bT L1.out hb⟩
set_option maxHeartbeats 1000000 in
theorem FnExactEpiText_walk (s r p c : Int) (w : World) (hp : Pow10 w) (hS : Sines w) :
    Calls Tryd.prog 14 #[.agg #[.int .i64 s, .int .i64 r, .int .i64 p, .int .i64 c]] w fun e w' => e = .returned (.bool true) ∧ Below w.heap.size w w' := by
  have B0 := Lib.hid (Box4.new w s r p c 37)
  have L0 := Lib.hid (bA (bR w) (.cells #[.int .i64 s, .int .i64 r, .int .i64 p, .int .i64 c] 37))
  have HS := Lib.hid hS
  have HP := Lib.hid hp
  clear hS hp
  generalize hx : teB s r p c = x
  have HX := Lib.hid hx
  clear hx
  go_enter Tryd.func14, Tryd.ntmps14
  go_wp2_with fail
  refine (toEpi_any _ _ _ _ _).mono ?_
  rintro e w1 ⟨rfl, hb⟩
  have L1 := Lib.hid (bT L0.out hb)
  have B1 := Lib.hid (B0.out.keep hb)
  clear hb
  go_wp2_with fail
  refine (EpiTextS_any _ _ _ _ _).mono ?_
  rw [HX.out]
  rintro e w2 ⟨rfl, hb⟩
  have L2 := Lib.hid (bT L1.out hb)
  obtain ⟨c0, c1, c2, c3, c4⟩ := B1.out.keep hb
  clear hb
  go_wp2_with fail
  refine (toEpi_any _ _ _ _ _).mono ?_
  rintro e w3 ⟨rfl, hb⟩
  have L3 := Lib.hid (bT L2.out hb)
  clear hb c0 c1 c2 c3 c4
  go_wp2_with fail
  refine (EpiTextI_any _ _ _ _ _ (Pow10.keep L3.out HP.out) (HS.out.keep L3.out)).mono ?_
  rw [HX.out]
  rintro e w4 ⟨rfl, hb⟩
  have L4 := Lib.hid (bT L3.out hb)
  clear hb
  go_wp2_with fail
  go_ret
  exact ⟨rfl, L4.out⟩
end Go.Proofs.YtcklcledchboiaaDoor
