/-
  ClearanceBetween: both sides.
-/
import Derived.Test.YtmdfhmoipgaliaaPlK
namespace Go.Proofs.Ytmdfhmoipgaliaa
open Go.RowKit

def hasI (ss : List Sit) (a : Int) : Bool := inB a 0 ((ss.length : Int) - 1)
/-- What ClearanceBetween returns: the clearance and the code. -/
def cbF (W H M G : Int) (ss : List Sit) (a b : Int) : Int × Int :=
  if okPl W H M G ss = false then (0, 1) else if (hasI ss a && hasI ss b) = false ∨ a = b then (0, 2) else (clS (siAt ss a.toNat) (siAt ss b.toNat), 0)
theorem cb_1 {W H M G : Int} {ss : List Sit} {a b : Int} (h : okPl W H M G ss = false) : cbF W H M G ss a b = (0, 1) := by unfold cbF; rw [if_pos h]
theorem cb_2 {W H M G : Int} {ss : List Sit} {a b : Int} (h : okPl W H M G ss = true) (h2 : hasI ss a = false ∨ hasI ss b = false ∨ a = b) : cbF W H M G ss a b = (0, 2) := by
  unfold cbF; rw [if_neg (by simp [h]), if_pos (by rcases h2 with h2 | h2 | h2 <;> simp [h2])]
theorem cb_3 {W H M G : Int} {ss : List Sit} {k l : Nat} (h : okPl W H M G ss = true) (hk : k < ss.length) (hl : l < ss.length) (h2 : ¬ (k : Int) = (l : Int)) : cbF W H M G ss k l = (clS (siAt ss k) (siAt ss l), 0) := by
  unfold cbF; rw [if_neg (by simp [h]), if_neg (by simp only [hasI, inB]; simp; omega)]; rfl
theorem hasI_nat {ss : List Sit} {a : Int} (h : hasI ss a = true) : ∃ k : Nat, a = (k : Int) ∧ k < ss.length := by
  have := inB_true.1 h
  exact ⟨a.toNat, by omega, by omega⟩
def TwoB (r : Int × Int) (w : World) (e : Ending) (w' : World) : Prop := e = .returned (.tuple #[.int .i64 r.1, .int .i64 r.2]) ∧ Below w.heap.size w w'
set_option maxRecDepth 100000 in
set_option maxHeartbeats 8000000 in
theorem ClearanceBetweenS_any (p : Pl4) (ss : List Sit) (v : Value) (a b : Int) (w : World) (ha : SlSi w v ss) (ha1 : -9223372036854775808 ≤ a) (ha2 : a ≤ 9223372036854775807) (hb1 : -9223372036854775808 ≤ b) (hb2 : b ≤ 9223372036854775807) :
    Calls Try.prog 33 #[plV p v, .int .i64 a, .int .i64 b] w (TwoB (cbF p.W p.H p.M p.G ss a b) w) := by
  obtain ⟨W, H, M, G⟩ := p
  obtain ⟨h0, ao, cap, rfl, hcp, hc⟩ := ha
  unfold plV
  simp only
  have X := Lib.hid (BoxL.new w [.int .i64 W, .int .i64 H, .int .i64 M, .int .i64 G, .slice ao ss.length cap] 45)
  have L0 := Lib.hid (bA (bR w) (.cells #[.int .i64 W, .int .i64 H, .int .i64 M, .int .i64 G, .slice ao ss.length cap] 45))
  have HA := Lib.hid (SlSi.keep (show SlSi w (.slice ao ss.length cap) ss from ⟨h0, ao, cap, rfl, hcp, hc⟩) L0.out)
  have HV := Lib.hid (fun W' (h : SlSi W' (.slice ao ss.length cap) ss) => l09Plate_any ⟨W, H, M, G⟩ ss (.slice ao ss.length cap) W' h)
  unfold plV at HV
  simp only at HV
  clear hc hcp
  cases hok : okPl W H M G ss
  · rw [cb_1 hok]
    rw [hok] at HV
    go_enter Try.func33, Try.ntmps33
    go_wp2_with fail
    refine (HV.out _ HA.out).mono ?_
    rintro e w1 ⟨rfl, hb⟩
    go_wp2_with fail
    go_ret2
    exact ⟨rfl, bT L0.out hb⟩
  rw [hok] at HV
  have h20 := (okPl_parts hok).2.2.2.2.1
  cases q1 : inB a 0 ((ss.length : Int) - 1)
  · rw [cb_2 hok (.inl q1)]
    go_enter Try.func33, Try.ntmps33
    go_wp2_with fail
    refine (HV.out _ HA.out).mono ?_
    rintro e w1 ⟨rfl, hb⟩
    have L1 := Lib.hid (bT L0.out hb)
    obtain ⟨x0, x1, x2, x3, x4, x5⟩ := (X.out.keep hb).c5
    clear hb
    go_wp2_with (go_at_call 50; refine (l00In_any _ _ _ _).mono ?_; rintro e w1 ⟨rfl, rfl⟩)
    go_ret2
    exact ⟨rfl, L1.out⟩
  cases q2 : inB b 0 ((ss.length : Int) - 1)
  · rw [cb_2 hok (.inr (.inl q2))]
    go_enter Try.func33, Try.ntmps33
    go_wp2_with fail
    refine (HV.out _ HA.out).mono ?_
    rintro e w1 ⟨rfl, hb⟩
    have L1 := Lib.hid (bT L0.out hb)
    obtain ⟨x0, x1, x2, x3, x4, x5⟩ := (X.out.keep hb).c5
    clear hb
    go_wp2_with (go_at_call 50; refine (l00In_any _ _ _ _).mono ?_; rintro e w1 ⟨rfl, rfl⟩)
    go_ret2
    exact ⟨rfl, L1.out⟩
  by_cases q3 : a = b
  · rw [cb_2 hok (.inr (.inr q3))]
    subst q3
    go_enter Try.func33, Try.ntmps33
    go_wp2_with fail
    refine (HV.out _ HA.out).mono ?_
    rintro e w1 ⟨rfl, hb⟩
    have L1 := Lib.hid (bT L0.out hb)
    obtain ⟨x0, x1, x2, x3, x4, x5⟩ := (X.out.keep hb).c5
    clear hb
    go_wp2_with (go_at_call 50; refine (l00In_any _ _ _ _).mono ?_; rintro e w1 ⟨rfl, rfl⟩)
    go_ret2
    exact ⟨rfl, L1.out⟩
  have q3' : (a == b) = false := by simpa using q3
  obtain ⟨k, rfl, hk⟩ := hasI_nat q1
  obtain ⟨l, rfl, hl⟩ := hasI_nat q2
  rw [cb_3 hok hk hl q3]
  go_enter Try.func33, Try.ntmps33
  go_wp2_with fail
  refine (HV.out _ HA.out).mono ?_
  rintro e w1 ⟨rfl, hb⟩
  have L1 := Lib.hid (bT L0.out hb)
  have H1 := Lib.hid (HA.out.keep hb)
  obtain ⟨x0, x1, x2, x3, x4, x5⟩ := (X.out.keep hb).c5
  clear hb
  go_wp2_with (go_at_call 50; refine (l00In_any _ _ _ _).mono ?_; rintro e w1 ⟨rfl, rfl⟩)
  refine (l09Clear_any W H M G ss _ k l _ H1.out hok hk hl).mono ?_
  rintro e w2 ⟨rfl, hb⟩
  go_wp2_with fail
  go_ret2
  exact ⟨rfl, bT L1.out hb⟩
end Go.Proofs.Ytmdfhmoipgaliaa
