/-
  Angles and profiles: the plain words, and the document's side of validity.
-/
import Derived.Test.YtclefibjmnabbaaBl
import Derived.Test.YtclefibjmnabbaaTrI
namespace Go.Proofs.Ytclefibjmnabbaa
open Go.RowKit

def IntB (n : Int) (w : World) (e : Ending) (w' : World) : Prop := e = .returned (.int .i64 n) ∧ Below w.heap.size w w'
def TwoIn (a b : Int) (w : World) (e : Ending) (w' : World) : Prop := e = .returned (.tuple #[.int .i64 a, .int .i64 b]) ∧ Below w.heap.size w w'
def ThrIn (a b c : Int) (w : World) (e : Ending) (w' : World) : Prop := e = .returned (.tuple #[.int .i64 a, .int .i64 b, .int .i64 c]) ∧ Below w.heap.size w w'
def FouIn (a b c d : Int) (w : World) (e : Ending) (w' : World) : Prop := e = .returned (.tuple #[.int .i64 a, .int .i64 b, .int .i64 c, .int .i64 d]) ∧ Below w.heap.size w w'
/-- A valid angle. -/
def okAn (s c h : Int) : Bool := inB s 1 1000 && inB c 1 1000 && inB h 1 1000 && (s * s + c * c == h * h)
theorem okAn_n1 {s c h : Int} (e : inB s 1 1000 = false) : okAn s c h = false := by simp [okAn, e]
theorem okAn_n2 {s c h : Int} (e : inB c 1 1000 = false) : okAn s c h = false := by simp [okAn, e]
theorem okAn_n3 {s c h : Int} (e : inB h 1 1000 = false) : okAn s c h = false := by simp [okAn, e]
theorem okAn_go {s c h : Int} (e1 : inB s 1 1000 = true) (e2 : inB c 1 1000 = true) (e3 : inB h 1 1000 = true) : okAn s c h = (s * s + c * c == h * h) := by simp [okAn, e1, e2, e3]
theorem okAn_bd {s c h : Int} (e : okAn s c h = true) : 1 ≤ s ∧ s ≤ 1000 ∧ 1 ≤ c ∧ c ≤ 1000 ∧ 1 ≤ h ∧ h ≤ 1000 ∧ s * s + c * c = h * h := by
  simp only [okAn, Bool.and_eq_true, inB_true, beq_iff_eq] at e; omega
theorem sqq {x m : Int} (h0 : 0 ≤ x) (h1 : x ≤ m) : 0 ≤ x * x ∧ x * x ≤ m * m := ⟨Int.mul_nonneg h0 h0, Int.mul_le_mul h1 h1 h0 (by omega)⟩
/-- A valid profile. -/
def okPf (t m k s c h : Int) : Bool := inB t 6 240 && inB m 1 500 && inB k 1 20 && okAn s c h
theorem okPf_n1 {t m k s c h : Int} (e : inB t 6 240 = false) : okPf t m k s c h = false := by simp [okPf, e]
theorem okPf_n2 {t m k s c h : Int} (e : inB m 1 500 = false) : okPf t m k s c h = false := by simp [okPf, e]
theorem okPf_n3 {t m k s c h : Int} (e : inB k 1 20 = false) : okPf t m k s c h = false := by simp [okPf, e]
theorem okPf_go {t m k s c h : Int} (e1 : inB t 6 240 = true) (e2 : inB m 1 500 = true) (e3 : inB k 1 20 = true) : okPf t m k s c h = okAn s c h := by simp [okPf, e1, e2, e3]
theorem okPf_bd {t m k s c h : Int} (e : okPf t m k s c h = true) : (6 ≤ t ∧ t ≤ 240) ∧ (1 ≤ m ∧ m ≤ 500) ∧ (1 ≤ k ∧ k ≤ 20) ∧ okAn s c h = true := by
  simp only [okPf, Bool.and_eq_true, inB_true] at e; exact ⟨e.1.1.1, e.1.1.2, e.1.2, e.2⟩
/-- What a call keeps of a profile in box b. -/
def PfH (w : World) (b : Nat) (t m k s c h : Int) (w' : World) : Prop :=
  w'.cell? ⟨b, 0, none⟩ = some (.int .i64 t) ∧ w'.cell? ⟨b, 1, none⟩ = some (.int .i64 m) ∧ w'.cell? ⟨b, 2, none⟩ = some (.int .i64 k) ∧ w'.cell? ⟨b, 3, none⟩ = some (.int .i64 s) ∧ w'.cell? ⟨b, 4, none⟩ = some (.int .i64 c) ∧ w'.cell? ⟨b, 5, none⟩ = some (.int .i64 h) ∧ b < w'.heap.size ∧ Below w.heap.size w w'
theorem PfH.keep {w : World} {b : Nat} {t m k s c h : Int} {w' w2 : World} (hb : Below w'.heap.size w' w2) (H : PfH w b t m k s c h w') : PfH w b t m k s c h w2 := by
  obtain ⟨c0, c1, c2, c3, c4, c5, e0, e1⟩ := H
  exact ⟨(hb.cell (p := ⟨b, 0, none⟩) e0).trans c0, (hb.cell (p := ⟨b, 1, none⟩) e0).trans c1, (hb.cell (p := ⟨b, 2, none⟩) e0).trans c2, (hb.cell (p := ⟨b, 3, none⟩) e0).trans c3, (hb.cell (p := ⟨b, 4, none⟩) e0).trans c4, (hb.cell (p := ⟨b, 5, none⟩) e0).trans c5, Nat.lt_of_lt_of_le e0 hb.size, bT e1 hb⟩
theorem PfH.drew {w : World} {b : Nat} {t m k s c h : Int} {w' : World} (H : PfH w b t m k s c h w') : PfH w b t m k s c h w'.drew := H.keep (bR _).drew
theorem PfH.new (w : World) (t m k s c h : Int) (T : TypeId) : PfH w w.heap.size t m k s c h (w.alloc (.cells #[.int .i64 t, .int .i64 m, .int .i64 k, .int .i64 s, .int .i64 c, .int .i64 h] T)) :=
  ⟨by simp [go_sem], by simp [go_sem], by simp [go_sem], by simp [go_sem], by simp [go_sem], by simp [go_sem], by simp, bA (bR _) _⟩
theorem PfH.bel {w : World} {b : Nat} {t m k s c h : Int} {w' : World} (H : PfH w b t m k s c h w') : Below w.heap.size w w' := H.2.2.2.2.2.2.2
theorem wrI (x : Int) (h : -9223372036854775808 ≤ x ∧ x ≤ 9223372036854775807) : IntKind.i64.wrap x = x := IntWalk.i64_in _ h
/-- The pitch, outside and root diameters. -/
def pit (t m : Int) : Int := 10 * t * m
def out_ (t m k : Int) : Int := pit t m + 2 * k * m
def roo (t m k : Int) : Int := pit t m - 2 * (k + 2) * m
theorem mul_bd0 {x y a b : Int} (h0 : 0 ≤ x) (h1 : x ≤ a) (h2 : 0 ≤ y) (h3 : y ≤ b) : 0 ≤ x * y ∧ x * y ≤ a * b := ⟨Int.mul_nonneg h0 h2, Int.mul_le_mul h1 h3 h2 (by omega)⟩
theorem pit_bd {t m : Int} (ht : 6 ≤ t ∧ t ≤ 240) (hm : 1 ≤ m ∧ m ≤ 500) : 60 ≤ pit t m ∧ pit t m ≤ 1200000 := by
  have h1 := mul_bd0 (x := 10 * t) (y := m) (a := 2400) (b := 500) (by omega) (by omega) (by omega) (by omega)
  have h2 : 60 * 1 ≤ 10 * t * m := Int.mul_le_mul (by omega) hm.1 (by omega) (by omega)
  unfold pit; omega
theorem km_bd {m k : Int} (hm : 1 ≤ m ∧ m ≤ 500) (hk : 1 ≤ k ∧ k ≤ 20) : 2 ≤ 2 * k * m ∧ 2 * k * m ≤ 20000 := by
  have h1 := mul_bd0 (x := 2 * k) (y := m) (a := 40) (b := 500) (by omega) (by omega) (by omega) (by omega)
  have h2 : 2 * 1 ≤ 2 * k * m := Int.mul_le_mul (by omega) hm.1 (by omega) (by omega)
  omega
theorem km2_bd {m k : Int} (hm : 1 ≤ m ∧ m ≤ 500) (hk : 1 ≤ k ∧ k ≤ 20) : 0 ≤ 2 * (k + 2) * m ∧ 2 * (k + 2) * m ≤ 22000 := mul_bd0 (a := 44) (b := 500) (by omega) (by omega) (by omega) (by omega)
theorem out_bd {t m k : Int} (ht : 6 ≤ t ∧ t ≤ 240) (hm : 1 ≤ m ∧ m ≤ 500) (hk : 1 ≤ k ∧ k ≤ 20) : pit t m < out_ t m k ∧ out_ t m k ≤ 1220000 := by
  have h1 := pit_bd ht hm
  have h2 := km_bd hm hk
  unfold out_; omega
end Go.Proofs.Ytclefibjmnabbaa
