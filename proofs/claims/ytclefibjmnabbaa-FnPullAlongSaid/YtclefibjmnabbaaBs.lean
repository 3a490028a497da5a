/-
  Halving: the plain words (no program).
-/
import Derived.Test.YtclefibjmnabbaaEs
namespace Go.Proofs.Ytclefibjmnabbaa

/-- What stands between two halvings. -/
def BsP (p : Nat → Bool) (M lo hi : Nat) : Prop := lo ≤ hi ∧ hi < M ∧ (∀ j, j < lo → p j = false) ∧ p hi = true
theorem BsP.up {p : Nat → Bool} {M lo hi mid : Nat} (hm : ∀ x y, x ≤ y → p x = true → p y = true) (H : BsP p M lo hi) (h : p mid = false) (h2 : mid < hi) : BsP p M (mid + 1) hi := by
  refine ⟨by omega, H.2.1, fun j hj => ?_, H.2.2.2⟩
  cases e : p j
  · rfl
  · rw [hm j mid (by omega) e] at h; cases h
theorem BsP.down {p : Nat → Bool} {M lo hi mid : Nat} (H : BsP p M lo hi) (h : p mid = true) (h1 : lo ≤ mid) (h2 : mid < hi) : BsP p M lo mid := ⟨h1, by have := H.2.1; omega, H.2.2.1, h⟩
theorem BsP.done {p : Nat → Bool} {M lo : Nat} (hm : ∀ x y, x ≤ y → p x = true → p y = true) (H : BsP p M lo lo) : lstU p M = lo :=
  lstU_only (by have := H.2.1; omega) H.2.2.1 (fun j h _ => hm lo j h H.2.2.2)
theorem lstU_nil {p : Nat → Bool} {M : Nat} (hm : ∀ x y, x ≤ y → p x = true → p y = true) (h : p M = false) : lstU p (M + 1) = M + 1 := by
  refine lstU_only (Nat.le_refl _) (fun j hj => ?_) (fun j h1 h2 => by omega)
  cases e : p j
  · rfl
  · rw [hm j M (by omega) e] at h; cases h
/-- The least number up to n, and the code. -/
def luP (p : Nat → Bool) (n : Nat) : Int × Int := if lstU p (n + 1) = n + 1 then (0, 3) else ((lstU p (n + 1) : Int), 0)
theorem luP_3 {p : Nat → Bool} {n : Nat} (h : lstU p (n + 1) = n + 1) : luP p n = (0, 3) := by simp [luP, h]
theorem luP_0 {p : Nat → Bool} {n : Nat} (h : ¬ lstU p (n + 1) = n + 1) : luP p n = ((lstU p (n + 1) : Int), 0) := by simp [luP, h]
end Go.Proofs.Ytclefibjmnabbaa
