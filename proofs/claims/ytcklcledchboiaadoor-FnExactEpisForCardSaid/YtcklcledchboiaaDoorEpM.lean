/-
  Planetary gears: the plain words of their faults, of the speeds and of the texts.
-/
import Derived.Test.YtcklcledchboiaaDoorEqR
import Derived.Test.YtcklcledchboiaaDoorOpsS
namespace Go.Proofs.YtcklcledchboiaaDoor
open Go.RowKit

/-- The teeth, the count, the ring, the assembly and the space are wrong. -/
def ftE (s r p : Int) : Bool := !(inB s 6 240 && inB r 6 240 && inB p 6 240)
def fcE (c : Int) : Bool := !(inB c 1 8)
def frE (s r p : Int) : Bool := r != s + 2 * p
def faE (s r c : Int) : Bool := (s + r) % c != 0
/-- The sines, in millionths. -/
def sinL : List Int := [1000000, 866025, 707106, 587785, 500000, 433883, 382683]
def sinE (c : Int) : Int := sinL.getD (c - 2).toNat 0
def fsE (s p c : Int) : Bool := decide (2 ≤ c) && decide ((s + p) * sinE c ≤ (p + 2) * 1000000)
def wTeeth : ByteArray := ⟨#[116, 101, 101, 116, 104]⟩
def wCount : ByteArray := ⟨#[99, 111, 117, 110, 116]⟩
def wRing : ByteArray := ⟨#[114, 105, 110, 103]⟩
def wAssembly : ByteArray := ⟨#[97, 115, 115, 101, 109, 98, 108, 121]⟩
def wSpace : ByteArray := ⟨#[115, 112, 97, 99, 101]⟩
/-- The words that apply. -/
def pickW : List (ByteArray × Bool) → List ByteArray
  | [] => []
  | (x, b) :: l => if b then x :: pickW l else pickW l
def ep1 (s r p c : Int) : List ByteArray := pickW [(wTeeth, ftE s r p), (wCount, fcE c)]
def ep2 (s r p c : Int) : List ByteArray := pickW [(wRing, frE s r p), (wAssembly, faE s r c), (wSpace, fsE s p c)]
def epF (s r p c : Int) : List ByteArray := if ftE s r p || fcE c then ep1 s r p c else ep2 s r p c
def okE (s r p c : Int) : Bool := !(ftE s r p || fcE c || frE s r p || faE s r c || fsE s p c)
theorem pickW_len : ∀ l : List (ByteArray × Bool), (pickW l).length ≤ l.length
  | [] => Nat.le_refl _
  | (x, b) :: l => by
    have := pickW_len l
    unfold pickW; split <;> simp <;> omega
theorem epF_len (s r p c : Int) : (epF s r p c).length ≤ 3 := by
  unfold epF
  split
  · have := pickW_len [(wTeeth, ftE s r p), (wCount, fcE c)]; unfold ep1; simp at this; omega
  · have := pickW_len [(wRing, frE s r p), (wAssembly, faE s r c), (wSpace, fsE s p c)]; unfold ep2; simpa using this
theorem epF_ok (s r p c : Int) : ((epF s r p c).length == 0) = okE s r p c := by
  unfold epF ep1 ep2 okE pickW pickW pickW pickW
  cases ftE s r p <;> cases fcE c <;> cases frE s r p <;> cases faE s r c <;> cases fsE s p c <;> rfl
theorem ft_false {s r p : Int} (h : ftE s r p = false) : (6 ≤ s ∧ s ≤ 240) ∧ (6 ≤ r ∧ r ≤ 240) ∧ 6 ≤ p ∧ p ≤ 240 := by
  simpa [ftE, inB, and_assoc] using h
theorem fc_false {c : Int} (h : fcE c = false) : 1 ≤ c ∧ c ≤ 8 := by simpa [fcE, inB] using h
theorem okE_parts {s r p c : Int} (h : okE s r p c = true) : ftE s r p = false ∧ fcE c = false ∧ frE s r p = false ∧ faE s r c = false ∧ fsE s p c = false := by
  unfold okE at h
  cases h1 : ftE s r p <;> cases h2 : fcE c <;> cases h3 : frE s r p <;> cases h4 : faE s r c <;> cases h5 : fsE s p c <;> simp_all
theorem okE_bd {s r p c : Int} (h : okE s r p c = true) : (6 ≤ s ∧ s ≤ 240) ∧ (6 ≤ r ∧ r ≤ 240) ∧ (6 ≤ p ∧ p ≤ 240) ∧ 1 ≤ c ∧ c ≤ 8 := by
  obtain ⟨h1, h2, _⟩ := okE_parts h
  obtain ⟨a, b, d, e⟩ := ft_false h1
  obtain ⟨f, g⟩ := fc_false h2
  exact ⟨a, b, ⟨d, e⟩, f, g⟩

/-- The operations, in one word each. -/
def adA (n d p q : Int) : Int := oA (okR n d && okR p q) (addX n d p q) (mulX d q)
def adB (n d p q : Int) : Int := oB (okR n d && okR p q) (addX n d p q) (mulX d q)
def adC (n d p q : Int) : Int := oC (okR n d && okR p q) (addX n d p q) (mulX d q)
def suA (n d p q : Int) : Int := oA (okR n d && okR p q) (addX n d (-p) q) (mulX d q)
def suB (n d p q : Int) : Int := oB (okR n d && okR p q) (addX n d (-p) q) (mulX d q)
def suC (n d p q : Int) : Int := oC (okR n d && okR p q) (addX n d (-p) q) (mulX d q)
def muA (n d p q : Int) : Int := oA (okR n d && okR p q) (mulX n p) (mulX d q)
def muB (n d p q : Int) : Int := oB (okR n d && okR p q) (mulX n p) (mulX d q)
def muC (n d p q : Int) : Int := oC (okR n d && okR p q) (mulX n p) (mulX d q)
/-- Three numbers: the terms and the code. -/
abbrev R3 := Int × Int × Int
def ad3 (n d p q : Int) : R3 := (adA n d p q, adB n d p q, adC n d p q)
def su3 (n d p q : Int) : R3 := (suA n d p q, suB n d p q, suC n d p q)
def mu3 (n d p q : Int) : R3 := (muA n d p q, muB n d p q, muC n d p q)
def bind3 (x : R3) (f : Int → Int → R3) : R3 := if x.2.2 = 0 then f x.1 x.2.1 else (0, 0, x.2.2)
theorem bind3_no {a b c : Int} {x : R3} {f : Int → Int → R3} (h : x = (a, b, c)) (hc : c ≠ 0) : bind3 x f = (0, 0, c) := by subst h; simp [bind3, hc]
theorem bind3_go {a b c : Int} {x : R3} {f : Int → Int → R3} (h : x = (a, b, c)) (hc : c = 0) : bind3 x f = f a b := by subst h; simp [bind3, hc]
/-- c - (a - c) * k. -/
def tu3 (a b c d m k : Int) : R3 := bind3 (su3 a b c d) fun x y => bind3 (mu3 x y m k) fun u v => su3 c d u v
/-- The driven wheel's speed; that of the carrier. -/
def dr3 (s r p c : Int) (x y : Int) (a b u v : Int) : R3 := if okE s r p c && okR a b && okR u v then tu3 a b u v (rA x y) (rB x y) else (0, 0, 1)
def ca3 (s r p c : Int) (a b u v : Int) : R3 :=
  if okE s r p c && okR a b && okR u v then bind3 (mu3 a b (rA s (s + r)) (rB s (s + r))) fun x y => bind3 (mu3 u v (rA r (s + r)) (rB r (s + r))) fun x2 y2 => ad3 x y x2 y2 else (0, 0, 1)
theorem code_in (v : Bool) {x y : Int} (hy : y ≠ 0) : oC v x y = 0 ∨ oC v x y = 1 ∨ oC v x y = 2 := by
  cases v
  · exact .inr (.inl rfl)
  · cases h : lowOk x y
    · exact .inr (.inr (r_no hy h).2.2)
    · exact .inl (r_yes hy h).2.2
end Go.Proofs.YtcklcledchboiaaDoor
