/-
  Reading texts of ratios: plain arithmetic.
-/
import Derived.Test.YtjacjjenlokogaaDoorRd
import Derived.Test.YtjacjjenlokogaaDoorRat
import Derived.Lib.IndexMore
import Derived.Lib.IndexBytes
namespace Go.Proofs.YtjacjjenlokogaaDoor
open Go.RowKit

theorem itoa_slash (n : Int) : (47 : UInt8) ∉ Lib.itoa n := by
  intro h
  rcases Int.lt_trichotomy n 0 with hn | hn | hn
  · rw [← itoa_negv hn] at h
    rcases List.mem_cons.1 h with h | h
    · cases h
    · have := dl_digits _ _ h; simp at this
  · subst hn; rw [itoa_zero] at h; simp at h
  · rw [← itoa_pos hn] at h; have := dl_digits _ _ h; simp at this
theorem itoa_ne (n : Int) : Lib.itoa n ≠ [] := by
  rcases Int.lt_trichotomy n 0 with hn | hn | hn
  · rw [← itoa_negv hn]; simp
  · subst hn; rw [itoa_zero]; simp
  · rw [← itoa_pos hn]; intro h; have := dl_nil h; omega
theorem itoa_inj {n m : Int} (h1 : -1000000000000000000 < n) (h2 : n < 1000000000000000000) (k1 : -1000000000000000000 < m) (k2 : m < 1000000000000000000) (h : Lib.itoa n = Lib.itoa m) : n = m := by
  have := parse_itoa h1 h2
  rw [h, parse_itoa k1 k2] at this
  injection this with e
  exact e.symm
/-- The text of a valid ratio. -/
def tl (n d : Int) : List UInt8 := if d = 1 then Lib.itoa n else Lib.itoa n ++ 47 :: Lib.itoa d
theorem app_inj {a b a' b' : List UInt8} (h : (47 : UInt8) ∉ a) (h' : (47 : UInt8) ∉ a') (e : a ++ 47 :: b = a' ++ 47 :: b') : a = a' ∧ b = b' := by
  induction a generalizing a' with
  | nil =>
    cases a' with
    | nil => simpa using e
    | cons x a' => simp at e; exact absurd (by rw [← e.1]; simp) h'
  | cons y a ih =>
    cases a' with
    | nil => simp at e; exact absurd (by rw [e.1]; simp) h
    | cons x a' =>
      simp only [List.cons_append, List.cons.injEq] at e
      obtain ⟨h1, h2⟩ := ih (fun m => h (List.mem_cons_of_mem _ m)) (fun m => h' (List.mem_cons_of_mem _ m)) e.2
      exact ⟨by rw [e.1, h1], h2⟩
theorem idx_no : ∀ (l : List UInt8), (47 : UInt8) ∉ l → Lib.indexByte l 47 = -1 := by
  intro l
  induction l with
  | nil => intro _; rfl
  | cons x l ih =>
    intro h
    have h1 := ih (fun m => h (List.mem_cons_of_mem _ m))
    have hx : ¬ x = 47 := fun e => h (by rw [e]; simp)
    simp [Lib.indexByte, h1, hx]
theorem idx_at : ∀ (a b : List UInt8), (47 : UInt8) ∉ a → Lib.indexByte (a ++ 47 :: b) 47 = a.length := by
  intro a b
  induction a with
  | nil => intro _; simp [Lib.indexByte]
  | cons x a ih =>
    intro h
    have h1 := ih (fun m => h (List.mem_cons_of_mem _ m))
    have hx : ¬ x = 47 := fun e => h (by rw [e]; simp)
    have h2 : ¬ ((a.length : Int) = -1) := by omega
    simp [Lib.indexByte, h1, hx, h2]
theorem cut_no {l : List UInt8} (h : (47 : UInt8) ∉ l) : Lib.cut l [47] = (l, [], false) := by
  unfold Lib.cut; rw [Lib.index_one, idx_no l h]; rfl
theorem cut_at {a b : List UInt8} (h : (47 : UInt8) ∉ a) : Lib.cut (a ++ 47 :: b) [47] = (a, b, true) := by
  unfold Lib.cut; rw [Lib.index_one, idx_at a b h, if_pos (by omega)]
  simp
/-- A text has a first slash, or none. -/
theorem slash_or (l : List UInt8) : (47 : UInt8) ∉ l ∨ ∃ a b, l = a ++ 47 :: b ∧ (47 : UInt8) ∉ a := by
  induction l with
  | nil => left; simp
  | cons x l ih =>
    by_cases hx : x = 47
    · right; exact ⟨[], l, by rw [hx]; rfl, by simp⟩
    · rcases ih with h | ⟨a, b, rfl, h⟩
      · left; intro m; rcases List.mem_cons.1 m with m | m; exact hx m.symm; exact h m
      · right; exact ⟨x :: a, b, rfl, fun m => by rcases List.mem_cons.1 m with m | m; exact hx m.symm; exact h m⟩

/-- What reading a ratio gives: the valid ratio with the text, if there is one. -/
def RrIs (s : List UInt8) (n d : Int) (ok : Bool) : Prop :=
  (ok = true ∧ okR n d = true ∧ tl n d = s) ∨ (ok = false ∧ (n = 0 ∧ d = 0) ∧ ∀ a b : Int, okR a b = true → tl a b ≠ s)
theorem tl_inj {n d a b : Int} (h : okR n d = true) (k : okR a b = true) (e : tl n d = tl a b) : n = a ∧ d = b := by
  obtain ⟨b1, b2, b3, b4⟩ := okR_bd h
  obtain ⟨c1, c2, c3, c4⟩ := okR_bd k
  unfold tl at e
  by_cases hd : d = 1 <;> by_cases hb : b = 1
  · rw [if_pos hd, if_pos hb] at e
    exact ⟨itoa_inj (by omega) (by omega) (by omega) (by omega) e, by omega⟩
  · rw [if_pos hd, if_neg hb] at e
    exact absurd (by rw [e]; simp) (itoa_slash n)
  · rw [if_neg hd, if_pos hb] at e
    exact absurd (by rw [← e]; simp) (itoa_slash a)
  · rw [if_neg hd, if_neg hb] at e
    obtain ⟨e1, e2⟩ := app_inj (itoa_slash n) (itoa_slash a) e
    exact ⟨itoa_inj (by omega) (by omega) (by omega) (by omega) e1, itoa_inj (by omega) (by omega) (by omega) (by omega) e2⟩
theorem RrIs.uniq {s : List UInt8} {n d a b : Int} {x y : Bool} (h : RrIs s n d x) (k : RrIs s a b y) : n = a ∧ d = b ∧ x = y := by
  rcases h with ⟨rfl, h1, h2⟩ | ⟨rfl, ⟨rfl, rfl⟩, h⟩ <;> rcases k with ⟨rfl, k1, k2⟩ | ⟨rfl, ⟨rfl, rfl⟩, k⟩
  · obtain ⟨e1, e2⟩ := tl_inj h1 k1 (h2.trans k2.symm); exact ⟨e1, e2, rfl⟩
  · exact absurd h2 (k _ _ h1)
  · exact absurd k2 (h _ _ k1)
  · exact ⟨rfl, rfl, rfl⟩
/-- A text without a slash. -/
theorem RrIs.plain {s : List UInt8} {n : Int} {a : Bool} (hs : (47 : UInt8) ∉ s) (h : RdIs s n a) : (a = true → okR n 1 = true → RrIs s n 1 true) ∧ (a = false ∨ okR n 1 = false → RrIs s 0 0 false) := by
  constructor
  · intro ha hk
    rcases h with ⟨_, _, e⟩ | ⟨e, _⟩
    · exact .inl ⟨rfl, hk, by unfold tl; rw [if_pos rfl, e]⟩
    · rw [ha] at e; cases e
  · intro hor
    refine .inr ⟨rfl, ⟨rfl, rfl⟩, fun x y hxy e => ?_⟩
    obtain ⟨c1, c2, c3, c4⟩ := okR_bd hxy
    unfold tl at e
    split at e
    · rename_i hy
      subst hy
      obtain ⟨e1, e2⟩ := h.uniq (.inl ⟨rfl, ⟨by omega, by omega⟩, e⟩ : RdIs s x true)
      rcases hor with h0 | h0
      · rw [h0] at e2; cases e2
      · rw [e1, hxy] at h0; cases h0
    · exact hs (by rw [← e]; simp)
/-- A text with one slash at least: the parts before and behind the first one. -/
theorem RrIs.cut {l r : List UInt8} {n d : Int} {a b : Bool} (hl : (47 : UInt8) ∉ l) (h : RdIs l n a) (k : RdIs r d b) : (a = true → b = true → okR n d = true → d ≠ 1 → RrIs (l ++ 47 :: r) n d true) ∧ (a = false ∨ b = false ∨ okR n d = false ∨ d = 1 → RrIs (l ++ 47 :: r) 0 0 false) := by
  constructor
  · intro ha hb hk hd
    rcases h with ⟨_, _, e⟩ | ⟨e, _⟩
    · rcases k with ⟨_, _, f⟩ | ⟨f, _⟩
      · exact .inl ⟨rfl, hk, by unfold tl; rw [if_neg hd, e, f]⟩
      · rw [hb] at f; cases f
    · rw [ha] at e; cases e
  · intro hor
    refine .inr ⟨rfl, ⟨rfl, rfl⟩, fun x y hxy e => ?_⟩
    obtain ⟨c1, c2, c3, c4⟩ := okR_bd hxy
    unfold tl at e
    split at e
    · exact itoa_slash x (by rw [e]; simp)
    · rename_i hy
      obtain ⟨f1, f2⟩ := app_inj (itoa_slash x) hl e
      obtain ⟨e1, e2⟩ := h.uniq (.inl ⟨rfl, ⟨by omega, by omega⟩, f1⟩ : RdIs l x true)
      obtain ⟨g1, g2⟩ := k.uniq (.inl ⟨rfl, ⟨by omega, by omega⟩, f2⟩ : RdIs r y true)
      subst e1 g1 e2 g2
      rcases hor with h0 | h0 | h0 | h0
      · cases h0
      · cases h0
      · rw [hxy] at h0; cases h0
      · exact hy h0
/-- A text with two slashes. -/
theorem RrIs.two {l m r : List UInt8} (hl : (47 : UInt8) ∉ l) : RrIs (l ++ 47 :: (m ++ 47 :: r)) 0 0 false := by
  refine .inr ⟨rfl, ⟨rfl, rfl⟩, fun x y hxy e => ?_⟩
  unfold tl at e
  split at e
  · exact itoa_slash x (by rw [e]; simp)
  · obtain ⟨_, f2⟩ := app_inj (itoa_slash x) hl e
    exact itoa_slash y (by rw [f2]; simp)
end Go.Proofs.YtjacjjenlokogaaDoor
