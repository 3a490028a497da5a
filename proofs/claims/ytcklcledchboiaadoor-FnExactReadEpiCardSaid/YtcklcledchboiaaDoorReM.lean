/-
  Reading planetary gears: the plain words.
-/
import Derived.Test.YtcklcledchboiaaDoorEpT
import Derived.Test.YtcklcledchboiaaDoorSpM
import Derived.Test.YtcklcledchboiaaDoorWords2
namespace Go.Proofs.YtcklcledchboiaaDoor
open Go.RowKit

def joinC (c : UInt8) : List (List UInt8) → List UInt8
  | [] => []
  | [x] => x
  | x :: y :: r => x ++ c :: joinC c (y :: r)
theorem splL_joinC (c : UInt8) : ∀ l, joinC c (splL c l) = l
  | [] => rfl
  | x :: xs => by
    have ih := splL_joinC c xs
    have hp := splL_pos c xs
    unfold splL
    by_cases hx : x = c
    · rw [if_pos hx]
      cases hs : splL c xs with
      | nil => rw [hs] at hp; simp at hp
      | cons y ys => rw [hs] at ih; rw [joinC, ih, hx]; rfl
    · rw [if_neg hx]
      cases hs : splL c xs with
      | nil => rw [hs] at hp; simp at hp
      | cons y ys =>
        rw [hs] at ih
        cases ys with
        | nil => simp only [joinC] at ih ⊢; rw [ih]
        | cons z zs => simp only [joinC] at ih ⊢; rw [List.cons_append, ih]
theorem splL_nomem (c : UInt8) : ∀ l, ∀ p ∈ splL c l, c ∉ p
  | [], p, h => by simp [splL] at h; subst h; simp
  | x :: xs, p, h => by
    have ih := splL_nomem c xs
    unfold splL at h
    split at h
    · rcases List.mem_cons.1 h with e | e
      · subst e; simp
      · exact ih p e
    · next hx =>
      split at h
      · rcases List.mem_cons.1 h with e | e
        · subst e; intro hm; rw [List.mem_singleton] at hm; exact hx hm.symm
        · cases e
      · next y ys heq =>
        rcases List.mem_cons.1 h with e | e
        · subst e
          intro hm
          rcases List.mem_cons.1 hm with e2 | e2
          · exact hx e2.symm
          · exact ih y (by rw [heq]; simp) e2
        · exact ih p (by rw [heq]; simp [e])
theorem splL_shortE (c : UInt8) : ∀ (l : List UInt8), ∀ p ∈ splL c l, p.length ≤ l.length
  | [], p, h => by simp [splL] at h; subst h; simp
  | x :: xs, p, h => by
    have ih := splL_shortE c xs
    unfold splL at h
    split at h
    · rcases List.mem_cons.1 h with e | e
      · subst e; simp
      · have := ih p e; simp; omega
    · split at h
      · rcases List.mem_cons.1 h with e | e
        · subst e; simp
        · cases e
      · next y ys heq =>
        rcases List.mem_cons.1 h with e | e
        · subst e
          have := ih y (by rw [heq]; simp)
          simp; omega
        · have := ih p (by rw [heq]; simp [e])
          simp; omega
/-- The gears with a text form. -/
noncomputable def reE (l : List UInt8) : Option (Int × Int × Int) := match splL 32 l with
  | [x, y, z] => (match rdF x, rdF y, rdF z with
    | some a, some b, some c => if okE a (a + 2 * b) b c then some (a, b, c) else none
    | _, _, _ => none)
  | _ => none
theorem re_is {l x y z : List UInt8} {a b c : Int} {o0 o1 o2 : Bool} (h : splL 32 l = [x, y, z]) (h0 : RdIs x a o0) (h1 : RdIs y b o1) (h2 : RdIs z c o2) :
    reE l = if o0 && o1 && o2 && okE a (a + 2 * b) b c then some (a, b, c) else none := by
  unfold reE
  rw [h]
  simp only [rdF_is h0, rdF_is h1, rdF_is h2]
  cases o0 <;> cases o1 <;> cases o2 <;> simp
theorem re_len {l : List UInt8} (h : (splL 32 l).length ≠ 3) : reE l = none := by
  unfold reE
  split
  · next x y z e => rw [e] at h; exact absurd rfl h
  · rfl
theorem rdF_some {l : List UInt8} {n : Int} (h : rdF l = some n) : RdIs l n true := by
  unfold rdF at h
  split at h
  · next hx => cases h; exact hx.choose_spec
  · cases h
theorem rd_blank {l : List UInt8} (h : (32 : UInt8) ∈ l) : RdIs l 0 false := by
  refine RdIs.bad_digit (c := 32) ?_ (by decide)
  cases l with
  | nil => simp at h
  | cons x xs =>
    unfold unsig
    split
    · rcases List.mem_cons.1 h with e | e
      · exfalso; subst e; simp_all
      · simpa using e
    · exact h
theorem itoa_noblank {n : Int} (h1 : -1000000000000000000 < n) (h2 : n < 1000000000000000000) : (32 : UInt8) ∉ Lib.itoa n := by
  intro h
  have a := rd_blank h
  have b : RdIs (Lib.itoa n) n true := .inl ⟨rfl, ⟨h1, h2⟩, rfl⟩
  have := (RdIs.uniq a b).2
  cases this
theorem teV_list (s p c : Int) : (teV s p c).data.toList = Lib.itoa s ++ 32 :: (Lib.itoa p ++ 32 :: Lib.itoa c) := by
  simp [teV, decT]
theorem te_split {s p c : Int} (h : okE s (s + 2 * p) p c = true) : splL 32 (teV s p c).data.toList = [Lib.itoa s, Lib.itoa p, Lib.itoa c] := by
  obtain ⟨⟨a1, a2⟩, _, ⟨c1, c2⟩, d1, d2⟩ := okE_bd h
  rw [teV_list, splL_cat (itoa_noblank (by omega) (by omega)), splL_cat (itoa_noblank (by omega) (by omega)), splL_no (itoa_noblank (by omega) (by omega))]
theorem re_text {s p c : Int} (h : okE s (s + 2 * p) p c = true) : reE (teV s p c).data.toList = some (s, p, c) := by
  obtain ⟨⟨a1, a2⟩, _, ⟨c1, c2⟩, d1, d2⟩ := okE_bd h
  rw [re_is (te_split h) (.inl ⟨rfl, ⟨by omega, by omega⟩, rfl⟩) (.inl ⟨rfl, ⟨by omega, by omega⟩, rfl⟩) (.inl ⟨rfl, ⟨by omega, by omega⟩, rfl⟩), h]
  rfl
theorem re_some {t : ByteArray} {a b c : Int} (h : reE t.data.toList = some (a, b, c)) : okE a (a + 2 * b) b c = true ∧ t = teV a b c := by
  unfold reE at h
  split at h
  · next x y z hs =>
    split at h
    · next a' b' c' h0 h1 h2 =>
      split at h
      · next hk =>
        cases h
        refine ⟨hk, ?_⟩
        have e0 := rd_text (rdF_some h0)
        have e1 := rd_text (rdF_some h1)
        have e2 := rd_text (rdF_some h2)
        have hj := splL_joinC 32 t.data.toList
        rw [hs, ← e0, ← e1, ← e2] at hj
        have hl : t.data.toList = (teV a b c).data.toList := by rw [teV_list, ← hj]; rfl
        exact ByteArray.ext (Array.toList_inj.1 hl)
      · cases h
    · cases h
  · cases h
/-- The words of a text are its parts that are not empty. -/
theorem wrd_parts (s : ByteArray) : (wrd s).map (·.data.toList) = (splL 32 s.data.toList).filter (fun p => !decide (p = [])) := by
  have hp := splL_pos 32 s.data.toList
  obtain ⟨ps, last, e⟩ : ∃ (ps : List (List UInt8)) (last : List UInt8), splL 32 s.data.toList = ps ++ [last] := by
    have hne : splL 32 s.data.toList ≠ [] := by intro h; rw [h] at hp; simp at hp
    exact ⟨_, _, (List.dropLast_concat_getLast hne).symm⟩
  have hn := splL_nomem 32 s.data.toList
  rw [e] at hn
  have hj := splL_joinC 32 s.data.toList
  rw [e] at hj
  have hj2 : ∀ (qs : List (List UInt8)) (l : List UInt8), joinC 32 (qs ++ [l]) = (qs.flatMap fun p => p ++ [32]) ++ l := by
    intro qs l
    induction qs with
    | nil => rfl
    | cons q qs ih =>
      cases qs with
      | nil => simp [joinC]
      | cons r rs => simp only [List.cons_append, joinC] at ih ⊢; rw [ih]; simp
  rw [hj2] at hj
  let mk : List UInt8 → ByteArray := fun p => ⟨p.toArray⟩
  have hw := fields_parts s (ps.map mk) (mk last) (by
      intro p hp'
      obtain ⟨q, hq, rfl⟩ := List.mem_map.1 hp'
      exact hn q (by simp [hq])) (hn last (by simp)) (by
      rw [List.flatMap_map]
      exact hj)
  have hw2 : wrd s = ((ps ++ [last]).map mk).filter full := by
    rw [List.map_append]
    exact hw
  rw [hw2, e, List.filter_map, List.map_map]
  have : ((fun p : ByteArray => p.data.toList) ∘ mk) = id := by funext p; simp [mk]
  rw [this, List.map_id]
  congr 1
  funext p
  show full (mk p) = _
  rw [full_list]
theorem wrd_text {a b c : Int} (h : okE a (a + 2 * b) b c = true) : (wrd (teV a b c)).map (·.data.toList) = [Lib.itoa a, Lib.itoa b, Lib.itoa c] := by
  obtain ⟨⟨a1, a2⟩, _, ⟨c1, c2⟩, d1, d2⟩ := okE_bd h
  have ne : ∀ n : Int, -1000000000000000000 < n → n < 1000000000000000000 → Lib.itoa n ≠ [] := by
    intro n h1 h2 he
    have a : RdIs (Lib.itoa n) n true := .inl ⟨rfl, ⟨h1, h2⟩, rfl⟩
    rw [he] at a
    have := (RdIs.uniq a rd_nil).2
    cases this
  rw [wrd_parts, te_split h]
  simp [ne a (by omega) (by omega), ne b (by omega) (by omega), ne c (by omega) (by omega)]
end Go.Proofs.YtcklcledchboiaaDoor
