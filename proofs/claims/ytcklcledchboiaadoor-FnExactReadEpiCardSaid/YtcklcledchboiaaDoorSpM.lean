/-
  Reading a train: the plain words. Texts split at a byte; pairs out of words.
-/
import Derived.Test.YtcklcledchboiaaDoorWRead
import Derived.Test.YtcklcledchboiaaDoorTrS
import Derived.Lib.Split
import Derived.Lib.ItoaMem
namespace Go.Proofs.YtcklcledchboiaaDoor

/-- The parts between the bytes c. -/
def splL (c : UInt8) : List UInt8 → List (List UInt8)
  | [] => [[]]
  | x :: xs => if x = c then [] :: splL c xs else match splL c xs with
    | [] => [[x]]
    | y :: ys => (x :: y) :: ys
theorem splL_no {c : UInt8} : ∀ {l : List UInt8}, c ∉ l → splL c l = [l]
  | [], _ => rfl
  | x :: xs, h => by
    have h1 : ¬ x = c := fun e => h (by simp [e])
    have h2 := splL_no (c := c) (l := xs) (fun hm => h (by simp [hm]))
    simp [splL, h1, h2]
theorem splL_cat {c : UInt8} {r : List UInt8} : ∀ {p : List UInt8}, c ∉ p → splL c (p ++ c :: r) = p :: splL c r
  | [], _ => by simp [splL]
  | x :: xs, h => by
    have h1 : ¬ x = c := fun e => h (by simp [e])
    have h2 := splL_cat (c := c) (r := r) (p := xs) (fun hm => h (by simp [hm]))
    simp [splL, h1, h2]
theorem splL_pos (c : UInt8) (l : List UInt8) : 1 ≤ (splL c l).length := by
  cases l with
  | nil => simp [splL]
  | cons x xs =>
    unfold splL
    split
    · simp
    · split <;> simp
theorem splL_parts {c : UInt8} {last : ByteArray} (h2 : c ∉ last.data.toList) : ∀ (ps : List ByteArray), (∀ p ∈ ps, c ∉ p.data.toList) →
    splL c ((ps.flatMap fun p => p.data.toList ++ [c]) ++ last.data.toList) = ps.map (·.data.toList) ++ [last.data.toList]
  | [], _ => by simpa using splL_no h2
  | p :: ps, h => by
    have ih := splL_parts h2 ps (fun q hq => h q (by simp [hq]))
    rw [List.flatMap_cons, List.append_assoc, List.append_assoc, List.singleton_append, splL_cat (h p (by simp)), ih]
    simp
/-- A byte's place: it is not there, or it parts the text. -/
theorem index_parts (c : UInt8) (s : List UInt8) : (Lib.index s [c] = -1 ∧ c ∉ s) ∨ ∃ i : Nat, Lib.index s [c] = i ∧ i < s.length ∧ c ∉ s.take i ∧ s = s.take i ++ c :: s.drop (i + 1) := by
  rw [Lib.index_one]
  rcases Int.lt_or_le (Lib.indexByte s c) 0 with h | h
  · have h0 := Lib.indexByte_ge s c
    have e : Lib.indexByte s c = -1 := by omega
    refine .inl ⟨e, fun hm => ?_⟩
    obtain ⟨k, hk⟩ := List.mem_iff_getElem?.1 hm
    exact Lib.indexByte_none e k hk
  · obtain ⟨i, hi⟩ := Int.eq_ofNat_of_zero_le h
    obtain ⟨h1, h2⟩ := Lib.indexByte_some (o := i) hi
    have hl : i < s.length := by
      rcases Nat.lt_or_ge i s.length with h' | h'
      · exact h'
      · rw [List.getElem?_eq_none h'] at h1; cases h1
    refine .inr ⟨i, hi, hl, fun hm => ?_, ?_⟩
    · obtain ⟨k, hk⟩ := List.mem_iff_getElem?.1 hm
      by_cases hki : k < i
      · rw [List.getElem?_take_of_lt hki] at hk
        exact h2 k hki hk
      · rw [List.getElem?_take_eq_none (by omega)] at hk; cases hk
    · have e : s[i] = c := by rw [List.getElem?_eq_getElem hl] at h1; exact Option.some.inj h1
      have := List.take_append_drop i s
      rw [List.drop_eq_getElem_cons hl, e] at this
      exact this.symm
theorem splL_split (c : UInt8) : ∀ (k : Nat) (s : List UInt8), s.length ≤ k → Lib.splitK [c] 0 (Lib.count s [c]) s = splL c s := by
  intro k
  induction k with
  | zero =>
    intro s hs
    have : s = [] := List.eq_nil_of_length_eq_zero (by omega)
    subst this
    rcases index_parts c [] with ⟨h1, _⟩ | ⟨i, _, h2, _⟩
    · rw [Lib.count_miss h1]; rfl
    · simp at h2
  | succ k ih =>
    intro s hs
    rcases index_parts c s with ⟨h1, h2⟩ | ⟨i, h1, h2, h3, h4⟩
    · rw [Lib.count_miss h1, splL_no h2]; rfl
    · rw [Lib.count_hit (by simp) h1, Nat.add_comm]
      have hm : ¬ (Lib.index s [c] == -1) = true := fun e => by have := beq_iff_eq.1 e; omega
      show (if (Lib.index s [c] == -1) = true then [s] else _) = _
      rw [if_neg hm, h1]
      simp only [Int.toNat_natCast, Nat.add_zero, List.length_singleton]
      rw [ih (s.drop (i + 1)) (by simp; omega)]
      conv => rhs; rw [h4]
      rw [splL_cat h3]
/-- The number with a decimal form. -/
noncomputable def rdF (l : List UInt8) : Option Int := open Classical in if h : ∃ n, RdIs l n true then some h.choose else none
theorem rdF_yes {l : List UInt8} {n : Int} (h : RdIs l n true) : rdF l = some n := by
  have hx : ∃ n, RdIs l n true := ⟨n, h⟩
  unfold rdF
  rw [dif_pos hx, (RdIs.uniq hx.choose_spec h).1]
theorem rdF_no {l : List UInt8} {n : Int} (h : RdIs l n false) : rdF l = none := by
  unfold rdF
  rw [dif_neg]
  rintro ⟨m, hm⟩
  have := (RdIs.uniq h hm).2
  cases this
theorem rdF_is {l : List UInt8} {n : Int} {ok : Bool} (h : RdIs l n ok) : rdF l = if ok then some n else none := by
  cases ok
  · exact rdF_no h
  · exact rdF_yes h
theorem rd_text {l : List UInt8} {n : Int} (h : RdIs l n true) : Lib.itoa n = l := by
  rcases h with ⟨_, _, h⟩ | ⟨h, _⟩
  · exact h
  · cases h
theorem rd_nil : RdIs [] 0 false := RdIs.bad_len (.inl (by simp [unsig]))
theorem rd_colon {l : List UInt8} (h : (58 : UInt8) ∈ l) : RdIs l 0 false := by
  refine RdIs.bad_digit (c := 58) ?_ (by decide)
  cases l with
  | nil => simp at h
  | cons x xs =>
    unfold unsig
    split
    · rcases List.mem_cons.1 h with e | e
      · exfalso; subst e; simp_all
      · simpa using e
    · exact h
/-- The pair in a word. -/
noncomputable def prF (u : List UInt8) : Option (Int × Int) := match splL 58 u with
  | [p, q] => (match rdF p, rdF q with
    | some a, some b => some (a, b)
    | _, _ => none)
  | _ => none
theorem prF_two {u p q : List UInt8} {a b : Int} {o1 o2 : Bool} (h : splL 58 u = [p, q]) (h1 : RdIs p a o1) (h2 : RdIs q b o2) : prF u = if o1 && o2 then some (a, b) else none := by
  unfold prF
  rw [h]
  simp only [rdF_is h1, rdF_is h2]
  cases o1 <;> cases o2 <;> rfl
theorem prF_other {u : List UInt8} (h : (splL 58 u).length ≠ 2) : prF u = none := by
  unfold prF
  split
  · next p q e => rw [e] at h; exact absurd rfl h
  · rfl
theorem prF_cut {u : List UInt8} {a b : Int} {o1 o2 : Bool} (h1 : RdIs (Lib.cut u [58]).1 a o1) (h2 : RdIs (Lib.cut u [58]).2.1 b o2) : prF u = if o1 && o2 then some (a, b) else none := by
  rcases index_parts 58 u with ⟨e, h⟩ | ⟨i, e, hi, h3, h4⟩
  · unfold Lib.cut at h1 h2
    rw [if_neg (by omega)] at h1 h2
    have : o2 = false := (RdIs.uniq h2 rd_nil).2
    subst this
    rw [prF_other (by rw [splL_no h]; simp)]
    simp
  · unfold Lib.cut at h1 h2
    rw [if_pos (by omega), e] at h1 h2
    simp only [Int.toNat_natCast, List.length_singleton] at h1 h2
    have hs : splL 58 u = u.take i :: splL 58 (u.drop (i + 1)) := by
      conv => lhs; rw [h4]
      exact splL_cat h3
    by_cases hc : (58 : UInt8) ∈ u.drop (i + 1)
    · have : o2 = false := (RdIs.uniq h2 (rd_colon hc)).2
      subst this
      rw [prF_other]
      · simp
      · rw [hs]
        obtain ⟨j, _, hj, _, hj4⟩ := (index_parts 58 (u.drop (i + 1))).resolve_left (fun h => h.2 hc)
        rw [hj4, splL_cat ‹_›]
        have := splL_pos 58 ((u.drop (i + 1)).drop (j + 1))
        simp only [List.length_cons]
        omega
    · rw [splL_no hc] at hs
      exact prF_two hs h1 h2
/-- The pairs in all words. -/
noncomputable def allF : List (List UInt8) → Option (List (Int × Int))
  | [] => some []
  | w :: ws => match prF w, allF ws with
    | some q, some qs => some (q :: qs)
    | _, _ => none
theorem allF_snoc (u : List UInt8) : ∀ ws : List (List UInt8), allF (ws ++ [u]) = match allF ws, prF u with
    | some qs, some q => some (qs ++ [q])
    | _, _ => none
  | [] => by simp only [List.nil_append, allF]; cases prF u <;> rfl
  | w :: ws => by
    rw [List.cons_append]
    simp only [allF]
    rw [allF_snoc u ws]
    cases prF w <;> cases allF ws <;> cases prF u <;> rfl
theorem allF_append : ∀ (ws vs : List (List UInt8)) (all : List (Int × Int)), allF (ws ++ vs) = some all → allF ws = some (all.take ws.length) ∧ ws.length ≤ all.length
  | [], vs, all, _ => by simp [allF]
  | w :: ws, vs, all, h => by
    rw [List.cons_append] at h
    simp only [allF] at h
    cases h1 : prF w with
    | none => rw [h1] at h; cases h
    | some q =>
      cases h2 : allF (ws ++ vs) with
      | none => rw [h1, h2] at h; cases h
      | some qs =>
        rw [h1, h2] at h
        simp only [Option.some.injEq] at h
        subst h
        obtain ⟨h3, h4⟩ := allF_append ws vs qs h2
        simp only [allF, h1, h3]
        simp; exact h4
theorem allF_len : ∀ (ws : List (List UInt8)) (all : List (Int × Int)), allF ws = some all → all.length = ws.length
  | [], all, h => by simp only [allF, Option.some.injEq] at h; subst h; rfl
  | w :: ws, all, h => by
    simp only [allF] at h
    cases h1 : prF w with
    | none => rw [h1] at h; cases h
    | some q =>
      cases h2 : allF ws with
      | none => rw [h1, h2] at h; cases h
      | some qs =>
        rw [h1, h2] at h
        simp only [Option.some.injEq] at h
        subst h
        simp [allF_len ws qs h2]
/-- What ReadTrain returns. -/
noncomputable def rtF (s : List UInt8) : Option (List (Int × Int)) :=
  if s = [45] then some [] else if (splL 32 s).length ≤ 5 then (match allF (splL 32 s) with
    | some qs => if okT qs then some qs else none
    | none => none) else none
noncomputable def rtL (s : List UInt8) : List (Int × Int) := (rtF s).getD []
noncomputable def rtK (s : List UInt8) : Bool := (rtF s).isSome
theorem rtF_none {s : List UInt8} (h : rtF s = none) : rtL s = [] ∧ rtK s = false := by simp [rtL, rtK, h]
theorem rtF_some {s : List UInt8} {qs : List (Int × Int)} (h : rtF s = some qs) : rtL s = qs ∧ rtK s = true := by simp [rtL, rtK, h]
theorem rtF_dash : rtF [45] = some [] := by simp [rtF]
theorem rtF_long {s : List UInt8} (h0 : s ≠ [45]) (h : 5 < (splL 32 s).length) : rtF s = none := by
  unfold rtF; rw [if_neg h0, if_neg (by omega)]
theorem rtF_all {s : List UInt8} (h0 : s ≠ [45]) (h : (splL 32 s).length ≤ 5) {qs : List (Int × Int)} (h1 : allF (splL 32 s) = some qs) : rtF s = if okT qs then some qs else none := by
  unfold rtF; rw [if_neg h0, if_pos h, h1]
theorem rtF_bad {s : List UInt8} (h0 : s ≠ [45]) (h : allF (splL 32 s) = none) : rtF s = none := by
  unfold rtF; rw [if_neg h0, h]
  split <;> rfl
theorem allF_cut {ws : List (List UInt8)} {k : Nat} (h : allF (ws.take k) = none) : allF ws = none := by
  cases h1 : allF ws with
  | none => rfl
  | some all =>
    have := (allF_append (ws.take k) (ws.drop k) all (by rw [List.take_append_drop]; exact h1)).1
    rw [h] at this; cases this
theorem allF_bad {ws : List (List UInt8)} {k : Nat} {qs : List (Int × Int)} (h : allF (ws.take k) = some qs) (hq : ∃ q ∈ qs, okP q = false) : ∀ all, allF ws = some all → okT all = false := by
  intro all h1
  have h2 := (allF_append (ws.take k) (ws.drop k) all (by rw [List.take_append_drop]; exact h1)).1
  rw [h] at h2
  obtain ⟨q, hm, hb⟩ := hq
  rw [Option.some.inj h2] at hm
  have hm' := List.mem_of_mem_take hm
  cases ho : okT all
  · rfl
  · have := (okT_iff.1 ho).2 q hm'
    rw [hb] at this; cases this
theorem rtF_okP {s : List UInt8} (h0 : s ≠ [45]) {k : Nat} {qs : List (Int × Int)} (h : allF ((splL 32 s).take k) = some qs) (hq : ∃ q ∈ qs, okP q = false) : rtF s = none := by
  unfold rtF
  rw [if_neg h0]
  split
  · cases h1 : allF (splL 32 s) with
    | none => rfl
    | some all => simp only [allF_bad h hq all h1]; rfl
  · rfl
end Go.Proofs.YtcklcledchboiaaDoor
