/-
  The canonical train: spec.l00Own and spec.l05Sort.
-/
import Derived.Test.YtmmmbchlkjljaaaCnI
import Derived.Deep.AppendLies
import Derived.Deep.RegionLaw
namespace Go.Proofs.Ytmmmbchlkjljaaa
open Go.RowKit

theorem rowI0 (w : World) (t : TypeId) : (w.alloc (.cells #[] t)).ownsRow w.heap.size t 1 (.slice (some ⟨w.heap.size, 0, none⟩) 0 0) 0 [] :=
  ⟨rfl, .inr ⟨w.heap.size, 0, #[], rfl, Nat.le_refl _, (MapKept.heap_alloc w _).1, Nat.le_refl _, Nat.zero_le _, rfl, rfl⟩⟩
theorem infoI8 : (Try.prog.info? 2).map (fun i => (i.zero, i.size, i.bytes)) = some (some (.int .i64 0), 1, 8) := by kernel_rfl
theorem src_ints {W : World} {g o : Nat} {us : List Int} (h : ∀ i, i < us.length → W.cell? ⟨g, o + i, none⟩ = some (.int .i64 (at0 us i))) : ∀ (j : Nat) (u : Value), (intC us)[j]? = some u → W.cell? ((⟨g, o, none⟩ : Addr).add j) = some u := by
  intro j u hj
  have hl : j < us.length := by
    rcases Nat.lt_or_ge j us.length with h' | h'
    · exact h'
    · rw [List.getElem?_eq_none (by simpa [intC] using h')] at hj; cases hj
  rw [show (⟨g, o, none⟩ : Addr).add j = ⟨g, o + j, none⟩ by simp [Addr.add], h j hl]
  unfold intC at hj
  rw [List.getElem?_map, List.getElem?_eq_getElem hl] at hj
  unfold at0
  rw [List.getElem?_eq_getElem hl]
  simpa using hj
theorem int_cells (us : List Int) : ∀ u ∈ intC us, u.oneCell' = true := by
  intro u hu
  obtain ⟨x, _, rfl⟩ := List.mem_map.1 hu
  rfl
theorem own_some {W : World} {B : Nat} {t : TypeId} {v : Value} {us : List Int} {n : Nat} (h : W.ownsRow B t 1 v n (intC us)) (hv : v ≠ .slice none 0 0) : ∃ g c, v = .slice (some ⟨g, 0, none⟩) n c := by
  rcases h.2 with ⟨rfl, _⟩ | ⟨g, cap, cur, rfl, _⟩
  · exact absurd rfl hv
  · exact ⟨g, cap, rfl⟩
/-- A copy of numbers in a row of its own. -/
def OwnRet (w : World) (us : List Int) (e : Ending) (w' : World) : Prop := ∃ g c : Nat, e = .returned (.slice (some ⟨g, 0, none⟩) us.length c) ∧ w'.ownsRow w.heap.size 2 1 (.slice (some ⟨g, 0, none⟩) us.length c) us.length (intC us) ∧ Below w.heap.size w w'
theorem l00Own_any (us : List Int) (g cap : Nat) (w : World) (hg : g < w.heap.size) (hc : IntsAt w g us) (hlen : us.length ≤ 1000) :
    Calls Try.prog 94 #[.slice (some ⟨g, 0, none⟩) us.length cap] w (OwnRet w us) := by
  obtain ⟨i0, hi, hz0, hz1, hz2⟩ := info_parts infoI8
  have HS := Lib.hid (src_ints (o := 0) (fun i h => by simpa using (hc.keep hg (bA (bR w) (.cells #[] 2))) i h))
  clear hc
  go_enter Try.func94, Try.ntmps94
  go_wp2_with (at_builtin; go_loud (refine wpList_append_own_at _ rfl _ _ 24 rfl w.heap.size 2 i0 (.int .i64 0) 1 8 Try.underlying24 hi hz0 hz1 hz2 rfl (by decide) _ 0 [] rfl (rowI0 _ _) ⟨g, 0, none⟩ us.length cap (intC us) rfl (by simp [intC]) HS.out ?c3 ?c4 ?c5 ?c6 ?_))
  case c3 => exact int_cells us
  case c4 => unfold maxLen; omega
  case c5 => omega
  case c6 => simp
  intro v' w1 hown1 hg1 hnil _
  have hv : v' ≠ .slice none 0 0 := hnil
  obtain ⟨g', c', rfl⟩ := own_some hown1 hv
  have RN := Lib.hid (show OwnRet w us (.returned (.slice (some ⟨g', 0, none⟩) us.length c')) w1 from ⟨g', c', rfl, hown1, bel_grown2 (bA (bR w) (.cells #[] 2)) hg1 (by simp) (fun r e => by cases e; exact Nat.le_refl _)⟩)
  clear hown1 hg1 hv
  go_wp2_with fail
  go_ret
  exact RN.out
/-- Sorted so far. -/
def SoRel (w : World) (B : Nat) (ts : List Int) (v i : Value) (wr : World) : Prop :=
  ∃ (k g c : Nat) (o : List Int), k ≤ ts.length ∧ i = .int .i64 k ∧ o.length = k ∧ v = .slice (some ⟨g, 0, none⟩) k c ∧ wr.ownsRow B 2 1 v k (intC o) ∧ o.Perm (ts.take k) ∧ o.Pairwise (· ≤ ·) ∧ Below w.heap.size w wr
theorem so_perm {ts o : List Int} {k j : Nat} (hp : o.Perm (ts.take k)) (hk : k < ts.length) : ((o.take j ++ [at0 ts k]) ++ o.drop j).Perm (ts.take (k + 1)) := by
  have e : ts.take (k + 1) = ts.take k ++ [at0 ts k] := by
    rw [List.take_add_one, List.getElem?_eq_getElem hk]; simp [at0, hk]
  rw [e, List.append_assoc, List.singleton_append]
  refine (List.perm_middle.trans ?_)
  rw [List.take_append_drop]
  exact ((List.perm_append_singleton _ _).symm).trans (hp.append_right _)
theorem so_sorted {o : List Int} {j : Nat} {x : Int} (hs : o.Pairwise (· ≤ ·)) (hj : j ≤ o.length) (h1 : j = 0 ∨ at0 o (j - 1) ≤ x) (h2 : ∀ p, j ≤ p → p < o.length → x < at0 o p) : ((o.take j ++ [x]) ++ o.drop j).Pairwise (· ≤ ·) := by
  have hlo : ∀ a ∈ o.take j, a ≤ x := by
    intro a ha
    rcases h1 with h1 | h1
    · subst h1; simp at ha
    · obtain ⟨i, hi, rfl⟩ := List.getElem_of_mem ha
      have hi' : i < j := by simp at hi; omega
      have hjl : j - 1 < o.length := by omega
      rw [List.getElem_take]
      unfold at0 at h1
      rw [List.getElem?_eq_getElem hjl] at h1
      simp at h1
      rcases Nat.lt_or_ge i (j - 1) with h | h
      · exact Int.le_trans (List.pairwise_iff_getElem.1 hs i (j - 1) (by omega) hjl h) h1
      · have : i = j - 1 := by omega
        subst this; exact h1
  have hhi : ∀ b ∈ o.drop j, x ≤ b := by
    intro b hb
    obtain ⟨i, hi, rfl⟩ := List.getElem_of_mem hb
    have hi' : j + i < o.length := by simp at hi; omega
    have := h2 (j + i) (by omega) hi'
    unfold at0 at this
    rw [List.getElem?_eq_getElem hi'] at this
    rw [List.getElem_drop]
    simp at this
    omega
  rw [List.append_assoc, List.pairwise_append]
  refine ⟨hs.sublist (List.take_sublist _ _), ?_, ?_⟩
  · rw [List.singleton_append, List.pairwise_cons]
    exact ⟨hhi, hs.sublist (List.drop_sublist _ _)⟩
  · intro a ha b hb
    have hax := hlo a ha
    rw [List.singleton_append, List.mem_cons] at hb
    rcases hb with rfl | hb
    · exact hax
    · exact Int.le_trans hax (hhi b hb)
end Go.Proofs.Ytmmmbchlkjljaaa
