/-
  A map from months to days: how its keys are found.
-/
import Derived.Test.YtbkhejideffflaaCaK
import Derived.DeepKeys4
import Derived.Maps.Keyed
import Derived.Maps.Own
namespace Go.Proofs.Ytbkhejideffflaa
open Go.RowKit Go.WideMaps
open Go.Maps (Keyed)
open Go.ChangeMaps (setBlock heap_setBlock_same heap_setBlock_other)

def kiV (m : Int) (q : Bool) : Value := .agg #[.int .i64 m, .bool q]
theorem laidOutK : laidOutB Try.prog = true := by kernel_rfl
theorem rowKi : (73 : TypeId) < Try.prog.types.size := of_decide_eq_true (by kernel_rfl)
theorem wideKi : (match Try.prog.underlying 73 with | some (.array _ _) | some (.struct _) => true | _ => false) = true := by kernel_rfl
set_option maxRecDepth 100000 in
theorem lawKi : Keyed Try.prog 73 := Keyed.of_law (deep_law_laid laidOutK (m := 3) (by omega) rowKi (by kernel_rfl) wideKi)
theorem cellsKi : Try.prog.cellsOf 73 = 2 := by kernel_rfl
theorem cellsI6 : Try.prog.cellsOf 2 = 1 := by kernel_rfl
theorem cellsBo : Try.prog.cellsOf 4 = 1 := by kernel_rfl
theorem deepKi : Try.prog.keyType 73 = true := by kernel_rfl
theorem sizeKi : ∃ n, Try.prog.types.size = n + 1 := ⟨Try.prog.types.size - 1, by kernel_rfl⟩
theorem kiV_ne {m n : Int} {p q : Bool} (h : ¬ (m = n ∧ p = q)) : kiV m p ≠ kiV n q := by
  intro e
  unfold kiV at e
  injection e with e
  simp at e
  exact h ⟨e.1, e.2⟩
theorem keyKi (m : Int) (q : Bool) (h1 : -9223372036854775808 ≤ m) (h2 : m ≤ 9223372036854775807) : ∃ l, keyOf Try.prog 73 (kiV m q) = some l := by
  have hw : (Lit.int .i64 m).wf = true := by simp [Lit.wf, IntKind.min, IntKind.max, IntKind.signed, IntKind.bits]; omega
  obtain ⟨n, hn⟩ := sizeKi
  unfold keyOf kiV
  rw [Try.underlying73]
  simp only [deepKi, hn]
  rw [if_pos (by simp [Value.formed, Try.underlying73, cellsKi])]
  have e0 : Try.prog.keyLits (n + 1) 2 [.int .i64 m] = some [.int .i64 m] := by
    unfold Program.keyLits
    simp [Try.underlying2, hw]
  have e1 : Try.prog.keyLits (n + 1) 4 [.bool q] = some [.bool q] := by
    unfold Program.keyLits
    simp [Try.underlying4]
  unfold Program.keyLits
  rw [Try.underlying73]
  simp [Value.cells, cellsKi, cellsI6, cellsBo, e0, e1]
/-- The entries that are there after i months, and j kinds of the next one. -/
def dnK (i j m : Nat) (q : Bool) : Prop := 1 ≤ m ∧ (m ≤ i ∨ (m = i + 1 ∧ q = false ∧ 1 ≤ j))
def EnK (ms : List Mo) (i j : Nat) (es : Array MapEntry) : Prop :=
  es.size ≤ 2 * i + j ∧ (∀ e ∈ es.toList, ∃ (m : Nat) (q : Bool), e.key = kiV ((m : Int) + 1) q ∧ e.val = .int .i64 (smD ms q m) ∧ dnK i j m q) ∧ ∀ m q, dnK i j m q → ∃ e ∈ es.toList, e.key = kiV ((m : Int) + 1) q
def MpH (W : World) (b : Nat) (ms : List Mo) (i j : Nat) : Prop := ∃ es clock, W.heap[b]? = some (.map es clock) ∧ EnK ms i j es
theorem MpH.lt {W : World} {b : Nat} {ms : List Mo} {i j : Nat} (h : MpH W b ms i j) : b < W.heap.size := by
  obtain ⟨es, clock, hb, _⟩ := h
  exact (Array.getElem?_eq_some_iff.1 hb).1
theorem MpH.keep {W W' : World} {b : Nat} {ms : List Mo} {i j : Nat} (h : MpH W b ms i j) (hb : Below W.heap.size W W') : MpH W' b ms i j := by
  have hl := h.lt
  obtain ⟨es, clock, h1, h2⟩ := h
  exact ⟨es, clock, (hb.block b hl).trans h1, h2⟩
theorem zeroI6 (w : World) : (zeroValue 2).run Try.prog w = .ok (.int .i64 0) w := by kernel_rfl
theorem kiV_inj {m n : Int} {p q : Bool} (h : kiV m p = kiV n q) : m = n ∧ p = q := by
  unfold kiV at h
  injection h with e
  simp at e
  exact e
theorem EnK.keys {ms : List Mo} {i j : Nat} {es : Array MapEntry} (h : EnK ms i j es) (hi : i ≤ 1000) : ∀ e ∈ es.toList, ∃ l, keyOf Try.prog 73 e.key = some l := fun e he => by
  obtain ⟨m, q, hk, _, hd⟩ := h.2.1 e he
  unfold dnK at hd
  rw [hk]
  exact keyKi _ _ (by omega) (by omega)
/-- What is found behind a key. -/
theorem mp_look {W : World} {b : Nat} {ms : List Mo} {i j x : Nat} {q : Bool} (h : MpH W b ms i j) (hi : i ≤ 1000) (hx : x = 0 ∨ dnK i j x q) :
    (Instr.lookup 70 (.map (some b)) (kiV ((x : Int) + 1) q) false).run Try.prog W = .ok (.int .i64 (smD ms q x)) W := by
  obtain ⟨es, clock, hb, hE⟩ := h
  have hx1 : x ≤ 1001 := by unfold dnK at hx; omega
  obtain ⟨l, hkey⟩ := keyKi ((x : Int) + 1) q (by omega) (by omega)
  rcases lawKi.find W hkey es.toList (hE.keys hi) with ⟨h1, h2⟩ | ⟨n, e0, h1, h2, h3⟩
  · have hx0 : x = 0 := by
      rcases hx with h | h
      · exact h
      · obtain ⟨e, he, hk⟩ := hE.2.2 x q h
        exact absurd hk (h2 e he)
    rw [show smD ms q x = 0 by rw [hx0]; rfl]
    clear hx0 hx hx1
    simp [Instr.lookup, run_underlying Try.underlying70, MapKept.run_getObj_map hb, lawKi.check W _ hkey, h1, Result.andThen]
  · obtain ⟨m, q', hk, hv, hd⟩ := hE.2.1 e0 (List.mem_of_getElem? h2)
    obtain ⟨a1, a2⟩ := kiV_inj (hk.symm.trans h3)
    have : m = x := by omega
    subst this a2
    simp [Instr.lookup, run_underlying Try.underlying70, MapKept.run_getObj_map hb, lawKi.check W _ hkey, h1, hv, Result.andThen]
/-- A key that is not there is put in. -/
theorem mp_put {W : World} {b : Nat} {ms : List Mo} {i j i' j' : Nat} {q : Bool} (h : MpH W b ms i j) (hi : i ≤ 1000) (hq : (q = false ∧ j = 0 ∧ i' = i ∧ j' = 1) ∨ (q = true ∧ j = 1 ∧ i' = i + 1 ∧ j' = 0)) :
    ∃ W', (Instr.mapUpdate 70 (.map (some b)) (kiV ((i : Int) + 1 + 1) q) (.int .i64 (smD ms q (i + 1)))).run Try.prog W = .ok () W' ∧ MpH W' b ms i' j' ∧ W.grownBy W' (some b) := by
  obtain ⟨es, clock, hb, hE⟩ := h
  obtain ⟨l, hkey⟩ := keyKi ((i : Int) + 1 + 1) q (by omega) (by omega)
  have hno : ∀ e ∈ es.toList, e.key ≠ kiV ((i : Int) + 1 + 1) q := by
    intro e he hc
    obtain ⟨m, q', hk, _, hd⟩ := hE.2.1 e he
    obtain ⟨a1, a2⟩ := kiV_inj (hk.symm.trans hc)
    unfold dnK at hd
    subst a2
    rcases hq with ⟨rfl, rfl, _, _⟩ | ⟨rfl, rfl, _, _⟩
    · omega
    · rcases hd.2 with h | ⟨_, h, _⟩
      · omega
      · cases h
  rcases lawKi.find W hkey es.toList (hE.keys hi) with ⟨h1, _⟩ | ⟨n, e0, _, h2, h3⟩
  · refine ⟨setBlock W b (.map (es.push ⟨kiV ((i : Int) + 1 + 1) q, .int .i64 (smD ms q (i + 1)), clock⟩) (clock + 1)), ?_, ⟨_, _, heap_setBlock_same hb _, ?_⟩, ⟨rfl, rfl, rfl, by simp [setBlock], fun k _ hk => heap_setBlock_other hb _ (fun e => hk (by rw [e]))⟩⟩
    · simp [Instr.mapUpdate, run_underlying Try.underlying70, MapKept.run_getObj_map hb, lawKi.check W false hkey, h1, MapKept.run_setObj_map _ hb, Result.andThen, setBlock]
    · refine ⟨?_, fun e he => ?_, fun m q' hd => ?_⟩
      · have := hE.1
        rw [Array.size_push]
        omega
      · rw [Array.toList_push, List.mem_append, List.mem_singleton] at he
        rcases he with he | rfl
        · obtain ⟨m, q', hk, hv, hd⟩ := hE.2.1 e he
          refine ⟨m, q', hk, hv, ?_⟩
          unfold dnK at hd ⊢
          rcases hq with ⟨rfl, rfl, rfl, rfl⟩ | ⟨rfl, rfl, rfl, rfl⟩
          · omega
          · omega
        · refine ⟨i + 1, q, by push_cast; rfl, rfl, ?_⟩
          unfold dnK
          rcases hq with ⟨rfl, rfl, rfl, rfl⟩ | ⟨rfl, rfl, rfl, rfl⟩
          · exact ⟨by omega, .inr ⟨rfl, rfl, by omega⟩⟩
          · exact ⟨by omega, .inl (by omega)⟩
      · by_cases hnew : m = i + 1 ∧ q' = q
        · obtain ⟨rfl, rfl⟩ := hnew
          exact ⟨_, by rw [Array.toList_push, List.mem_append, List.mem_singleton]; exact .inr rfl, by push_cast; rfl⟩
        · obtain ⟨e, he, hk⟩ := hE.2.2 m q' (by
            unfold dnK at hd ⊢
            rcases hq with ⟨rfl, rfl, rfl, rfl⟩ | ⟨rfl, rfl, rfl, rfl⟩
            · refine ⟨hd.1, ?_⟩
              rcases hd.2 with h | ⟨h1, h2, _⟩
              · exact .inl h
              · exact absurd ⟨h1, h2⟩ hnew
            · refine ⟨hd.1, ?_⟩
              rcases hd.2 with h | ⟨_, _, h⟩
              · by_cases hm : m ≤ i
                · exact .inl hm
                · refine .inr ⟨by omega, ?_, by omega⟩
                  cases q'
                  · rfl
                  · exact absurd ⟨by omega, rfl⟩ hnew
              · omega)
          exact ⟨e, by rw [Array.toList_push, List.mem_append]; exact .inl he, hk⟩
  · exact absurd h3 (hno e0 (List.mem_of_getElem? h2))
end Go.Proofs.Ytbkhejideffflaa
