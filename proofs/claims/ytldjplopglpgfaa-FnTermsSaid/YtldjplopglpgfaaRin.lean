/-
  A region that draws its order, in a round of a loop over an iterator: all operations but the last few only read.
-/
import Derived.Test.YtldjplopglpgfaaRf
import Derived.StillTailTactics
import Derived.OwnWalkIn
namespace Go.Proofs.Ytldjplopglpgfaa
open Go.RowKit

/-- The region ends, and then R holds. -/
def nrm (R : Act → World → Prop) : Exit → Act → World → Prop
  | .normal, a, w => R a w
  | _, _, _ => False
theorem nrm_out (R : Act → World → Prop) : ¬ LetsOut (nrm R) := fun h => by
  simp [LetsOut, nrm] at h
theorem wpOp_in {l n i : Nat} {P : Program} {ops : Array Oper} {R : Act → World → Prop} {K K' : Act → World → Prop} {a : Act} {w : World} (hnd : ∀ (i : Nat) (o : Oper), ops[i]? = some o → ∀ c, o.op ≠ .defer c) (hK : ∀ a w, K a w → K' a w)
    (h : wpOp P ops (nrm R) i K a w) : wpOpIn (Fence.wide.inRound l) n P ops (nrm R) i K' a w := by
  unfold wpOp at h
  unfold wpOpIn
  cases ho : ops[i]? with
  | none => rw [ho] at h; exact hK _ _ h
  | some o =>
    rw [ho] at h
    dsimp only at h ⊢
    by_cases hw : Region.wanted o (yielded ops a.tmps) = true
    · rw [if_pos hw] at h ⊢
      rcases h with h | ⟨_, h⟩
      · refine ⟨fun _ _ => trivial, ?_⟩
        rw [Oper.semAt_plain (Fence.wide.inRound l) _ _ (hnd i o ho)]
        unfold Oper.wp at h
        generalize (execOp a.eval o).run P w = r at h ⊢
        cases r with
        | ok x w' =>
          cases x with
          | value v => exact hK _ _ h
          | skip => exact hK _ _ h
          | defer d => exact hK _ _ h
          | enter f args =>
            refine ⟨(fun h => by cases h), CallsIn.inRound l ((callsIn_wide.2 h).mono ?_)⟩
            intro e w2 he
            cases e with
            | returned v => exact hK _ _ he
            | panicked c => exact he
            | outgrown => exact he
          | row s args =>
            refine ⟨(fun h => by cases h), ?_⟩
            intro c cs _
            obtain ⟨v, w2, g1, g2⟩ := h c cs
            exact ⟨v, w2, hK _ _ g1, stepsIn_wide.2 g2⟩
          | _ => exact h.elim
        | halt x w' =>
          cases x with
          | panic v => exact h
          | _ => exact h.elim
      · exact absurd h (nrm_out R)
    · rw [if_neg hw] at h ⊢
      exact ⟨fun _ _ => trivial, hK _ _ h⟩
theorem wpAny_in {l n : Nat} {P : Program} {md : Region.Mode} {ops : Array Oper} {R : Act → World → Prop} (hnd : ∀ (i : Nat) (o : Oper), ops[i]? = some o → ∀ c, o.op ≠ .defer c) : ∀ (fuel : Nat) (listed : Array Bool) (a : Act) (w : World), wpAny P md ops (nrm R) fuel listed a w → wpAnyIn (Fence.wide.inRound l) n P md ops (nrm R) fuel listed a w
  | 0, _, _, _, h => h
  | fuel + 1, _, _, _, h => ⟨h.1, fun i hi => wpOp_in hnd (fun a w hk => wpAny_in hnd fuel _ a w hk) (h.2 i hi)⟩
def noDefer (ls : List Oper) : Bool := ls.all fun o => match o.op with | .defer _ => false | _ => true
theorem noDefer_spec {ls : List Oper} (h : noDefer ls = true) : ∀ (i : Nat) (o : Oper), ls.toArray[i]? = some o → ∀ c, o.op ≠ .defer c := by
  intro i o hi c hc
  have := List.all_eq_true.1 h o (by simpa using Array.mem_of_getElem? hi)
  rw [hc] at this
  cases this
/-- The region, in a round, out of its walk anywhere. -/
theorem region_in {l n m id : Nat} {P : Program} {ls : List Oper} {R : Act → World → Prop} {Q : Exit → Act → World → Prop} {a : Act} {w : World} (hnd : noDefer ls = true) (hm : P.follows .mixedOrders = true) (hB : Region.lexTailB .any ls.toArray m = true) (hQ : ∀ a w, R a w → Q .normal a w)
    (h : wpStill P ls.toArray { w with drawn := w.drawn + 1 } (fun a' => wpList P ls.toArray (nrm R) (ls.drop m) a' { w with drawn := w.drawn + 1 }) (ls.take m) a) : (Code.region id ls.toArray true).wpIn (Fence.wide.inRound l) n P Q a w := by
  refine wpIn_mono (Q := nrm R) (wpIn_region_any hm (wpAny_in (noDefer_spec hnd) _ _ _ _ ?_)) (fun e a w hr => ?_)
  · simp only [Region.lexTailB, Bool.and_eq_true, decide_eq_true_eq] at hB
    obtain ⟨⟨⟨⟨hsel, hn⟩, hs⟩, hc⟩, hlex⟩ := hB
    have tl : (ls.take m).length = m := by have : m < ls.length := by simpa using hn
                                           simp; omega
    have dl : (ls.drop m).length = ls.toArray.size - m := by simp
    have hd := wpAnyL_lex (md := .any) (g := ls.toArray.size - m) hsel hs hc hn (ls.take m) 0 (Array.replicate ls.toArray.size false) a (fun j hj => by
      have : j < m := by rw [tl] at hj; exact hj
      simp [this]) (by simpa using tl) ⟨by simp, fun j oj _ hl => (by rw [getD_replicate_false] at hl; cases hl), fun t _ ht => getD_in (by simpa using ht) (getD_replicate_false _ _)⟩ (by rw [tl]; exact hlex) h
    have := wpAny_of_head (Q' := nrm R) (g := ls.toArray.size - m) (fun listed a' hL => by
      have := wpAny_of_seq (md := .any) (Q' := nrm R) (ls.drop m) m listed a' { w with drawn := w.drawn + 1 } (fun j => by simp [List.getElem?_drop]) (by rw [dl]; exact hL.1) hL.2
      rwa [dl] at this) _ _ _ hd
    have hm' : m < ls.toArray.size := hn
    rwa [tl, show m + (ls.toArray.size - m) = ls.toArray.size by omega] at this
  · cases e with
    | normal => exact hQ a w hr
    | _ => exact hr.elim
end Go.Proofs.Ytldjplopglpgfaa
