/-
  Draws: spec.l00Src.one, and lists of numbers.
-/
import Derived.Test.YtffggloampjjdaaDraw2
namespace Go.Proofs.Ytffggloampjjdaa
open Go.RowKit

def OneQ (w : World) (p : Nat) (a : Option Addr) (len cap c : Nat) (e : Ending) (w' : World) : Prop := ∃ b : Bool, e = .returned (.bool b) ∧ SrcAt w' p a len cap (c + 2) ∧ w.grownBy w' (some p)
theorem oneQ_any (w : World) (p : Nat) (a : Option Addr) (len cap c : Nat) (n : Int) (h : SrcAt w p a len cap c) (hc : c ≤ 900000) (h1 : 1 ≤ n) (h2 : n ≤ 1000000) :
    Calls Try.prog 53 #[.pointer (some ⟨p, 0, none⟩), .int .i64 n] w (OneQ w p a len cap c) := by
  go_enter Try.func53, Try.ntmps53
  go_wp2_with fail
  refine (pick_any _ p a len cap c n h (by omega) h1 h2).mono ?_
  rintro e w1 ⟨x, x0, x1, rfl, s1, g1⟩
  go_wp2_with fail
  go_ret
  exact ⟨_, rfl, s1, g1⟩
end Go.Proofs.Ytffggloampjjdaa
