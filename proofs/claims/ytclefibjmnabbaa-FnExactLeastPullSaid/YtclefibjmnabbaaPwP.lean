/-
  The conversion of a list of pairs, by what is read of its result, and by what is owned.
-/
import Derived.Test.YtclefibjmnabbaaEqP
namespace Go.Proofs.Ytclefibjmnabbaa
open Go.RowKit

theorem toPr_ex (a : Option Addr) (len cap : Nat) (ps : List (Int × Int)) (w : World) (h : IsPR w a len cap ps) (hlen : len ≤ 1048576) :
    Calls Try.prog 11 #[.slice a len cap] w fun en w' => ∃ v, en = .returned v ∧ SlP w' v ps ∧ Below w.heap.size w w' :=
  (toPairS_any a len cap ps w h hlen).mono fun _ _ ⟨he, hr, hb⟩ => ⟨_, he, slP_of hr, hb⟩
theorem toPr_own (a : Option Addr) (len cap : Nat) (ps : List (Int × Int)) (w : World) (h : IsPR w a len cap ps) (hlen : len ≤ 1048576) :
    Calls Try.prog 11 #[.slice a len cap] w fun en w' => ∃ v, en = .returned v ∧ w'.ownsRow w.heap.size 67 2 v ps.length (pairC ps) ∧ Below w.heap.size w w' :=
  (toPairS_any a len cap ps w h hlen).mono fun _ _ ⟨he, hr, hb⟩ => ⟨_, he, hr, hb⟩
end Go.Proofs.Ytclefibjmnabbaa
