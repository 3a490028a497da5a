/-
  Walks of the laws over lists of readings: the conversions.
-/
import Derived.Test.YtgdnojdleoongaaRgO
import Derived.Test.YtgdnojdleoongaaRgQ
import Derived.Test.YtgdnojdleoongaaRgS
namespace Go.Proofs.Ytgdnojdleoongaa
open Go.RowKit

theorem toRd_ex (a : Option Addr) (len cap : Nat) (ps : List (Int × Int)) (w : World) (h : IsPR w a len cap ps) (hlen : len ≤ 1048576) :
    Calls Try.prog 13 #[.slice a len cap] w fun en w' => ∃ v, en = .returned v ∧ SlB w' v ps ∧ Below w.heap.size w w' :=
  (toReadingS_any a len cap ps w h hlen).mono fun _ _ ⟨he, hr, hb⟩ => ⟨_, he, slB_of hr, hb⟩
theorem toRd_own (a : Option Addr) (len cap : Nat) (ps : List (Int × Int)) (w : World) (h : IsPR w a len cap ps) (hlen : len ≤ 1048576) :
    Calls Try.prog 13 #[.slice a len cap] w fun en w' => ∃ v, en = .returned v ∧ w'.ownsRow w.heap.size 51 2 v ps.length (pairC ps) ∧ Below w.heap.size w w' :=
  (toReadingS_any a len cap ps w h hlen).mono fun _ _ ⟨he, hr, hb⟩ => ⟨_, he, hr, hb⟩
end Go.Proofs.Ytgdnojdleoongaa
