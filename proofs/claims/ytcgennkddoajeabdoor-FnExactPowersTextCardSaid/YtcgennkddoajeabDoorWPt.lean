/-
  The walk of laws.FnExactPowersText.
-/
import Derived.Test.YtcgennkddoajeabDoorPtS
import Derived.Test.YtcgennkddoajeabDoorPtI
namespace Go.Proofs.YtcgennkddoajeabDoor
open Go.RowKit

set_option maxHeartbeats 4000000 in
theorem FnExactPowersText_walk (n : Int) (w : World) (h : Pow10 w) (hn : -9223372036854775808 ≤ n ∧ n ≤ 9223372036854775807) :
    Calls Tryd.prog 3 #[.int .i64 n] w fun e w' => e = .returned (.bool true) ∧ Below w.heap.size w w' := by
  obtain ⟨h1, h2⟩ := hn
  have HT := Lib.hid h
  clear h
  generalize hx : ptB n = x
  have HX := Lib.hid hx
  clear hx
  go_enter Tryd.func3, Tryd.ntmps3
  go_wp2_with fail
  refine (PowersTextS_any n _).mono ?_
  rintro e w1 ⟨rfl, hb1⟩
  rw [HX.out]
  go_wp2_with fail
  refine (PowersTextI_any n _ (Pow10.keep hb1 HT.out)).mono ?_
  rintro e w2 ⟨rfl, hb2⟩
  rw [HX.out]
  go_wp2_with fail
  go_ret
  exact ⟨rfl, bT hb1 hb2⟩
end Go.Proofs.YtcgennkddoajeabDoor
