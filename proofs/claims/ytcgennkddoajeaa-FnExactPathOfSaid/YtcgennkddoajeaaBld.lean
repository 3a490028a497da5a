/-
  The contracts of (*strings.Builder).copyCheck, WriteString, strings.Join at this dump, at a Builder that a call has made itself.
-/
import Derived.Test.YtcgennkddoajeaaNum
import Derived.Test.YtcgennkddoajeaaRat
import Derived.Test.YtcgennkddoajeaaShelf
import Derived.Lib.Builder
import Derived.Lib.AppendStr
import Derived.OwnWalk
namespace Go.Proofs.Ytcgennkddoajeaa
open Go.RowKit

theorem infoBld : (Try.prog.info? 89).map (fun i => i.size) = some 2 := by kernel_rfl
theorem infoU8 : (Try.prog.info? 5).map (fun i => (i.zero, i.size, i.bytes)) = some (some (.int .u8 0), 1, 1) := by kernel_rfl
theorem bld_ne : (89 : TypeId) ≠ 5 := by decide
/-- A used Builder at block b that holds these cells. -/
abbrev UB (B b : Nat) (bs : List Value) (w : World) : Prop := Lib.BuilderAt 89 5 B b (.pointer (some ⟨b, 0, none⟩)) bs w
set_option maxRecDepth 100000 in
set_option maxHeartbeats 1000000 in
theorem copyCheck_used (b : Nat) (w : World) (h0 : w.cell? ⟨b, 0, none⟩ = some (.pointer (some ⟨b, 0, none⟩))) :
    Calls Try.prog 91 #[.pointer (some ⟨b, 0, none⟩)] w fun e w' => e = .returned (.tuple #[]) ∧ w = w' := by
  obtain ⟨j, hj, _⟩ := Option.map_eq_some_iff.1 infoBld
  go_enter Try.func91, Try.ntmps91
  go_wp2_with fail
  rw [Lib.run_neq_ptr_same w _ Try.underlying87 hj]
  go_wp2_with fail
  go_end0
  exact ⟨rfl, rfl⟩
def WrPost (B b : Nat) (bs : List Value) (w : World) (n : Nat) (e : Ending) (w' : World) : Prop := e = .returned (.tuple #[.int .i64 n, .nilIface]) ∧ UB B b bs w' ∧ Below B w w'
end Go.Proofs.Ytcgennkddoajeaa
