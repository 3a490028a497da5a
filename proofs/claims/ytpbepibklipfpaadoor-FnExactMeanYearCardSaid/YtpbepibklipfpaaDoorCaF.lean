/-
  The document's side: IsLeapYear, DaysInMonth, DaysInYear, CycleOf, l16Before, LastDay.
-/
import Derived.Test.YtpbepibklipfpaaDoorCaD
namespace Go.Proofs.YtpbepibklipfpaaDoor
open Go.RowKit

/-- A year in a calendar: leap, or not. -/
def ilE (c : Cal) (y : Int) : Bool := okC c && (inB y 0 9999 && lpY c.rs y)
theorem ilE_1 {c : Cal} {y : Int} (h : okC c = false) : ilE c y = false := by simp [ilE, h]
theorem ilE_2 {c : Cal} {y : Int} (h : inB y 0 9999 = false) : ilE c y = false := by simp [ilE, h]
theorem ilE_3 {c : Cal} {y : Int} (h : okC c = true) (h2 : inB y 0 9999 = true) : ilE c y = lpY c.rs y := by simp [ilE, h, h2]
/-- The days of a month, and a code; of a year; the cycle; the last day. -/
def dmE (c : Cal) (y m : Int) : Int × Int := if okC c then (if inB y 0 9999 && inB m 1 (c.ms.length : Int) then (dyM (moAt c.ms (m - 1).toNat) (lpY c.rs y), 0) else (0, 2)) else (0, 1)
theorem dmE_1 {c : Cal} {y m : Int} (h : okC c = false) : dmE c y m = (0, 1) := by simp [dmE, h]
theorem dmE_2 {c : Cal} {y m : Int} (h : okC c = true) (h2 : inB y 0 9999 = false) : dmE c y m = (0, 2) := by simp [dmE, h, h2]
theorem dmE_3 {c : Cal} {y m : Int} (h : okC c = true) (h2 : inB m 1 (c.ms.length : Int) = false) : dmE c y m = (0, 2) := by simp [dmE, h, h2]
theorem dmE_0 {c : Cal} {y m : Int} (h : okC c = true) (h2 : inB y 0 9999 = true) (h3 : inB m 1 (c.ms.length : Int) = true) : dmE c y m = (dyM (moAt c.ms (m - 1).toNat) (lpY c.rs y), 0) := by simp [dmE, h, h2, h3]
def diE (c : Cal) (y : Int) : Int × Int := if okC c then (if inB y 0 9999 then (dyY c.ms c.rs y, 0) else (0, 2)) else (0, 1)
theorem diE_1 {c : Cal} {y : Int} (h : okC c = false) : diE c y = (0, 1) := by simp [diE, h]
theorem diE_2 {c : Cal} {y : Int} (h : okC c = true) (h2 : inB y 0 9999 = false) : diE c y = (0, 2) := by simp [diE, h, h2]
theorem diE_0 {c : Cal} {y : Int} (h : okC c = true) (h2 : inB y 0 9999 = true) : diE c y = (dyY c.ms c.rs y, 0) := by simp [diE, h, h2]
def cyA (c : Cal) : Int := cyK c.ms c.rs (lcA c.rs).toNat
def coE (c : Cal) : Int × Int × Int := if okC c then (lcA c.rs, cyA c, 0) else (0, 0, 1)
theorem coE_1 {c : Cal} (h : okC c = false) : coE c = (0, 0, 1) := by simp [coE, h]
theorem coE_0 {c : Cal} (h : okC c = true) : coE c = (lcA c.rs, cyA c, 0) := by simp [coE, h]
def ldE (c : Cal) : Int × Int := if okC c then (cyK c.ms c.rs 10000 - 1, 0) else (0, 1)
theorem ldE_1 {c : Cal} (h : okC c = false) : ldE c = (0, 1) := by simp [ldE, h]
theorem ldE_0 {c : Cal} (h : okC c = true) : ldE c = (cyK c.ms c.rs 10000 - 1, 0) := by simp [ldE, h]
def ThreeN3 (a b d : Int) (w : World) (e : Ending) (w' : World) : Prop := e = .returned (.tuple #[.int .i64 a, .int .i64 b, .int .i64 d]) ∧ Below w.heap.size w w'

end Go.Proofs.YtpbepibklipfpaaDoor
