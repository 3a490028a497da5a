/-
  Rates at a temperature; the other temperature: both sides.
-/
import Derived.Test.YtclefibjmnabbaaRaS
namespace Go.Proofs.Ytclefibjmnabbaa
open Go.RowKit

theorem ret_two {a b c d : Int} (h : a = b) (h' : c = d) : Ending.returned (.tuple #[.int .i64 a, .int .i64 c]) = .returned (.tuple #[.int .i64 b, .int .i64 d]) := by rw [h, h']
/-- The temperature on the other side, and the code. -/
def otO (l c m t : Int) : Int := 2 * m - l.tdiv c - t
def otE (b l c m t : Int) : Int × Int := if okRt b l c m = true then (if inB t (-400) 600 = true then (if c = 0 then (0, 6) else (if l.tmod c = 0 then (if inB (otO l c m t) (-400) 600 = true then (otO l c m t, 0) else (0, 3)) else (0, 3))) else (0, 2)) else (0, 1)
theorem otE_1 {b l c m t : Int} (h : okRt b l c m = false) : otE b l c m t = (0, 1) := by simp [otE, h]
theorem otE_2 {b l c m t : Int} (h : okRt b l c m = true) (h2 : inB t (-400) 600 = false) : otE b l c m t = (0, 2) := by simp [otE, h, h2]
theorem otE_6 {b l m t : Int} (h : okRt b l 0 m = true) (h2 : inB t (-400) 600 = true) : otE b l 0 m t = (0, 6) := by simp [otE, h, h2]
theorem otE_3 {b l c m t : Int} (h : okRt b l c m = true) (h2 : inB t (-400) 600 = true) (h3 : c ≠ 0) (h4 : ¬ l.tmod c = 0) : otE b l c m t = (0, 3) := by simp [otE, h, h2, h3, h4]
theorem otE_4 {b l c m t : Int} (h : okRt b l c m = true) (h2 : inB t (-400) 600 = true) (h3 : c ≠ 0) (h4 : l.tmod c = 0) (h5 : inB (otO l c m t) (-400) 600 = false) : otE b l c m t = (0, 3) := by simp [otE, h, h2, h3, h4, h5]
theorem otE_0 {b l c m t : Int} (h : okRt b l c m = true) (h2 : inB t (-400) 600 = true) (h3 : c ≠ 0) (h4 : l.tmod c = 0) (h5 : inB (otO l c m t) (-400) 600 = true) : otE b l c m t = (otO l c m t, 0) := by simp [otE, h, h2, h3, h4, h5]
theorem tdiv_bd {l c : Int} (h : -10000 ≤ l ∧ l ≤ 10000) (_hc : c ≠ 0) : -10000 ≤ l.tdiv c ∧ l.tdiv c ≤ 10000 := by
  have h1 := Int.natAbs_tdiv_le_natAbs l c
  omega
end Go.Proofs.Ytclefibjmnabbaa
