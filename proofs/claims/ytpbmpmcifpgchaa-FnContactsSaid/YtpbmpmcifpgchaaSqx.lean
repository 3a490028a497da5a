/-
  Squares of 128 bits: impl.square.minus, exceeds, at numbers below 2^63.
-/
import Derived.Test.YtpbmpmcifpgchaaSqu
namespace Go.Proofs.Ytpbmpmcifpgchaa
open Go.RowKit

/-- The model's entry of math/bits.Sub64. -/
def subEntry : Array Value → Sem Value := fun args => do
  let (x, y, b) ← Extern.MathBitsCarry.three "Sub64" args
  pure (Extern.MathBitsCarry.pair ((x + Extern.MathBitsCarry.m64 - y - b) % Extern.MathBitsCarry.m64) (if x < y + b then 1 else 0))
theorem sub64_low (a b : Int) (w : World) (h1 : 0 ≤ b) (h2 : b ≤ a) (h3 : a ≤ 9223372036854775807) :
    (callFunc 96 #[.int .u64 a, .int .u64 b, .int .u64 0]).run Try.prog w = .ok (.value (.tuple #[.int .u64 (a - b), .int .u64 0])) w := by
  rw [run_callFunc_extern Try.func96 (by kernel_rfl) (by kernel_rfl) (by kernel_rfl) (e := subEntry) (by kernel_rfl)]
  obtain ⟨x, rfl⟩ := Int.eq_ofNat_of_zero_le (show 0 ≤ a by omega)
  obtain ⟨y, rfl⟩ := Int.eq_ofNat_of_zero_le h1
  have key : (subEntry #[.int .u64 (x : Int), .int .u64 (y : Int), .int .u64 0]).run Try.prog w =
      .ok (Extern.MathBitsCarry.pair ((x + Extern.MathBitsCarry.m64 - y - 0) % Extern.MathBitsCarry.m64) (if x < y + 0 then 1 else 0)) w := rfl
  rw [key]
  simp only [Extern.MathBitsCarry.pair, Extern.MathBitsCarry.m64]
  have e1 : (x + 2 ^ 64 - y - 0) % 2 ^ 64 = x - y := by omega
  have e2 : ¬ x < y + 0 := by omega
  rw [e1, if_neg e2]
  have e3 : Int.ofNat (x - y) = (x : Int) - (y : Int) := by simp; omega
  rw [e3]
  rfl
theorem sub64_borrow (w : World) :
    (callFunc 96 #[.int .u64 0, .int .u64 0, .int .u64 0]).run Try.prog w = .ok (.value (.tuple #[.int .u64 0, .int .u64 0])) w := sub64_low 0 0 w (by omega) (by omega) (by omega)
set_option maxRecDepth 100000 in
set_option maxHeartbeats 400000 in
theorem minusQ_any (a b : Int) (w : World) (h1 : 0 ≤ b) (h2 : b ≤ a) (h3 : a ≤ 9223372036854775807) :
    Calls Try.prog 92 #[.agg #[.int .u64 0, .int .u64 a], .agg #[.int .u64 0, .int .u64 b]] w (SqIn (a - b) w) := by
  have M := Lib.hid (fun W => sub64_low a b W h1 h2 h3)
  clear h1 h2 h3
  go_enter Try.func92, Try.ntmps92
  go_wp2_with fail
  rw [M.out]
  go_wp2_with fail
  rw [sub64_borrow]
  go_wp2_with fail
  exact bodyPost_ret (v := .agg #[.int .u64 0, .int .u64 (a - b)]) (by simp [results, Try.results92, go_sem]) rfl ⟨rfl, bA (bA (bA (bR _) _) _) _⟩
set_option maxHeartbeats 400000 in
theorem exceeds_any (a b : Int) (w : World) :
    Calls Try.prog 75 #[.agg #[.int .u64 0, .int .u64 a], .agg #[.int .u64 0, .int .u64 b]] w (BoolBel (decide (b < a)) w) := by
  go_enter Try.func75, Try.ntmps75
  go_wp2_with fail
  go_ret
  exact ⟨ret_bool (by simp), bA (bA (bR _) _) _⟩
end Go.Proofs.Ytpbmpmcifpgchaa
