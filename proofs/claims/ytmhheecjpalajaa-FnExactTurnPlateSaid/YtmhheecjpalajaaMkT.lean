/-
  The contracts of laws.markText, laws.eqStringS, laws.markStringS, laws.heldStringS.
-/
import Derived.Test.YtmhheecjpalajaaDec
import Derived.Test.YtmhheecjpalajaaSplit
import Derived.Test.YtmhheecjpalajaaRat
import Derived.Laws.OwnMore
import Derived.Deep.QuietTactic
import Derived.BigQuiet
namespace Go.Proofs.Ytmhheecjpalajaa
open Go.RowKit

/-- The text of a mark. -/
def mkT (k : Nat) : ByteArray := ⟨(109 :: dl k).toArray⟩
theorem cat_digit (c : UInt8) (ds : List UInt8) : ((⟨#[c]⟩ : ByteArray) ++ ⟨ds.toArray⟩) = ⟨(c :: ds).toArray⟩ := by
  apply ByteArray.ext
  simp [ByteArray.data_append]
theorem strAdd2 (a b : ByteArray) (h1 : a.size ≤ 1000) (h2 : b.size ≤ 1000) : Op.stringOp .add a b = pure (.string (a ++ b)) := by
  have h : ¬ (((a.size + b.size : Nat) : Int) > IntKind.i64.max) := by simp [IntKind.max, IntKind.signed, IntKind.bits]; omega
  simp only [Op.stringOp]
  rw [if_neg h]
def MtRel (n : Nat) (kv ov : Value) (w wr : World) : Prop := ∃ (k : Nat) (ds : List UInt8), kv = .int .i64 k ∧ ov = .string ⟨ds.toArray⟩ ∧ k ≤ n ∧ dl k ++ ds = dl n ∧ Below w.heap.size w wr
theorem mt_len {n k : Nat} {ds : List UInt8} (hn : n ≤ 1000000000000) (h : dl k ++ ds = dl n) : ds.length ≤ 20 := by
  have := congrArg List.length h
  have h3 := dl_len 20 n (by omega)
  simp at this; omega
theorem arr_size (ds : List UInt8) : (⟨ds.toArray⟩ : ByteArray).size = ds.length := by simp [ByteArray.size]
theorem mt_conv (wr : World) (c : UInt8) (x : Int) (hc : by8 c = .int .u8 x) :
    (convert 115 9 (.slice (some ⟨wr.heap.size, 0, none⟩) 1 1)).run Try.prog (wr.alloc (.cells #[.int .u8 x] 5)) = .ok (.string ⟨#[c]⟩) (wr.alloc (.cells #[.int .u8 x] 5)) := by
  have := run_convert_bytes_arg (P := Try.prog) (wr.alloc (.cells #[.int .u8 x] 5)) 115 5 Try.underlying115 Try.underlying5 wr.heap.size 0 1 1 ([c].map fun c : UInt8 => (c.toNat : Int)) rfl (fun i hi => by
    obtain rfl : i = 0 := by simp at hi; omega
    have e : by8 c = .int .u8 ((c.toNat : Nat) : Int) := rfl
    rw [← hc, e]
    simp [go_sem]) 9 Try.underlying9
  rw [dec_str] at this
  exact this
theorem cat_size2 (a b : ByteArray) : (a ++ b).size = a.size + b.size := by simp
set_option maxRecDepth 100000 in
set_option maxHeartbeats 2000000 in
theorem markText_any (n : Nat) (w : World) (h1 : 1 ≤ n) (h2 : n ≤ 1000000000000) :
    Calls Try.prog 53 #[.int .i64 (n : Int)] w fun e w' => e = .returned (.string (mkT n)) ∧ Below w.heap.size w w' := by
  have RS := Lib.hid (show MtRel n (.int .i64 (n : Int)) (.string ⟨#[]⟩) w w from ⟨n, [], rfl, rfl, by omega, by simp, bR w⟩)
  go_enter Try.func53, Try.ntmps53
  go_wp2_with fail
  go_loopw [0, 3] (fun kv ov wr => MtRel n kv ov w wr) (fun kv _ _ => (intOf kv).toNat)
  case atStart => exact RS.out
  case round =>
    obtain ⟨k, ds, rfl, rfl, hk, hds, hb⟩ := hrel
    have HD := Lib.hid hds
    have hlen := mt_len h2 hds
    clear hds
    by_cases hz : k = 0
    · subst hz
      have HT := Lib.hid (show (⟨#[109]⟩ : ByteArray) ++ ⟨ds.toArray⟩ = mkT n by rw [cat_digit]; unfold mkT; rw [← HD.out, dl_zero, List.nil_append])
      have q1 := strAdd2 ⟨#[109]⟩ ⟨ds.toArray⟩ (by decide) (by rw [arr_size]; omega)
      go_wp2_with fail
      go_ret
      exact ⟨ret_str0 HT.out, hb⟩
    · have hm0 : 0 ≤ (k : Int) % 10 := by omega
      have hm1 : (k : Int) % 10 ≤ 9 := by omega
      have hkp : (0 : Int) < (k : Int) := by omega
      have hcv := mt_conv wr (UInt8.ofNat (48 + k % 10)) (48 + (k : Int) % 10) (by8_digit (by omega))
      have q1 := strAdd2 ⟨#[UInt8.ofNat (48 + k % 10)]⟩ ⟨ds.toArray⟩ (by show 1 ≤ 1000; omega) (by rw [arr_size]; omega)
      have HN := Lib.hid (show MtRel n (.int .i64 ((k : Int) / 10)) (.string (⟨#[UInt8.ofNat (48 + k % 10)]⟩ ++ ⟨ds.toArray⟩)) w (wr.alloc (.cells #[.int .u8 (48 + (k : Int) % 10)] 5)) from
        ⟨k / 10, UInt8.ofNat (48 + k % 10) :: ds, by rw [Int.natCast_ediv]; rfl, by rw [cat_digit], by omega, by rw [← HD.out, dl_pos hz]; simp, bA hb _⟩)
      clear hb
      generalize UInt8.ofNat (48 + k % 10) = c at *
      go_wp2_with fail
      go_roundw
      case rel => exact HN.out
      case measure => simp [intOf]; omega
end Go.Proofs.Ytmhheecjpalajaa
