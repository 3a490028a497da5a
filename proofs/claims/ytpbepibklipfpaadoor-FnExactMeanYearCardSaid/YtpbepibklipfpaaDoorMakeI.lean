/-
  The contracts of impl.Ratio.negated, impl.lowestTerms, impl.ratioCode, impl.MakeRatio, in a world in which the two sentinels of package impl are laid.
-/
import Derived.Test.YtpbepibklipfpaaDoorMake2
import Derived.Test.YtpbepibklipfpaaDoorIs
import Derived.Test.YtpbepibklipfpaaDoorAr1
import Derived.RegionTactic
import Derived.ChangeAlike
namespace Go.Proofs.YtpbepibklipfpaaDoor
open Go.RowKit

/-- The two sentinels: each variable holds a pointer to an errors.errorString; the pointers differ. -/
structure Sent (w : World) (a0 a1 : Addr) : Prop where
  v0 : w.cell? ⟨0, 0, none⟩ = some (.iface 224 (.pointer (some a0)))
  v1 : w.cell? ⟨1, 0, none⟩ = some (.iface 224 (.pointer (some a1)))
  ne : a0 ≠ a1
  b0 : ∃ c t, w.heap[a0.block]? = some (.cells c t (0, 0))
  b1 : ∃ c t, w.heap[a1.block]? = some (.cells c t (0, 0))
  z0 : 0 < w.heap.size
  z1 : 1 < w.heap.size
theorem Sent.keep {w w' : World} {a0 a1 : Addr} (h : Sent w a0 a1) (hb : Below w.heap.size w w') : Sent w' a0 a1 := by
  have lt : ∀ {k : Nat} {o : Obj}, w.heap[k]? = some o → k < w.heap.size := fun e => (Array.getElem?_eq_some_iff.1 e).1
  obtain ⟨c0, t0, e0⟩ := h.b0
  obtain ⟨c1, t1, e1⟩ := h.b1
  exact ⟨(hb.cell h.z0).trans h.v0, (hb.cell h.z1).trans h.v1, h.ne, ⟨c0, t0, (hb.block _ (lt e0)).trans e0⟩, ⟨c1, t1, (hb.block _ (lt e1)).trans e1⟩, Nat.lt_of_lt_of_le h.z0 hb.size, Nat.lt_of_lt_of_le h.z1 hb.size⟩

set_option maxHeartbeats 400000 in
theorem low_zero (n : Int) (w : World) (a0 a1 : Addr) (hS : Sent w a0 a1) :
    Calls Tryd.prog 78 #[.int .i64 n, .int .i64 0] w fun e w' => e = .returned (.tuple #[.agg #[.int .i64 0, .int .i64 0], .iface 224 (.pointer (some a0))]) ∧ Below w.heap.size w w' := by
  have hv := hS.v0
  have hz := hS.z0
  clear hS
  go_enter Tryd.func78, Tryd.ntmps78
  go_wp2_with fail
  go_region
  go_wp2_with fail
  exact bodyPost_ret (v := .tuple #[.agg #[.int .i64 0, .int .i64 0], .iface 224 (.pointer (some a0))]) (by simp [results, Tryd.results78, go_sem]) rfl ⟨rfl, (bA (bR _) _).drew⟩

/-- The way of lowestTerms up to the division, d not 0. -/
theorem low_facts {n d : Int} (hd : d ≠ 0) (h1 : -9223372036854775808 ≤ n) (h2 : n ≤ 9223372036854775807) (h3 : -9223372036854775808 ≤ d) (h4 : d ≤ 9223372036854775807) :
    1 ≤ ((Int.gcd n d : Nat) : Int) ∧ 0 ≤ ((n.natAbs : Nat) : Int) / ((Int.gcd n d : Nat) : Int) ∧ ((n.natAbs : Nat) : Int) / ((Int.gcd n d : Nat) : Int) ≤ 9223372036854775808 ∧ 0 ≤ ((d.natAbs : Nat) : Int) / ((Int.gcd n d : Nat) : Int) ∧ ((d.natAbs : Nat) : Int) / ((Int.gcd n d : Nat) : Int) ≤ 9223372036854775808 := low_bd hd h1 h2 h3 h4

set_option maxHeartbeats 1000000 in
theorem low_no (n d : Int) (w : World) (a0 a1 : Addr) (hS : Sent w a0 a1) (hd : d ≠ 0) (h1 : -9223372036854775808 ≤ n) (h2 : n ≤ 9223372036854775807) (h3 : -9223372036854775808 ≤ d) (h4 : d ≤ 9223372036854775807) (hk : lowOk n d = false) :
    Calls Tryd.prog 78 #[.int .i64 n, .int .i64 d] w fun e w' => e = .returned (.tuple #[.agg #[.int .i64 0, .int .i64 0], .iface 224 (.pointer (some a1))]) ∧ Below w.heap.size w w' := by
  have hv := hS.v1
  have hz := hS.z1
  have hd0 : (d == 0) = false := by simpa using hd
  obtain ⟨g1, q1, q2, r1, r2⟩ := low_facts hd h1 h2 h3 h4
  have hk' : 1000000000 < ((n.natAbs : Nat) : Int) / ((Int.gcd n d : Nat) : Int) ∨ 1000000000 < ((d.natAbs : Nat) : Int) / ((Int.gcd n d : Nat) : Int) := lowOk_out hk
  have HG := Lib.hid (gcd_abs2 n d)
  clear hS hk
  have hg0 : (((Int.gcd n d : Nat) : Int) == 0) = false := by simp; omega
  go_enter Tryd.func78, Tryd.ntmps78
  go_wp2_with fail
  refine (magnitude_any _ _ (by omega) (by omega)).mono ?_
  rintro e w1 ⟨rfl, rfl⟩
  go_wp2_with fail
  refine (magnitude_any _ _ (by omega) (by omega)).mono ?_
  rintro e w1 ⟨rfl, rfl⟩
  go_wp2_with fail
  refine (commonDivisor_any _ _ _ (by omega) (by omega)).mono ?_
  rintro e w1 ⟨rfl, nd, rfl⟩
  rw [HG.out]
  go_wp2_with fail
  go_quiet (fail)
  by_cases c1 : 1000000000 < ((n.natAbs : Nat) : Int) / ((Int.gcd n d : Nat) : Int)
  · clear hk'
    go_wp2_with fail
    go_region
    go_wp2_with fail
    exact bodyPost_ret (v := .tuple #[.agg #[.int .i64 0, .int .i64 0], .iface 224 (.pointer (some a1))]) (by simp [results, Tryd.results78, go_sem]) rfl ⟨rfl, ((bD (bA (bR _) _) _).setCell (by simp) _).setCell (by simp) _⟩
  · have c2 : 1000000000 < ((d.natAbs : Nat) : Int) / ((Int.gcd n d : Nat) : Int) := by omega
    clear hk'
    go_wp2_with fail
    go_region
    go_wp2_with fail
    exact bodyPost_ret (v := .tuple #[.agg #[.int .i64 0, .int .i64 0], .iface 224 (.pointer (some a1))]) (by simp [results, Tryd.results78, go_sem]) rfl ⟨rfl, ((bD (bA (bR _) _) _).setCell (by simp) _).setCell (by simp) _⟩

theorem ret_rn {a b a' b' : Int} (h1 : a = a') (h2 : b = b') : Ending.returned (.tuple #[.agg #[.int .i64 a, .int .i64 b], .nilIface]) = .returned (.tuple #[.agg #[.int .i64 a', .int .i64 b'], .nilIface]) := by rw [h1, h2]
set_option maxHeartbeats 2000000 in
theorem low_yes (n d : Int) (w : World) (hd : d ≠ 0) (h1 : -9223372036854775808 ≤ n) (h2 : n ≤ 9223372036854775807) (h3 : -9223372036854775808 ≤ d) (h4 : d ≤ 9223372036854775807) (hk : lowOk n d = true) :
    Calls Tryd.prog 78 #[.int .i64 n, .int .i64 d] w fun e w' => e = .returned (.tuple #[.agg #[.int .i64 (mkN n d), .int .i64 (lowD n d)], .nilIface]) ∧ Below w.heap.size w w' := by
  have hd0 : (d == 0) = false := by simpa using hd
  obtain ⟨g1, q1, q2, r1, r2⟩ := low_facts hd h1 h2 h3 h4
  obtain ⟨k1, k2⟩ : ((n.natAbs : Nat) : Int) / ((Int.gcd n d : Nat) : Int) ≤ 1000000000 ∧ ((d.natAbs : Nat) : Int) / ((Int.gcd n d : Nat) : Int) ≤ 1000000000 := lowOk_in hk
  have HG := Lib.hid (gcd_abs2 n d)
  clear hk
  have hg0 : (((Int.gcd n d : Nat) : Int) == 0) = false := by simp; omega
  go_enter Tryd.func78, Tryd.ntmps78
  go_wp2_with fail
  refine (magnitude_any _ _ (by omega) (by omega)).mono ?_
  rintro e w1 ⟨rfl, rfl⟩
  go_wp2_with fail
  refine (magnitude_any _ _ (by omega) (by omega)).mono ?_
  rintro e w1 ⟨rfl, rfl⟩
  go_wp2_with fail
  refine (commonDivisor_any _ _ _ (by omega) (by omega)).mono ?_
  rintro e w1 ⟨rfl, nd, rfl⟩
  rw [HG.out]
  go_wp2_with fail
  go_quiet (fail)
  by_cases hn : n < 0
  · by_cases hdn : d < 0
    · have hn' : (decide (n < 0)) = true := by simpa using hn
      have hd' : (decide (d < 0)) = true := by simpa using hdn
      go_wp2_with fail
      refine bodyPost_ret (v := .tuple #[.agg #[.int .i64 (((n.natAbs : Nat) : Int) / ((Int.gcd n d : Nat) : Int)), .int .i64 (((d.natAbs : Nat) : Int) / ((Int.gcd n d : Nat) : Int))], .nilIface]) ?_ rfl ⟨ret_rn (mkN_same (by rw [hn', hd'])).symm rfl, bA (((bD (bA (bR _) _) _).setCell (by simp) _).setCell (by simp) _) _⟩
      simp [results, Tryd.results78, go_sem]
    · have hn' : (decide (n < 0)) = true := by simpa using hn
      have hd' : (decide (d < 0)) = false := by simpa using hdn
      go_wp2_with fail
      refine (negated_any _ _ _ (by omega) (by omega)).mono ?_
      rintro e w3 ⟨rfl, hb3⟩
      obtain ⟨hc3, hf3⟩ := bcell hb3
      have hz3 : w.heap.size < w3.heap.size := bsize hb3 (by simp; omega)
      have m0 : w3.cell? ⟨w.heap.size, 0, none⟩ = some (.int .i64 0) := by rw [hc3 _ _ (by simp; omega)]; simp [go_sem]
      have m1 : w3.cell? ⟨w.heap.size, 1, none⟩ = some (.int .i64 0) := by rw [hc3 _ _ (by simp; omega)]; simp [go_sem]
      go_wp2_with fail
      refine bodyPost_ret (v := .tuple #[.agg #[.int .i64 (-(((n.natAbs : Nat) : Int) / ((Int.gcd n d : Nat) : Int))), .int .i64 (((d.natAbs : Nat) : Int) / ((Int.gcd n d : Nat) : Int))], .nilIface]) ?_ rfl ⟨ret_rn (mkN_other (by rw [hn', hd']; rfl)).symm rfl, ((bT (bA (bD (bA (bR _) _) _) _) hb3).setCell (by simp) _).setCell (by simp) _⟩
      simp [results, Tryd.results78, go_sem, m0, m1]
  · by_cases hdn : d < 0
    · have hn' : (decide (n < 0)) = false := by simpa using hn
      have hd' : (decide (d < 0)) = true := by simpa using hdn
      go_wp2_with fail
      refine (negated_any _ _ _ (by omega) (by omega)).mono ?_
      rintro e w3 ⟨rfl, hb3⟩
      obtain ⟨hc3, hf3⟩ := bcell hb3
      have hz3 : w.heap.size < w3.heap.size := bsize hb3 (by simp; omega)
      have m0 : w3.cell? ⟨w.heap.size, 0, none⟩ = some (.int .i64 0) := by rw [hc3 _ _ (by simp; omega)]; simp [go_sem]
      have m1 : w3.cell? ⟨w.heap.size, 1, none⟩ = some (.int .i64 0) := by rw [hc3 _ _ (by simp; omega)]; simp [go_sem]
      go_wp2_with fail
      refine bodyPost_ret (v := .tuple #[.agg #[.int .i64 (-(((n.natAbs : Nat) : Int) / ((Int.gcd n d : Nat) : Int))), .int .i64 (((d.natAbs : Nat) : Int) / ((Int.gcd n d : Nat) : Int))], .nilIface]) ?_ rfl ⟨ret_rn (mkN_other (by rw [hn', hd']; rfl)).symm rfl, ((bT (bA (bD (bA (bR _) _) _) _) hb3).setCell (by simp) _).setCell (by simp) _⟩
      simp [results, Tryd.results78, go_sem, m0, m1]
    · have hn' : (decide (n < 0)) = false := by simpa using hn
      have hd' : (decide (d < 0)) = false := by simpa using hdn
      go_wp2_with fail
      refine bodyPost_ret (v := .tuple #[.agg #[.int .i64 (((n.natAbs : Nat) : Int) / ((Int.gcd n d : Nat) : Int)), .int .i64 (((d.natAbs : Nat) : Int) / ((Int.gcd n d : Nat) : Int))], .nilIface]) ?_ rfl ⟨ret_rn (mkN_same (by rw [hn', hd'])).symm rfl, bA (((bD (bA (bR _) _) _).setCell (by simp) _).setCell (by simp) _) _⟩
      simp [results, Tryd.results78, go_sem]

end Go.Proofs.YtpbepibklipfpaaDoor
