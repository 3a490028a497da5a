/-
  The model's conversions of works: laws.szWorks, laws.toWorks, laws.eqWorks and what they call.
-/
import Derived.Test.YtnijbbligkmefaaWkO
namespace Go.Proofs.Ytnijbbligkmefaa
open Go.RowKit

/-! ### Sizes -/
def IntIn (n : Int) (P : Int → Prop) (w : World) (e : Ending) (w' : World) : Prop := ∃ r : Int, e = .returned (.int .i64 r) ∧ -1 ≤ r ∧ r ≤ n ∧ (0 ≤ r → P r) ∧ Below w.heap.size w w'
theorem szInt64S_any (a : Option Addr) (len cap : Nat) (n : Int) (w : World) (h0 : 0 ≤ n) (h1 : n ≤ 1048576) (h2 : len ≤ 9223372036854775807) :
    Calls Try.prog 60 #[.slice a len cap, .int .i64 n] w (IntIn n (fun _ => len ≤ 1048576) w) := by
  by_cases h : (len : Int) ≤ n
  · have h' : ¬ n - (len : Int) < 0 := by omega
    go_enter Try.func60, Try.ntmps60
    go_wp2_with fail
    go_ret
    exact ⟨_, rfl, by omega, by omega, fun _ => by omega, bR _⟩
  · have h' : n - (len : Int) < 0 := by omega
    go_enter Try.func60, Try.ntmps60
    go_wp2_with fail
    go_ret
    exact ⟨_, rfl, by omega, by omega, fun h => absurd h (by omega), bR _⟩
theorem szMeshS_any (a : Option Addr) (len cap : Nat) (n : Int) (w : World) (h0 : 0 ≤ n) (h1 : n ≤ 1048576) (h2 : len ≤ 9223372036854775807) :
    Calls Try.prog 45 #[.slice a len cap, .int .i64 n] w (IntIn n (fun _ => len ≤ 1048576) w) := by
  by_cases h : (len : Int) ≤ n
  · have h' : ¬ n - (len : Int) < 0 := by omega
    go_enter Try.func45, Try.ntmps45
    go_wp2_with fail
    go_ret
    exact ⟨_, rfl, by omega, by omega, fun _ => by omega, bR _⟩
  · have h' : n - (len : Int) < 0 := by omega
    go_enter Try.func45, Try.ntmps45
    go_wp2_with fail
    go_ret
    exact ⟨_, rfl, by omega, by omega, fun h => absurd h (by omega), bR _⟩
set_option maxHeartbeats 1000000 in
theorem szArbor_any (s : ByteArray) (a : Option Addr) (len cap : Nat) (n : Int) (w : World) (h0 : 0 ≤ n) (h1 : n ≤ 1048576) (h2 : len ≤ 9223372036854775807) (h3 : s.size ≤ 9223372036854775807) :
    Calls Try.prog 18 #[.agg #[.string s, .slice a len cap], .int .i64 n] w (IntIn n (fun _ => len ≤ 1048576) w) := by
  obtain ⟨c0, c1, _, _, c4⟩ := BoxU.new w (.string s) (.slice a len cap) 38
  by_cases h : (s.size : Int) ≤ n
  · have h' : ¬ n - (s.size : Int) < 0 := by omega
    go_enter Try.func18, Try.ntmps18
    go_wp2_with fail
    refine (szInt64S_any a len cap _ _ (by omega) (by omega) h2).mono ?_
    rintro e w1 ⟨r, rfl, r1, r2, r3, hb⟩
    have B := Lib.hid (bT (bA (bR w) _) hb)
    have R := Lib.hid r3
    clear hb r3
    by_cases hr : r < 0
    · go_wp2_with fail
      go_ret
      exact ⟨_, rfl, by omega, by omega, fun h => absurd h (by omega), B.out⟩
    · go_wp2_with fail
      go_ret
      exact ⟨_, rfl, by omega, by omega, R.out, B.out⟩
  · have h' : n - (s.size : Int) < 0 := by omega
    go_enter Try.func18, Try.ntmps18
    go_wp2_with fail
    go_ret
    exact ⟨_, rfl, by omega, by omega, fun h => absurd h (by omega), bA (bR _) _⟩
def SzRel (w : World) (rs : List Arb) (n : Int) (q i : Value) (wr : World) : Prop :=
  ∃ (j : Nat) (r : Int), j ≤ rs.length ∧ i = .int .i64 j ∧ q = .int .i64 r ∧ 0 ≤ r ∧ r ≤ n ∧ (∀ i, i < j → (arAt rs i).2.length ≤ 1048576) ∧ Below w.heap.size w wr
set_option maxHeartbeats 2000000 in
theorem szArborS_any (a : Option Addr) (len cap : Nat) (rs : List Arb) (n : Int) (w : World) (h : IsAr w a len cap rs) (h0 : 0 ≤ n) (h1 : n ≤ 1048576) :
    Calls Try.prog 44 #[.slice a len cap, .int .i64 n] w (IntIn n (fun _ => rs.length ≤ 1048576 ∧ ∀ i, i < rs.length → (arAt rs i).2.length ≤ 1048576) w) := by
  obtain ⟨⟨l1, l2⟩, l3, hc⟩ := h
  unfold maxLen at l2
  subst l3
  have HC := Lib.hid hc
  clear hc
  by_cases hl : (rs.length : Int) ≤ n
  · have h' : ¬ n - (rs.length : Int) < 0 := by omega
    go_enter Try.func44, Try.ntmps44
    go_wp2_with fail
    go_loopw [1, 5] (fun q i wr => SzRel w rs n q i wr) (fun _ i _ => rs.length - (intOf i).toNat)
    case atStart => exact ⟨0, _, by omega, rfl, rfl, by omega, by omega, fun i hi => absurd hi (Nat.not_lt_zero _), bR _⟩
    case round =>
      obtain ⟨j, r, hj, rfl, rfl, r1, r2, hall, hb⟩ := hrel
      have HB := Lib.hid hb
      have HN := Lib.hid hall
      clear hb hall
      by_cases hlt : j < rs.length
      · obtain ⟨xb, xo, u, rfl, hx, hc0, hc1, hs, hu⟩ := HC.out j hlt
        have hsz := HB.out.size
        have c0 : wr.cell? ⟨xb, xo + j * 2, none⟩ = some (.string (arAt rs j).1) := (HB.out.cell (p := ⟨xb, xo + j * 2, none⟩) hx).trans hc0
        have c1 : wr.cell? ⟨xb, xo + j * 2 + 1, none⟩ = some u := (HB.out.cell (p := ⟨xb, xo + j * 2 + 1, none⟩) hx).trans hc1
        obtain ⟨a2, len2, cap2, zs, rfl, hrow, hts⟩ := id hu
        obtain ⟨k1, k2, k3⟩ := ArgI.len hu
        have HK := Lib.hid k1
        unfold maxLen at hs k3
        clear hc0 hc1 hu hrow hts k1 HC
        generalize (arAt rs j).1 = s at *
        go_wp2_with fail
        refine (szArbor_any s a2 len2 cap2 r wr r1 (by omega) (by omega) (by omega)).mono ?_
        rintro e w2 ⟨r', rfl, s1, s2, s3, hb2⟩
        have B2 := Lib.hid (bT HB.out hb2)
        have S3 := Lib.hid s3
        clear hb2 s3 c0 c1
        by_cases hr : r' < 0
        · go_wp2_with fail
          go_ret
          exact ⟨_, rfl, by omega, by omega, fun h => absurd h (by omega), B2.out⟩
        · go_wp2_with fail
          go_roundw
          case rel =>
            refine ⟨j + 1, r', by omega, by go_num, rfl, by omega, by omega, fun i hi => ?_, B2.out⟩
            by_cases e : i = j
            · rw [e, HK.out]; exact S3.out (by omega)
            · exact HN.out i (by omega)
          case measure => simp [intOf]; omega
      · obtain rfl : j = rs.length := by omega
        go_wp2_with fail
        go_ret
        exact ⟨_, rfl, by omega, by omega, fun _ => ⟨by omega, HN.out⟩, HB.out⟩
  · have h' : n - (rs.length : Int) < 0 := by omega
    go_enter Try.func44, Try.ntmps44
    go_wp2_with fail
    go_ret
    exact ⟨_, rfl, by omega, by omega, fun h => absurd h (by omega), bR _⟩
/-- Works within the model's limits. -/
def WkLim (rs : List Arb) (ms : List Msh) : Prop := rs.length ≤ 1048576 ∧ (∀ i, i < rs.length → (arAt rs i).2.length ≤ 1048576) ∧ ms.length ≤ 1048576
set_option maxHeartbeats 1000000 in
theorem szWorks_any (v : Value) (rs : List Arb) (ms : List Msh) (n : Int) (w : World) (h : IsWk w v rs ms) (h0 : 0 ≤ n) (h1 : n ≤ 1048576) :
    Calls Try.prog 11 #[v, .int .i64 n] w (IntIn n (fun _ => WkLim rs ms) w) := by
  obtain ⟨a, len, cap, a', len', cap', rfl, hA, hM⟩ := h
  have X := Lib.hid (BoxU.new w (.slice a len cap) (.slice a' len' cap') 25)
  have HA := Lib.hid (hA.keep (bA (bR w) (.cells #[.slice a len cap, .slice a' len' cap'] 25)))
  obtain ⟨⟨m1, m2⟩, m3, _⟩ := hM
  unfold maxLen at m2
  clear hA
  go_enter Try.func11, Try.ntmps11
  go_wp2_with fail
  refine (szArborS_any a len cap rs n _ HA.out h0 h1).mono ?_
  rintro e w1 ⟨r, rfl, r1, r2, r3, hb⟩
  have B1 := Lib.hid (bT (bA (bR w) _) hb)
  have R := Lib.hid r3
  obtain ⟨c0, c1, _, _, c4⟩ := X.out.keep hb
  clear hb r3
  by_cases hr : r < 0
  · go_wp2_with fail
    go_ret
    exact ⟨_, rfl, by omega, by omega, fun h => absurd h (by omega), B1.out⟩
  · go_wp2_with fail
    refine (szMeshS_any a' len' cap' r _ (by omega) (by omega) (by omega)).mono ?_
    rintro e w2 ⟨q, rfl, q1, q2, q3, hb⟩
    have B2 := Lib.hid (bT B1.out hb)
    have Q := Lib.hid q3
    clear hb q3
    by_cases hq : q < 0
    · go_wp2_with fail
      go_ret
      exact ⟨_, rfl, by omega, by omega, fun h => absurd h (by omega), B2.out⟩
    · go_wp2_with fail
      go_ret
      exact ⟨_, rfl, by omega, by omega, fun _ => ⟨(R.out (by omega)).1, (R.out (by omega)).2, by have := Q.out (by omega); omega⟩, B2.out⟩
end Go.Proofs.Ytnijbbligkmefaa
