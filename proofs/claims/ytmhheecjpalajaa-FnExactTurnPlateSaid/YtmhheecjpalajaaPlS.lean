/-
  The model's conversions of plates: laws.szPlate and what it calls.
-/
import Derived.Test.YtmhheecjpalajaaPlO
namespace Go.Proofs.Ytmhheecjpalajaa
open Go.RowKit

def IntInP (n : Int) (P : Prop) (w : World) (e : Ending) (w' : World) : Prop := ∃ r : Int, e = .returned (.int .i64 r) ∧ -1 ≤ r ∧ r ≤ n ∧ (0 ≤ r → P) ∧ Below w.heap.size w w'
theorem szSite_any (nm : ByteArray) (x y wh st : Int) (n : Int) (w : World) (h0 : 0 ≤ n) (h1 : n ≤ 1048576) (h3 : nm.size ≤ 9223372036854775807) :
    Calls Try.prog 47 #[.agg #[.string nm, .int .i64 x, .int .i64 y, .int .i64 wh, .int .i64 st], .int .i64 n] w (IntInP n True w) := by
  by_cases h : (nm.size : Int) ≤ n
  · have h' : ¬ n - (nm.size : Int) < 0 := by omega
    go_enter Try.func47, Try.ntmps47
    go_wp2_with fail
    go_ret
    exact ⟨_, rfl, by omega, by omega, fun _ => trivial, bA (bR _) _⟩
  · have h' : n - (nm.size : Int) < 0 := by omega
    go_enter Try.func47, Try.ntmps47
    go_wp2_with fail
    go_ret
    exact ⟨_, rfl, by omega, by omega, fun h => absurd h (by omega), bA (bR _) _⟩
def SzSiRel (w : World) (ss : List Sit) (n : Int) (q i : Value) (wr : World) : Prop :=
  ∃ (j : Nat) (r : Int), j ≤ ss.length ∧ i = .int .i64 j ∧ q = .int .i64 r ∧ 0 ≤ r ∧ r ≤ n ∧ Below w.heap.size w wr
set_option maxHeartbeats 2000000 in
theorem szSiteS_any (a : Option Addr) (len cap : Nat) (ss : List Sit) (n : Int) (w : World) (h : IsSi w a len cap ss) (h0 : 0 ≤ n) (h1 : n ≤ 1048576) :
    Calls Try.prog 24 #[.slice a len cap, .int .i64 n] w (IntInP n (ss.length ≤ 1048576) w) := by
  obtain ⟨⟨l1, l2⟩, l3, hc⟩ := h
  unfold maxLen at l2
  subst l3
  have HC := Lib.hid hc
  clear hc
  by_cases hl : (ss.length : Int) ≤ n
  · have h' : ¬ n - (ss.length : Int) < 0 := by omega
    go_enter Try.func24, Try.ntmps24
    go_wp2_with fail
    go_loopw [1, 5] (fun q i wr => SzSiRel w ss n q i wr) (fun _ i _ => ss.length - (intOf i).toNat)
    case atStart => exact ⟨0, _, by omega, rfl, rfl, by omega, by omega, bR _⟩
    case round =>
      obtain ⟨j, r, hj, rfl, rfl, r1, r2, hb⟩ := hrel
      have HB := Lib.hid hb
      clear hb
      by_cases hlt : j < ss.length
      · obtain ⟨xb, xo, rfl, hx, hc0, hc1, hc2, hc3, hc4, hs⟩ := HC.out j hlt
        have hsz := HB.out.size
        have c0 := (HB.out.cell (p := ⟨xb, xo + j * 5, none⟩) hx).trans hc0
        have c1 := (HB.out.cell (p := ⟨xb, xo + j * 5 + 1, none⟩) hx).trans hc1
        have c2 := (HB.out.cell (p := ⟨xb, xo + j * 5 + 2, none⟩) hx).trans hc2
        have c3 := (HB.out.cell (p := ⟨xb, xo + j * 5 + 3, none⟩) hx).trans hc3
        have c4 := (HB.out.cell (p := ⟨xb, xo + j * 5 + 4, none⟩) hx).trans hc4
        unfold maxLen at hs
        clear hc0 hc1 hc2 hc3 hc4 HC
        generalize (siAt ss j).nm = y0 at *
        generalize (siAt ss j).x = y1 at *
        generalize (siAt ss j).y = y2 at *
        generalize (siAt ss j).wh = y3 at *
        generalize (siAt ss j).st = y4 at *
        go_wp2_with fail
        refine (szSite_any y0 y1 y2 y3 y4 r wr r1 (by omega) (by omega)).mono ?_
        rintro e w2 ⟨r', rfl, s1, s2, s3, hb2⟩
        have B2 := Lib.hid (bT HB.out hb2)
        clear hb2 s3 c0 c1 c2 c3 c4
        by_cases hr : r' < 0
        · go_wp2_with fail
          go_ret
          exact ⟨_, rfl, by omega, by omega, fun h => absurd h (by omega), B2.out⟩
        · go_wp2_with fail
          go_roundw
          case rel => exact ⟨j + 1, r', by omega, by go_num, rfl, by omega, by omega, B2.out⟩
          case measure => simp [intOf]; omega
      · obtain rfl : j = ss.length := by omega
        go_wp2_with fail
        go_ret
        exact ⟨_, rfl, by omega, by omega, fun _ => by omega, HB.out⟩
  · have h' : n - (ss.length : Int) < 0 := by omega
    go_enter Try.func24, Try.ntmps24
    go_wp2_with fail
    go_ret
    exact ⟨_, rfl, by omega, by omega, fun h => absurd h (by omega), bR _⟩
set_option maxHeartbeats 1000000 in
theorem szPlate_any (v : Value) (p : Pl4) (ss : List Sit) (n : Int) (w : World) (h : IsPt w v p ss) (h0 : 0 ≤ n) (h1 : n ≤ 1048576) :
    Calls Try.prog 7 #[v, .int .i64 n] w (IntInP n (ss.length ≤ 1048576) w) := by
  obtain ⟨a, len, cap, rfl, hA⟩ := h
  unfold plV
  have L0 := Lib.hid (bA (bR w) (.cells #[.int .i64 p.W, .int .i64 p.H, .int .i64 p.M, .int .i64 p.G, .slice a len cap] 24))
  have HA := Lib.hid (hA.keep L0.out)
  clear hA
  go_enter Try.func7, Try.ntmps7
  go_wp2_with fail
  refine (szSiteS_any a len cap ss n _ HA.out h0 h1).mono ?_
  rintro e w1 ⟨r, rfl, r1, r2, r3, hb⟩
  have B1 := Lib.hid (bT L0.out hb)
  have R := Lib.hid r3
  clear hb r3
  by_cases hr : r < 0
  · go_wp2_with fail
    go_ret
    exact ⟨_, rfl, by omega, by omega, fun h => absurd h (by omega), B1.out⟩
  · go_wp2_with fail
    go_ret
    exact ⟨_, rfl, by omega, by omega, fun h => R.out h, B1.out⟩
end Go.Proofs.Ytmhheecjpalajaa
