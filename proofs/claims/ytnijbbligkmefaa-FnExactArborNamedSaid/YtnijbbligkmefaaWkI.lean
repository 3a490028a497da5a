/-
  The contracts of impl.isNoToothCount, Arbor.valid, indexNamed, hasArbor, hasWheel, allows, isSame, and of slices.IndexFunc and slices.ContainsFunc with them.
-/
import Derived.Test.YtnijbbligkmefaaWkT
namespace Go.Proofs.Ytnijbbligkmefaa
open Go.RowKit

def BelV (v : Value) (w : World) (e : Ending) (w' : World) : Prop := e = .returned v ∧ Below w.heap.size w w'
theorem isNoTooth_any (t : Int) (w : World) :
    Calls Try.prog 81 #[.int .i64 t] w (BoolEq (!inB t 6 240) w) := by
  go_enter Try.func81, Try.ntmps81
  go_wp2_with fail
  refine (toothValid_any _ _).mono ?_
  rintro e w1 ⟨rfl, rfl⟩
  go_wp2_with fail
  go_ret
  exact ⟨rfl, rfl⟩
def IdxRetI (ts : List Int) (w : World) (e : Ending) (w' : World) : Prop := ∃ r : Int, e = .returned (.int .i64 r) ∧ decide (0 ≤ r) = !whB ts ∧ r ≤ ts.length ∧ -1 ≤ r ∧ w = w'
set_option maxHeartbeats 1000000 in
theorem idxI_any (ts : List Int) (v : Value) (w : World) (ha : Sl64 w v ts) (hmax : ts.length ≤ 1048576) :
    Calls Try.prog 100 #[v, .func (.func 81) #[] #[]] w (IdxRetI ts w) := by
  obtain ⟨ao, cap, rfl, ha⟩ := ha
  have HA := Lib.hid ha
  clear ha
  go_enter Try.func100, Try.ntmps100
  go_wp2_with fail
  go_loop [8] (fun i => ∃ (k : Nat), k ≤ ts.length ∧ i = .int .i64 k ∧ whK ts k) (fun i => ts.length - (intOf i).toNat)
  case atStart => exact ⟨0, by omega, rfl, whK_zero _⟩
  case round =>
    obtain ⟨k, hk, rfl, hok⟩ := hrel
    have HK := Lib.hid hok
    clear hok
    by_cases hlt : k < ts.length
    · obtain ⟨g, rfl, hg, hc⟩ := HA.out (by omega)
      have c1 := hc k hlt
      have HN := Lib.hid (fun h => wh_no (ts := ts) hlt h)
      have HS := Lib.hid (whK_succ (ts := ts) (k := k) HK.out)
      clear hc HA
      generalize at0 ts k = t at *
      cases hp : inB t 6 240
      · have HN' := Lib.hid (HN.out hp)
        go_wp2_with fail
        refine (isNoTooth_any _ _).mono ?_
        rw [hp]
        rintro e w1 ⟨rfl, rfl⟩
        go_wp2_with fail
        go_ret
        exact ⟨k, rfl, by rw [HN'.out]; simp, by omega, by omega, rfl⟩
      · have HS' := Lib.hid (HS.out hp)
        go_wp2_with fail
        refine (isNoTooth_any _ _).mono ?_
        rw [hp]
        rintro e w1 ⟨rfl, rfl⟩
        go_wp2_with fail
        go_round
        case rel => exact ⟨k + 1, by omega, by go_num, HS'.out⟩
        case measure => simp [intOf]; omega
    · obtain rfl : k = ts.length := by omega
      have HR := Lib.hid (whK_all HK.out)
      go_wp2_with fail
      go_ret
      exact ⟨-1, rfl, by rw [HR.out]; rfl, by omega, by omega, rfl⟩
theorem containsI_any (ts : List Int) (v : Value) (w : World) (ha : Sl64 w v ts) (hmax : ts.length ≤ 1048576) :
    Calls Try.prog 80 #[v, .func (.func 81) #[] #[]] w (BoolEq (!whB ts) w) := by
  go_enter Try.func80, Try.ntmps80
  go_wp2_with fail
  refine (idxI_any ts v w ha hmax).mono ?_
  rintro e w1 ⟨r, rfl, hr, h1, h2, rfl⟩
  have HR := Lib.hid hr
  clear hr
  go_wp2_with fail
  go_ret
  exact ⟨ret_bool HR.out, rfl⟩
theorem arb_len {s : ByteArray} {ts : List Int} (h : ¬ ts.length ≤ 5) : arbB (s, ts) = false := by simp [arbB, h]
theorem arb_go2 {s : ByteArray} {ts : List Int} (h : nameB s = true) (h2 : ts.length ≤ 5) : arbB (s, ts) = !!whB ts := by simp [arbB, h, h2]
set_option maxHeartbeats 2000000 in
theorem ArborValid_any (s : ByteArray) (ts : List Int) (u : Value) (w : World) (hu : Sl64 w u ts) (hs : s.size ≤ maxLen) (hmax : ts.length ≤ 1048576) :
    Calls Try.prog 49 #[.agg #[.string s, u]] w (BoolBel (arbB (s, ts)) w) := by
  obtain ⟨ao, cap, rfl, _⟩ := id hu
  have HU := Lib.hid (hu.keep (bA (bR w) (.cells #[.string s, .slice ao ts.length cap] 42)))
  have X := Lib.hid (BoxU.new w (.string s) (.slice ao ts.length cap) 42)
  have L0 := Lib.hid (bA (bR w) (.cells #[.string s, .slice ao ts.length cap] 42))
  clear hu
  cases hn : nameB s
  · rw [arb_name (a := (s, ts)) hn]
    go_enter Try.func49, Try.ntmps49
    go_wp2_with fail
    refine (IsNameI_any _ _ hs).mono ?_
    rw [hn]
    rintro e w1 ⟨rfl, hb⟩
    go_wp2_with fail
    go_ret
    exact ⟨rfl, bT L0.out hb⟩
  · by_cases h5 : ts.length ≤ 5
    · rw [arb_go2 hn h5]
      have h5' : (ts.length : Int) ≤ 5 := by omega
      have HC := Lib.hid (fun W (h : Sl64 W (.slice ao ts.length cap) ts) => containsI_any ts _ W h hmax)
      generalize (!whB ts) = r at *
      go_enter Try.func49, Try.ntmps49
      go_wp2_with fail
      generalize w.alloc (.cells #[.string s, .slice ao ts.length cap] 42) = W0 at *
      refine (IsNameI_any _ _ hs).mono ?_
      rw [hn]
      rintro e w1 ⟨rfl, hb⟩
      obtain ⟨x0, x1, _, _, x4⟩ := X.out.keep hb
      have HU1 := Lib.hid (HU.out.keep hb)
      have L1 := Lib.hid (bT L0.out hb)
      clear hb
      go_wp2_with fail
      refine (HC.out _ HU1.out).mono ?_
      rintro e w2 ⟨rfl, rfl⟩
      go_wp2_with fail
      go_ret
      exact ⟨rfl, L1.out⟩
    · rw [arb_len h5]
      have h5' : ¬ (ts.length : Int) ≤ 5 := by omega
      go_enter Try.func49, Try.ntmps49
      go_wp2_with fail
      generalize w.alloc (.cells #[.string s, .slice ao ts.length cap] 42) = W0 at *
      refine (IsNameI_any _ _ hs).mono ?_
      rw [hn]
      rintro e w1 ⟨rfl, hb⟩
      obtain ⟨x0, x1, _, _, x4⟩ := X.out.keep hb
      have L1 := Lib.hid (bT L0.out hb)
      clear hb
      go_wp2_with fail
      go_ret
      exact ⟨rfl, L1.out⟩
/-! ### The arbor with a name -/
theorem named_any (s n : ByteArray) (u : Value) (b : Nat) (w : World) (hn : w.cell? ⟨b, 0, none⟩ = some (.string n)) (hb : b < w.heap.size) :
    Calls Try.prog 83 #[.agg #[.string s, u], .pointer (some ⟨b, 0, none⟩)] w (BoolBel (eqS s n) w) := by
  have c1 : (w.alloc (.cells #[.string s, u] 42)).cell? ⟨b, 0, none⟩ = some (.string n) := ((bA (bR w) (.cells #[.string s, u] 42)).cell (p := ⟨b, 0, none⟩) hb).trans hn
  go_enter Try.func83, Try.ntmps83
  go_wp2_with fail
  go_ret
  exact ⟨rfl, bA (bR _) _⟩
set_option maxHeartbeats 2000000 in
theorem idxA_any (rs : List Arb) (n : ByteArray) (b : Nat) (v : Value) (w : World) (ha : SlA w v rs) (hn : w.cell? ⟨b, 0, none⟩ = some (.string n)) (hb : b < w.heap.size) :
    Calls Try.prog 82 #[v, .func (.func 83) #[] #[.pointer (some ⟨b, 0, none⟩)]] w (BelV (.int .i64 (idxN rs n)) w) := by
  obtain ⟨hmax, ao, cap, rfl, _, ha⟩ := ha
  have HA := Lib.hid ha
  clear ha
  go_enter Try.func82, Try.ntmps82
  go_wp2_with fail
  go_loopw [8] (fun i wr => ∃ (k : Nat), k ≤ rs.length ∧ i = .int .i64 k ∧ noneK rs n k ∧ Below w.heap.size w wr) (fun i _ => rs.length - (intOf i).toNat)
  case atStart => exact ⟨0, by omega, rfl, noneK_zero _ _, bR _⟩
  case round =>
    obtain ⟨k, hk, rfl, hok, hbw⟩ := hrel
    have HK := Lib.hid hok
    have HBW := Lib.hid hbw
    clear hok
    by_cases hlt : k < rs.length
    · obtain ⟨g, rfl, hg, hc⟩ := HA.out (by omega)
      obtain ⟨c0, _, _, u, c1, _⟩ := (hc.keep hg hbw) k hlt
      have HI := Lib.hid (idx_hit (rs := rs) (n := n) (k := k) hlt HK.out)
      have HS := Lib.hid (noneK_succ (rs := rs) (n := n) (k := k) HK.out)
      have HQ := Lib.hid (named_any (arAt rs k).1 n u b wr ((hbw.cell (p := ⟨b, 0, none⟩) hb).trans hn) (Nat.lt_of_lt_of_le hb hbw.size))
      clear hc HA hbw hn hg
      generalize (arAt rs k).1 = s at *
      cases hp : eqS s n
      · rw [hp] at HQ
        have HS' := Lib.hid (HS.out hp)
        go_wp2_with fail
        refine HQ.out.mono ?_
        rintro e w1 ⟨rfl, hb1⟩
        have HB1 := Lib.hid (bT HBW.out hb1)
        clear hb1
        go_wp2_with fail
        go_roundw
        case rel => exact ⟨k + 1, by omega, by go_num, HS'.out, HB1.out⟩
        case measure => simp [intOf]; omega
      · rw [hp] at HQ
        have HI' := Lib.hid (HI.out hp)
        go_wp2_with fail
        refine HQ.out.mono ?_
        rintro e w1 ⟨rfl, hb1⟩
        have HB1 := Lib.hid (bT HBW.out hb1)
        clear hb1
        go_wp2_with fail
        go_ret
        exact ⟨by rw [HI'.out]; rfl, HB1.out⟩
    · obtain rfl : k = rs.length := by omega
      have HI := Lib.hid (idx_none HK.out)
      clear hbw
      go_wp2_with fail
      go_ret
      exact ⟨by rw [HI.out]; rfl, HBW.out⟩
theorem indexNamed_any (rs : List Arb) (n : ByteArray) (v : Value) (w : World) (ha : SlA w v rs) :
    Calls Try.prog 50 #[v, .string n] w (BelV (.int .i64 (idxN rs n)) w) := by
  have H0 := Lib.hid (ha.keep (bA (bR w) (.cells #[.string n] 9)))
  clear ha
  go_enter Try.func50, Try.ntmps50
  go_wp2_with fail
  refine (idxA_any rs n _ _ _ H0.out (by simp [go_sem]) (by simp)).mono ?_
  rintro e w1 ⟨rfl, hb⟩
  go_wp2_with fail
  go_ret
  exact ⟨rfl, bT (bA (bR _) _) hb⟩
end Go.Proofs.Ytnijbbligkmefaa
