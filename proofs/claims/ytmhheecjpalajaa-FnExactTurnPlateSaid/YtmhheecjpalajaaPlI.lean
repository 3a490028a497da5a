/-
  The contracts of impl.Site.hasSameName, Plate.allows, and of slices.IndexFunc and slices.ContainsFunc with them.
-/
import Derived.Test.YtmhheecjpalajaaPlV
namespace Go.Proofs.Ytmhheecjpalajaa
open Go.RowKit

def siV (s : Sit) : Value := .agg #[.string s.nm, .int .i64 s.x, .int .i64 s.y, .int .i64 s.wh, .int .i64 s.st]
theorem sameName_any (s t : Sit) (w : World) :
    Calls Try.prog 75 #[siV s, siV t] w (BoolBel (eqS s.nm t.nm) w) := by
  unfold siV
  go_enter Try.func75, Try.ntmps75
  go_wp2_with fail
  go_ret
  exact ⟨rfl, bA (bA (bR _) _) _⟩
def BelW (v : Value) (w : World) (e : Ending) (w' : World) : Prop := e = .returned v ∧ Below w.heap.size w w'
/-- What IndexFunc returns: the place of the first site with the name. -/
def IdxRetS (ss : List Sit) (n : ByteArray) (w : World) (e : Ending) (w' : World) : Prop := ∃ r : Int, e = .returned (.int .i64 r) ∧ decide (0 ≤ r) = hasN ss n ∧ r ≤ ss.length ∧ -1 ≤ r ∧ Below w.heap.size w w'
set_option maxHeartbeats 2000000 in
theorem idxSi_any (ss : List Sit) (t : Sit) (v : Value) (w : World) (ha : SlSi w v ss) :
    Calls Try.prog 93 #[v, .func (.func 75) #[siV t] #[]] w (IdxRetS ss t.nm w) := by
  obtain ⟨hmax, ao, cap, rfl, _, ha⟩ := ha
  have HA := Lib.hid ha
  clear ha
  go_enter Try.func93, Try.ntmps93
  go_wp2_with fail
  go_loopw [8] (fun i wr => ∃ (k : Nat), k ≤ ss.length ∧ i = .int .i64 k ∧ snK ss t.nm k ∧ Below w.heap.size w wr) (fun i _ => ss.length - (intOf i).toNat)
  case atStart => exact ⟨0, by omega, rfl, snK_zero _ _, bR _⟩
  case round =>
    obtain ⟨k, hk, rfl, hok, hbw⟩ := hrel
    have HK := Lib.hid hok
    have HBW := Lib.hid hbw
    clear hok
    by_cases hlt : k < ss.length
    · obtain ⟨g, rfl, hg, hc⟩ := HA.out (by omega)
      obtain ⟨c0, c1, c2, c3, c4, _⟩ := (hc.keep hg hbw) k hlt
      have HY := Lib.hid (fun h => hasN_yes (ss := ss) (n := t.nm) hlt h)
      have HS := Lib.hid (snK_succ (ss := ss) (n := t.nm) (k := k) HK.out)
      have HQ := Lib.hid (sameName_any t (siAt ss k) wr)
      clear hc HA hbw hg
      rw [eqS_comm] at HQ
      unfold siV at *
      generalize (siAt ss k).nm = m0 at *
      generalize (siAt ss k).x = m1 at *
      generalize (siAt ss k).y = m2 at *
      generalize (siAt ss k).wh = m3 at *
      generalize (siAt ss k).st = m4 at *
      cases hp : eqS m0 t.nm
      · rw [hp] at HQ
        have HS' := Lib.hid (HS.out hp)
        go_wp2_with fail
        refine HQ.out.mono ?_
        rintro e w1 ⟨rfl, hb1⟩
        have HB1 := Lib.hid (bT HBW.out hb1)
        clear hb1
        go_wp2_with fail
        go_roundw
        case rel => exact ⟨k + 1, by omega, by go_num, HS'.out, HB1.out⟩
        case measure => simp [intOf]; omega
      · rw [hp] at HQ
        have HY' := Lib.hid (HY.out hp)
        go_wp2_with fail
        refine HQ.out.mono ?_
        rintro e w1 ⟨rfl, hb1⟩
        have HB1 := Lib.hid (bT HBW.out hb1)
        clear hb1
        go_wp2_with fail
        go_ret
        exact ⟨k, rfl, by rw [HY'.out]; simp, by omega, by omega, HB1.out⟩
    · obtain rfl : k = ss.length := by omega
      have HR := Lib.hid (hasN_no HK.out)
      clear hbw
      go_wp2_with fail
      go_ret
      exact ⟨-1, rfl, by rw [HR.out]; rfl, by omega, by omega, HBW.out⟩
theorem containsSi_any (ss : List Sit) (t : Sit) (v : Value) (w : World) (ha : SlSi w v ss) :
    Calls Try.prog 74 #[v, .func (.func 75) #[siV t] #[]] w (BoolBel (hasN ss t.nm) w) := by
  go_enter Try.func74, Try.ntmps74
  go_wp2_with fail
  refine (idxSi_any ss t v w ha).mono ?_
  rintro e w1 ⟨r, rfl, hr, h1, h2, hb⟩
  have HR := Lib.hid hr
  clear hr
  go_wp2_with fail
  go_ret
  exact ⟨ret_bool HR.out, hb⟩
set_option maxHeartbeats 4000000 in
theorem allows_any (W H M G : Int) (v : Value) (nm : ByteArray) (x y wh st : Int) (w : World) (hs : nm.size ≤ maxLen) :
    Calls Try.prog 73 #[.agg #[.int .i64 W, .int .i64 H, .int .i64 M, .int .i64 G, v], .agg #[.string nm, .int .i64 x, .int .i64 y, .int .i64 wh, .int .i64 st]] w (BoolBel (siB W H ⟨nm, x, y, wh, st⟩) w) := by
  have A1 := Lib.hid ((BoxL.new w [.int .i64 W, .int .i64 H, .int .i64 M, .int .i64 G, v] 28).alloc (.cells #[.string nm, .int .i64 x, .int .i64 y, .int .i64 wh, .int .i64 st] 88))
  have A2 := Lib.hid (BoxL.at_ (w := w.alloc (.cells #[.int .i64 W, .int .i64 H, .int .i64 M, .int .i64 G, v] 28)) (b := w.heap.size + 1) (vs := [.string nm, .int .i64 x, .int .i64 y, .int .i64 wh, .int .i64 st]) (T := 88) (by simp))
  have L0 := Lib.hid (bA (bA (bR w) (.cells #[.int .i64 W, .int .i64 H, .int .i64 M, .int .i64 G, v] 28)) (.cells #[.string nm, .int .i64 x, .int .i64 y, .int .i64 wh, .int .i64 st] 88))
  have HS := Lib.hid hs
  clear hs
  cases q1 : nameB nm
  · rw [siB_n1 (s := ⟨nm, x, y, wh, st⟩) q1]
    go_enter Try.func73, Try.ntmps73
    go_wp2_with fail
    refine (IsNameI_any _ _ HS.out).mono ?_
    rw [q1]
    rintro e w1 ⟨rfl, hb⟩
    go_wp2_with fail
    go_ret
    exact ⟨rfl, bT L0.out hb⟩
  cases q2 : inB x 0 W && inB y 0 H
  · have hq : siB W H ⟨nm, x, y, wh, st⟩ = false := by
      rw [Bool.and_eq_false_iff] at q2
      rcases q2 with h | h
      · exact siB_n2 (s := ⟨nm, x, y, wh, st⟩) h
      · exact siB_n3 (s := ⟨nm, x, y, wh, st⟩) h
    rw [hq]
    go_enter Try.func73, Try.ntmps73
    go_wp2_with fail
    refine (IsNameI_any _ _ HS.out).mono ?_
    rw [q1]
    rintro e w1 ⟨rfl, hb⟩
    have L1 := Lib.hid (bT L0.out hb)
    obtain ⟨a0, a1, a2, a3, a4, a5⟩ := (A1.out.keep hb).c5
    obtain ⟨b0, b1, b2, b3, b4, b5⟩ := (A2.out.keep hb).c5
    clear hb
    go_wp2_with fail
    refine (isWithin_any _ _ _ _ _).mono ?_
    rw [q2]
    rintro e w2 ⟨rfl, hb⟩
    go_wp2_with fail
    go_ret
    exact ⟨rfl, bT L1.out hb⟩
  have q23 := q2
  rw [Bool.and_eq_true] at q23
  have HZ := Lib.hid (show siB W H ⟨nm, x, y, wh, st⟩ = (inB st 1 1000 && inB wh st 10000) by simp [siB, q1, q23.1, q23.2])
  clear q23
  rw [HZ.out]
  cases q4 : inB st 1 1000
  · go_enter Try.func73, Try.ntmps73
    go_wp2_with fail
    refine (IsNameI_any _ _ HS.out).mono ?_
    rw [q1]
    rintro e w1 ⟨rfl, hb⟩
    have L1 := Lib.hid (bT L0.out hb)
    obtain ⟨a0, a1, a2, a3, a4, a5⟩ := (A1.out.keep hb).c5
    obtain ⟨b0, b1, b2, b3, b4, b5⟩ := (A2.out.keep hb).c5
    have B1 := Lib.hid (A2.out.keep hb)
    clear hb
    go_wp2_with fail
    refine (isWithin_any _ _ _ _ _).mono ?_
    rw [q2]
    rintro e w2 ⟨rfl, hb⟩
    have L2 := Lib.hid (bT L1.out hb)
    clear a0 a1 a2 a3 a4 a5 b0 b1 b2 b3 b4 b5
    obtain ⟨b0, b1, b2, b3, b4, b5⟩ := (B1.out.keep hb).c5
    clear hb
    go_wp2_with (go_at_call 72; refine (isBetween_any _ _ _ _).mono ?_; rintro e w1 ⟨rfl, rfl⟩)
    go_ret
    exact ⟨rfl, L2.out⟩
  · rw [Bool.true_and]
    go_enter Try.func73, Try.ntmps73
    go_wp2_with fail
    refine (IsNameI_any _ _ HS.out).mono ?_
    rw [q1]
    rintro e w1 ⟨rfl, hb⟩
    have L1 := Lib.hid (bT L0.out hb)
    obtain ⟨a0, a1, a2, a3, a4, a5⟩ := (A1.out.keep hb).c5
    obtain ⟨b0, b1, b2, b3, b4, b5⟩ := (A2.out.keep hb).c5
    have B1 := Lib.hid (A2.out.keep hb)
    clear hb
    go_wp2_with fail
    refine (isWithin_any _ _ _ _ _).mono ?_
    rw [q2]
    rintro e w2 ⟨rfl, hb⟩
    have L2 := Lib.hid (bT L1.out hb)
    clear a0 a1 a2 a3 a4 a5 b0 b1 b2 b3 b4 b5
    obtain ⟨b0, b1, b2, b3, b4, b5⟩ := (B1.out.keep hb).c5
    clear hb
    go_wp2_with (go_at_call 72; refine (isBetween_any _ _ _ _).mono ?_; rintro e w1 ⟨rfl, rfl⟩)
    go_ret
    exact ⟨rfl, L2.out⟩
end Go.Proofs.Ytmhheecjpalajaa
