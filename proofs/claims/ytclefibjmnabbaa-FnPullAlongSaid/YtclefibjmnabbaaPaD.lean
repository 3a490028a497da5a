/-
  The draws of the law of torques along trains: spec.l13DrawLoss, l13DrawPull, DrawPullAlong, DrawLeastPull; laws.f6same.
-/
import Derived.Test.YtclefibjmnabbaaAh
import Derived.Test.YtclefibjmnabbaaRoll
import Derived.Test.YtclefibjmnabbaaEq64
namespace Go.Proofs.Ytclefibjmnabbaa
open Go.RowKit

def NmD (w : World) (p : Nat) (a : Option Addr) (len cap d : Nat) (e : Ending) (w' : World) : Prop := ∃ q : Int, e = .returned (.int .i64 q) ∧ DS w p a len cap d w'
set_option maxHeartbeats 2000000 in
theorem l13DrawLoss_any (w : World) (p : Nat) (a : Option Addr) (len cap c : Nat) (h : SrcAt w p a len cap c) (hc : c ≤ 700000) :
    Calls Try.prog 68 #[.pointer (some ⟨p, 0, none⟩)] w (NmD w p a len cap (c + 14)) := by
  have D0 := Lib.hid (DS.new h)
  clear h
  go_enter Try.func68, Try.ntmps68
  go_wp2_with fail
  refine (oneQ_any _ p a len cap c 10 D0.out.src (by omega) (by omega) (by omega)).mono ?_
  rintro en w1 ⟨q, rfl, s1, g1⟩
  have D1 := Lib.hid (D0.out.step s1 g1)
  clear s1 g1 D0
  cases q
  · go_wp2_with fail
    refine (pick_any _ p a len cap _ 200 D1.out.src (by omega) (by omega) (by omega)).mono ?_
    rintro en w2 ⟨v, _, _, rfl, s1, g1⟩
    have D2 := Lib.hid (D1.out.step s1 g1)
    clear s1 g1 D1
    go_wp2_with fail
    go_ret
    exact ⟨_, rfl, D2.out.mono (by omega)⟩
  · go_wp2_with fail
    refine (among_any _ p a len cap _ _ 4 (-1) 1001 (D1.out.alloc _).src (by omega) (by omega) (by omega) (by have := D1.out.src.lt; omega) (by simp) ?hnu).mono ?_
    case hnu =>
      intro i hi
      match i, hi with
      | 0, _ => exact ⟨_, by simp [go_sem]; rfl, by omega, by omega⟩
      | 1, _ => exact ⟨_, by simp [go_sem]; rfl, by omega, by omega⟩
      | 2, _ => exact ⟨_, by simp [go_sem]; rfl, by omega, by omega⟩
      | 3, _ => exact ⟨_, by simp [go_sem]; rfl, by omega, by omega⟩
    rintro en w2 ⟨v, _, _, rfl, s1, g1⟩
    have D2 := Lib.hid ((D1.out.alloc _).step s1 g1)
    clear s1 g1 D1
    go_wp2_with fail
    go_ret
    exact ⟨_, rfl, D2.out.mono (by omega)⟩
set_option maxHeartbeats 2000000 in
theorem l13DrawPull_any (w : World) (p : Nat) (a : Option Addr) (len cap c : Nat) (h : SrcAt w p a len cap c) (hc : c ≤ 700000) :
    Calls Try.prog 67 #[.pointer (some ⟨p, 0, none⟩)] w (NmD w p a len cap (c + 14)) := by
  have D0 := Lib.hid (DS.new h)
  clear h
  go_enter Try.func67, Try.ntmps67
  go_wp2_with fail
  refine (oneQ_any _ p a len cap c 10 D0.out.src (by omega) (by omega) (by omega)).mono ?_
  rintro en w1 ⟨q, rfl, s1, g1⟩
  have D1 := Lib.hid (D0.out.step s1 g1)
  clear s1 g1 D0
  cases q
  · go_wp2_with fail
    refine (pick_any _ p a len cap _ 60000 D1.out.src (by omega) (by omega) (by omega)).mono ?_
    rintro en w2 ⟨v, _, _, rfl, s1, g1⟩
    have D2 := Lib.hid (D1.out.step s1 g1)
    clear s1 g1 D1
    go_wp2_with fail
    go_ret
    exact ⟨_, rfl, D2.out.mono (by omega)⟩
  · go_wp2_with fail
    refine (among_any _ p a len cap _ _ 4 (-1) 1000001 (D1.out.alloc _).src (by omega) (by omega) (by omega) (by have := D1.out.src.lt; omega) (by simp) ?hnu).mono ?_
    case hnu =>
      intro i hi
      match i, hi with
      | 0, _ => exact ⟨_, by simp [go_sem]; rfl, by omega, by omega⟩
      | 1, _ => exact ⟨_, by simp [go_sem]; rfl, by omega, by omega⟩
      | 2, _ => exact ⟨_, by simp [go_sem]; rfl, by omega, by omega⟩
      | 3, _ => exact ⟨_, by simp [go_sem]; rfl, by omega, by omega⟩
    rintro en w2 ⟨v, _, _, rfl, s1, g1⟩
    have D2 := Lib.hid ((D1.out.alloc _).step s1 g1)
    clear s1 g1 D1
    go_wp2_with fail
    go_ret
    exact ⟨_, rfl, D2.out.mono (by omega)⟩
def PaDraw (w : World) (e : Ending) (w' : World) : Prop := ∃ (ps : List (Int × Int)) (v : Value) (q l : Int), e = .returned (.tuple #[v, .int .i64 q, .int .i64 l]) ∧ ps.length ≤ 20 ∧ SlP w' v ps ∧ Below w.heap.size w w'
set_option maxRecDepth 100000 in
set_option maxHeartbeats 4000000 in
theorem DrawPullAlong_any (w : World) (a : Option Addr) (len cap : Nat) (zs : List Int) (h : IsRow .u8 w a len cap zs) :
    Calls Try.prog 29 #[.slice a len cap] w (PaDraw w) := by
  go_enter Try.func29, Try.ntmps29
  go_wp2_with fail
  refine (l00From_any w a len cap zs h).mono ?_
  rintro e w1 ⟨rfl, s1, hb⟩
  have S1 := Lib.hid s1
  have L1 := Lib.hid hb
  clear s1 hb h
  generalize hpp : w.heap.size = p at S1 ⊢
  have hwp : w.heap.size ≤ p := by omega
  have hp1 := S1.out.lt
  go_wp2_with fail
  refine (l05Bent_any w1 p a len cap 0 S1.out (by omega)).mono ?_
  rintro e w2 ⟨ps, v, rfl, hl, hr, hs, hg⟩
  have S2 := Lib.hid hs
  have L2 := Lib.hid (below_grown L1.out hg hwp)
  have O2 := Lib.hid hr
  clear hs hg hr L1 S1
  go_wp2_with fail
  refine (l13DrawPull_any _ p a len cap _ S2.out (by omega)).mono ?_
  rintro e w3 ⟨q, rfl, ds⟩
  have S3 := Lib.hid ds.src
  have L3 := Lib.hid (below_grown L2.out ds.gr hwp)
  have O3 := Lib.hid (own_grown (p := p) O2.out ds.gr (by omega))
  clear ds S2 L2 O2
  go_wp2_with fail
  refine (l13DrawLoss_any _ p a len cap _ S3.out (by omega)).mono ?_
  rintro e w4 ⟨l, rfl, ds⟩
  have S4 := Lib.hid ds.src
  have L4 := Lib.hid (below_grown L3.out ds.gr hwp)
  have O4 := Lib.hid (own_grown (p := p) O3.out ds.gr (by omega))
  clear ds S3 L3 O3
  go_wp2_with fail
  go_ret3
  exact ⟨ps, v, _, _, rfl, hl, slP_of O4.out, L4.out⟩
set_option maxRecDepth 100000 in
set_option maxHeartbeats 4000000 in
theorem DrawLeastPull_any (w : World) (a : Option Addr) (len cap : Nat) (zs : List Int) (h : IsRow .u8 w a len cap zs) :
    Calls Try.prog 33 #[.slice a len cap] w (PaDraw w) := by
  go_enter Try.func33, Try.ntmps33
  go_wp2_with fail
  refine (l00From_any w a len cap zs h).mono ?_
  rintro e w1 ⟨rfl, s1, hb⟩
  have S1 := Lib.hid s1
  have L1 := Lib.hid hb
  clear s1 hb h
  generalize hpp : w.heap.size = p at S1 ⊢
  have hwp : w.heap.size ≤ p := by omega
  have hp1 := S1.out.lt
  go_wp2_with fail
  refine (l05Bent_any w1 p a len cap 0 S1.out (by omega)).mono ?_
  rintro e w2 ⟨ps, v, rfl, hl, hr, hs, hg⟩
  have S2 := Lib.hid hs
  have L2 := Lib.hid (below_grown L1.out hg hwp)
  have O2 := Lib.hid hr
  clear hs hg hr L1 S1
  go_wp2_with fail
  refine (pick_any _ p a len cap _ 500 S2.out (by omega) (by omega) (by omega)).mono ?_
  rintro e w3 ⟨q, _, _, rfl, s1, g1⟩
  have S3 := Lib.hid s1
  have L3 := Lib.hid (below_grown L2.out g1 hwp)
  have O3 := Lib.hid (own_grown (p := p) O2.out g1 (by omega))
  clear s1 g1 S2 L2 O2
  go_wp2_with fail
  refine (oneQ_any _ p a len cap _ 8 S3.out (by omega) (by omega) (by omega)).mono ?_
  rintro e w4 ⟨z, rfl, s1, g1⟩
  have S4 := Lib.hid s1
  have L4 := Lib.hid (below_grown L3.out g1 hwp)
  have O4 := Lib.hid (own_grown (p := p) O3.out g1 (by omega))
  clear s1 g1 S3 L3 O3
  cases z
  · go_wp2_with fail
    refine (l13DrawLoss_any _ p a len cap _ S4.out (by omega)).mono ?_
    rintro e w5 ⟨l, rfl, ds⟩
    have S5 := Lib.hid ds.src
    have L5 := Lib.hid (below_grown L4.out ds.gr hwp)
    have O5 := Lib.hid (own_grown (p := p) O4.out ds.gr (by omega))
    clear ds S4 L4 O4
    go_wp2_with fail
    go_ret3
    exact ⟨ps, v, _, _, rfl, hl, slP_of O5.out, L5.out⟩
  · go_wp2_with fail
    refine (l13DrawPull_any _ p a len cap _ S4.out (by omega)).mono ?_
    rintro e w5 ⟨q2, rfl, ds⟩
    have S5 := Lib.hid ds.src
    have L5 := Lib.hid (below_grown L4.out ds.gr hwp)
    have O5 := Lib.hid (own_grown (p := p) O4.out ds.gr (by omega))
    clear ds S4 L4 O4
    go_wp2_with fail
    refine (l13DrawLoss_any _ p a len cap _ S5.out (by omega)).mono ?_
    rintro e w6 ⟨l, rfl, ds⟩
    have S6 := Lib.hid ds.src
    have L6 := Lib.hid (below_grown L5.out ds.gr hwp)
    have O6 := Lib.hid (own_grown (p := p) O5.out ds.gr (by omega))
    clear ds S5 L5 O5
    go_wp2_with fail
    go_ret3
    exact ⟨ps, v, _, _, rfl, hl, slP_of O6.out, L6.out⟩
set_option maxHeartbeats 1000000 in
theorem f6same_yes (ts : List Int) (va vb : Value) (w : World) (ha : Sl64 w va ts) (hb : Sl64 w vb ts) (hmax : ts.length ≤ 1000000000000) :
    Calls Try.prog 30 #[va, vb] w (DrewRet (.bool true) w) := by
  obtain ⟨ao, cap, rfl, ha⟩ := ha
  obtain ⟨bo, bcap, rfl, hb⟩ := hb
  have HA := Lib.hid ha
  have HB := Lib.hid hb
  clear ha hb
  have hne : ((ts.length : Int) != (ts.length : Int)) = false := by simp
  go_enter Try.func30, Try.ntmps30
  go_wp2_with fail
  go_loopw [5] (fun i wr => ∃ (k : Nat) (n : Nat), k ≤ ts.length ∧ i = .int .i64 k ∧ wr = w.drewN n) (fun i _ => ts.length - (intOf i).toNat)
  case atStart => exact ⟨0, 0, by omega, rfl, rfl⟩
  case round =>
    obtain ⟨k, n, hk, rfl, rfl⟩ := hrel
    by_cases hlt : k < ts.length
    · obtain ⟨g, rfl, hg, hc⟩ := HA.out (by omega)
      obtain ⟨g2, rfl, hg2, hc2⟩ := HB.out (by omega)
      have c1 : w.cell? ⟨g, k, none⟩ = some (.int .i64 (at0 ts k)) := hc k hlt
      have c2 : w.cell? ⟨g2, k, none⟩ = some (.int .i64 (at0 ts k)) := hc2 k hlt
      have hne2 : (at0 ts k != at0 ts k) = false := by simp
      clear hc hc2 HA HB
      go_wp2_with fail
      go_quiet (fail)
      go_wp2_with fail
      go_roundw
      case rel => exact ⟨k + 1, _, by omega, by go_num, rfl⟩
      case measure => simp [intOf]; omega
    · go_wp2_with fail
      go_ret
      exact ⟨rfl, n, rfl⟩
end Go.Proofs.Ytclefibjmnabbaa
