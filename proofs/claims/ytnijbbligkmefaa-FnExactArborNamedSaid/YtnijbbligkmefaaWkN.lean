/-
  ArborNamed: both sides, and the walk of laws.FnExactArborNamed.
-/
import Derived.Test.YtnijbbligkmefaaWkW
namespace Go.Proofs.Ytnijbbligkmefaa
open Go.RowKit

def anI (rs : List Arb) (ms : List Msh) (n : ByteArray) : Int := if okW rs ms = true ∧ 0 ≤ idxN rs n then idxN rs n else 0
def anB (rs : List Arb) (ms : List Msh) (n : ByteArray) : Bool := if okW rs ms = true ∧ 0 ≤ idxN rs n then true else false
def IntB (x : Int) (b : Bool) (w : World) (e : Ending) (w' : World) : Prop := e = .returned (.tuple #[.int .i64 x, .bool b]) ∧ Below w.heap.size w w'
theorem an_no {rs : List Arb} {ms : List Msh} {n : ByteArray} (h : ¬ (okW rs ms = true ∧ 0 ≤ idxN rs n)) : anI rs ms n = 0 ∧ anB rs ms n = false := by
  unfold anI anB; rw [if_neg h, if_neg h]; exact ⟨rfl, rfl⟩
theorem an_yes {rs : List Arb} {ms : List Msh} {n : ByteArray} (h : okW rs ms = true) (h2 : 0 ≤ idxN rs n) : anI rs ms n = idxN rs n ∧ anB rs ms n = true := by
  unfold anI anB; rw [if_pos ⟨h, h2⟩, if_pos ⟨h, h2⟩]; exact ⟨rfl, rfl⟩
set_option maxHeartbeats 2000000 in
theorem ArborNamedS_any (rs : List Arb) (ms : List Msh) (u v : Value) (n : ByteArray) (w : World) (ha : SlA w u rs) (hm : SlM w v ms) :
    Calls Try.prog 29 #[.agg #[u, v], .string n] w (IntB (anI rs ms n) (anB rs ms n) w) := by
  have H0 := Lib.hid (WkAt.new 31 ha hm)
  have hbd := (idx_bd rs n).1
  clear ha hm
  cases hok : okW rs ms
  · have HN := Lib.hid (an_no (rs := rs) (ms := ms) (n := n) (by simp [hok]))
    rw [HN.out.1, HN.out.2]
    go_enter Try.func29, Try.ntmps29
    go_wp2_with fail
    refine (l08Find_any _ rs ms n _ H0.out).mono ?_
    rintro e w1 ⟨rfl, rfl⟩
    go_wp2_with fail
    refine (l08Ok_any _ rs ms _ H0.out).mono ?_
    rw [hok]
    rintro e w1 ⟨rfl, hb⟩
    go_wp2_with fail
    exact bodyPost_ret (v := .tuple #[.int .i64 0, .bool false]) (by simp [results, Try.results29, go_sem]) rfl ⟨rfl, bT (bA (bR _) _) hb⟩
  · by_cases hz : 0 ≤ idxN rs n
    · have HN := Lib.hid (an_yes (rs := rs) (ms := ms) (n := n) hok hz)
      rw [HN.out.1, HN.out.2]
      have hz' : ¬ idxN rs n < 0 := by omega
      have HF := Lib.hid (l08Find_any _ rs ms n _ H0.out)
      clear HN
      generalize idxN rs n = z at *
      go_enter Try.func29, Try.ntmps29
      go_wp2_with fail
      refine HF.out.mono ?_
      rintro e w1 ⟨rfl, rfl⟩
      go_wp2_with fail
      refine (l08Ok_any _ rs ms _ H0.out).mono ?_
      rw [hok]
      rintro e w1 ⟨rfl, hb⟩
      go_wp2_with fail
      exact bodyPost_ret (v := .tuple #[.int .i64 z, .bool true]) (by simp [results, Try.results29, go_sem]) rfl ⟨rfl, bT (bA (bR _) _) hb⟩
    · have HN := Lib.hid (an_no (rs := rs) (ms := ms) (n := n) (fun h => hz h.2))
      rw [HN.out.1, HN.out.2]
      have hz' : idxN rs n < 0 := by omega
      have HF := Lib.hid (l08Find_any _ rs ms n _ H0.out)
      clear HN
      generalize idxN rs n = z at *
      go_enter Try.func29, Try.ntmps29
      go_wp2_with fail
      refine HF.out.mono ?_
      rintro e w1 ⟨rfl, rfl⟩
      go_wp2_with fail
      refine (l08Ok_any _ rs ms _ H0.out).mono ?_
      rw [hok]
      rintro e w1 ⟨rfl, hb⟩
      go_wp2_with fail
      exact bodyPost_ret (v := .tuple #[.int .i64 0, .bool false]) (by simp [results, Try.results29, go_sem]) rfl ⟨rfl, bT (bA (bR _) _) hb⟩
set_option maxHeartbeats 2000000 in
theorem ArborNamedI_any (rs : List Arb) (ms : List Msh) (u v : Value) (n : ByteArray) (w : World) (ha : SlA w u rs) (hm : SlM w v ms) :
    Calls Try.prog 30 #[.agg #[u, v], .string n] w (IntB (anI rs ms n) (anB rs ms n) w) := by
  obtain ⟨_, ao, cap, rfl, _⟩ := id ha
  obtain ⟨_, bo, bcap, rfl, _⟩ := id hm
  have X := Lib.hid (BoxU.new w (.slice ao rs.length cap) (.slice bo ms.length bcap) 31)
  have L0 := Lib.hid (bA (bR w) (.cells #[.slice ao rs.length cap, .slice bo ms.length bcap] 31))
  have HA := Lib.hid (ha.keep L0.out)
  have HM := Lib.hid (hm.keep L0.out)
  have hbd := (idx_bd rs n).1
  clear ha hm
  obtain ⟨x0, x1, _, _, x4⟩ := X.out
  cases hok : okW rs ms
  · have HN := Lib.hid (an_no (rs := rs) (ms := ms) (n := n) (by simp [hok]))
    rw [HN.out.1, HN.out.2]
    go_enter Try.func30, Try.ntmps30
    go_wp2_with fail
    refine (ValidWorksI_any rs ms _ _ _ HA.out HM.out).mono ?_
    rw [hok]
    rintro e w1 ⟨rfl, hb⟩
    go_wp2_with fail
    exact bodyPost_ret (v := .tuple #[.int .i64 0, .bool false]) (by simp [results, Try.results30, go_sem]) rfl ⟨rfl, bT L0.out hb⟩
  · have HI := Lib.hid (fun W (h : SlA W (.slice ao rs.length cap) rs) => indexNamed_any rs n _ W h)
    by_cases hz : 0 ≤ idxN rs n
    · have HN := Lib.hid (an_yes (rs := rs) (ms := ms) (n := n) hok hz)
      rw [HN.out.1, HN.out.2]
      have hz' : ¬ idxN rs n < 0 := by omega
      clear HN
      generalize idxN rs n = z at *
      go_enter Try.func30, Try.ntmps30
      go_wp2_with fail
      refine (ValidWorksI_any rs ms _ _ _ HA.out HM.out).mono ?_
      rw [hok]
      rintro e w1 ⟨rfl, hb⟩
      have HA1 := Lib.hid (HA.out.keep hb)
      have L1 := Lib.hid (bT L0.out hb)
      have X1 := X.out.keep hb
      clear hb x0 x1 x4
      obtain ⟨x0, x1, _, _, x4⟩ := X1
      go_wp2_with fail
      refine (HI.out _ HA1.out).mono ?_
      rintro e w2 ⟨rfl, hb⟩
      have L2 := Lib.hid (bT L1.out hb)
      clear hb
      go_wp2_with fail
      exact bodyPost_ret (v := .tuple #[.int .i64 z, .bool true]) (by simp [results, Try.results30, go_sem]) rfl ⟨rfl, L2.out⟩
    · have HN := Lib.hid (an_no (rs := rs) (ms := ms) (n := n) (fun h => hz h.2))
      rw [HN.out.1, HN.out.2]
      have hz' : idxN rs n < 0 := by omega
      clear HN
      generalize idxN rs n = z at *
      go_enter Try.func30, Try.ntmps30
      go_wp2_with fail
      refine (ValidWorksI_any rs ms _ _ _ HA.out HM.out).mono ?_
      rw [hok]
      rintro e w1 ⟨rfl, hb⟩
      have HA1 := Lib.hid (HA.out.keep hb)
      have L1 := Lib.hid (bT L0.out hb)
      have X1 := X.out.keep hb
      clear hb x0 x1 x4
      obtain ⟨x0, x1, _, _, x4⟩ := X1
      go_wp2_with fail
      refine (HI.out _ HA1.out).mono ?_
      rintro e w2 ⟨rfl, hb⟩
      have L2 := Lib.hid (bT L1.out hb)
      clear hb
      go_wp2_with fail
      exact bodyPost_ret (v := .tuple #[.int .i64 0, .bool false]) (by simp [results, Try.results30, go_sem]) rfl ⟨rfl, L2.out⟩
set_option maxHeartbeats 4000000 in
theorem FnExactArborNamed_walk (v : Value) (rs : List Arb) (ms : List Msh) (n : ByteArray) (w : World) (h : IsWk w v rs ms) (_hs : n.size ≤ maxLen) :
    Calls Try.prog 7 #[v, .string n] w fun e w' => e = .returned (.bool true) ∧ Below w.heap.size w w' := by
  obtain ⟨pa, pn, pc, qa, qn, qc, rfl, _, _⟩ := id h
  have X := Lib.hid (BoxU.new w (.slice pa pn pc) (.slice qa qn qc) 25)
  have L0 := Lib.hid (bA (bR w) (.cells #[.slice pa pn pc, .slice qa qn qc] 25))
  have H0 := Lib.hid (h.keep L0.out)
  obtain ⟨c0, c1, _, _, c4⟩ := X.out
  clear h
  by_cases hbig : 1048576 < n.size
  · have hbig' : (1048576 : Int) < (n.size : Int) := by omega
    have hbig'' : decide ((1048576 : Int) < (n.size : Int)) = true := decide_eq_true hbig'
    go_enter Try.func7, Try.ntmps7
    go_wp2_with fail
    go_ret
    exact ⟨rfl, L0.out⟩
  · have hbig' : ¬ (1048576 : Int) < (n.size : Int) := by omega
    have hbig'' : decide ((1048576 : Int) < (n.size : Int)) = false := decide_eq_false hbig'
    go_enter Try.func7, Try.ntmps7
    go_wp2_with fail
    generalize w.alloc (.cells #[.slice pa pn pc, .slice qa qn qc] 25) = W0 at *
    generalize hbl : w.heap.size = bl at X c0 c1 c4 ⊢
    have HBL := Lib.hid hbl
    clear hbl
    refine (szWorks_any _ rs ms 1048576 _ H0.out (by omega) (by omega)).mono ?_
    rintro e w1 ⟨r, rfl, r1, r2, r3, hb⟩
    have X1 := Lib.hid (X.out.keep hb)
    have L1 := Lib.hid (bT L0.out hb)
    have H1 := Lib.hid (H0.out.keep hb)
    have R := Lib.hid r3
    clear hb r3 c0 c1 c4
    obtain ⟨c0, c1, _, _, c4⟩ := X1.out
    by_cases hr : r < 0
    · go_wp2_with fail
      go_ret
      exact ⟨rfl, L1.out⟩
    · have HL := Lib.hid (R.out (by omega))
      go_wp2_with fail
      refine (toWorks_any _ rs ms _ H1.out HL.out).mono ?_
      rintro e w2 ⟨u1, v1, rfl, hA, hM, hb⟩
      have A1 := Lib.hid hA.sl
      have M1 := Lib.hid hM.sl
      have H2 := Lib.hid (H1.out.keep hb)
      have L2 := Lib.hid (bT L1.out hb)
      have X2 := Lib.hid (X1.out.keep hb)
      clear c0 c1 c4
      obtain ⟨c0, c1, _, _, c4⟩ := X2.out
      clear hA hM hb
      go_wp2_with fail
      refine (ArborNamedS_any rs ms u1 v1 n _ A1.out M1.out).mono ?_
      rintro e w3 ⟨rfl, hb⟩
      have H3 := Lib.hid (H2.out.keep hb)
      have L3 := Lib.hid (bT L2.out hb)
      have X3 := Lib.hid (X2.out.keep hb)
      clear c0 c1 c4
      obtain ⟨c0, c1, _, _, c4⟩ := X3.out
      clear hb
      go_wp2_with fail
      refine (toWorks_any _ rs ms _ H3.out HL.out).mono ?_
      rintro e w4 ⟨u2, v2, rfl, hA, hM, hb⟩
      obtain ⟨_, ao, an, rfl, _⟩ := id hA.sl
      obtain ⟨_, bo, bn, rfl, _⟩ := id hM.sl
      have hb' : Below w4.heap.size w4 (w4.alloc (.cells #[.slice ao rs.length an, .slice bo ms.length bn] 31)) := bA (bR _) _
      have A2 := Lib.hid (hA.sl.keep hb')
      have M2 := Lib.hid (hM.sl.keep hb')
      have H4 := Lib.hid ((H3.out.keep hb).keep hb')
      have L4 := Lib.hid (bT (bT L3.out hb) hb')
      have X4 := Lib.hid ((X3.out.keep hb).keep hb')
      have Y4 := Lib.hid (BoxU.new w4 (.slice ao rs.length an) (.slice bo ms.length bn) 31)
      clear c0 c1 c4 hA hM hb hb'
      obtain ⟨c0, c1, _, _, c4⟩ := X4.out
      obtain ⟨d0, d1, _, _, d4⟩ := Y4.out
      go_wp2_with fail
      generalize w4.alloc (.cells #[.slice ao rs.length an, .slice bo ms.length bn] 31) = W4 at *
      generalize w4.heap.size = bx at *
      refine (ArborNamedI_any rs ms _ _ n _ A2.out M2.out).mono ?_
      rintro e w5 ⟨rfl, hb⟩
      have H5 := Lib.hid (H4.out.keep hb)
      have A3 := Lib.hid (A2.out.keep hb)
      have M3 := Lib.hid (M2.out.keep hb)
      have L5 := Lib.hid (bT L4.out hb)
      have X5 := Lib.hid (X4.out.keep hb)
      have Y5 := Lib.hid (Y4.out.keep hb)
      clear c0 c1 c4 d0 d1 d4 hb
      obtain ⟨c0, c1, _, _, c4⟩ := X5.out
      obtain ⟨d0, d1, _, _, d4⟩ := Y5.out
      generalize anI rs ms n = z at *
      generalize anB rs ms n = q at *
      have hne : (z != z) = false := by simp
      have hne2 : (q != q) = false := by simp
      go_wp2_with fail
      have HS : FinH w bl bx (.slice pa pn pc) (.slice qa qn qc) (.slice ao rs.length an) (.slice bo ms.length bn) rs ms w5 := ⟨c0, c1, d0, d1, c4, d4, H5.out, A3.out, M3.out, L5.out⟩
      clear c0 c1 c4 d0 d1 d4 H0 H1 H2 H3 H4 A1 A2 M1 M2 A3 M3 H5 L0 L1 L2 L3 L4 L5 X X1 X2 X3 X4 X5 Y4 Y5
      go_region_held3 (fun w' => w'.cell? ⟨bl, 0, none⟩ = some (.slice pa pn pc) ∧ w'.cell? ⟨bl, 1, none⟩ = some (.slice qa qn qc) ∧ w'.cell? ⟨bx, 0, none⟩ = some (.slice ao rs.length an) ∧ w'.cell? ⟨bx, 1, none⟩ = some (.slice bo ms.length bn) ∧ bl < w'.heap.size ∧ bx < w'.heap.size ∧ IsWk w' (.agg #[(.slice pa pn pc), (.slice qa qn qc)]) rs ms ∧ SlA w' (.slice ao rs.length an) rs ∧ SlM w' (.slice bo ms.length bn) ms ∧ Below w.heap.size w w') (first | exact HS.drew | assumption | exact FinH.keep hb (by assumption))
        (first
          | (go_at_call 13; have hS : FinH w bl bx (.slice pa pn pc) (.slice qa qn qc) (.slice ao rs.length an) (.slice bo ms.length bn) rs ms _ := (by assumption); refine (toWorks_any _ rs ms _ hS.2.2.2.2.2.2.1 HL.out).mono ?_; clear hS; rintro e w' ⟨u3, v3, rfl, hA, hM, hb⟩)
          | (go_at_call 15; have hS : FinH w bl bx (.slice pa pn pc) (.slice qa qn qc) (.slice ao rs.length an) (.slice bo ms.length bn) rs ms _ := (by assumption); refine (eqWorks_same rs ms _ _ _ _ _ hS.2.2.2.2.2.2.2.1 hS.2.2.2.2.2.2.2.2.1 (SlAB.sl (by assumption)) (SlMB.sl (by assumption))).mono ?_; clear hS; rintro e w' ⟨rfl, hb⟩))
      have HT' : FinH w bl bx (.slice pa pn pc) (.slice qa qn qc) (.slice ao rs.length an) (.slice bo ms.length bn) rs ms w' := by assumption
      have HU := Lib.hid HT'.2.2.2.2.2.2.2.2.2
      clear HT' HS
      go_wp2_with fail
      go_ret
      exact ⟨rfl, HU.out⟩
end Go.Proofs.Ytnijbbligkmefaa
