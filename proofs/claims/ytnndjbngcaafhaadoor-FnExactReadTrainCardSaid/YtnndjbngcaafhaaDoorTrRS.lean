/-
  The contracts of spec.l02Whole, l05Ratio, TrainRatio.
-/
import Derived.Test.YtnndjbngcaafhaaDoorTrM
import Derived.Test.YtnndjbngcaafhaaDoorTrS
import Derived.Test.YtnndjbngcaafhaaDoorBox
import Derived.Deep.RegionWith
import Derived.Deep.DeepCutAuto
namespace Go.Proofs.YtnndjbngcaafhaaDoor
open Go.RowKit

theorem l02Whole_any (n : Int) (w : World) :
    Calls Tryd.prog 38 #[.int .i64 n] w fun e w' => e = .returned (.agg #[.int .i64 n, .int .i64 1]) ∧ Below w.heap.size w w' := by
  go_enter Tryd.func38, Tryd.ntmps38
  go_wp2_with fail
  exact bodyPost_ret (v := .agg #[.int .i64 n, .int .i64 1]) (by simp [results, Tryd.results38, go_sem]) rfl ⟨rfl, bA (bR _) _⟩
def trA0 (ps : List (Int × Int)) : Int := match trF 1 1 ps with | some r => r.1 | none => 0
def trB0 (ps : List (Int × Int)) : Int := match trF 1 1 ps with | some r => r.2 | none => 0
def trK (ps : List (Int × Int)) : Bool := (trF 1 1 ps).isSome
theorem tr0_far {ps : List (Int × Int)} (h2 : trF 1 1 ps = none) : trA0 ps = 0 ∧ trB0 ps = 0 ∧ trK ps = false := by simp [trA0, trB0, trK, h2]
theorem tr0_got {ps : List (Int × Int)} {n d : Int} (h2 : trF 1 1 ps = some (n, d)) : trA0 ps = n ∧ trB0 ps = d ∧ trK ps = true := by simp [trA0, trB0, trK, h2]
def RatB (w : World) (a b : Int) (c : Bool) (e : Ending) (w' : World) : Prop := e = .returned (.tuple #[.agg #[.int .i64 a, .int .i64 b], .bool c]) ∧ Below w.heap.size w w'
/-- What stands in a round's region. -/
def RH (w : World) (g o : Nat) (x y : Int) (br bo : Nat) (n d : Int) (w' : World) : Prop :=
  w'.cell? ⟨g, o, none⟩ = some (.int .i64 x) ∧ w'.cell? ⟨g, o + 1, none⟩ = some (.int .i64 y) ∧ Box2 w' br 0 0 ∧ Box2 w' bo n d ∧ g < w'.heap.size ∧ Below w.heap.size w w'
theorem RH.drew {w : World} {g o : Nat} {x y : Int} {br bo : Nat} {n d : Int} {w' : World} (h : RH w g o x y br bo n d w') : RH w g o x y br bo n d w'.drew := ⟨h.1, h.2.1, h.2.2.1.drew, h.2.2.2.1.drew, h.2.2.2.2.1, h.2.2.2.2.2.drew⟩
theorem RH.keep {w : World} {g o : Nat} {x y : Int} {br bo : Nat} {n d : Int} {w' w2 : World} (hb : Below w'.heap.size w' w2) (h : RH w g o x y br bo n d w') : RH w g o x y br bo n d w2 := by
  obtain ⟨h1, h2, h3, h4, h5, h6⟩ := h
  exact ⟨(hb.cell (p := ⟨g, o, none⟩) h5).trans h1, (hb.cell (p := ⟨g, o + 1, none⟩) h5).trans h2, h3.keep hb, h4.keep hb, Nat.lt_of_lt_of_le h5 hb.size, bT h6 hb⟩
theorem RH.alloc {w : World} {g o : Nat} {x y : Int} {br bo : Nat} {n d : Int} {w' : World} (h : RH w g o x y br bo n d w') (ob : Obj) : RH w g o x y br bo n d (w'.alloc ob) := RH.keep (bA (bR _) _) h
theorem RH.set {w : World} {g o : Nat} {x y : Int} {br bo : Nat} {n d : Int} {w' : World} {b i : Nat} {v : Value} (h : RH w g o x y br bo n d w') (h1 : g ≠ b) (h2 : br ≠ b) (h3 : bo ≠ b) (h4 : w.heap.size ≤ b) : RH w g o x y br bo n d (w'.setCell ⟨b, i, none⟩ v) := by
  obtain ⟨e1, e2, e3, e4, e5, e6⟩ := h
  exact ⟨(cell_off (by simpa using Ne.symm h1)).trans e1, (cell_off (by simpa using Ne.symm h1)).trans e2, e3.other h2, e4.other h3, by simpa [World.setCell] using e5, e6.setCell h4 v⟩
/-- What a round's first statement leaves: the step's box and that it is a ratio. -/
def CutR (w : World) (g o : Nat) (x y : Int) (br bo : Nat) (n d : Int) (p q : Int) (s6 s7 : Value) (wx : World) : Prop :=
  ∃ b : Nat, s6 = .pointer (some ⟨b, 0, none⟩) ∧ s7 = .bool true ∧ Box2 wx b p q ∧ RH w g o x y br bo n d wx
theorem cutA {w W w' : World} {g o : Nat} {x y : Int} {br bo : Nat} {n d p q : Int} {b : Nat} (hw : w.heap.size ≤ b) (h : RH w g o x y br bo n d W) (hB : Box2 W b 0 0) (hg : g < b) (h2 : br < b) (h3 : bo < b) (hb : Below W.heap.size W w') :
    CutR w g o x y br bo n d p q (.pointer (some ⟨b, 0, none⟩)) (.bool true) ((w'.setCell ⟨b, 0, none⟩ (.int .i64 p)).setCell ⟨b, 1, none⟩ (.int .i64 q)) :=
  ⟨b, rfl, rfl, (hB.keep hb).set p q, ((h.keep hb).set (by omega) (by omega) (by omega) hw).set (by omega) (by omega) (by omega) hw⟩
theorem cutB {w W w' : World} {g o : Nat} {x y : Int} {br bo : Nat} {n d p q : Int} {t : TypeId} (h : RH w g o x y br bo n d W) (hb : Below W.heap.size W w') :
    CutR w g o x y br bo n d p q (.pointer (some ⟨w'.heap.size, 0, none⟩)) (.bool true) (((w'.alloc (.cells #[.int .i64 0, .int .i64 0] t)).setCell ⟨w'.heap.size, 0, none⟩ (.int .i64 p)).setCell ⟨w'.heap.size, 1, none⟩ (.int .i64 q)) := by
  have h' := h.keep hb
  have e1 := h'.2.2.1.lt
  have e2 := h'.2.2.2.1.lt
  have e3 := h'.2.2.2.2.1
  have e4 := h'.2.2.2.2.2.size
  exact ⟨w'.heap.size, rfl, rfl, (Box2.new w' 0 0 t).set p q, ((h'.alloc _).set (by omega) (by omega) (by omega) e4).set (by omega) (by omega) (by omega) e4⟩
theorem cutC {w W w' : World} {g o : Nat} {x y : Int} {br bo : Nat} {n d p q : Int} {t : TypeId} (h : RH w g o x y br bo n d W) (hb : Below W.heap.size W w') :
    CutR w g o x y br bo n d p q (.pointer (some ⟨w'.heap.size, 0, none⟩)) (.bool true) (w'.alloc (.cells #[.int .i64 p, .int .i64 q] t)) :=
  ⟨w'.heap.size, rfl, rfl, Box2.new w' p q t, (h.keep hb).alloc _⟩
def TsRel (w : World) (ps : List (Int × Int)) (br bo : Nat) (i : Value) (wr : World) : Prop :=
  ∃ (k : Nat) (n d : Int), k ≤ ps.length ∧ i = .int .i64 k ∧ Box2 wr br 0 0 ∧ Box2 wr bo n d ∧ okR n d = true ∧ trF 1 1 ps = trF n d (ps.drop k) ∧ Below w.heap.size w wr
theorem bset {w x : World} {b o : Nat} {v : Value} (h : Below w.heap.size w x) (ha : w.heap.size ≤ b) : Below w.heap.size w (x.setCell ⟨b, o, none⟩ v) := h.setCell ha v
set_option maxRecDepth 100000 in
set_option maxHeartbeats 4000000 in
theorem l05Ratio_any (ps : List (Int × Int)) (v : Value) (w : World) (ha : SlP w v ps) (hok : okT ps = true) :
    Calls Tryd.prog 55 #[v] w (RatB w (trA0 ps) (trB0 ps) (trK ps)) := by
  have h5 := (okT_iff.1 hok).1
  have HOK := Lib.hid hok
  have HV := Lib.hid ha
  have B0 := Box2.new w 0 0 32
  obtain ⟨ao, cap, rfl, _⟩ := ha
  go_enter Tryd.func55, Tryd.ntmps55
  go_wp2_with fail
  refine (l02Whole_any _ _).mono ?_
  rintro e w1 ⟨rfl, hb⟩
  have B1 := Lib.hid ((B0.keep hb).alloc (.cells #[.int .i64 1, .int .i64 1] 32))
  have T1 := Lib.hid (Box2.new w1 1 1 32)
  have hsz : w.heap.size < w1.heap.size := bsize hb (by simp)
  have L1 := Lib.hid (bA (bT (bA (bR w) (.cells #[.int .i64 0, .int .i64 0] 32)) hb) (.cells #[.int .i64 1, .int .i64 1] 32))
  have RS := Lib.hid (show TsRel w ps w.heap.size w1.heap.size (.int .i64 0) (w1.alloc (.cells #[.int .i64 1, .int .i64 1] 32)) from
    ⟨0, 1, 1, by omega, rfl, B1.out, T1.out, by decide, by simp, L1.out⟩)
  clear hb B0 B1 T1 L1 hok
  go_wp2_with fail
  generalize w1.alloc (.cells #[.int .i64 1, .int .i64 1] 32) = W1 at *
  generalize w1.heap.size = bo at *
  go_loopw [5] (fun i wr => TsRel w ps w.heap.size bo i wr) (fun i _ => ps.length - (intOf i).toNat)
  case atStart => exact RS.out
  case round =>
    obtain ⟨k, n, d, hk, rfl, hbr, hbo, hok, htr, hbw⟩ := hrel
    have HBR := Lib.hid hbr
    have HBO := Lib.hid hbo
    have HN := Lib.hid hok
    have HTR := Lib.hid htr
    have HB := Lib.hid hbw
    obtain ⟨n1, n2, n3, n4⟩ := okR_bd hok
    clear hbr hbo hok htr hbw
    by_cases hlt : k < ps.length
    · obtain ⟨ao', cap', e', ha'⟩ := HV.out
      injection e' with e1 e2 e3
      subst e1 e3
      obtain ⟨g, rfl, hg, hc⟩ := ha' (by omega)
      obtain ⟨c1, c2⟩ := (hc.keep hg HB.out) k hlt
      have hg' : g < wr.heap.size := Nat.lt_of_lt_of_le hg HB.out.size
      obtain ⟨a1', a2, a3, a4⟩ := okT_at HOK.out hlt
      have HGO := Lib.hid (fun h => trF_go (n := n) (d := d) hlt h)
      have HNO := Lib.hid (fun h => trF_no (n := n) (d := d) hlt h)
      clear hg hc ha' e2
      generalize (pat ps k).1 = a at *
      generalize (pat ps k).2 = b at *
      have HS0 : RH w g (k * 2) a b w.heap.size bo n d wr := ⟨c1, c2, HBR.out, HBO.out, hg', HB.out⟩
      obtain ⟨q1, q2, q3⟩ := mul_step (n := n) (d := d) (a := a) (b := b) ⟨a1', a2⟩ ⟨a3, a4⟩
      obtain ⟨gq, gq1, gq2, gq3, s3, s4, s5, s6, s7⟩ := step_back (a := a) (b := b) ⟨a1', a2⟩ ⟨a3, a4⟩
      clear gq1 gq2 gq3 gq
      obtain ⟨s1, s2⟩ := mk_yes s3
      have HQ1 := Lib.hid q1
      have HQ2 := Lib.hid q2
      have HQ3 := Lib.hid q3
      have HM1 := Lib.hid s1
      have HM2 := Lib.hid s2
      have HM3 := Lib.hid s3
      have HS4 := Lib.hid (show -240 ≤ mkN (-a) b ∧ mkN (-a) b ≤ 240 ∧ 1 ≤ lowD (-a) b ∧ lowD (-a) b ≤ 240 from ⟨s4, s5, s6, s7⟩)
      have HS1 := Lib.hid HS0
      clear q1 q2 q3 s1 s2 s3 s4 s5 s6 s7 HS0
      have wneg : IntKind.i64.wrap (-a) = -a := IntWalk.i64_in _ (by omega)
      have NB := Lib.hid (show 1 ≤ d ∧ d ≤ 1000000000 ∧ -1000000000 ≤ n ∧ n ≤ 1000000000 from ⟨n1, n2, n3, n4⟩)
      clear n1 n2 n3 n4
      go_upto_region 5 with fail
      go_cut [6, 7] (fun s6 s7 wx => CutR w g (k * 2) a b w.heap.size bo n d (mkN (-a) b) (lowD (-a) b) s6 s7 wx)
      case first =>
        go_region_with (go_at_call 61; refine (l02Make_any _ _ _ (by omega) (by omega) (by omega) (by omega) (by omega)).mono ?_; rw [HM1.out, HM2.out, HM3.out]; rintro e w' ⟨rfl, hb⟩; obtain ⟨hc, hf⟩ := bcell hb)
        all_goals go_wp2_with fail
        all_goals go_meet
        all_goals first
          | exact cutA HB.out.size (HS1.out.alloc _).drew (Box2.new wr 0 0 32).drew hg' HBR.out.lt HBO.out.lt hb
          | exact cutA HB.out.size (HS1.out.drew.alloc _) (Box2.new wr.drew 0 0 32) hg' HBR.out.lt HBO.out.lt hb
          | exact cutB HS1.out.drew hb
          | exact cutC HS1.out.drew hb
      case rest =>
        obtain ⟨b6, rfl, rfl, hb6, hrh⟩ := hcut
        obtain ⟨_, _, hbr6, hbo6, _, hbw6⟩ := hrh
        have HB6 := Lib.hid hb6
        have HBR6 := Lib.hid hbr6
        have HBO6 := Lib.hid hbo6
        have HBW6 := Lib.hid hbw6
        clear hb6 hbr6 hbo6 hbw6 wneg c1 c2 hg'
        obtain ⟨n1, n2, n3, n4⟩ := NB.out
        obtain ⟨s4, s5, s6, s7⟩ := HS4.out
        generalize hsn : mkN (-a) b = sn at *
        generalize hsd : lowD (-a) b = sd at *
        clear hsn hsd HM1 HM2 HM3 HS4 HS1
        have M6 := Lib.hid (fun W => l02Mul_any n d sn sd W n3 n4 n1 n2 (by omega) (by omega) s6 (by omega))
        obtain ⟨x0, x1, x2, x3, x4⟩ := HB6.out
        obtain ⟨y0, y1, y2, y3, y4⟩ := HBO6.out
        cases hlow : lowOk (-n * a) (d * b)
        · have HF := Lib.hid (tr0_far (HTR.out.trans (HNO.out hlow)))
          have HK := Lib.hid (HQ3.out.trans hlow)
          have HZ := Lib.hid (mk_no (HQ3.out.trans hlow))
          clear hlow
          go_wp2_with fail
          refine (M6.out _).mono ?_
          rw [HK.out, HZ.out.1, HZ.out.2]
          rintro e w2 ⟨rfl, hb2⟩
          have HBR7 := Lib.hid ((HBR6.out.keep hb2).alloc (.cells #[.int .i64 0, .int .i64 0] 32))
          have HB7 := Lib.hid (bA (bT HBW6.out hb2) (.cells #[.int .i64 0, .int .i64 0] 32))
          clear hb2 x0 x1 x2 x3 x4 y0 y1 y2 y3 y4
          obtain ⟨x0, x1, x2, x3, x4⟩ := HBR7.out
          go_wp2_with fail
          refine bodyPost_ret (v := .tuple #[.agg #[.int .i64 0, .int .i64 0], .bool false]) ?_ rfl ⟨ret_rb HF.out.1.symm HF.out.2.1.symm HF.out.2.2.symm, bset (bset HB7.out (by omega)) (by omega)⟩
          simp [results, Tryd.results55, go_sem, x0, x1]
        · have HTR2 := Lib.hid (HTR.out.trans (HGO.out hlow))
          obtain ⟨p3, _⟩ := prod_pos (d := d) (b := b) n1 n2 a3 a4
          have HN2 := Lib.hid (low_fit p3 hlow)
          have HK := Lib.hid (HQ3.out.trans hlow)
          have HZ := Lib.hid (mk_yes (HQ3.out.trans hlow))
          clear hlow p3
          go_wp2_with fail
          refine (M6.out _).mono ?_
          rw [HK.out, HZ.out.1, HZ.out.2, HQ1.out, HQ2.out]
          generalize mkN (-n * a) (d * b) = n' at *
          generalize lowD (-n * a) (d * b) = d' at *
          rintro e w2 ⟨rfl, hb2⟩
          have hbo : bo < w2.heap.size := Nat.lt_of_lt_of_le HBO6.out.lt hb2.size
          have HBR7 := Lib.hid (HBR6.out.keep hb2)
          have HBO7 := Lib.hid (HBO6.out.keep hb2)
          have HB7 := Lib.hid (bT HBW6.out hb2)
          clear hb2 x0 x1 x2 x3 x4 y0 y1 y2 y3 y4
          obtain ⟨y0, y1, y2, y3, y4⟩ := HBO7.out
          have RN := Lib.hid (show TsRel w ps w.heap.size bo (.int .i64 ((k : Int) + 1)) (((w2.setCell ⟨bo, 0, none⟩ (.int .i64 n')).setCell ⟨bo, 1, none⟩ (.int .i64 d')).alloc (.cells #[.int .i64 n', .int .i64 d'] 32)) from
            ⟨k + 1, n', d', by omega, by go_num, ((HBR7.out.other (by omega)).other (by omega)).alloc _, (HBO7.out.set n' d').alloc _, HN2.out, HTR2.out, bA (bset (bset HB7.out (by omega)) (by omega)) _⟩)
          go_wp2_with fail
          go_roundw
          case rel => exact RN.out
          case measure => simp [intOf]; omega
    · obtain rfl : k = ps.length := by omega
      have HQ := Lib.hid (tr0_got (HTR.out.trans trF_end))
      obtain ⟨t0, t1, _, _, _⟩ := HBO.out
      obtain ⟨x0, x1, x2, x3, x4⟩ := HBR.out
      go_wp2_with fail
      refine bodyPost_ret (v := .tuple #[.agg #[.int .i64 n, .int .i64 d], .bool true]) ?_ rfl ⟨ret_rb HQ.out.1.symm HQ.out.2.1.symm HQ.out.2.2.symm, bset (bset HB.out (by omega)) (by omega)⟩
      simp [results, Tryd.results55, go_sem, x0, x1]
theorem tr_of0 {ps : List (Int × Int)} (h : okT ps = true) : trA ps = (if trK ps then trA0 ps else 0) ∧ trB ps = (if trK ps then trB0 ps else 0) ∧ trC' ps = (if trK ps then 0 else 2) := by
  unfold trA trB trC' trK trA0 trB0
  rw [if_pos h, if_pos h, if_pos h]
  cases trF 1 1 ps <;> simp
def RatC2 (w : World) (a b c : Int) (e : Ending) (w' : World) : Prop := e = .returned (.tuple #[.agg #[.int .i64 a, .int .i64 b], .int .i64 c]) ∧ Below w.heap.size w w'
end Go.Proofs.YtnndjbngcaafhaaDoor
