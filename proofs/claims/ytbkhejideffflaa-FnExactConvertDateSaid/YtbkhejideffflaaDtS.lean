/-
  The day with a number, the document's side.
-/
import Derived.Test.YtbkhejideffflaaDtN
namespace Go.Proofs.Ytbkhejideffflaa
open Go.RowKit

def zeV : Value := .agg #[.int .i64 0, .int .i64 0, .int .i64 0]
noncomputable def dtG (c : Cal) (n : Int) : Value := if inB n 0 (cyK c.ms c.rs 10000 - 1) = true then dtV c n else zeV
theorem dtG_no {c : Cal} {n : Int} (h : inB n 0 (cyK c.ms c.rs 10000 - 1) = false) : dtG c n = zeV := by simp [dtG, h]
theorem dtG_yes {c : Cal} {n : Int} (h : inB n 0 (cyK c.ms c.rs 10000 - 1) = true) : dtG c n = dtV c n := by simp [dtG, h]
def TupV (u v : Value) (w : World) (e : Ending) (w' : World) : Prop := e = .returned (.tuple #[u, v]) ∧ Below w.heap.size w w'
/-- What a number's year is found by. -/
theorem dt_start {c : Cal} (hc : okC c = true) {n : Int} (h0 : 0 ≤ n) : ∃ q a : Nat, n / cyA c = (q : Int) ∧ (q : Int) * lcA c.rs = (a : Int) ∧ cyK c.ms c.rs a ≤ n ∧ n % cyA c = n - cyK c.ms c.rs a ∧ 0 < cyA c ∧ (a : Int) ≤ n := by
  have ho := (okC_parts hc).2.2.1
  obtain ⟨r1, r2, r3, r4⟩ := okRu_parts (okC_parts hc).1
  obtain ⟨Y, hY⟩ := Int.eq_ofNat_of_zero_le (show 0 ≤ lcA c.rs by omega)
  have hD := (cyK_bd ho c.rs Y).1
  have hA : cyA c = cyK c.ms c.rs Y := by unfold cyA; rw [hY]; rfl
  have hp : 0 < cyA c := by rw [hA]; omega
  obtain ⟨q, hq⟩ := Int.eq_ofNat_of_zero_le (Int.ediv_nonneg h0 (Int.le_of_lt hp))
  have hs := cy_split (ms := c.ms) r1 hY.symm q
  have he := Int.emod_def n (cyA c)
  have hn := Int.emod_nonneg n (show cyA c ≠ 0 by omega)
  rw [hq, hA, Int.mul_comm, ← hs] at he
  have hb := (cyK_bd ho c.rs (Y * q)).1
  rw [hA] at hn
  exact ⟨q, Y * q, hq, by rw [hY, Int.natCast_mul, Int.mul_comm], by omega, by rw [hA]; exact he, hp, by omega⟩
theorem dt_year {c : Cal} (ho : okMo c.ms = true) {n : Int} {y : Nat} (h : cyK c.ms c.rs y ≤ n) (hn : n ≤ cyK c.ms c.rs 10000 - 1) : y ≤ 9999 := by
  by_cases hy : y ≤ 9999
  · exact hy
  · have := cyK_mono ho c.rs (i := 10000) (k := y) (by omega); omega
theorem dt_month {c : Cal} {R : Int} {y m : Nat} (h : smD c.ms (lpY c.rs (y : Int)) m ≤ R) (hm : m ≤ c.ms.length) (hn : R < dyY c.ms c.rs (y : Int)) : m < c.ms.length := by
  by_cases hy : m < c.ms.length
  · exact hy
  · obtain rfl : m = c.ms.length := by omega
    have : dyY c.ms c.rs (y : Int) = smD c.ms (lpY c.rs (y : Int)) c.ms.length := rfl
    omega
set_option maxRecDepth 100000 in
set_option maxHeartbeats 8000000 in
theorem l16Date_any (b : Nat) (c : Cal) (n : Int) (w : World) (h : CalAt w b c) (hc : okC c = true) :
    Calls Try.prog 48 #[.pointer (some ⟨b, 0, none⟩), .int .i64 n] w (TupV (dtG c n) (.bool (inB n 0 (cyK c.ms c.rs 10000 - 1))) w) := by
  have LL := Lib.hid (fun W (h : CalAt W b c) => l16Last_any b c W h hc)
  have hB := cyK_bd (okC_parts hc).2.2.1 c.rs 10000
  have H := Lib.hid h
  have R0 := Lib.hid (BoxL.new w [.int .i64 0, .int .i64 0, .int .i64 0] 35)
  have L0 := Lib.hid (bA (bR w) (.cells #[.int .i64 0, .int .i64 0, .int .i64 0] 35))
  obtain ⟨r0, r1, r2, _⟩ := R0.out.c3
  obtain ⟨f0, f1, f2⟩ := R0.out.f3q
  cases hin : inB n 0 (cyK c.ms c.rs 10000 - 1)
  · have HG := Lib.hid (dtG_no hin)
    clear h hc
    go_enter Try.func48, Try.ntmps48
    go_wp2_with fail
    generalize w.alloc (.cells #[.int .i64 0, .int .i64 0, .int .i64 0] 35) = W0 at *
    generalize hpb : w.heap.size = pb at R0 r0 r1 r2 f0 f1 f2 ⊢
    have HPB := Lib.hid hpb
    clear hpb
    refine (LL.out _ (H.out.keep L0.out)).mono ?_
    rintro e w1 ⟨rfl, hb⟩
    have L1 := Lib.hid (bT L0.out hb)
    have R1 := Lib.hid (R0.out.keep hb)
    clear hb r0 r1 r2 f0 f1 f2 R0
    obtain ⟨r0, r1, r2, _⟩ := R1.out.c3
    obtain ⟨f0, f1, f2⟩ := R1.out.f3q
    generalize cyK c.ms c.rs 10000 - 1 = last at *
    go_wp2_with fail
    refine (l00In_any _ _ _ _).mono ?_
    rintro e w9 ⟨rfl, rfl⟩
    rw [hin]
    have R2 := Lib.hid (BoxL.setQ (i := 2) (v := .int .i64 0) (BoxL.setQ (i := 1) (v := .int .i64 0) (BoxL.setQ (i := 0) (v := .int .i64 0) R1.out rfl) rfl) rfl)
    have L2 := Lib.hid (((L1.out.setCell (p := ⟨pb, 0, none⟩) (by rw [HPB.out]; exact Nat.le_refl _) (.int .i64 0)).setCell (p := ⟨pb, 1, none⟩) (by rw [HPB.out]; exact Nat.le_refl _) (.int .i64 0)).setCell (p := ⟨pb, 2, none⟩) (by rw [HPB.out]; exact Nat.le_refl _) (.int .i64 0))
    go_wp2_with fail
    clear r0 r1 r2 f0 f1 f2
    obtain ⟨r0, r1, r2, _⟩ := R2.out.c3
    rw [HG.out]
    exact bodyPost_ret (v := .tuple #[zeV, .bool false]) (by simp [results, Try.results48, r0, r1, r2, zeV, go_sem]) rfl ⟨rfl, L2.out⟩
  · have HG := Lib.hid (dtG_yes hin)
    have hin' := inB_true.1 hin
    have ho := (okC_parts hc).2.2.1
    have LC := Lib.hid (fun W (h : CalAt W b c) => show Calls Try.prog 76 #[.pointer (some ⟨b, 0, none⟩)] W (TwoR2 (lcA c.rs) (cyA c) W) from l15Cycle_any b c W h (okC_parts hc).1 ho)
    have hrr := (okRu_parts (okC_parts hc).1).1
    have LA := Lib.hid (fun (y : Nat) (hy : y ≤ 10000) W (h : CalAt W b c) => l15All_any b c (y : Int) W h hrr ho (by omega) (by omega))
    have LD := Lib.hid (fun (y m : Nat) (hy : y ≤ 10000) (hm : m < c.ms.length) W (h : CalAt W b c) => l15Days_any b c (y : Int) m W h hrr (by omega) (by omega) hm)
    obtain ⟨q, a, d1, d2, d3, d4, d5, d6⟩ := dt_start hc hin'.1
    have HY := Lib.hid (fun (y : Nat) (h : cyK c.ms c.rs y ≤ n) => dt_year ho h hin'.2)
    have HM := Lib.hid (fun (R : Int) (y m : Nat) (h : smD c.ms (lpY c.rs (y : Int)) m ≤ R) (hm : m ≤ c.ms.length) (hn : R < dyY c.ms c.rs (y : Int)) => dt_month (c := c) h hm hn)
    have HB := Lib.hid (fun y : Nat => (cyK_bd ho c.rs y).1)
    have HD := Lib.hid (fun y : Nat => dyY_bd ho c.rs (y : Int))
    have HDM := Lib.hid (fun (m : Nat) (q : Bool) (hm : m < c.ms.length) => dyM_bd ho hm q)
    have HSM := Lib.hid (fun (m : Nat) (q : Bool) (hm : m ≤ c.ms.length) => (smD_bd ho q (k := m) hm).1)
    have HV := Lib.hid (fun (y k : Nat) (r : Int) (h : DtR c n y k r) => HG.out.trans (dtV_eq ho h))
    have h20 := (okMo_parts ho).2.1
    have t1 : n.tdiv (cyA c) = (q : Int) := by rw [Int.tdiv_eq_ediv_of_nonneg hin'.1]; exact d1
    have t2 : n.tmod (cyA c) = n - cyK c.ms c.rs a := by rw [Int.tmod_eq_emod_of_nonneg hin'.1]; exact d4
    have v1 : IntKind.i64.wrap ((q : Int) * lcA c.rs) = (a : Int) := by rw [d2]; exact IntWalk.i64_in _ (by omega)
    have z0 : ¬ cyA c = 0 := by omega
    have v2 : IntKind.i64.wrap (a : Int) = (a : Int) := IntWalk.i64_in _ (by omega)
    have HN := Lib.hid (show n ≤ 12000000 by omega)
    have HA := Lib.hid d3
    have s1 : IntKind.i64.wrap (q : Int) = (q : Int) := IntWalk.i64_in _ (by have := Int.ediv_le_self (cyA c) hin'.1; omega)
    have s2 : IntKind.i64.wrap (n - cyK c.ms c.rs a) = n - cyK c.ms c.rs a := IntWalk.i64_in _ (by have := HB.out a; omega)
    have s3 : IntKind.i64.wrap n = n := IntWalk.i64_in _ (by omega)
    have g0 := hin'.1
    clear h hc ho hrr hB hin' d6 d3 HG
    go_enter Try.func48, Try.ntmps48
    go_wp2_with fail
    generalize w.alloc (.cells #[.int .i64 0, .int .i64 0, .int .i64 0] 35) = W0 at *
    generalize hpb : w.heap.size = pb at R0 r0 r1 r2 f0 f1 f2 ⊢
    have HPB := Lib.hid hpb
    clear hpb
    refine (LL.out _ (H.out.keep L0.out)).mono ?_
    rintro e w1 ⟨rfl, hb⟩
    have L1 := Lib.hid (bT L0.out hb)
    have R1 := Lib.hid (R0.out.keep hb)
    clear hb r0 r1 r2 f0 f1 f2 R0 L0
    generalize cyK c.ms c.rs 10000 - 1 = last at *
    go_wp2_with fail
    refine (l00In_any _ _ _ _).mono ?_
    rintro e w9 ⟨rfl, rfl⟩
    rw [hin]
    go_wp2_with fail
    refine (LC.out _ (H.out.keep L1.out)).mono ?_
    rintro e w2 ⟨rfl, hb⟩
    have L2 := Lib.hid (bT L1.out hb)
    have R2 := Lib.hid (R1.out.keep hb)
    clear hb L1 R1 LC LL
    generalize cyA c = D at *
    generalize lcA c.rs = YI at *
    go_wp2_with fail
    have R3 := Lib.hid (BoxL.new w2 [.int .i64 (a : Int), .int .i64 1, .int .i64 0] 35)
    have R4 := Lib.hid (R2.out.keep (bA (bR w2) (.cells #[.int .i64 (a : Int), .int .i64 1, .int .i64 0] 35)))
    have L3 := Lib.hid (bT L2.out (bA (bR w2) (.cells #[.int .i64 (a : Int), .int .i64 1, .int .i64 0] 35)))
    have q1 := L2.out.size
    have q2 := R2.out.lt
    generalize w2.alloc (.cells #[.int .i64 (a : Int), .int .i64 1, .int .i64 0] 35) = W3 at *
    generalize w2.heap.size = pc at *
    clear L2 R2 t1 t2 d1 d2 d4 d5 v1 v2 z0 s1 s2
    go_loopw [9] (fun i wr => ∃ (y : Nat), cyK c.ms c.rs y ≤ n ∧ i = .int .i64 (n - cyK c.ms c.rs y) ∧ BoxL wr pc [.int .i64 (y : Int), .int .i64 1, .int .i64 0] ∧ BoxL wr pb [.int .i64 0, .int .i64 0, .int .i64 0] ∧ Below w.heap.size w wr) (fun i _ => (intOf i).toNat)
    case atStart => exact ⟨a, HA.out, rfl, R3.out, R4.out, L3.out⟩
    case round =>
      obtain ⟨y, hy, rfl, hR, hQ, hL⟩ := hrel
      have X := Lib.hid hR
      have Q := Lib.hid hQ
      have L := Lib.hid hL
      have hy9 := HY.out y hy
      have hn12 := HN.out
      have b1 := HB.out y
      have C1 := Lib.hid (LA.out y (by omega))
      have b2 := HD.out y
      have HS := Lib.hid (cyK_succ c.ms c.rs y)
      obtain ⟨r0, r1, r2, _⟩ := X.out.c3
      clear hR hQ hL R3 R4 L3
      by_cases hlt : dyY c.ms c.rs (y : Int) ≤ n - cyK c.ms c.rs y
      · generalize dyY c.ms c.rs (y : Int) = d at *
        generalize cyK c.ms c.rs y = s at *
        go_wp2_with fail
        refine (C1.out _ (H.out.keep L.out)).mono ?_
        rintro e w3 ⟨rfl, hb⟩
        have X1 := Lib.hid (X.out.keep hb)
        have Q1 := Lib.hid (Q.out.keep hb)
        have L1 := Lib.hid (bT L.out hb)
        clear hb r0 r1 r2 X Q L
        obtain ⟨r0, r1, r2, _⟩ := X1.out.c3
        go_wp2_with fail
        refine (C1.out _ (H.out.keep L1.out)).mono ?_
        rintro e w4 ⟨rfl, hb⟩
        have X2 := Lib.hid (X1.out.keep hb)
        have Q2 := Lib.hid (Q1.out.keep hb)
        have L2 := Lib.hid (bT L1.out hb)
        clear hb r0 r1 r2 X1 Q1 L1
        obtain ⟨r0, r1, r2, _⟩ := X2.out.c3
        obtain ⟨f0, f1, f2⟩ := X2.out.f3q
        have vy : IntKind.i64.wrap ((y : Int) + 1) = (y : Int) + 1 := IntWalk.i64_in _ (by omega)
        have X3 := Lib.hid (BoxL.setQ (i := 0) (v := .int .i64 ((y : Int) + 1)) X2.out rfl)
        have Q3 := Lib.hid (Q2.out.other (b' := pc) (o := 0) (x := .int .i64 ((y : Int) + 1)) (by omega))
        have L3 := Lib.hid (L2.out.setCell (p := ⟨pc, 0, none⟩) (by simpa using q1) (.int .i64 ((y : Int) + 1)))
        go_wp2_with fail
        go_roundw
        case rel => exact ⟨y + 1, by rw [HS.out]; omega, by rw [HS.out]; go_num, by have := X3.out; simpa using this, Q3.out, L3.out⟩
        case measure => simp [intOf]; omega
      · have HLT := Lib.hid (show n - cyK c.ms c.rs y < dyY c.ms c.rs (y : Int) by omega)
        have HMy := Lib.hid (fun (m : Nat) (h : smD c.ms (lpY c.rs (y : Int)) m ≤ n - cyK c.ms c.rs y) (hm : m ≤ c.ms.length) => HM.out _ y m h hm HLT.out)
        generalize hdd : dyY c.ms c.rs (y : Int) = d at *
        clear hdd
        go_wp2_with fail
        refine (C1.out _ (H.out.keep L.out)).mono ?_
        rintro e w3 ⟨rfl, hb⟩
        have X1 := Lib.hid (X.out.keep hb)
        have Q1 := Lib.hid (Q.out.keep hb)
        have L1 := Lib.hid (bT L.out hb)
        clear hb r0 r1 r2 X Q L
        obtain ⟨r0, r1, r2, _⟩ := X1.out.c3
        have HR := Lib.hid (show 0 ≤ n - cyK c.ms c.rs y ∧ n - cyK c.ms c.rs y ≤ 12000000 by omega)
        have HRN := Lib.hid (show n = cyK c.ms c.rs y + (n - cyK c.ms c.rs y) by omega)
        have LDy := Lib.hid (fun (m : Nat) (hm : m < c.ms.length) W (h : CalAt W b c) => LD.out y m (by omega) hm W h)
        have HVy := Lib.hid (fun (k : Nat) (r : Int) (h1 : k < c.ms.length) (h2 : 0 ≤ r) (h3 : r < dyM (moAt c.ms k) (lpY c.rs (y : Int))) (h4 : n - cyK c.ms c.rs y = smD c.ms (lpY c.rs (y : Int)) k + r) => HV.out y k r ⟨hy9, h1, h2, h3, by omega⟩)
        generalize lpY c.rs (y : Int) = q' at *
        generalize n - cyK c.ms c.rs y = R at *
        clear HV HM LD LA HD HB HA HY HS C1 HRN b1 b2 hy HLT
        go_wp2_with fail
        clear r0 r1 r2
        go_loopw [9] (fun i wr => ∃ (m : Nat), m ≤ c.ms.length ∧ smD c.ms q' m ≤ R ∧ i = .int .i64 (R - smD c.ms q' m) ∧ BoxL wr pc [.int .i64 (y : Int), .int .i64 ((m : Int) + 1), .int .i64 0] ∧ BoxL wr pb [.int .i64 0, .int .i64 0, .int .i64 0] ∧ Below w.heap.size w wr) (fun i _ => (intOf i).toNat)
        case atStart => exact ⟨0, by omega, HR.out.1, by simp [smD], X1.out, Q1.out, L1.out⟩
        case round =>
          obtain ⟨m, hm0, hm1, rfl, hR, hQ, hL⟩ := hrel
          have X := Lib.hid hR
          have Q := Lib.hid hQ
          have L := Lib.hid hL
          have hm := HMy.out m hm1 hm0
          have hr12 := HR.out.2
          have D1 := Lib.hid (LDy.out m hm)
          have b1 := HSM.out m q' hm0
          have b2 := HDM.out m q' hm
          have HS := Lib.hid (smD_succ c.ms q' m)
          have HW := Lib.hid (HVy.out m (R - smD c.ms q' m) hm (by omega))
          obtain ⟨r0, r1, r2, _⟩ := X.out.c3
          have v0 : IntKind.i64.wrap ((m : Int) + 1 - 1) = (m : Int) := by rw [show (m : Int) + 1 - 1 = (m : Int) by omega]; exact IntWalk.i64_in _ (by omega)
          have v1 : IntKind.i64.wrap (m : Int) = (m : Int) := IntWalk.i64_in _ (by omega)
          clear hR hQ hL X1 Q1 L1 HMy LDy HVy HSM HDM
          generalize dyM (moAt c.ms m) q' = d at *
          generalize smD c.ms q' m = s at *
          by_cases hlt : d ≤ R - s
          · go_wp2_with fail
            refine (D1.out _ (H.out.keep L.out)).mono ?_
            rintro e w5 ⟨rfl, hb⟩
            have X1 := Lib.hid (X.out.keep hb)
            have Q1 := Lib.hid (Q.out.keep hb)
            have L1 := Lib.hid (bT L.out hb)
            clear hb r0 r1 r2 X Q L
            obtain ⟨r0, r1, r2, _⟩ := X1.out.c3
            go_wp2_with fail
            refine (D1.out _ (H.out.keep L1.out)).mono ?_
            rintro e w4 ⟨rfl, hb⟩
            have X2 := Lib.hid (X1.out.keep hb)
            have Q2 := Lib.hid (Q1.out.keep hb)
            have L2 := Lib.hid (bT L1.out hb)
            clear hb r0 r1 r2 X1 Q1 L1
            obtain ⟨r0, r1, r2, _⟩ := X2.out.c3
            obtain ⟨f0, f1, f2⟩ := X2.out.f3q
            have vy : IntKind.i64.wrap ((m : Int) + 1 + 1) = (m : Int) + 1 + 1 := IntWalk.i64_in _ (by omega)
            have X3 := Lib.hid (BoxL.setQ (i := 1) (v := .int .i64 ((m : Int) + 1 + 1)) X2.out rfl)
            have Q3 := Lib.hid (Q2.out.other (b' := pc) (o := 1) (x := .int .i64 ((m : Int) + 1 + 1)) (by omega))
            have L3 := Lib.hid (L2.out.setCell (p := ⟨pc, 1, none⟩) (by simpa using q1) (.int .i64 ((m : Int) + 1 + 1)))
            go_wp2_with fail
            go_roundw
            case rel => exact ⟨m + 1, hm, by rw [HS.out]; omega, by rw [HS.out]; go_num, by have := X3.out; simpa using this, Q3.out, L3.out⟩
            case measure => simp [intOf]; omega
          · have HE := Lib.hid (HW.out (by omega) (by omega))
            go_wp2_with fail
            refine (D1.out _ (H.out.keep L.out)).mono ?_
            rintro e w5 ⟨rfl, hb⟩
            have X1 := Lib.hid (X.out.keep hb)
            have Q1 := Lib.hid (Q.out.keep hb)
            have L1 := Lib.hid (bT L.out hb)
            clear hb r0 r1 r2 X Q L
            obtain ⟨r0, r1, r2, _⟩ := X1.out.c3
            obtain ⟨f0, f1, f2⟩ := X1.out.f3q
            have vy : IntKind.i64.wrap (R - s + 1) = R - s + 1 := IntWalk.i64_in _ (by omega)
            have X3 := Lib.hid (BoxL.setQ (i := 2) (v := .int .i64 (R - s + 1)) X1.out rfl)
            have Q3 := Lib.hid (Q1.out.other (b' := pc) (o := 2) (x := .int .i64 (R - s + 1)) (by omega))
            have L3 := Lib.hid (L1.out.setCell (p := ⟨pc, 2, none⟩) (by simpa using q1) (.int .i64 (R - s + 1)))
            obtain ⟨e0, e1, e2, _⟩ := Q3.out.c3
            obtain ⟨g3, g1, g2⟩ := Q3.out.f3q
            go_wp2_with fail
            have Q4 := Lib.hid (BoxL.setQ (i := 2) (v := .int .i64 (R - s + 1)) (BoxL.setQ (i := 1) (v := .int .i64 ((m : Int) + 1)) (BoxL.setQ (i := 0) (v := .int .i64 (y : Int)) Q3.out rfl) rfl) rfl)
            have L4 := Lib.hid (((L3.out.setCell (p := ⟨pb, 0, none⟩) (by rw [HPB.out]; exact Nat.le_refl _) (.int .i64 (y : Int))).setCell (p := ⟨pb, 1, none⟩) (by rw [HPB.out]; exact Nat.le_refl _) (.int .i64 ((m : Int) + 1))).setCell (p := ⟨pb, 2, none⟩) (by rw [HPB.out]; exact Nat.le_refl _) (.int .i64 (R - s + 1)))
            clear e0 e1 e2 g3 g1 g2 r0 r1 r2 f0 f1 f2
            obtain ⟨r0, r1, r2, _⟩ := Q4.out.c3
            rw [HE.out]
            exact bodyPost_ret (v := .tuple #[.agg #[.int .i64 (y : Int), .int .i64 ((m : Int) + 1), .int .i64 (R - s + 1)], .bool true]) (by simp [results, Try.results48, r0, r1, r2, go_sem]) rfl ⟨rfl, L4.out⟩
set_option maxRecDepth 100000 in
set_option maxHeartbeats 8000000 in
theorem l16Code_any (x0 x1 x2 : Int) (q : Bool) (w : World) :
    Calls Try.prog 47 #[.agg #[.int .i64 x0, .int .i64 x1, .int .i64 x2], .bool q] w (TupV (if q = true then .agg #[.int .i64 x0, .int .i64 x1, .int .i64 x2] else zeV) (.int .i64 (if q = true then 0 else 2)) w) := by
  cases q
  · go_enter Try.func47, Try.ntmps47
    go_wp2_with fail
    exact bodyPost_ret (v := .tuple #[zeV, .int .i64 2]) (by simp [results, Try.results47, zeV, go_sem]) rfl ⟨rfl, by first | exact bA (bA (bR _) _) _ | exact (((bA (bA (bR _) _) _).setCell (by simp) _).setCell (by simp) _).setCell (by simp) _⟩
  · go_enter Try.func47, Try.ntmps47
    go_wp2_with fail
    exact bodyPost_ret (v := .tuple #[.agg #[.int .i64 x0, .int .i64 x1, .int .i64 x2], .int .i64 0]) (by simp [results, Try.results47, go_sem]) rfl ⟨rfl, by first | exact bA (bA (bR _) _) _ | exact (((bA (bA (bR _) _) _).setCell (by simp) _).setCell (by simp) _).setCell (by simp) _⟩
end Go.Proofs.Ytbkhejideffflaa
