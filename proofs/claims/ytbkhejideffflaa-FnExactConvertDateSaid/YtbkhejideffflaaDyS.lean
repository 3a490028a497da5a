/-
  Days of calendars, the document's side: l16Ok, l16Day, ValidDate, DayOf, DaysBetween, WeekdayOf.
-/
import Derived.Test.YtbkhejideffflaaCaF
namespace Go.Proofs.Ytbkhejideffflaa
open Go.RowKit

/-- A day of a calendar; its number; with a code. -/
def okD (c : Cal) (a0 a1 a2 : Int) : Bool := inB a0 0 9999 && (inB a1 1 (c.ms.length : Int) && inB a2 1 (dyM (moAt c.ms (a1 - 1).toNat) (lpY c.rs a0)))
theorem okD_1 {c : Cal} {a0 a1 a2 : Int} (h : inB a0 0 9999 = false) : okD c a0 a1 a2 = false := by simp [okD, h]
theorem okD_2 {c : Cal} {a0 a1 a2 : Int} (h : inB a1 1 (c.ms.length : Int) = false) : okD c a0 a1 a2 = false := by simp [okD, h]
theorem okD_3 {c : Cal} {a0 a1 a2 : Int} (h : inB a0 0 9999 = true) (h2 : inB a1 1 (c.ms.length : Int) = true) : okD c a0 a1 a2 = inB a2 1 (dyM (moAt c.ms (a1 - 1).toNat) (lpY c.rs a0)) := by simp [okD, h, h2]
theorem okD_parts {c : Cal} {a0 a1 a2 : Int} (h : okD c a0 a1 a2 = true) : (0 ≤ a0 ∧ a0 ≤ 9999) ∧ (1 ≤ a1 ∧ a1 ≤ (c.ms.length : Int)) ∧ 1 ≤ a2 ∧ a2 ≤ dyM (moAt c.ms (a1 - 1).toNat) (lpY c.rs a0) := by
  simp only [okD, Bool.and_eq_true, inB_true] at h
  exact h
def dyN (c : Cal) (a0 a1 a2 : Int) : Int := cyK c.ms c.rs a0.toNat + smD c.ms (lpY c.rs a0) (a1 - 1).toNat + a2 - 1
theorem dyN_bd {c : Cal} {a0 a1 a2 : Int} (hc : okC c = true) (h : okD c a0 a1 a2 = true) : (0 ≤ cyK c.ms c.rs a0.toNat ∧ cyK c.ms c.rs a0.toNat ≤ 12000000) ∧ (0 ≤ smD c.ms (lpY c.rs a0) (a1 - 1).toNat ∧ smD c.ms (lpY c.rs a0) (a1 - 1).toNat ≤ 1200) ∧ (1 ≤ a2 ∧ a2 ≤ 60) ∧ 0 ≤ dyN c a0 a1 a2 ∧ dyN c a0 a1 a2 ≤ 12002000 := by
  obtain ⟨h1, h2, h3⟩ := okD_parts h
  have ho := (okC_parts hc).2.2.1
  have h20 := (okMo_parts ho).2.1
  have b1 := cyK_bd ho c.rs a0.toNat
  have b2 := smD_bd ho (lpY c.rs a0) (k := (a1 - 1).toNat) (by omega)
  have b3 := dyM_bd ho (k := (a1 - 1).toNat) (by omega) (lpY c.rs a0)
  unfold dyN
  omega
def doE (c : Cal) (a0 a1 a2 : Int) : Int × Int := if okC c then (if okD c a0 a1 a2 then (dyN c a0 a1 a2, 0) else (0, 2)) else (0, 1)
theorem doE_1 {c : Cal} {a0 a1 a2 : Int} (h : okC c = false) : doE c a0 a1 a2 = (0, 1) := by simp [doE, h]
theorem doE_2 {c : Cal} {a0 a1 a2 : Int} (h : okC c = true) (h2 : okD c a0 a1 a2 = false) : doE c a0 a1 a2 = (0, 2) := by simp [doE, h, h2]
theorem doE_0 {c : Cal} {a0 a1 a2 : Int} (h : okC c = true) (h2 : okD c a0 a1 a2 = true) : doE c a0 a1 a2 = (dyN c a0 a1 a2, 0) := by simp [doE, h, h2]
theorem doE_code {c : Cal} {a0 a1 a2 : Int} : (doE c a0 a1 a2).2 = 0 ↔ (okC c && okD c a0 a1 a2) = true := by
  unfold doE
  cases h1 : okC c <;> cases h2 : okD c a0 a1 a2 <;> simp
/-- A day lies in a box. -/
def DaB (W : World) (b : Nat) (a0 a1 a2 : Int) : Prop := BoxL W b [.int .i64 a0, .int .i64 a1, .int .i64 a2]
/-- What stands while a day of a calendar is looked at. -/
def CdH (W0 : World) (b p : Nat) (c : Cal) (a0 a1 a2 : Int) (w' : World) : Prop := w'.cell? ⟨p, 0, none⟩ = some (.int .i64 a0) ∧ w'.cell? ⟨p, 1, none⟩ = some (.int .i64 a1) ∧ w'.cell? ⟨p, 2, none⟩ = some (.int .i64 a2) ∧ p < w'.heap.size ∧ CalAt w' b c ∧ Below W0.heap.size W0 w'
theorem CdH.keep {W0 : World} {b p : Nat} {c : Cal} {a0 a1 a2 : Int} {w' w2 : World} (hb : Below w'.heap.size w' w2) (h : CdH W0 b p c a0 a1 a2 w') : CdH W0 b p c a0 a1 a2 w2 := by
  obtain ⟨c0, c1, c2, e1, e2, e3⟩ := h
  exact ⟨(hb.cell (p := ⟨p, 0, none⟩) e1).trans c0, (hb.cell (p := ⟨p, 1, none⟩) e1).trans c1, (hb.cell (p := ⟨p, 2, none⟩) e1).trans c2, Nat.lt_of_lt_of_le e1 hb.size, e2.keep hb, bT e3 hb⟩
theorem CdH.drew {W0 : World} {b p : Nat} {c : Cal} {a0 a1 a2 : Int} {w' : World} (h : CdH W0 b p c a0 a1 a2 w') : CdH W0 b p c a0 a1 a2 w'.drew := h.keep (bR _).drew
theorem CdH.new {w : World} {b : Nat} {c : Cal} (a0 a1 a2 : Int) (T : TypeId) (h : CalAt w b c) : CdH w b w.heap.size c a0 a1 a2 (w.alloc (.cells #[.int .i64 a0, .int .i64 a1, .int .i64 a2] T)) := by
  obtain ⟨c0, c1, c2, c3⟩ := (BoxL.new w [.int .i64 a0, .int .i64 a1, .int .i64 a2] T).c3
  exact ⟨c0, c1, c2, c3, h.keep (bA (bR _) _), bA (bR _) _⟩
theorem CalAt.mo {W : World} {b : Nat} {c : Cal} (h : CalAt W b c) : ∃ ao cap, W.cell? ⟨b, 1, none⟩ = some (.slice ao c.ms.length cap) ∧ b < W.heap.size := by
  obtain ⟨u, v, X, _, hM, _⟩ := h
  obtain ⟨ao, cap, rfl, _⟩ := hM.open
  exact ⟨ao, cap, X.c4q.2.1, X.lt⟩
set_option maxRecDepth 100000 in
set_option maxHeartbeats 8000000 in
theorem l16Ok_any (b : Nat) (c : Cal) (a0 a1 a2 : Int) (w : World) (h : CalAt w b c) (hc : okC c = true) (h1b : -9223372036854775808 ≤ a1 ∧ a1 ≤ 9223372036854775807) :
    Calls Try.prog 36 #[.pointer (some ⟨b, 0, none⟩), .agg #[.int .i64 a0, .int .i64 a1, .int .i64 a2]] w (BoolBel (okD c a0 a1 a2) w) := by
  have HY := Lib.hid (fun W => l15Year_any a0 W)
  have r1 := (okRu_parts (okC_parts hc).1).1
  have h20 := (okMo_parts (okC_parts hc).2.2.1).2.1
  have H0 := Lib.hid (CdH.new a0 a1 a2 35 h)
  obtain ⟨ao, cap, m0, m1⟩ := (h.keep (bA (bR w) (.cells #[.int .i64 a0, .int .i64 a1, .int .i64 a2] 35))).mo
  obtain ⟨c0, c1, c2, c3, _, _⟩ := H0.out
  have L0 := Lib.hid (bA (bR w) (.cells #[.int .i64 a0, .int .i64 a1, .int .i64 a2] 35))
  clear h
  cases q1 : inB a0 0 9999
  · rw [okD_1 q1]
    rw [q1] at HY
    go_enter Try.func36, Try.ntmps36
    go_wp2_with fail
    generalize w.alloc (.cells #[.int .i64 a0, .int .i64 a1, .int .i64 a2] 35) = W0 at *
    generalize w.heap.size = p at c0 c1 c2 c3 ⊢
    go_quiet (first | (go_at_call 60; exact quiet_eq (HY.out _)) | (go_at_call 52; exact quiet_eq (l00In_any _ _ _ _)))
    go_wp2_with fail
    go_ret
    exact ⟨rfl, by first | exact L0.out | exact bD L0.out _⟩
  rw [q1] at HY
  cases q2 : inB a1 1 (c.ms.length : Int)
  · rw [okD_2 q2]
    go_enter Try.func36, Try.ntmps36
    go_wp2_with fail
    generalize w.alloc (.cells #[.int .i64 a0, .int .i64 a1, .int .i64 a2] 35) = W0 at *
    generalize w.heap.size = p at c0 c1 c2 c3 ⊢
    go_quiet (first | (go_at_call 60; exact quiet_eq (HY.out _)) | (go_at_call 52; exact quiet_eq (l00In_any _ _ _ _)))
    go_wp2_with fail
    go_ret
    exact ⟨rfl, by first | exact L0.out | exact bD L0.out _⟩
  · have b0 := inB_true.1 q1
    have b2 := inB_true.1 q2
    rw [okD_3 q1 q2]
    obtain ⟨k, hk⟩ := Int.eq_ofNat_of_zero_le (show 0 ≤ a1 - 1 by omega)
    have e1 : (a1 - 1).toNat = k := by omega
    rw [e1]
    obtain rfl : a1 = (k : Int) + 1 := by omega
    have CD := Lib.hid (fun W (h : CalAt W b c) => l15Days_any b c a0 k W h r1 (by omega) (by omega) (by omega))
    have v0 : IntKind.i64.wrap ((k : Int) + 1 - 1) = (k : Int) := by rw [show (k : Int) + 1 - 1 = (k : Int) by omega]; exact IntWalk.i64_in _ (by omega)
    have v1 : IntKind.i64.wrap (k : Int) = (k : Int) := IntWalk.i64_in _ (by omega)
    generalize dyM (moAt c.ms k) (lpY c.rs a0) = d at *
    clear hk e1
    go_enter Try.func36, Try.ntmps36
    go_wp2_with fail
    generalize w.alloc (.cells #[.int .i64 a0, .int .i64 ((k : Int) + 1), .int .i64 a2] 35) = W0 at *
    generalize w.heap.size = p at H0 c0 c1 c2 c3 ⊢
    go_quiet (first | (go_at_call 60; exact quiet_eq (HY.out _)) | (go_at_call 52; exact quiet_eq (l00In_any _ _ _ _)))
    go_wp2_with fail
    have H1 := Lib.hid (show CdH w b p c a0 ((k : Int) + 1) a2 (W0.drewN nq) from H0.out.keep (bD (bR _) _))
    clear c0 c1 c2 c3 m0 m1 H0
    generalize W0.drewN nq = W1 at *
    go_region_held3 (fun w' => w'.cell? ⟨p, 0, none⟩ = some (.int .i64 a0) ∧ w'.cell? ⟨p, 1, none⟩ = some (.int .i64 ((k : Int) + 1)) ∧ w'.cell? ⟨p, 2, none⟩ = some (.int .i64 a2) ∧ p < w'.heap.size ∧ CalAt w' b c ∧ Below w.heap.size w w') (first | exact H1.out.drew | exact CdH.keep hb (by first | assumption | exact H1.out.drew))
      (first
        | (go_at_call 61; have hS : CdH w b p c a0 ((k : Int) + 1) a2 _ := (by first | assumption | exact H1.out.drew); refine (CD.out _ hS.2.2.2.2.1).mono ?_; clear hS; rintro e w' ⟨rfl, hb⟩)
        | (go_at_call 52; refine (l00In_any _ _ _ _).mono ?_; rintro e w' ⟨rfl, rfl⟩; have hb := bR w'))
    have HT : CdH w b p c a0 ((k : Int) + 1) a2 w' := by assumption
    have HU := Lib.hid HT.2.2.2.2.2
    clear HT H1
    go_wp2_with fail
    go_ret
    exact ⟨rfl, HU.out⟩
set_option maxRecDepth 100000 in
set_option maxHeartbeats 8000000 in
theorem l16Day_any (b : Nat) (c : Cal) (a0 a1 a2 : Int) (w : World) (h : CalAt w b c) (hc : okC c = true) (hd : okD c a0 a1 a2 = true) :
    Calls Try.prog 41 #[.pointer (some ⟨b, 0, none⟩), .agg #[.int .i64 a0, .int .i64 a1, .int .i64 a2]] w (IntR (dyN c a0 a1 a2) w) := by
  obtain ⟨h1, h2, h3⟩ := okD_parts hd
  obtain ⟨g1, g2, g3, g4, g5⟩ := dyN_bd hc hd
  obtain ⟨y, rfl⟩ := Int.eq_ofNat_of_zero_le h1.1
  obtain ⟨k, hk⟩ := Int.eq_ofNat_of_zero_le (show 0 ≤ a1 - 1 by omega)
  have e1 : (a1 - 1).toNat = k := by omega
  have ho := (okC_parts hc).2.2.1
  have h20 := (okMo_parts ho).2.1
  have r1 := (okRu_parts (okC_parts hc).1).1
  have CB := Lib.hid (fun W (h : CalAt W b c) => l16Before_any b c y W h hc (by omega))
  have CD := Lib.hid (fun m (hm : m < c.ms.length) W (h : CalAt W b c) => l15Days_any b c (y : Int) m W h r1 (by omega) (by omega) hm)
  have HS := Lib.hid (fun m => smD_succ c.ms (lpY c.rs (y : Int)) m)
  have HB := Lib.hid (fun m (hm : m ≤ c.ms.length) => smD_bd ho (lpY c.rs (y : Int)) (k := m) hm)
  have HD := Lib.hid (fun m (hm : m < c.ms.length) => dyM_bd ho (k := m) hm (lpY c.rs (y : Int)))
  unfold dyN at g4 g5 ⊢
  rw [e1] at g2 g4 g5 ⊢
  simp only [Int.toNat_natCast] at g1 g4 g5 ⊢
  have H0 := Lib.hid (CdH.new (y : Int) a1 a2 35 h)
  obtain ⟨c0, c1, c2, c3, _, _⟩ := H0.out
  have hkl : k < c.ms.length := by omega
  have hak : a1 = (k : Int) + 1 := by omega
  subst hak
  clear h hc hd ho h3 r1 hk e1 g4 g5
  generalize cyK c.ms c.rs y = cy at *
  go_enter Try.func41, Try.ntmps41
  go_wp2_with fail
  generalize w.alloc (.cells #[.int .i64 (y : Int), .int .i64 ((k : Int) + 1), .int .i64 a2] 35) = W0 at *
  generalize w.heap.size = p at H0 c0 c1 c2 c3 ⊢
  have v0 : IntKind.i64.wrap (cy + a2) = cy + a2 := IntWalk.i64_in _ (by omega)
  have v1 : IntKind.i64.wrap (cy + a2 - 1) = cy + a2 - 1 := IntWalk.i64_in _ (by omega)
  clear c0 c1 c2 c3
  go_region_held3 (fun w' => w'.cell? ⟨p, 0, none⟩ = some (.int .i64 (y : Int)) ∧ w'.cell? ⟨p, 1, none⟩ = some (.int .i64 ((k : Int) + 1)) ∧ w'.cell? ⟨p, 2, none⟩ = some (.int .i64 a2) ∧ p < w'.heap.size ∧ CalAt w' b c ∧ Below w.heap.size w w') (first | exact H0.out.drew | exact CdH.keep hb (by first | assumption | exact H0.out.drew))
    ((go_at_call 66; have hS : CdH w b p c (y : Int) ((k : Int) + 1) a2 _ := (by first | assumption | exact H0.out.drew); refine (CB.out _ hS.2.2.2.2.1).mono ?_; clear hS; rintro e w' ⟨rfl, hb⟩))
  have HT : CdH w b p c (y : Int) ((k : Int) + 1) a2 w' := by assumption
  have H1 := Lib.hid HT
  clear HT H0 hb
  go_wp2_with fail
  go_loopw [5, 6] (fun s i wr => ∃ (j : Nat), j ≤ k ∧ i = .int .i64 j ∧ s = .int .i64 (cy + a2 - 1 + smD c.ms (lpY c.rs (y : Int)) j) ∧ CdH w b p c (y : Int) ((k : Int) + 1) a2 wr) (fun _ i _ => k - (intOf i).toNat)
  case atStart => exact ⟨0, by omega, rfl, by simp [smD], H1.out⟩
  case round =>
    obtain ⟨j, hj, rfl, rfl, hH⟩ := hrel
    have H2 := Lib.hid hH
    obtain ⟨c0, c1, c2, c3, _, _⟩ := H2.out
    have b1 := HB.out j (by omega)
    clear hH
    by_cases hlt : j < k
    · have C1 := Lib.hid (CD.out j (by omega))
      have b2 := HD.out j (by omega)
      have HS' := Lib.hid (HS.out j)
      generalize dyM (moAt c.ms j) (lpY c.rs (y : Int)) = d at *
      generalize smD c.ms (lpY c.rs (y : Int)) j = s at *
      go_wp2_with fail
      refine (C1.out _ H2.out.2.2.2.2.1).mono ?_
      rintro e w2 ⟨rfl, hb⟩
      have H3 := Lib.hid (H2.out.keep hb)
      clear hb
      go_wp2_with fail
      go_roundw
      case rel => exact ⟨j + 1, by omega, by go_num, by rw [HS'.out, Int.add_assoc], H3.out⟩
      case measure => simp [intOf]; omega
    · obtain rfl : j = k := by omega
      generalize smD c.ms (lpY c.rs (y : Int)) j = s at *
      have HE := Lib.hid (show cy + s + a2 - 1 = cy + a2 - 1 + s by omega)
      go_wp2_with fail
      go_ret
      exact ⟨by rw [HE.out]; rfl, H2.out.2.2.2.2.2⟩
end Go.Proofs.Ytbkhejideffflaa
