/-
  The day with a number: DateOf of both sides, dateBehind.
-/
import Derived.Test.YtbkhejideffflaaDtP
namespace Go.Proofs.Ytbkhejideffflaa
open Go.RowKit

theorem dtG_open (c : Cal) (n : Int) : ∃ x0 x1 x2 : Int, dtG c n = .agg #[.int .i64 x0, .int .i64 x1, .int .i64 x2] := by
  unfold dtG dtV zeV
  split
  · exact ⟨_, _, _, rfl⟩
  · exact ⟨_, _, _, rfl⟩
def icN (q : Bool) : Int := if q = true then 0 else 2
noncomputable def dfV (c : Cal) (n : Int) : Value := if okC c = true then dtG c n else zeV
def dfK (c : Cal) (n : Int) : Int := if okC c = true then icN (inB n 0 (cyK c.ms c.rs 10000 - 1)) else 1
theorem dfV_1 {c : Cal} {n : Int} (h : okC c = false) : dfV c n = zeV := by simp [dfV, h]
theorem dfV_2 {c : Cal} {n : Int} (h : okC c = true) : dfV c n = dtG c n := by simp [dfV, h]
theorem dfK_1 {c : Cal} {n : Int} (h : okC c = false) : dfK c n = 1 := by simp [dfK, h]
theorem dfK_2 {c : Cal} {n : Int} (h : okC c = true) : dfK c n = icN (inB n 0 (cyK c.ms c.rs 10000 - 1)) := by simp [dfK, h]
theorem dtG_ag (c : Cal) (n : Int) {x0 x1 x2 : Int} {q : Bool} (hq : inB n 0 (cyK c.ms c.rs 10000 - 1) = q) (hx : dtG c n = .agg #[.int .i64 x0, .int .i64 x1, .int .i64 x2]) :
    (if q = true then Value.agg #[.int .i64 x0, .int .i64 x1, .int .i64 x2] else zeV) = .agg #[.int .i64 x0, .int .i64 x1, .int .i64 x2] := by
  cases q
  · rw [dtG_no hq] at hx; simpa using hx
  · simp
/-- l16Code of l16Date. -/
theorem l16Code2_any (c : Cal) (n : Int) (x0 x1 x2 : Int) (q : Bool) (hq : inB n 0 (cyK c.ms c.rs 10000 - 1) = q) (hx : dtG c n = .agg #[.int .i64 x0, .int .i64 x1, .int .i64 x2]) (w : World) :
    Calls Try.prog 47 #[.agg #[.int .i64 x0, .int .i64 x1, .int .i64 x2], .bool q] w (TupV (.agg #[.int .i64 x0, .int .i64 x1, .int .i64 x2]) (.int .i64 (icN q)) w) := by
  have h := l16Code_any x0 x1 x2 q w
  rw [dtG_ag c n hq hx] at h
  exact h
set_option maxRecDepth 100000 in
set_option maxHeartbeats 8000000 in
theorem DateOfS_any (c : Cal) (n : Int) (x : Value) (w : World) (h : IsC w x c) :
    Calls Try.prog 19 #[x, .int .i64 n] w (TupV (dfV c n) (.int .i64 (dfK c n)) w) := by
  obtain ⟨u, v, rfl, hs, hM, hR⟩ := h
  obtain ⟨a1, n1, rfl, l1, _⟩ := id hM.open
  obtain ⟨a2, n2, rfl, l2, _⟩ := id hR.open
  have HC := Lib.hid (show CalAt ((w.alloc (.cells #[.string c.nm, .slice a1 c.ms.length n1, .slice a2 c.rs.length n2, .int .i64 c.wk] 33)).alloc (.cells #[.int .i64 0, .int .i64 0, .int .i64 0] 35)) w.heap.size c from (CalAt.new (c := c) 33 hs hM hR).keep (bA (bR _) _))
  have L0 := Lib.hid (show Below w.heap.size w ((w.alloc (.cells #[.string c.nm, .slice a1 c.ms.length n1, .slice a2 c.rs.length n2, .int .i64 c.wk] 33)).alloc (.cells #[.int .i64 0, .int .i64 0, .int .i64 0] 35)) from bA (bA (bR w) _) _)
  have R0 := Lib.hid (BoxL.at_ (w := w.alloc (.cells #[.string c.nm, .slice a1 c.ms.length n1, .slice a2 c.rs.length n2, .int .i64 c.wk] 33)) (b := w.heap.size + 1) (vs := [.int .i64 0, .int .i64 0, .int .i64 0]) (T := 35) (by simp))
  clear hM hR hs
  go_enter Try.func19, Try.ntmps19
  go_wp2_with fail
  generalize (w.alloc (.cells #[.string c.nm, .slice a1 c.ms.length n1, .slice a2 c.rs.length n2, .int .i64 c.wk] 33)).alloc (.cells #[.int .i64 0, .int .i64 0, .int .i64 0] 35) = W0 at *
  generalize hnb : w.heap.size = nb at HC R0 ⊢
  have HNB := Lib.hid hnb
  clear hnb
  refine (l15Ok_any nb c _ HC.out).mono ?_
  rintro e w1 ⟨rfl, hb⟩
  have C1 := Lib.hid (HC.out.keep hb)
  have L1 := Lib.hid (bT L0.out hb)
  have R1 := Lib.hid (R0.out.keep hb)
  clear hb HC L0 R0
  cases h1 : okC c
  · obtain ⟨r0, r1, r2, _⟩ := R1.out.c3
    obtain ⟨f0, f1, f2⟩ := R1.out.f3q
    have HF := Lib.hid (dfV_1 (n := n) h1)
    have HK := Lib.hid (dfK_1 (n := n) h1)
    go_wp2_with fail
    have QZ := Lib.hid (BoxL.setQ (i := 2) (v := .int .i64 (0)) (BoxL.setQ (i := 1) (v := .int .i64 (0)) (BoxL.setQ (i := 0) (v := .int .i64 (0)) R1.out rfl) rfl) rfl)
    have LZ := Lib.hid (((L1.out.setCell (p := ⟨nb + 1, 0, none⟩) (by have := HNB.out; simp; omega) (.int .i64 (0))).setCell (p := ⟨nb + 1, 1, none⟩) (by have := HNB.out; simp; omega) (.int .i64 (0))).setCell (p := ⟨nb + 1, 2, none⟩) (by have := HNB.out; simp; omega) (.int .i64 (0)))
    clear r0 r1 r2 f0 f1 f2
    obtain ⟨r0, r1, r2, _⟩ := QZ.out.c3
    exact bodyPost_ret (v := .tuple #[.agg #[.int .i64 (0), .int .i64 (0), .int .i64 (0)], .int .i64 (1)]) (by simp [results, Try.results19, r0, r1, r2, go_sem]) rfl ⟨by rw [HF.out, HK.out]; rfl, LZ.out⟩
  · obtain ⟨x0, x1, x2, hx⟩ := dtG_open c n
    obtain ⟨q, hq⟩ : ∃ q, inB n 0 (cyK c.ms c.rs 10000 - 1) = q := ⟨_, rfl⟩
    have HF := Lib.hid ((dfV_2 (n := n) h1).trans hx)
    have HK := Lib.hid ((dfK_2 (n := n) h1).trans (by rw [hq]))
    have CD := Lib.hid (fun W (h : CalAt W nb c) => show Calls Try.prog 48 #[.pointer (some ⟨nb, 0, none⟩), .int .i64 n] W (TupV (.agg #[.int .i64 x0, .int .i64 x1, .int .i64 x2]) (.bool q) W) from by have := l16Date_any nb c n W h h1; rw [hx, hq] at this; exact this)
    have CC := Lib.hid (l16Code2_any c n x0 x1 x2 q hq hx)
    clear hx hq
    go_wp2_with fail
    refine (CD.out _ C1.out).mono ?_
    rintro e w2 ⟨rfl, hb⟩
    have L2 := Lib.hid (bT L1.out hb)
    have R2 := Lib.hid (R1.out.keep hb)
    clear hb L1 R1 C1
    go_wp2_with fail
    refine (CC.out _).mono ?_
    rintro e w3 ⟨rfl, hb⟩
    have L3 := Lib.hid (bT L2.out hb)
    have R3 := Lib.hid (R2.out.keep hb)
    clear hb L2 R2
    obtain ⟨r0, r1, r2, _⟩ := R3.out.c3
    obtain ⟨f0, f1, f2⟩ := R3.out.f3q
    generalize icN q = k at *
    go_wp2_with fail
    have QZ := Lib.hid (BoxL.setQ (i := 2) (v := .int .i64 (x2)) (BoxL.setQ (i := 1) (v := .int .i64 (x1)) (BoxL.setQ (i := 0) (v := .int .i64 (x0)) R3.out rfl) rfl) rfl)
    have LZ := Lib.hid (((L3.out.setCell (p := ⟨nb + 1, 0, none⟩) (by have := HNB.out; simp; omega) (.int .i64 (x0))).setCell (p := ⟨nb + 1, 1, none⟩) (by have := HNB.out; simp; omega) (.int .i64 (x1))).setCell (p := ⟨nb + 1, 2, none⟩) (by have := HNB.out; simp; omega) (.int .i64 (x2)))
    clear r0 r1 r2 f0 f1 f2
    obtain ⟨r0, r1, r2, _⟩ := QZ.out.c3
    exact bodyPost_ret (v := .tuple #[.agg #[.int .i64 (x0), .int .i64 (x1), .int .i64 (x2)], .int .i64 (k)]) (by simp [results, Try.results19, r0, r1, r2, go_sem]) rfl ⟨by rw [HF.out, HK.out], LZ.out⟩
set_option maxRecDepth 100000 in
set_option maxHeartbeats 8000000 in
theorem dateBehind_any (c : Cal) (d k : Int) (x : Value) (w : World) (h : IsC w x c) (hc : okC c = true) (hd : 0 ≤ d ∧ d ≤ 12002000) :
    Calls Try.prog 50 #[x, .int .i64 d, .int .i64 k] w (TupV (dtG c (d + k)) (.int .i64 (icN (inB (d + k) 0 (cyK c.ms c.rs 10000 - 1)))) w) := by
  have hB := cyK_bd (okC_parts hc).2.2.1 c.rs 10000
  have LL := Lib.hid (fun x W (h : IsC W x c) => lastDay_any c x W h hc)
  have HI : inB k (-d) (cyK c.ms c.rs 10000 - 1 - d) = inB (d + k) 0 (cyK c.ms c.rs 10000 - 1) := by
    apply Bool.eq_iff_iff.2
    rw [inB_true, inB_true]
    omega
  obtain ⟨x0, x1, x2, hx⟩ := dtG_open c (d + k)
  have LO := Lib.hid (fun (h1 : inB (d + k) 0 (cyK c.ms c.rs 10000 - 1) = true) x W (h : IsC W x c) => show Calls Try.prog 82 #[x, .int .i64 (d + k)] W (BelV (.agg #[.int .i64 x0, .int .i64 x1, .int .i64 x2]) W) from by have := dateOf_any c (d + k) x W h hc h1; rw [← dtG_yes h1, hx] at this; exact this)
  have HXN := Lib.hid (fun (h1 : inB (d + k) 0 (cyK c.ms c.rs 10000 - 1) = false) => (dtG_no h1).symm.trans hx)
  rw [hx]
  clear hx
  obtain ⟨u, v, rfl, hs, hM, hR⟩ := h
  obtain ⟨a1, n1, rfl, l1, _⟩ := id hM.open
  obtain ⟨a2, n2, rfl, l2, _⟩ := id hR.open
  have HSZ := Lib.hid hs
  have H0 := Lib.hid ((CaH.new w c a1 n1 a2 n2 33 hM hR).keep (bA (bR (w.alloc (.cells #[.string c.nm, .slice a1 c.ms.length n1, .slice a2 c.rs.length n2, .int .i64 c.wk] 33))) (.cells #[.int .i64 0, .int .i64 0, .int .i64 0] 35)))
  have R0 := Lib.hid (BoxL.at_ (w := w.alloc (.cells #[.string c.nm, .slice a1 c.ms.length n1, .slice a2 c.rs.length n2, .int .i64 c.wk] 33)) (b := w.heap.size + 1) (vs := [.int .i64 0, .int .i64 0, .int .i64 0]) (T := 35) (by simp))
  clear hM hR hs
  obtain ⟨c0, c1, c2, c3, c4, _, _, _⟩ := H0.out
  generalize hlast : cyK c.ms c.rs 10000 - 1 = last at *
  have hlb : 0 ≤ last ∧ last ≤ 12000000 := by omega
  have HLAST := Lib.hid hlast
  have vn : IntKind.i64.wrap (-d) = -d := IntWalk.i64_in _ (by omega)
  have vl : IntKind.i64.wrap (last - d) = last - d := IntWalk.i64_in _ (by omega)
  clear hB hlast
  go_enter Try.func50, Try.ntmps50
  go_wp2_with fail
  generalize (w.alloc (.cells #[.string c.nm, .slice a1 c.ms.length n1, .slice a2 c.rs.length n2, .int .i64 c.wk] 33)).alloc (.cells #[.int .i64 0, .int .i64 0, .int .i64 0] 35) = W0 at *
  generalize hnb : w.heap.size = nb at H0 R0 c0 c1 c2 c3 c4 ⊢
  have HNB := Lib.hid hnb
  clear hnb
  refine (LL.out _ _ (H0.out.isC HSZ.out)).mono ?_
  rintro e w1 ⟨rfl, hb⟩
  have H1 := Lib.hid (H0.out.keep hb)
  have R1 := Lib.hid (R0.out.keep hb)
  clear hb H0 R0 c0 c1 c2 c3 c4
  go_wp2_with fail
  refine (isBetween_any _ _ _ _).mono ?_
  rintro e w9 ⟨rfl, rfl⟩
  rw [HI]
  obtain ⟨r0, r1, r2, _⟩ := R1.out.c3
  obtain ⟨f0, f1, f2⟩ := R1.out.f3q
  have L1 := Lib.hid H1.out.bel
  cases hq : inB (d + k) 0 last
  · have HX := Lib.hid (HXN.out hq)
    go_wp2_with fail
    have QZ := Lib.hid (BoxL.setQ (i := 2) (v := .int .i64 (0)) (BoxL.setQ (i := 1) (v := .int .i64 (0)) (BoxL.setQ (i := 0) (v := .int .i64 (0)) R1.out rfl) rfl) rfl)
    have LZ := Lib.hid (((L1.out.setCell (p := ⟨nb + 1, 0, none⟩) (by have := HNB.out; simp; omega) (.int .i64 (0))).setCell (p := ⟨nb + 1, 1, none⟩) (by have := HNB.out; simp; omega) (.int .i64 (0))).setCell (p := ⟨nb + 1, 2, none⟩) (by have := HNB.out; simp; omega) (.int .i64 (0)))
    clear r0 r1 r2 f0 f1 f2
    obtain ⟨r0, r1, r2, _⟩ := QZ.out.c3
    exact bodyPost_ret (v := .tuple #[.agg #[.int .i64 (0), .int .i64 (0), .int .i64 (0)], .int .i64 (2)]) (by simp [results, Try.results50, r0, r1, r2, go_sem]) rfl ⟨by rw [← HX.out, hq]; rfl, LZ.out⟩
  · have C1 := Lib.hid (LO.out hq)
    have hb' := inB_true.1 hq
    have vk : IntKind.i64.wrap (d + k) = d + k := IntWalk.i64_in _ (by omega)
    clear LO HXN r0 r1 r2 f0 f1 f2
    obtain ⟨c0, c1, c2, c3, c4, _, _, _⟩ := H1.out
    go_wp2_with fail
    refine (C1.out _ _ (H1.out.isC HSZ.out)).mono ?_
    rintro e w2 ⟨rfl, hb⟩
    have L2 := Lib.hid (bT L1.out hb)
    have R2 := Lib.hid (R1.out.keep hb)
    clear hb c0 c1 c2 c3 c4 L1 R1
    obtain ⟨r0, r1, r2, _⟩ := R2.out.c3
    obtain ⟨f0, f1, f2⟩ := R2.out.f3q
    go_wp2_with fail
    have QZ := Lib.hid (BoxL.setQ (i := 2) (v := .int .i64 (x2)) (BoxL.setQ (i := 1) (v := .int .i64 (x1)) (BoxL.setQ (i := 0) (v := .int .i64 (x0)) R2.out rfl) rfl) rfl)
    have LZ := Lib.hid (((L2.out.setCell (p := ⟨nb + 1, 0, none⟩) (by have := HNB.out; simp; omega) (.int .i64 (x0))).setCell (p := ⟨nb + 1, 1, none⟩) (by have := HNB.out; simp; omega) (.int .i64 (x1))).setCell (p := ⟨nb + 1, 2, none⟩) (by have := HNB.out; simp; omega) (.int .i64 (x2)))
    clear r0 r1 r2 f0 f1 f2
    obtain ⟨r0, r1, r2, _⟩ := QZ.out.c3
    exact bodyPost_ret (v := .tuple #[.agg #[.int .i64 (x0), .int .i64 (x1), .int .i64 (x2)], .int .i64 (0)]) (by simp [results, Try.results50, r0, r1, r2, go_sem]) rfl ⟨by rw [hq]; rfl, LZ.out⟩
set_option maxRecDepth 100000 in
set_option maxHeartbeats 8000000 in
theorem DateOfI_any (c : Cal) (n : Int) (x : Value) (w : World) (h : IsC w x c) :
    Calls Try.prog 20 #[x, .int .i64 n] w (TupV (dfV c n) (.int .i64 (dfK c n)) w) := by
  obtain ⟨u, v, rfl, hs, hM, hR⟩ := h
  obtain ⟨a1, n1, rfl, l1, _⟩ := id hM.open
  obtain ⟨a2, n2, rfl, l2, _⟩ := id hR.open
  have HSZ := Lib.hid hs
  have H0 := Lib.hid ((CaH.new w c a1 n1 a2 n2 33 hM hR).keep (bA (bR (w.alloc (.cells #[.string c.nm, .slice a1 c.ms.length n1, .slice a2 c.rs.length n2, .int .i64 c.wk] 33))) (.cells #[.int .i64 0, .int .i64 0, .int .i64 0] 35)))
  have R0 := Lib.hid (BoxL.at_ (w := w.alloc (.cells #[.string c.nm, .slice a1 c.ms.length n1, .slice a2 c.rs.length n2, .int .i64 c.wk] 33)) (b := w.heap.size + 1) (vs := [.int .i64 0, .int .i64 0, .int .i64 0]) (T := 35) (by simp))
  clear hM hR hs
  obtain ⟨c0, c1, c2, c3, c4, _, _, _⟩ := H0.out
  go_enter Try.func20, Try.ntmps20
  go_wp2_with fail
  generalize (w.alloc (.cells #[.string c.nm, .slice a1 c.ms.length n1, .slice a2 c.rs.length n2, .int .i64 c.wk] 33)).alloc (.cells #[.int .i64 0, .int .i64 0, .int .i64 0] 35) = W0 at *
  generalize hnb : w.heap.size = nb at H0 R0 c0 c1 c2 c3 c4 ⊢
  have HNB := Lib.hid hnb
  clear hnb
  refine (ValidCalendarI_any c _ _ (H0.out.isC HSZ.out)).mono ?_
  rintro e w1 ⟨rfl, hb⟩
  have H1 := Lib.hid (H0.out.keep hb)
  have R1 := Lib.hid (R0.out.keep hb)
  have L1 := Lib.hid H1.out.bel
  clear hb c0 c1 c2 c3 c4 R0 H0
  cases h1 : okC c
  · obtain ⟨r0, r1, r2, _⟩ := R1.out.c3
    obtain ⟨f0, f1, f2⟩ := R1.out.f3q
    have HF := Lib.hid (dfV_1 (n := n) h1)
    have HK := Lib.hid (dfK_1 (n := n) h1)
    go_wp2_with fail
    have QZ := Lib.hid (BoxL.setQ (i := 2) (v := .int .i64 (0)) (BoxL.setQ (i := 1) (v := .int .i64 (0)) (BoxL.setQ (i := 0) (v := .int .i64 (0)) R1.out rfl) rfl) rfl)
    have LZ := Lib.hid (((L1.out.setCell (p := ⟨nb + 1, 0, none⟩) (by have := HNB.out; simp; omega) (.int .i64 (0))).setCell (p := ⟨nb + 1, 1, none⟩) (by have := HNB.out; simp; omega) (.int .i64 (0))).setCell (p := ⟨nb + 1, 2, none⟩) (by have := HNB.out; simp; omega) (.int .i64 (0)))
    clear r0 r1 r2 f0 f1 f2
    obtain ⟨r0, r1, r2, _⟩ := QZ.out.c3
    exact bodyPost_ret (v := .tuple #[.agg #[.int .i64 (0), .int .i64 (0), .int .i64 (0)], .int .i64 (1)]) (by simp [results, Try.results20, r0, r1, r2, go_sem]) rfl ⟨by rw [HF.out, HK.out]; rfl, LZ.out⟩
  · obtain ⟨x0, x1, x2, hx⟩ := dtG_open c n
    obtain ⟨q, hq⟩ : ∃ q, inB n 0 (cyK c.ms c.rs 10000 - 1) = q := ⟨_, rfl⟩
    have HF := Lib.hid ((dfV_2 (n := n) h1).trans hx)
    have HK := Lib.hid ((dfK_2 (n := n) h1).trans (by rw [hq]))
    have CD := Lib.hid (fun x W (h : IsC W x c) => show Calls Try.prog 50 #[x, .int .i64 0, .int .i64 n] W (TupV (.agg #[.int .i64 x0, .int .i64 x1, .int .i64 x2]) (.int .i64 (icN q)) W) from by have := dateBehind_any c 0 n x W h h1 (by omega); rw [show (0 : Int) + n = n by omega, hx, hq] at this; exact this)
    clear hx hq
    obtain ⟨c0, c1, c2, c3, c4, _, _, _⟩ := H1.out
    generalize icN q = k at *
    go_wp2_with fail
    refine (CD.out _ _ (H1.out.isC HSZ.out)).mono ?_
    rintro e w2 ⟨rfl, hb⟩
    have L2 := Lib.hid (bT L1.out hb)
    have R2 := Lib.hid (R1.out.keep hb)
    clear hb c0 c1 c2 c3 c4 L1 R1
    obtain ⟨r0, r1, r2, _⟩ := R2.out.c3
    obtain ⟨f0, f1, f2⟩ := R2.out.f3q
    go_wp2_with fail
    have QZ := Lib.hid (BoxL.setQ (i := 2) (v := .int .i64 (x2)) (BoxL.setQ (i := 1) (v := .int .i64 (x1)) (BoxL.setQ (i := 0) (v := .int .i64 (x0)) R2.out rfl) rfl) rfl)
    have LZ := Lib.hid (((L2.out.setCell (p := ⟨nb + 1, 0, none⟩) (by have := HNB.out; simp; omega) (.int .i64 (x0))).setCell (p := ⟨nb + 1, 1, none⟩) (by have := HNB.out; simp; omega) (.int .i64 (x1))).setCell (p := ⟨nb + 1, 2, none⟩) (by have := HNB.out; simp; omega) (.int .i64 (x2)))
    clear r0 r1 r2 f0 f1 f2
    obtain ⟨r0, r1, r2, _⟩ := QZ.out.c3
    exact bodyPost_ret (v := .tuple #[.agg #[.int .i64 (x0), .int .i64 (x1), .int .i64 (x2)], .int .i64 (k)]) (by simp [results, Try.results20, r0, r1, r2, go_sem]) rfl ⟨by rw [HF.out, HK.out], LZ.out⟩
end Go.Proofs.Ytbkhejideffflaa
