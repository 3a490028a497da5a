/-
  The day of another calendar: AddDays, ConvertDate of both sides.
-/
import Derived.Test.YtbkhejideffflaaDtT
import Derived.Test.YtbkhejideffflaaDyJ
namespace Go.Proofs.Ytbkhejideffflaa
open Go.RowKit

noncomputable def cvV (c e : Cal) (a0 a1 a2 k : Int) : Value := if (okC c && okC e) = true then (if okD c a0 a1 a2 = true then dtG e (dyN c a0 a1 a2 + k) else zeV) else zeV
def cvK (c e : Cal) (a0 a1 a2 k : Int) : Int := if (okC c && okC e) = true then (if okD c a0 a1 a2 = true then icN (inB (dyN c a0 a1 a2 + k) 0 (cyK e.ms e.rs 10000 - 1)) else 2) else 1
theorem cv_1 {c e : Cal} {a0 a1 a2 k : Int} (h : (okC c && okC e) = false) : cvV c e a0 a1 a2 k = zeV ∧ cvK c e a0 a1 a2 k = 1 := by simp only [cvV, cvK, h]; exact ⟨rfl, rfl⟩
theorem cv_2 {c e : Cal} {a0 a1 a2 k : Int} (h : okC c = true) (h' : okC e = true) (h2 : okD c a0 a1 a2 = false) : cvV c e a0 a1 a2 k = zeV ∧ cvK c e a0 a1 a2 k = 2 := by simp only [cvV, cvK, h, h', h2]; exact ⟨rfl, rfl⟩
theorem cv_0 {c e : Cal} {a0 a1 a2 k : Int} (h : okC c = true) (h' : okC e = true) (h2 : okD c a0 a1 a2 = true) : cvV c e a0 a1 a2 k = dtG e (dyN c a0 a1 a2 + k) ∧ cvK c e a0 a1 a2 k = icN (inB (dyN c a0 a1 a2 + k) 0 (cyK e.ms e.rs 10000 - 1)) := by simp only [cvV, cvK, h, h', h2]; exact ⟨rfl, rfl⟩
theorem cv_3 {c e : Cal} {a0 a1 a2 k : Int} (h : okC c = true) (h' : okC e = true) (h2 : okD c a0 a1 a2 = true) (h3 : inB k (-20000000) 20000000 = false) : cvV c e a0 a1 a2 k = zeV ∧ cvK c e a0 a1 a2 k = 2 := by
  obtain ⟨e1, e2⟩ := cv_0 (k := k) h h' h2
  have b := (dyN_bd h h2).2.2.2
  have hB := cyK_bd (okC_parts h').2.2.1 e.rs 10000
  have hn : inB (dyN c a0 a1 a2 + k) 0 (cyK e.ms e.rs 10000 - 1) = false := by
    apply Bool.eq_false_iff.2
    intro hq
    have hq := inB_true.1 hq
    have : inB k (-20000000) 20000000 = true := inB_true.2 (by omega)
    rw [this] at h3
    cases h3
  rw [e1, e2, hn, dtG_no hn]
  exact ⟨rfl, rfl⟩
theorem CalAt.at_ {W : World} {u v : Value} {c : Cal} {b : Nat} (T : TypeId) (hb : b = W.heap.size) (h2 : c.nm.size ≤ maxLen) (h3 : SlMo W u c.ms) (h4 : SlRu W v c.rs) : CalAt (W.alloc (.cells #[.string c.nm, u, v, .int .i64 c.wk] T)) b c := by
  subst hb
  exact CalAt.new (c := c) T h2 h3 h4
theorem CaH.at_ (w : World) (b : Nat) (c : Cal) (a1 : Option Addr) (n1 : Nat) (a2 : Option Addr) (n2 : Nat) (T : TypeId) (hb : b = w.heap.size) (hM : SlMo w (.slice a1 c.ms.length n1) c.ms) (hR : SlRu w (.slice a2 c.rs.length n2) c.rs) : CaH w b c a1 n1 a2 n2 (w.alloc (.cells #[.string c.nm, .slice a1 c.ms.length n1, .slice a2 c.rs.length n2, .int .i64 c.wk] T)) := by
  subst hb
  exact CaH.new w c a1 n1 a2 n2 T hM hR
set_option maxRecDepth 100000 in
set_option maxHeartbeats 8000000 in
theorem l16Far_any (k : Int) (w : World) : Calls Try.prog 51 #[.int .i64 k] w fun e w' => e = .returned (.bool (!inB k (-20000000) 20000000)) ∧ w = w' := by
  go_enter Try.func51, Try.ntmps51
  go_wp2_with fail
  refine (l00In_any _ _ _ _).mono ?_
  rintro e w9 ⟨rfl, rfl⟩
  go_wp2_with fail
  go_ret
  exact ⟨rfl, rfl⟩
set_option maxRecDepth 100000 in
set_option maxHeartbeats 8000000 in
theorem AddDaysS_any (c : Cal) (a0 a1 a2 k : Int) (x : Value) (w : World) (h : IsC w x c) (hb1 : -9223372036854775808 ≤ a1 ∧ a1 ≤ 9223372036854775807) :
    Calls Try.prog 22 #[x, .agg #[.int .i64 a0, .int .i64 a1, .int .i64 a2], .int .i64 k] w (TupV (cvV c c a0 a1 a2 k) (.int .i64 (cvK c c a0 a1 a2 k)) w) := by
  obtain ⟨u, v, rfl, hs, hM, hR⟩ := h
  obtain ⟨p1, n1, rfl, l1, _⟩ := id hM.open
  obtain ⟨p2, n2, rfl, l2, _⟩ := id hR.open
  have C0 := Lib.hid (show CalAt (((w.alloc (.cells #[.string c.nm, .slice p1 c.ms.length n1, .slice p2 c.rs.length n2, .int .i64 c.wk] 33)).alloc (.cells #[.int .i64 a0, .int .i64 a1, .int .i64 a2] 35)).alloc (.cells #[.int .i64 0, .int .i64 0, .int .i64 0] 35)) w.heap.size c from (CalAt.new (c := c) 33 hs hM hR).keep (bA (bA (bR _) _) _))
  have L0 := Lib.hid (show Below w.heap.size w (((w.alloc (.cells #[.string c.nm, .slice p1 c.ms.length n1, .slice p2 c.rs.length n2, .int .i64 c.wk] 33)).alloc (.cells #[.int .i64 a0, .int .i64 a1, .int .i64 a2] 35)).alloc (.cells #[.int .i64 0, .int .i64 0, .int .i64 0] 35)) from bA (bA (bA (bR w) _) _) _)
  have D0 := Lib.hid ((BoxL.at_ (w := w.alloc (.cells #[.string c.nm, .slice p1 c.ms.length n1, .slice p2 c.rs.length n2, .int .i64 c.wk] 33)) (b := w.heap.size + 1) (vs := [.int .i64 a0, .int .i64 a1, .int .i64 a2]) (T := 35) (by simp)).keep (bA (bR _) _ : Below _ _ (((w.alloc (.cells #[.string c.nm, .slice p1 c.ms.length n1, .slice p2 c.rs.length n2, .int .i64 c.wk] 33)).alloc (.cells #[.int .i64 a0, .int .i64 a1, .int .i64 a2] 35)).alloc (.cells #[.int .i64 0, .int .i64 0, .int .i64 0] 35))))
  have R0 := Lib.hid (BoxL.at_ (w := (w.alloc (.cells #[.string c.nm, .slice p1 c.ms.length n1, .slice p2 c.rs.length n2, .int .i64 c.wk] 33)).alloc (.cells #[.int .i64 a0, .int .i64 a1, .int .i64 a2] 35)) (b := w.heap.size + 1 + 1) (vs := [.int .i64 0, .int .i64 0, .int .i64 0]) (T := 35) (by simp))
  clear hM hR hs
  obtain ⟨d0, d1, d2, _⟩ := D0.out.c3
  go_enter Try.func22, Try.ntmps22
  go_wp2_with fail
  generalize ((w.alloc (.cells #[.string c.nm, .slice p1 c.ms.length n1, .slice p2 c.rs.length n2, .int .i64 c.wk] 33)).alloc (.cells #[.int .i64 a0, .int .i64 a1, .int .i64 a2] 35)).alloc (.cells #[.int .i64 0, .int .i64 0, .int .i64 0] 35) = W0 at *
  generalize hnb : w.heap.size = nb at C0 D0 R0 d0 d1 d2 ⊢
  have HNB := Lib.hid hnb
  clear hnb d0 d1 d2
  refine (l15Ok_any nb c _ C0.out).mono ?_
  rintro e' w1 ⟨rfl, hb⟩
  have C1 := Lib.hid (C0.out.keep hb)
  have D1 := Lib.hid (D0.out.keep hb)
  have R1 := Lib.hid (R0.out.keep hb)
  have L1 := Lib.hid (bT L0.out hb)
  clear hb C0 D0 R0 L0
  cases h1 : okC c
  · obtain ⟨r0, r1, r2, _⟩ := R1.out.c3
    obtain ⟨f0, f1, f2⟩ := R1.out.f3q
    have HF := Lib.hid (cv_1 (c := c) (e := c) (a0 := a0) (a1 := a1) (a2 := a2) (k := k) (by simp [h1]))
    go_wp2_with fail
    have QZ := Lib.hid (BoxL.setQ (i := 2) (v := .int .i64 (0)) (BoxL.setQ (i := 1) (v := .int .i64 (0)) (BoxL.setQ (i := 0) (v := .int .i64 (0)) R1.out rfl) rfl) rfl)
    have LZ := Lib.hid (((L1.out.setCell (p := ⟨nb + 1 + 1, 0, none⟩) (by have := HNB.out; simp; omega) (.int .i64 (0))).setCell (p := ⟨nb + 1 + 1, 1, none⟩) (by have := HNB.out; simp; omega) (.int .i64 (0))).setCell (p := ⟨nb + 1 + 1, 2, none⟩) (by have := HNB.out; simp; omega) (.int .i64 (0)))
    clear r0 r1 r2 f0 f1 f2
    obtain ⟨r0, r1, r2, _⟩ := QZ.out.c3
    exact bodyPost_ret (v := .tuple #[.agg #[.int .i64 (0), .int .i64 (0), .int .i64 (0)], .int .i64 (1)]) (by simp [results, Try.results22, r0, r1, r2, go_sem]) rfl ⟨by rw [HF.out.1, HF.out.2]; rfl, LZ.out⟩
  obtain ⟨d0, d1, d2, _⟩ := D1.out.c3
  go_wp2_with fail
  refine (l16Ok_any nb c a0 a1 a2 _ C1.out h1 hb1).mono ?_
  rintro e' w3 ⟨rfl, hb⟩
  clear d0 d1 d2
  have C2 := Lib.hid (C1.out.keep hb)
  have D2 := Lib.hid (D1.out.keep hb)
  have R2 := Lib.hid (R1.out.keep hb)
  have L2 := Lib.hid (bT L1.out hb)
  clear hb C1 D1 R1 L1
  cases h2 : okD c a0 a1 a2
  · obtain ⟨r0, r1, r2, _⟩ := R2.out.c3
    obtain ⟨f0, f1, f2⟩ := R2.out.f3q
    have HF := Lib.hid (cv_2 (k := k) h1 h1 h2)
    go_wp2_with fail
    have QZ := Lib.hid (BoxL.setQ (i := 2) (v := .int .i64 (0)) (BoxL.setQ (i := 1) (v := .int .i64 (0)) (BoxL.setQ (i := 0) (v := .int .i64 (0)) R2.out rfl) rfl) rfl)
    have LZ := Lib.hid (((L2.out.setCell (p := ⟨nb + 1 + 1, 0, none⟩) (by have := HNB.out; simp; omega) (.int .i64 (0))).setCell (p := ⟨nb + 1 + 1, 1, none⟩) (by have := HNB.out; simp; omega) (.int .i64 (0))).setCell (p := ⟨nb + 1 + 1, 2, none⟩) (by have := HNB.out; simp; omega) (.int .i64 (0)))
    clear r0 r1 r2 f0 f1 f2
    obtain ⟨r0, r1, r2, _⟩ := QZ.out.c3
    exact bodyPost_ret (v := .tuple #[.agg #[.int .i64 (0), .int .i64 (0), .int .i64 (0)], .int .i64 (2)]) (by simp [results, Try.results22, r0, r1, r2, go_sem]) rfl ⟨by rw [HF.out.1, HF.out.2]; rfl, LZ.out⟩
  go_wp2_with fail
  refine (l16Far_any _ _).mono ?_
  rintro e' w9 ⟨rfl, rfl⟩
  cases h3 : inB k (-20000000) 20000000
  · obtain ⟨r0, r1, r2, _⟩ := R2.out.c3
    obtain ⟨f0, f1, f2⟩ := R2.out.f3q
    have HF := Lib.hid (cv_3 h1 h1 h2 h3)
    go_wp2_with fail
    have QZ := Lib.hid (BoxL.setQ (i := 2) (v := .int .i64 (0)) (BoxL.setQ (i := 1) (v := .int .i64 (0)) (BoxL.setQ (i := 0) (v := .int .i64 (0)) R2.out rfl) rfl) rfl)
    have LZ := Lib.hid (((L2.out.setCell (p := ⟨nb + 1 + 1, 0, none⟩) (by have := HNB.out; simp; omega) (.int .i64 (0))).setCell (p := ⟨nb + 1 + 1, 1, none⟩) (by have := HNB.out; simp; omega) (.int .i64 (0))).setCell (p := ⟨nb + 1 + 1, 2, none⟩) (by have := HNB.out; simp; omega) (.int .i64 (0)))
    clear r0 r1 r2 f0 f1 f2
    obtain ⟨r0, r1, r2, _⟩ := QZ.out.c3
    exact bodyPost_ret (v := .tuple #[.agg #[.int .i64 (0), .int .i64 (0), .int .i64 (0)], .int .i64 (2)]) (by simp [results, Try.results22, r0, r1, r2, go_sem]) rfl ⟨by rw [HF.out.1, HF.out.2]; rfl, LZ.out⟩
  obtain ⟨d0, d1, d2, _⟩ := D2.out.c3
  have HF0 := cv_0 (k := k) h1 h1 h2
  have hbn := (dyN_bd h1 h2).2.2.2
  have hbk := inB_true.1 h3
  have CD0 := Lib.hid (fun W (h : CalAt W nb c) => l16Day_any nb c a0 a1 a2 W h h1 h2)
  generalize dyN c a0 a1 a2 = n at *
  obtain ⟨z0, z1, z2, hx⟩ := dtG_open c (n + k)
  obtain ⟨q, hq⟩ : ∃ q, inB (n + k) 0 (cyK c.ms c.rs 10000 - 1) = q := ⟨_, rfl⟩
  have HF := Lib.hid HF0
  clear HF0
  rw [hx, hq] at HF
  have CD := Lib.hid (fun W (h : CalAt W nb c) => show Calls Try.prog 48 #[.pointer (some ⟨nb, 0, none⟩), .int .i64 (n + k)] W (TupV (.agg #[.int .i64 z0, .int .i64 z1, .int .i64 z2]) (.bool q) W) from by have := l16Date_any nb c (n + k) W h h1; rw [hx, hq] at this; exact this)
  have CC := Lib.hid (l16Code2_any c (n + k) z0 z1 z2 q hq hx)
  have vk : IntKind.i64.wrap (n + k) = n + k := IntWalk.i64_in _ (by omega)
  clear hx hq
  go_wp2_with fail
  refine (CD0.out _ C2.out).mono ?_
  rintro e' w4 ⟨rfl, hb⟩
  clear d0 d1 d2
  have C3 := Lib.hid (C2.out.keep hb)
  have D3 := Lib.hid (D2.out.keep hb)
  have R3 := Lib.hid (R2.out.keep hb)
  have L3 := Lib.hid (bT L2.out hb)
  clear hb C2 D2 R2 L2
  go_wp2_with fail
  refine (CD.out _ C3.out).mono ?_
  rintro e' w5 ⟨rfl, hb⟩
  have C4 := Lib.hid (C3.out.keep hb)
  have D4 := Lib.hid (D3.out.keep hb)
  have R4 := Lib.hid (R3.out.keep hb)
  have L4 := Lib.hid (bT L3.out hb)
  clear hb C3 D3 R3 L3
  go_wp2_with fail
  refine (CC.out _).mono ?_
  rintro e' w6 ⟨rfl, hb⟩
  have C5 := Lib.hid (C4.out.keep hb)
  have D5 := Lib.hid (D4.out.keep hb)
  have R5 := Lib.hid (R4.out.keep hb)
  have L5 := Lib.hid (bT L4.out hb)
  clear hb C4 D4 R4 L4
  obtain ⟨r0, r1, r2, _⟩ := R5.out.c3
  obtain ⟨f0, f1, f2⟩ := R5.out.f3q
  generalize icN q = j at *
  go_wp2_with fail
  have QZ := Lib.hid (BoxL.setQ (i := 2) (v := .int .i64 (z2)) (BoxL.setQ (i := 1) (v := .int .i64 (z1)) (BoxL.setQ (i := 0) (v := .int .i64 (z0)) R5.out rfl) rfl) rfl)
  have LZ := Lib.hid (((L5.out.setCell (p := ⟨nb + 1 + 1, 0, none⟩) (by have := HNB.out; simp; omega) (.int .i64 (z0))).setCell (p := ⟨nb + 1 + 1, 1, none⟩) (by have := HNB.out; simp; omega) (.int .i64 (z1))).setCell (p := ⟨nb + 1 + 1, 2, none⟩) (by have := HNB.out; simp; omega) (.int .i64 (z2)))
  clear r0 r1 r2 f0 f1 f2
  obtain ⟨r0, r1, r2, _⟩ := QZ.out.c3
  exact bodyPost_ret (v := .tuple #[.agg #[.int .i64 (z0), .int .i64 (z1), .int .i64 (z2)], .int .i64 (j)]) (by simp [results, Try.results22, r0, r1, r2, go_sem]) rfl ⟨by rw [HF.out.1, HF.out.2], LZ.out⟩
set_option maxRecDepth 100000 in
set_option maxHeartbeats 8000000 in
theorem ConvertDateS_any (c e : Cal) (a0 a1 a2 k : Int) (x x' : Value) (w : World) (h : IsC w x c) (h' : IsC w x' e) (hb1 : -9223372036854775808 ≤ a1 ∧ a1 ≤ 9223372036854775807) :
    Calls Try.prog 28 #[x, .agg #[.int .i64 a0, .int .i64 a1, .int .i64 a2], x', .int .i64 k] w (TupV (cvV c e a0 a1 a2 k) (.int .i64 (cvK c e a0 a1 a2 k)) w) := by
  obtain ⟨u, v, rfl, hs, hM, hR⟩ := h
  obtain ⟨p1, n1, rfl, l1, _⟩ := id hM.open
  obtain ⟨p2, n2, rfl, l2, _⟩ := id hR.open
  obtain ⟨u, v, rfl, hs', hM', hR'⟩ := h'
  obtain ⟨a3, n3, rfl, l3, _⟩ := id hM'.open
  obtain ⟨a4, n4, rfl, l4, _⟩ := id hR'.open
  have C0 := Lib.hid (show CalAt ((((w.alloc (.cells #[.string c.nm, .slice p1 c.ms.length n1, .slice p2 c.rs.length n2, .int .i64 c.wk] 33)).alloc (.cells #[.int .i64 a0, .int .i64 a1, .int .i64 a2] 35)).alloc (.cells #[.string e.nm, .slice a3 e.ms.length n3, .slice a4 e.rs.length n4, .int .i64 e.wk] 33)).alloc (.cells #[.int .i64 0, .int .i64 0, .int .i64 0] 35)) w.heap.size c from (CalAt.new (c := c) 33 hs hM hR).keep (bA (bA (bA (bR _) _) _) _))
  have L0 := Lib.hid (show Below w.heap.size w ((((w.alloc (.cells #[.string c.nm, .slice p1 c.ms.length n1, .slice p2 c.rs.length n2, .int .i64 c.wk] 33)).alloc (.cells #[.int .i64 a0, .int .i64 a1, .int .i64 a2] 35)).alloc (.cells #[.string e.nm, .slice a3 e.ms.length n3, .slice a4 e.rs.length n4, .int .i64 e.wk] 33)).alloc (.cells #[.int .i64 0, .int .i64 0, .int .i64 0] 35)) from bA (bA (bA (bA (bR w) _) _) _) _)
  have D0 := Lib.hid ((BoxL.at_ (w := w.alloc (.cells #[.string c.nm, .slice p1 c.ms.length n1, .slice p2 c.rs.length n2, .int .i64 c.wk] 33)) (b := w.heap.size + 1) (vs := [.int .i64 a0, .int .i64 a1, .int .i64 a2]) (T := 35) (by simp)).keep (bA (bA (bR _) _) _ : Below _ _ ((((w.alloc (.cells #[.string c.nm, .slice p1 c.ms.length n1, .slice p2 c.rs.length n2, .int .i64 c.wk] 33)).alloc (.cells #[.int .i64 a0, .int .i64 a1, .int .i64 a2] 35)).alloc (.cells #[.string e.nm, .slice a3 e.ms.length n3, .slice a4 e.rs.length n4, .int .i64 e.wk] 33)).alloc (.cells #[.int .i64 0, .int .i64 0, .int .i64 0] 35))))
  have R0 := Lib.hid (BoxL.at_ (w := ((w.alloc (.cells #[.string c.nm, .slice p1 c.ms.length n1, .slice p2 c.rs.length n2, .int .i64 c.wk] 33)).alloc (.cells #[.int .i64 a0, .int .i64 a1, .int .i64 a2] 35)).alloc (.cells #[.string e.nm, .slice a3 e.ms.length n3, .slice a4 e.rs.length n4, .int .i64 e.wk] 33)) (b := w.heap.size + 1 + 1 + 1) (vs := [.int .i64 0, .int .i64 0, .int .i64 0]) (T := 35) (by simp))
  have T0 := Lib.hid ((CalAt.at_ (c := e) (b := w.heap.size + 1 + 1) 33 (by simp) hs' (hM'.keep (bA (bA (bR _) _) _)) (hR'.keep (bA (bA (bR _) _) _))).keep (bA (bR _) _ : Below _ _ ((((w.alloc (.cells #[.string c.nm, .slice p1 c.ms.length n1, .slice p2 c.rs.length n2, .int .i64 c.wk] 33)).alloc (.cells #[.int .i64 a0, .int .i64 a1, .int .i64 a2] 35)).alloc (.cells #[.string e.nm, .slice a3 e.ms.length n3, .slice a4 e.rs.length n4, .int .i64 e.wk] 33)).alloc (.cells #[.int .i64 0, .int .i64 0, .int .i64 0] 35))))
  clear hM hR hs hM' hR' hs'
  obtain ⟨d0, d1, d2, _⟩ := D0.out.c3
  go_enter Try.func28, Try.ntmps28
  go_wp2_with fail
  generalize (((w.alloc (.cells #[.string c.nm, .slice p1 c.ms.length n1, .slice p2 c.rs.length n2, .int .i64 c.wk] 33)).alloc (.cells #[.int .i64 a0, .int .i64 a1, .int .i64 a2] 35)).alloc (.cells #[.string e.nm, .slice a3 e.ms.length n3, .slice a4 e.rs.length n4, .int .i64 e.wk] 33)).alloc (.cells #[.int .i64 0, .int .i64 0, .int .i64 0] 35) = W0 at *
  generalize hnb : w.heap.size = nb at C0 D0 R0 T0 d0 d1 d2 ⊢
  have HNB := Lib.hid hnb
  clear hnb d0 d1 d2
  refine (l15Ok_any nb c _ C0.out).mono ?_
  rintro e' w1 ⟨rfl, hb⟩
  have C1 := Lib.hid (C0.out.keep hb)
  have T1 := Lib.hid (T0.out.keep hb)
  have D1 := Lib.hid (D0.out.keep hb)
  have R1 := Lib.hid (R0.out.keep hb)
  have L1 := Lib.hid (bT L0.out hb)
  clear hb C0 D0 R0 L0 T0
  cases h1 : okC c
  · obtain ⟨r0, r1, r2, _⟩ := R1.out.c3
    obtain ⟨f0, f1, f2⟩ := R1.out.f3q
    have HF := Lib.hid (cv_1 (c := c) (e := e) (a0 := a0) (a1 := a1) (a2 := a2) (k := k) (by simp [h1]))
    go_wp2_with fail
    have QZ := Lib.hid (BoxL.setQ (i := 2) (v := .int .i64 (0)) (BoxL.setQ (i := 1) (v := .int .i64 (0)) (BoxL.setQ (i := 0) (v := .int .i64 (0)) R1.out rfl) rfl) rfl)
    have LZ := Lib.hid (((L1.out.setCell (p := ⟨nb + 1 + 1 + 1, 0, none⟩) (by have := HNB.out; simp; omega) (.int .i64 (0))).setCell (p := ⟨nb + 1 + 1 + 1, 1, none⟩) (by have := HNB.out; simp; omega) (.int .i64 (0))).setCell (p := ⟨nb + 1 + 1 + 1, 2, none⟩) (by have := HNB.out; simp; omega) (.int .i64 (0)))
    clear r0 r1 r2 f0 f1 f2
    obtain ⟨r0, r1, r2, _⟩ := QZ.out.c3
    exact bodyPost_ret (v := .tuple #[.agg #[.int .i64 (0), .int .i64 (0), .int .i64 (0)], .int .i64 (1)]) (by simp [results, Try.results28, r0, r1, r2, go_sem]) rfl ⟨by rw [HF.out.1, HF.out.2]; rfl, LZ.out⟩
  go_wp2_with fail
  refine (l15Ok_any (nb + 1 + 1) e _ T1.out).mono ?_
  rintro e' w2 ⟨rfl, hb⟩
  have C2 := Lib.hid (C1.out.keep hb)
  have T2 := Lib.hid (T1.out.keep hb)
  have D2 := Lib.hid (D1.out.keep hb)
  have R2 := Lib.hid (R1.out.keep hb)
  have L2 := Lib.hid (bT L1.out hb)
  clear hb C1 D1 R1 L1 T1
  cases h1' : okC e
  · obtain ⟨r0, r1, r2, _⟩ := R2.out.c3
    obtain ⟨f0, f1, f2⟩ := R2.out.f3q
    have HF := Lib.hid (cv_1 (c := c) (e := e) (a0 := a0) (a1 := a1) (a2 := a2) (k := k) (by simp [h1']))
    go_wp2_with fail
    have QZ := Lib.hid (BoxL.setQ (i := 2) (v := .int .i64 (0)) (BoxL.setQ (i := 1) (v := .int .i64 (0)) (BoxL.setQ (i := 0) (v := .int .i64 (0)) R2.out rfl) rfl) rfl)
    have LZ := Lib.hid (((L2.out.setCell (p := ⟨nb + 1 + 1 + 1, 0, none⟩) (by have := HNB.out; simp; omega) (.int .i64 (0))).setCell (p := ⟨nb + 1 + 1 + 1, 1, none⟩) (by have := HNB.out; simp; omega) (.int .i64 (0))).setCell (p := ⟨nb + 1 + 1 + 1, 2, none⟩) (by have := HNB.out; simp; omega) (.int .i64 (0)))
    clear r0 r1 r2 f0 f1 f2
    obtain ⟨r0, r1, r2, _⟩ := QZ.out.c3
    exact bodyPost_ret (v := .tuple #[.agg #[.int .i64 (0), .int .i64 (0), .int .i64 (0)], .int .i64 (1)]) (by simp [results, Try.results28, r0, r1, r2, go_sem]) rfl ⟨by rw [HF.out.1, HF.out.2]; rfl, LZ.out⟩
  obtain ⟨d0, d1, d2, _⟩ := D2.out.c3
  go_wp2_with fail
  refine (l16Ok_any nb c a0 a1 a2 _ C2.out h1 hb1).mono ?_
  rintro e' w3 ⟨rfl, hb⟩
  clear d0 d1 d2
  have C3 := Lib.hid (C2.out.keep hb)
  have T3 := Lib.hid (T2.out.keep hb)
  have D3 := Lib.hid (D2.out.keep hb)
  have R3 := Lib.hid (R2.out.keep hb)
  have L3 := Lib.hid (bT L2.out hb)
  clear hb C2 D2 R2 L2 T2
  cases h2 : okD c a0 a1 a2
  · obtain ⟨r0, r1, r2, _⟩ := R3.out.c3
    obtain ⟨f0, f1, f2⟩ := R3.out.f3q
    have HF := Lib.hid (cv_2 (k := k) h1 h1' h2)
    go_wp2_with fail
    have QZ := Lib.hid (BoxL.setQ (i := 2) (v := .int .i64 (0)) (BoxL.setQ (i := 1) (v := .int .i64 (0)) (BoxL.setQ (i := 0) (v := .int .i64 (0)) R3.out rfl) rfl) rfl)
    have LZ := Lib.hid (((L3.out.setCell (p := ⟨nb + 1 + 1 + 1, 0, none⟩) (by have := HNB.out; simp; omega) (.int .i64 (0))).setCell (p := ⟨nb + 1 + 1 + 1, 1, none⟩) (by have := HNB.out; simp; omega) (.int .i64 (0))).setCell (p := ⟨nb + 1 + 1 + 1, 2, none⟩) (by have := HNB.out; simp; omega) (.int .i64 (0)))
    clear r0 r1 r2 f0 f1 f2
    obtain ⟨r0, r1, r2, _⟩ := QZ.out.c3
    exact bodyPost_ret (v := .tuple #[.agg #[.int .i64 (0), .int .i64 (0), .int .i64 (0)], .int .i64 (2)]) (by simp [results, Try.results28, r0, r1, r2, go_sem]) rfl ⟨by rw [HF.out.1, HF.out.2]; rfl, LZ.out⟩
  go_wp2_with fail
  refine (l16Far_any _ _).mono ?_
  rintro e' w9 ⟨rfl, rfl⟩
  cases h3 : inB k (-20000000) 20000000
  · obtain ⟨r0, r1, r2, _⟩ := R3.out.c3
    obtain ⟨f0, f1, f2⟩ := R3.out.f3q
    have HF := Lib.hid (cv_3 h1 h1' h2 h3)
    go_wp2_with fail
    have QZ := Lib.hid (BoxL.setQ (i := 2) (v := .int .i64 (0)) (BoxL.setQ (i := 1) (v := .int .i64 (0)) (BoxL.setQ (i := 0) (v := .int .i64 (0)) R3.out rfl) rfl) rfl)
    have LZ := Lib.hid (((L3.out.setCell (p := ⟨nb + 1 + 1 + 1, 0, none⟩) (by have := HNB.out; simp; omega) (.int .i64 (0))).setCell (p := ⟨nb + 1 + 1 + 1, 1, none⟩) (by have := HNB.out; simp; omega) (.int .i64 (0))).setCell (p := ⟨nb + 1 + 1 + 1, 2, none⟩) (by have := HNB.out; simp; omega) (.int .i64 (0)))
    clear r0 r1 r2 f0 f1 f2
    obtain ⟨r0, r1, r2, _⟩ := QZ.out.c3
    exact bodyPost_ret (v := .tuple #[.agg #[.int .i64 (0), .int .i64 (0), .int .i64 (0)], .int .i64 (2)]) (by simp [results, Try.results28, r0, r1, r2, go_sem]) rfl ⟨by rw [HF.out.1, HF.out.2]; rfl, LZ.out⟩
  obtain ⟨d0, d1, d2, _⟩ := D3.out.c3
  have HF0 := cv_0 (k := k) h1 h1' h2
  have hbn := (dyN_bd h1 h2).2.2.2
  have hbk := inB_true.1 h3
  have CD0 := Lib.hid (fun W (h : CalAt W nb c) => l16Day_any nb c a0 a1 a2 W h h1 h2)
  generalize dyN c a0 a1 a2 = n at *
  obtain ⟨z0, z1, z2, hx⟩ := dtG_open e (n + k)
  obtain ⟨q, hq⟩ : ∃ q, inB (n + k) 0 (cyK e.ms e.rs 10000 - 1) = q := ⟨_, rfl⟩
  have HF := Lib.hid HF0
  clear HF0
  rw [hx, hq] at HF
  have CD := Lib.hid (fun W (h : CalAt W (nb + 1 + 1) e) => show Calls Try.prog 48 #[.pointer (some ⟨(nb + 1 + 1), 0, none⟩), .int .i64 (n + k)] W (TupV (.agg #[.int .i64 z0, .int .i64 z1, .int .i64 z2]) (.bool q) W) from by have := l16Date_any (nb + 1 + 1) e (n + k) W h h1'; rw [hx, hq] at this; exact this)
  have CC := Lib.hid (l16Code2_any e (n + k) z0 z1 z2 q hq hx)
  have vk : IntKind.i64.wrap (n + k) = n + k := IntWalk.i64_in _ (by omega)
  clear hx hq
  go_wp2_with fail
  refine (CD0.out _ C3.out).mono ?_
  rintro e' w4 ⟨rfl, hb⟩
  clear d0 d1 d2
  have C4 := Lib.hid (C3.out.keep hb)
  have T4 := Lib.hid (T3.out.keep hb)
  have D4 := Lib.hid (D3.out.keep hb)
  have R4 := Lib.hid (R3.out.keep hb)
  have L4 := Lib.hid (bT L3.out hb)
  clear hb C3 D3 R3 L3 T3
  go_wp2_with fail
  refine (CD.out _ T4.out).mono ?_
  rintro e' w5 ⟨rfl, hb⟩
  have C5 := Lib.hid (C4.out.keep hb)
  have T5 := Lib.hid (T4.out.keep hb)
  have D5 := Lib.hid (D4.out.keep hb)
  have R5 := Lib.hid (R4.out.keep hb)
  have L5 := Lib.hid (bT L4.out hb)
  clear hb C4 D4 R4 L4 T4
  go_wp2_with fail
  refine (CC.out _).mono ?_
  rintro e' w6 ⟨rfl, hb⟩
  have C6 := Lib.hid (C5.out.keep hb)
  have T6 := Lib.hid (T5.out.keep hb)
  have D6 := Lib.hid (D5.out.keep hb)
  have R6 := Lib.hid (R5.out.keep hb)
  have L6 := Lib.hid (bT L5.out hb)
  clear hb C5 D5 R5 L5 T5
  obtain ⟨r0, r1, r2, _⟩ := R6.out.c3
  obtain ⟨f0, f1, f2⟩ := R6.out.f3q
  generalize icN q = j at *
  go_wp2_with fail
  have QZ := Lib.hid (BoxL.setQ (i := 2) (v := .int .i64 (z2)) (BoxL.setQ (i := 1) (v := .int .i64 (z1)) (BoxL.setQ (i := 0) (v := .int .i64 (z0)) R6.out rfl) rfl) rfl)
  have LZ := Lib.hid (((L6.out.setCell (p := ⟨nb + 1 + 1 + 1, 0, none⟩) (by have := HNB.out; simp; omega) (.int .i64 (z0))).setCell (p := ⟨nb + 1 + 1 + 1, 1, none⟩) (by have := HNB.out; simp; omega) (.int .i64 (z1))).setCell (p := ⟨nb + 1 + 1 + 1, 2, none⟩) (by have := HNB.out; simp; omega) (.int .i64 (z2)))
  clear r0 r1 r2 f0 f1 f2
  obtain ⟨r0, r1, r2, _⟩ := QZ.out.c3
  exact bodyPost_ret (v := .tuple #[.agg #[.int .i64 (z0), .int .i64 (z1), .int .i64 (z2)], .int .i64 (j)]) (by simp [results, Try.results28, r0, r1, r2, go_sem]) rfl ⟨by rw [HF.out.1, HF.out.2], LZ.out⟩
set_option maxRecDepth 100000 in
set_option maxHeartbeats 8000000 in
theorem ConvertDateI_any (c e : Cal) (a0 a1 a2 k : Int) (x x' : Value) (w : World) (h : IsC w x c) (h' : IsC w x' e) (hb1 : -9223372036854775808 ≤ a1 ∧ a1 ≤ 9223372036854775807) :
    Calls Try.prog 29 #[x, .agg #[.int .i64 a0, .int .i64 a1, .int .i64 a2], x', .int .i64 k] w (TupV (cvV c e a0 a1 a2 k) (.int .i64 (cvK c e a0 a1 a2 k)) w) := by
  obtain ⟨u, v, rfl, hs, hM, hR⟩ := h
  obtain ⟨p1, n1, rfl, l1, _⟩ := id hM.open
  obtain ⟨p2, n2, rfl, l2, _⟩ := id hR.open
  obtain ⟨u, v, rfl, hs', hM', hR'⟩ := h'
  obtain ⟨a3, n3, rfl, l3, _⟩ := id hM'.open
  obtain ⟨a4, n4, rfl, l4, _⟩ := id hR'.open
  have HSZ := Lib.hid hs
  have HSE := Lib.hid hs'
  have C0 := Lib.hid (show CaH w w.heap.size c p1 n1 p2 n2 ((((w.alloc (.cells #[.string c.nm, .slice p1 c.ms.length n1, .slice p2 c.rs.length n2, .int .i64 c.wk] 33)).alloc (.cells #[.int .i64 a0, .int .i64 a1, .int .i64 a2] 35)).alloc (.cells #[.string e.nm, .slice a3 e.ms.length n3, .slice a4 e.rs.length n4, .int .i64 e.wk] 33)).alloc (.cells #[.int .i64 0, .int .i64 0, .int .i64 0] 35)) from (CaH.new w c p1 n1 p2 n2 33 hM hR).keep (bA (bA (bA (bR _) _) _) _))
  have L0 := Lib.hid (show Below w.heap.size w ((((w.alloc (.cells #[.string c.nm, .slice p1 c.ms.length n1, .slice p2 c.rs.length n2, .int .i64 c.wk] 33)).alloc (.cells #[.int .i64 a0, .int .i64 a1, .int .i64 a2] 35)).alloc (.cells #[.string e.nm, .slice a3 e.ms.length n3, .slice a4 e.rs.length n4, .int .i64 e.wk] 33)).alloc (.cells #[.int .i64 0, .int .i64 0, .int .i64 0] 35)) from bA (bA (bA (bA (bR w) _) _) _) _)
  have D0 := Lib.hid ((BoxL.at_ (w := w.alloc (.cells #[.string c.nm, .slice p1 c.ms.length n1, .slice p2 c.rs.length n2, .int .i64 c.wk] 33)) (b := w.heap.size + 1) (vs := [.int .i64 a0, .int .i64 a1, .int .i64 a2]) (T := 35) (by simp)).keep (bA (bA (bR _) _) _ : Below _ _ ((((w.alloc (.cells #[.string c.nm, .slice p1 c.ms.length n1, .slice p2 c.rs.length n2, .int .i64 c.wk] 33)).alloc (.cells #[.int .i64 a0, .int .i64 a1, .int .i64 a2] 35)).alloc (.cells #[.string e.nm, .slice a3 e.ms.length n3, .slice a4 e.rs.length n4, .int .i64 e.wk] 33)).alloc (.cells #[.int .i64 0, .int .i64 0, .int .i64 0] 35))))
  have R0 := Lib.hid (BoxL.at_ (w := ((w.alloc (.cells #[.string c.nm, .slice p1 c.ms.length n1, .slice p2 c.rs.length n2, .int .i64 c.wk] 33)).alloc (.cells #[.int .i64 a0, .int .i64 a1, .int .i64 a2] 35)).alloc (.cells #[.string e.nm, .slice a3 e.ms.length n3, .slice a4 e.rs.length n4, .int .i64 e.wk] 33)) (b := w.heap.size + 1 + 1 + 1) (vs := [.int .i64 0, .int .i64 0, .int .i64 0]) (T := 35) (by simp))
  have T0 := Lib.hid ((CaH.at_ ((w.alloc (.cells #[.string c.nm, .slice p1 c.ms.length n1, .slice p2 c.rs.length n2, .int .i64 c.wk] 33)).alloc (.cells #[.int .i64 a0, .int .i64 a1, .int .i64 a2] 35)) (w.heap.size + 1 + 1) e a3 n3 a4 n4 33 (by simp) (hM'.keep (bA (bA (bR _) _) _)) (hR'.keep (bA (bA (bR _) _) _))).keep (bA (bR _) _ : Below _ _ ((((w.alloc (.cells #[.string c.nm, .slice p1 c.ms.length n1, .slice p2 c.rs.length n2, .int .i64 c.wk] 33)).alloc (.cells #[.int .i64 a0, .int .i64 a1, .int .i64 a2] 35)).alloc (.cells #[.string e.nm, .slice a3 e.ms.length n3, .slice a4 e.rs.length n4, .int .i64 e.wk] 33)).alloc (.cells #[.int .i64 0, .int .i64 0, .int .i64 0] 35))))
  clear hM hR hs hM' hR' hs'
  obtain ⟨d0, d1, d2, _⟩ := D0.out.c3
  obtain ⟨c0, c1, c2, c3, c4, _, _, _⟩ := C0.out
  go_enter Try.func29, Try.ntmps29
  go_wp2_with fail
  generalize (((w.alloc (.cells #[.string c.nm, .slice p1 c.ms.length n1, .slice p2 c.rs.length n2, .int .i64 c.wk] 33)).alloc (.cells #[.int .i64 a0, .int .i64 a1, .int .i64 a2] 35)).alloc (.cells #[.string e.nm, .slice a3 e.ms.length n3, .slice a4 e.rs.length n4, .int .i64 e.wk] 33)).alloc (.cells #[.int .i64 0, .int .i64 0, .int .i64 0] 35) = W0 at *
  generalize hnb : w.heap.size = nb at C0 D0 R0 T0 d0 d1 d2 c0 c1 c2 c3 c4 ⊢
  have HNB := Lib.hid hnb
  clear hnb
  refine (DayOfI_any c a0 a1 a2 _ _ (C0.out.isC HSZ.out) hb1).mono ?_
  rintro e' w1 ⟨rfl, hb⟩
  clear d0 d1 d2 c0 c1 c2 c3 c4
  have C1 := Lib.hid (C0.out.keep hb)
  have T1 := Lib.hid (T0.out.keep hb)
  have D1 := Lib.hid (D0.out.keep hb)
  have R1 := Lib.hid (R0.out.keep hb)
  have L1 := Lib.hid (bT L0.out hb)
  clear hb C0 D0 R0 L0 T0
  obtain ⟨c0, c1, c2, c3, c4, _, _, _⟩ := T1.out
  generalize hA : (doE c a0 a1 a2).1 = A
  generalize hB : (doE c a0 a1 a2).2 = B
  go_wp2_with fail
  refine (ValidCalendarI_any e _ _ (T1.out.isC HSE.out)).mono ?_
  rintro e' w2 ⟨rfl, hb⟩
  clear c0 c1 c2 c3 c4
  have C2 := Lib.hid (C1.out.keep hb)
  have T2 := Lib.hid (T1.out.keep hb)
  have D2 := Lib.hid (D1.out.keep hb)
  have R2 := Lib.hid (R1.out.keep hb)
  have L2 := Lib.hid (bT L1.out hb)
  clear hb C1 D1 R1 L1 T1
  cases h1' : okC e
  · clear hA hB
    obtain ⟨r0, r1, r2, _⟩ := R2.out.c3
    obtain ⟨f0, f1, f2⟩ := R2.out.f3q
    have HF := Lib.hid (cv_1 (c := c) (e := e) (a0 := a0) (a1 := a1) (a2 := a2) (k := k) (by simp [h1']))
    go_wp2_with fail
    have QZ := Lib.hid (BoxL.setQ (i := 2) (v := .int .i64 (0)) (BoxL.setQ (i := 1) (v := .int .i64 (0)) (BoxL.setQ (i := 0) (v := .int .i64 (0)) R2.out rfl) rfl) rfl)
    have LZ := Lib.hid (((L2.out.setCell (p := ⟨nb + 1 + 1 + 1, 0, none⟩) (by have := HNB.out; simp; omega) (.int .i64 (0))).setCell (p := ⟨nb + 1 + 1 + 1, 1, none⟩) (by have := HNB.out; simp; omega) (.int .i64 (0))).setCell (p := ⟨nb + 1 + 1 + 1, 2, none⟩) (by have := HNB.out; simp; omega) (.int .i64 (0)))
    clear r0 r1 r2 f0 f1 f2
    obtain ⟨r0, r1, r2, _⟩ := QZ.out.c3
    exact bodyPost_ret (v := .tuple #[.agg #[.int .i64 (0), .int .i64 (0), .int .i64 (0)], .int .i64 (1)]) (by simp [results, Try.results29, r0, r1, r2, go_sem]) rfl ⟨by rw [HF.out.1, HF.out.2]; rfl, LZ.out⟩
  cases h1 : okC c
  · obtain rfl : B = 1 := by rw [← hB, doE_1 h1]
    clear hA hB
    obtain ⟨r0, r1, r2, _⟩ := R2.out.c3
    obtain ⟨f0, f1, f2⟩ := R2.out.f3q
    have HF := Lib.hid (cv_1 (c := c) (e := e) (a0 := a0) (a1 := a1) (a2 := a2) (k := k) (by simp [h1]))
    go_wp2_with fail
    have QZ := Lib.hid (BoxL.setQ (i := 2) (v := .int .i64 (0)) (BoxL.setQ (i := 1) (v := .int .i64 (0)) (BoxL.setQ (i := 0) (v := .int .i64 (0)) R2.out rfl) rfl) rfl)
    have LZ := Lib.hid (((L2.out.setCell (p := ⟨nb + 1 + 1 + 1, 0, none⟩) (by have := HNB.out; simp; omega) (.int .i64 (0))).setCell (p := ⟨nb + 1 + 1 + 1, 1, none⟩) (by have := HNB.out; simp; omega) (.int .i64 (0))).setCell (p := ⟨nb + 1 + 1 + 1, 2, none⟩) (by have := HNB.out; simp; omega) (.int .i64 (0)))
    clear r0 r1 r2 f0 f1 f2
    obtain ⟨r0, r1, r2, _⟩ := QZ.out.c3
    exact bodyPost_ret (v := .tuple #[.agg #[.int .i64 (0), .int .i64 (0), .int .i64 (0)], .int .i64 (1)]) (by simp [results, Try.results29, r0, r1, r2, go_sem]) rfl ⟨by rw [HF.out.1, HF.out.2]; rfl, LZ.out⟩
  cases h2 : okD c a0 a1 a2
  · obtain rfl : B = 2 := by rw [← hB, doE_2 h1 h2]
    clear hA hB
    obtain ⟨r0, r1, r2, _⟩ := R2.out.c3
    obtain ⟨f0, f1, f2⟩ := R2.out.f3q
    have HF := Lib.hid (cv_2 (k := k) h1 h1' h2)
    go_wp2_with fail
    have QZ := Lib.hid (BoxL.setQ (i := 2) (v := .int .i64 (0)) (BoxL.setQ (i := 1) (v := .int .i64 (0)) (BoxL.setQ (i := 0) (v := .int .i64 (0)) R2.out rfl) rfl) rfl)
    have LZ := Lib.hid (((L2.out.setCell (p := ⟨nb + 1 + 1 + 1, 0, none⟩) (by have := HNB.out; simp; omega) (.int .i64 (0))).setCell (p := ⟨nb + 1 + 1 + 1, 1, none⟩) (by have := HNB.out; simp; omega) (.int .i64 (0))).setCell (p := ⟨nb + 1 + 1 + 1, 2, none⟩) (by have := HNB.out; simp; omega) (.int .i64 (0)))
    clear r0 r1 r2 f0 f1 f2
    obtain ⟨r0, r1, r2, _⟩ := QZ.out.c3
    exact bodyPost_ret (v := .tuple #[.agg #[.int .i64 (0), .int .i64 (0), .int .i64 (0)], .int .i64 (2)]) (by simp [results, Try.results29, r0, r1, r2, go_sem]) rfl ⟨by rw [HF.out.1, HF.out.2]; rfl, LZ.out⟩
  obtain rfl : B = 0 := by rw [← hB, doE_0 h1 h2]
  obtain rfl : A = dyN c a0 a1 a2 := by rw [← hA, doE_0 h1 h2]
  clear hA hB
  have HF0 := cv_0 (k := k) h1 h1' h2
  have hbn := (dyN_bd h1 h2).2.2.2
  generalize dyN c a0 a1 a2 = n at *
  obtain ⟨z0, z1, z2, hx⟩ := dtG_open e (n + k)
  obtain ⟨q, hq⟩ : ∃ q, inB (n + k) 0 (cyK e.ms e.rs 10000 - 1) = q := ⟨_, rfl⟩
  have HF := Lib.hid HF0
  clear HF0
  rw [hx, hq] at HF
  have CD := Lib.hid (fun x W (h : IsC W x e) => show Calls Try.prog 50 #[x, .int .i64 n, .int .i64 k] W (TupV (.agg #[.int .i64 z0, .int .i64 z1, .int .i64 z2]) (.int .i64 (icN q)) W) from by have := dateBehind_any e n k x W h h1' (by omega); rw [hx, hq] at this; exact this)
  clear hx hq
  obtain ⟨c0, c1, c2, c3, c4, _, _, _⟩ := T2.out
  generalize icN q = j at *
  go_wp2_with fail
  refine (CD.out _ _ (T2.out.isC HSE.out)).mono ?_
  rintro e' w3 ⟨rfl, hb⟩
  clear c0 c1 c2 c3 c4
  have C3 := Lib.hid (C2.out.keep hb)
  have T3 := Lib.hid (T2.out.keep hb)
  have D3 := Lib.hid (D2.out.keep hb)
  have R3 := Lib.hid (R2.out.keep hb)
  have L3 := Lib.hid (bT L2.out hb)
  clear hb C2 D2 R2 L2 T2
  obtain ⟨r0, r1, r2, _⟩ := R3.out.c3
  obtain ⟨f0, f1, f2⟩ := R3.out.f3q
  go_wp2_with fail
  have QZ := Lib.hid (BoxL.setQ (i := 2) (v := .int .i64 (z2)) (BoxL.setQ (i := 1) (v := .int .i64 (z1)) (BoxL.setQ (i := 0) (v := .int .i64 (z0)) R3.out rfl) rfl) rfl)
  have LZ := Lib.hid (((L3.out.setCell (p := ⟨nb + 1 + 1 + 1, 0, none⟩) (by have := HNB.out; simp; omega) (.int .i64 (z0))).setCell (p := ⟨nb + 1 + 1 + 1, 1, none⟩) (by have := HNB.out; simp; omega) (.int .i64 (z1))).setCell (p := ⟨nb + 1 + 1 + 1, 2, none⟩) (by have := HNB.out; simp; omega) (.int .i64 (z2)))
  clear r0 r1 r2 f0 f1 f2
  obtain ⟨r0, r1, r2, _⟩ := QZ.out.c3
  exact bodyPost_ret (v := .tuple #[.agg #[.int .i64 (z0), .int .i64 (z1), .int .i64 (z2)], .int .i64 (j)]) (by simp [results, Try.results29, r0, r1, r2, go_sem]) rfl ⟨by rw [HF.out.1, HF.out.2], LZ.out⟩
set_option maxRecDepth 100000 in
set_option maxHeartbeats 8000000 in
theorem cvV_open (c e : Cal) (a0 a1 a2 k : Int) : ∃ z0 z1 z2 : Int, cvV c e a0 a1 a2 k = .agg #[.int .i64 z0, .int .i64 z1, .int .i64 z2] := by
  unfold cvV
  split
  · split
    · exact dtG_open e _
    · exact ⟨0, 0, 0, rfl⟩
  · exact ⟨0, 0, 0, rfl⟩
set_option maxRecDepth 100000 in
set_option maxHeartbeats 8000000 in
theorem AddDaysI_any (c : Cal) (a0 a1 a2 k : Int) (x : Value) (w : World) (h : IsC w x c) (hb1 : -9223372036854775808 ≤ a1 ∧ a1 ≤ 9223372036854775807) :
    Calls Try.prog 23 #[x, .agg #[.int .i64 a0, .int .i64 a1, .int .i64 a2], .int .i64 k] w (TupV (cvV c c a0 a1 a2 k) (.int .i64 (cvK c c a0 a1 a2 k)) w) := by
  obtain ⟨z0, z1, z2, hx⟩ := cvV_open c c a0 a1 a2 k
  have CD := Lib.hid (fun x W (h : IsC W x c) => show Calls Try.prog 29 #[x, .agg #[.int .i64 a0, .int .i64 a1, .int .i64 a2], x, .int .i64 k] W (TupV (.agg #[.int .i64 z0, .int .i64 z1, .int .i64 z2]) (.int .i64 (cvK c c a0 a1 a2 k)) W) from by have := ConvertDateI_any c c a0 a1 a2 k x x W h h hb1; rw [hx] at this; exact this)
  rw [hx]
  clear hx
  generalize cvK c c a0 a1 a2 k = j at *
  obtain ⟨u, v, rfl, hs, hM, hR⟩ := h
  obtain ⟨p1, n1, rfl, l1, _⟩ := id hM.open
  obtain ⟨p2, n2, rfl, l2, _⟩ := id hR.open
  have HSZ := Lib.hid hs
  have C0 := Lib.hid (show CaH w w.heap.size c p1 n1 p2 n2 (((w.alloc (.cells #[.string c.nm, .slice p1 c.ms.length n1, .slice p2 c.rs.length n2, .int .i64 c.wk] 33)).alloc (.cells #[.int .i64 a0, .int .i64 a1, .int .i64 a2] 35)).alloc (.cells #[.int .i64 0, .int .i64 0, .int .i64 0] 35)) from (CaH.new w c p1 n1 p2 n2 33 hM hR).keep (bA (bA (bR _) _) _))
  have L0 := Lib.hid (show Below w.heap.size w (((w.alloc (.cells #[.string c.nm, .slice p1 c.ms.length n1, .slice p2 c.rs.length n2, .int .i64 c.wk] 33)).alloc (.cells #[.int .i64 a0, .int .i64 a1, .int .i64 a2] 35)).alloc (.cells #[.int .i64 0, .int .i64 0, .int .i64 0] 35)) from bA (bA (bA (bR w) _) _) _)
  have D0 := Lib.hid ((BoxL.at_ (w := w.alloc (.cells #[.string c.nm, .slice p1 c.ms.length n1, .slice p2 c.rs.length n2, .int .i64 c.wk] 33)) (b := w.heap.size + 1) (vs := [.int .i64 a0, .int .i64 a1, .int .i64 a2]) (T := 35) (by simp)).keep (bA (bR _) _ : Below _ _ (((w.alloc (.cells #[.string c.nm, .slice p1 c.ms.length n1, .slice p2 c.rs.length n2, .int .i64 c.wk] 33)).alloc (.cells #[.int .i64 a0, .int .i64 a1, .int .i64 a2] 35)).alloc (.cells #[.int .i64 0, .int .i64 0, .int .i64 0] 35))))
  have R0 := Lib.hid (BoxL.at_ (w := (w.alloc (.cells #[.string c.nm, .slice p1 c.ms.length n1, .slice p2 c.rs.length n2, .int .i64 c.wk] 33)).alloc (.cells #[.int .i64 a0, .int .i64 a1, .int .i64 a2] 35)) (b := w.heap.size + 1 + 1) (vs := [.int .i64 0, .int .i64 0, .int .i64 0]) (T := 35) (by simp))
  clear hM hR hs
  obtain ⟨d0, d1, d2, _⟩ := D0.out.c3
  obtain ⟨c0, c1, c2, c3, c4, _, _, _⟩ := C0.out
  go_enter Try.func23, Try.ntmps23
  go_wp2_with fail
  generalize ((w.alloc (.cells #[.string c.nm, .slice p1 c.ms.length n1, .slice p2 c.rs.length n2, .int .i64 c.wk] 33)).alloc (.cells #[.int .i64 a0, .int .i64 a1, .int .i64 a2] 35)).alloc (.cells #[.int .i64 0, .int .i64 0, .int .i64 0] 35) = W0 at *
  generalize hnb : w.heap.size = nb at C0 D0 R0 d0 d1 d2 c0 c1 c2 c3 c4 ⊢
  have HNB := Lib.hid hnb
  clear hnb
  refine (CD.out _ _ (C0.out.isC HSZ.out)).mono ?_
  rintro e' w1 ⟨rfl, hb⟩
  have R1 := Lib.hid (R0.out.keep hb)
  have L1 := Lib.hid (bT L0.out hb)
  clear d0 d1 d2 c0 c1 c2 c3 c4 hb R0 L0 C0 D0
  obtain ⟨r0, r1, r2, _⟩ := R1.out.c3
  obtain ⟨f0, f1, f2⟩ := R1.out.f3q
  go_wp2_with fail
  have QZ := Lib.hid (BoxL.setQ (i := 2) (v := .int .i64 (z2)) (BoxL.setQ (i := 1) (v := .int .i64 (z1)) (BoxL.setQ (i := 0) (v := .int .i64 (z0)) R1.out rfl) rfl) rfl)
  have LZ := Lib.hid (((L1.out.setCell (p := ⟨nb + 1 + 1, 0, none⟩) (by have := HNB.out; simp; omega) (.int .i64 (z0))).setCell (p := ⟨nb + 1 + 1, 1, none⟩) (by have := HNB.out; simp; omega) (.int .i64 (z1))).setCell (p := ⟨nb + 1 + 1, 2, none⟩) (by have := HNB.out; simp; omega) (.int .i64 (z2)))
  clear r0 r1 r2 f0 f1 f2
  obtain ⟨r0, r1, r2, _⟩ := QZ.out.c3
  exact bodyPost_ret (v := .tuple #[.agg #[.int .i64 (z0), .int .i64 (z1), .int .i64 (z2)], .int .i64 (j)]) (by simp [results, Try.results23, r0, r1, r2, go_sem]) rfl ⟨rfl, LZ.out⟩
end Go.Proofs.Ytbkhejideffflaa
