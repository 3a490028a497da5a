/-
  MeanYear of both sides.
-/
import Derived.Test.YtpbepibklipfpaaDoorCaK
import Derived.Test.YtpbepibklipfpaaDoorMake2
import Derived.Test.YtpbepibklipfpaaDoorMakeR
namespace Go.Proofs.YtpbepibklipfpaaDoor
open Go.RowKit

def myE (c : Cal) : (Int × Int) × Int := if okC c = true then ((rA (cyA c) (lcA c.rs), rB (cyA c) (lcA c.rs)), rC (cyA c) (lcA c.rs)) else ((0, 0), 1)
theorem myE_1 {c : Cal} (h : okC c = false) : myE c = ((0, 0), 1) := by simp [myE, h]
theorem myE_0 {c : Cal} (h : okC c = true) : myE c = ((rA (cyA c) (lcA c.rs), rB (cyA c) (lcA c.rs)), rC (cyA c) (lcA c.rs)) := by simp [myE, h]
def RatR (a b k : Int) (w : World) (e : Ending) (w' : World) : Prop := e = .returned (.tuple #[.agg #[.int .i64 a, .int .i64 b], .int .i64 k]) ∧ Below w.heap.size w w'
theorem cyA_bd {c : Cal} (h : okC c = true) : (1 ≤ lcA c.rs ∧ lcA c.rs ≤ 1000000) ∧ 0 ≤ cyA c ∧ cyA c ≤ 1200000000 := by
  obtain ⟨r1, r2, r3, r4⟩ := okRu_parts (okC_parts h).1
  have := cyK_bd (okC_parts h).2.2.1 c.rs (lcA c.rs).toNat
  unfold cyA
  omega
set_option maxRecDepth 100000 in
set_option maxHeartbeats 8000000 in
theorem MeanYearS_any (c : Cal) (x : Value) (w : World) (h : IsC w x c) :
    Calls Tryd.prog 10 #[x] w (RatR (myE c).1.1 (myE c).1.2 (myE c).2 w) := by
  obtain ⟨u, v, rfl, hs, hM, hR⟩ := h
  obtain ⟨a1, n1, rfl, l1, _⟩ := id hM.open
  obtain ⟨a2, n2, rfl, l2, _⟩ := id hR.open
  have HC := Lib.hid (show CalAt ((w.alloc (.cells #[.string c.nm, .slice a1 c.ms.length n1, .slice a2 c.rs.length n2, .int .i64 c.wk] 34)).alloc (.cells #[.int .i64 0, .int .i64 0] 28)) w.heap.size c from (CalAt.new (c := c) 34 hs hM hR).keep (bA (bR _) _))
  have L0 := Lib.hid (show Below w.heap.size w ((w.alloc (.cells #[.string c.nm, .slice a1 c.ms.length n1, .slice a2 c.rs.length n2, .int .i64 c.wk] 34)).alloc (.cells #[.int .i64 0, .int .i64 0] 28)) from bA (bA (bR w) _) _)
  have R0 := Lib.hid (BoxL.at_ (w := w.alloc (.cells #[.string c.nm, .slice a1 c.ms.length n1, .slice a2 c.rs.length n2, .int .i64 c.wk] 34)) (b := w.heap.size + 1) (vs := [.int .i64 0, .int .i64 0]) (T := 28) (by simp))
  clear hM hR hs
  go_enter Tryd.func10, Tryd.ntmps10
  go_wp2_with fail
  generalize (w.alloc (.cells #[.string c.nm, .slice a1 c.ms.length n1, .slice a2 c.rs.length n2, .int .i64 c.wk] 34)).alloc (.cells #[.int .i64 0, .int .i64 0] 28) = W0 at *
  generalize hnb : w.heap.size = nb at HC R0 ⊢
  have HNB := Lib.hid hnb
  clear hnb
  refine (l15Ok_any nb c _ HC.out).mono ?_
  rintro e w1 ⟨rfl, hb⟩
  have C1 := Lib.hid (HC.out.keep hb)
  have L1 := Lib.hid (bT L0.out hb)
  have R1 := Lib.hid (R0.out.keep hb)
  clear hb HC L0 R0
  cases h1 : okC c
  · obtain ⟨r0, r1, _⟩ := R1.out.c2
    obtain ⟨f0, f1⟩ := R1.out.f2
    have HF := Lib.hid (myE_1 h1)
    go_wp2_with fail
    have QZ := Lib.hid (BoxL.setQ (i := 1) (v := .int .i64 (0)) (BoxL.setQ (i := 0) (v := .int .i64 (0)) R1.out rfl) rfl)
    have LZ := Lib.hid ((L1.out.setCell (p := ⟨nb + 1, 0, none⟩) (by have := HNB.out; simp; omega) (.int .i64 (0))).setCell (p := ⟨nb + 1, 1, none⟩) (by have := HNB.out; simp; omega) (.int .i64 (0)))
    clear r0 r1 f0 f1
    obtain ⟨r0, r1, _⟩ := QZ.out.c2
    exact bodyPost_ret (v := .tuple #[.agg #[.int .i64 (0), .int .i64 (0)], .int .i64 (1)]) (by simp [results, Tryd.results10, r0, r1, go_sem]) rfl ⟨by rw [HF.out], LZ.out⟩
  · have HF := Lib.hid (myE_0 h1)
    obtain ⟨b1, b2, b3⟩ := cyA_bd h1
    have CD := Lib.hid (fun W (h : CalAt W nb c) => show Calls Tryd.prog 35 #[.pointer (some ⟨nb, 0, none⟩)] W (TwoR2 (lcA c.rs) (cyA c) W) from l15Cycle_any nb c W h (okC_parts h1).1 (okC_parts h1).2.2.1)
    have CC := Lib.hid (fun W => MakeRatioS_any (cyA c) (lcA c.rs) W (by omega) (by omega) (by omega) (by omega))
    generalize rA (cyA c) (lcA c.rs) = z0 at *
    generalize rB (cyA c) (lcA c.rs) = z1 at *
    generalize rC (cyA c) (lcA c.rs) = k at *
    generalize cyA c = D at *
    generalize lcA c.rs = Y at *
    go_wp2_with fail
    refine (CD.out _ C1.out).mono ?_
    rintro e w2 ⟨rfl, hb⟩
    have L2 := Lib.hid (bT L1.out hb)
    have R2 := Lib.hid (R1.out.keep hb)
    clear hb L1 R1 C1
    go_wp2_with fail
    refine (CC.out _).mono ?_
    rintro e w3 ⟨rfl, hb⟩
    have L3 := Lib.hid (bT L2.out hb)
    have R3 := Lib.hid (R2.out.keep hb)
    clear hb L2 R2
    obtain ⟨r0, r1, _⟩ := R3.out.c2
    obtain ⟨f0, f1⟩ := R3.out.f2
    go_wp2_with fail
    have QZ := Lib.hid (BoxL.setQ (i := 1) (v := .int .i64 (z1)) (BoxL.setQ (i := 0) (v := .int .i64 (z0)) R3.out rfl) rfl)
    have LZ := Lib.hid ((L3.out.setCell (p := ⟨nb + 1, 0, none⟩) (by have := HNB.out; simp; omega) (.int .i64 (z0))).setCell (p := ⟨nb + 1, 1, none⟩) (by have := HNB.out; simp; omega) (.int .i64 (z1)))
    clear r0 r1 f0 f1
    obtain ⟨r0, r1, _⟩ := QZ.out.c2
    exact bodyPost_ret (v := .tuple #[.agg #[.int .i64 (z0), .int .i64 (z1)], .int .i64 (k)]) (by simp [results, Tryd.results10, r0, r1, go_sem]) rfl ⟨by rw [HF.out], LZ.out⟩
set_option maxRecDepth 100000 in
set_option maxHeartbeats 8000000 in
theorem MeanYearI_any (c : Cal) (b0 b1 : Addr) (x : Value) (w : World) (h : IsC w x c) (hS : Sent w b0 b1) :
    Calls Tryd.prog 12 #[x] w (RatR (myE c).1.1 (myE c).1.2 (myE c).2 w) := by
  obtain ⟨u, v, rfl, hs, hM, hR⟩ := h
  obtain ⟨a1, n1, rfl, l1, _⟩ := id hM.open
  obtain ⟨a2, n2, rfl, l2, _⟩ := id hR.open
  have HSZ := Lib.hid hs
  have HSS := Lib.hid hS
  have H0 := Lib.hid ((CaH.new w c a1 n1 a2 n2 34 hM hR).keep (bA (bR (w.alloc (.cells #[.string c.nm, .slice a1 c.ms.length n1, .slice a2 c.rs.length n2, .int .i64 c.wk] 34))) (.cells #[.int .i64 0, .int .i64 0] 28)))
  have R0 := Lib.hid (BoxL.at_ (w := w.alloc (.cells #[.string c.nm, .slice a1 c.ms.length n1, .slice a2 c.rs.length n2, .int .i64 c.wk] 34)) (b := w.heap.size + 1) (vs := [.int .i64 0, .int .i64 0]) (T := 28) (by simp))
  clear hM hR hs hS
  obtain ⟨c0, c1, c2, c3, c4, _, _, _⟩ := H0.out
  go_enter Tryd.func12, Tryd.ntmps12
  go_wp2_with fail
  generalize (w.alloc (.cells #[.string c.nm, .slice a1 c.ms.length n1, .slice a2 c.rs.length n2, .int .i64 c.wk] 34)).alloc (.cells #[.int .i64 0, .int .i64 0] 28) = W0 at *
  generalize hnb : w.heap.size = nb at H0 R0 c0 c1 c2 c3 c4 ⊢
  have HNB := Lib.hid hnb
  clear hnb
  refine (CycleOfI_any c _ _ (H0.out.isC HSZ.out)).mono ?_
  rintro e w1 ⟨rfl, hb⟩
  have L1 := Lib.hid (H0.out.keep hb).bel
  have R1 := Lib.hid (R0.out.keep hb)
  clear hb c0 c1 c2 c3 c4 R0 H0
  obtain ⟨r0, r1, _⟩ := R1.out.c2
  obtain ⟨f0, f1⟩ := R1.out.f2
  cases h1 : okC c
  · have HF := Lib.hid (myE_1 h1)
    rw [coE_1 h1]
    go_wp2_with fail
    have QZ := Lib.hid (BoxL.setQ (i := 1) (v := .int .i64 (0)) (BoxL.setQ (i := 0) (v := .int .i64 (0)) R1.out rfl) rfl)
    have LZ := Lib.hid ((L1.out.setCell (p := ⟨nb + 1, 0, none⟩) (by have := HNB.out; simp; omega) (.int .i64 (0))).setCell (p := ⟨nb + 1, 1, none⟩) (by have := HNB.out; simp; omega) (.int .i64 (0)))
    clear r0 r1 f0 f1
    obtain ⟨r0, r1, _⟩ := QZ.out.c2
    exact bodyPost_ret (v := .tuple #[.agg #[.int .i64 (0), .int .i64 (0)], .int .i64 (1)]) (by simp [results, Tryd.results12, r0, r1, go_sem]) rfl ⟨by rw [HF.out], LZ.out⟩
  · have HF := Lib.hid (myE_0 h1)
    obtain ⟨b1_, b2, b3⟩ := cyA_bd h1
    have CC := Lib.hid (fun W (hS : Sent W b0 b1) => MakeRatioI_any (cyA c) (lcA c.rs) W b0 b1 hS (by omega) (by omega) (by omega) (by omega))
    rw [coE_0 h1]
    generalize rA (cyA c) (lcA c.rs) = z0 at *
    generalize rB (cyA c) (lcA c.rs) = z1 at *
    generalize rC (cyA c) (lcA c.rs) = k at *
    generalize cyA c = D at *
    generalize lcA c.rs = Y at *
    go_wp2_with fail
    refine (CC.out _ (HSS.out.keep L1.out)).mono ?_
    rintro e w2 ⟨rfl, hb⟩
    have L2 := Lib.hid (bT L1.out hb)
    have R2 := Lib.hid (R1.out.keep hb)
    clear hb r0 r1 f0 f1 L1 R1
    obtain ⟨r0, r1, _⟩ := R2.out.c2
    obtain ⟨f0, f1⟩ := R2.out.f2
    go_wp2_with fail
    have QZ := Lib.hid (BoxL.setQ (i := 1) (v := .int .i64 (z1)) (BoxL.setQ (i := 0) (v := .int .i64 (z0)) R2.out rfl) rfl)
    have LZ := Lib.hid ((L2.out.setCell (p := ⟨nb + 1, 0, none⟩) (by have := HNB.out; simp; omega) (.int .i64 (z0))).setCell (p := ⟨nb + 1, 1, none⟩) (by have := HNB.out; simp; omega) (.int .i64 (z1)))
    clear r0 r1 f0 f1
    obtain ⟨r0, r1, _⟩ := QZ.out.c2
    exact bodyPost_ret (v := .tuple #[.agg #[.int .i64 (z0), .int .i64 (z1)], .int .i64 (k)]) (by simp [results, Tryd.results12, r0, r1, go_sem]) rfl ⟨by rw [HF.out], LZ.out⟩
end Go.Proofs.YtpbepibklipfpaaDoor
