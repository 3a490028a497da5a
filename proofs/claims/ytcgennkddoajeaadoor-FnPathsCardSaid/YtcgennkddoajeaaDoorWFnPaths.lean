/-
  The walk of laws.FnPaths.
-/
import Derived.Test.YtcgennkddoajeaaDoorPoR
import Derived.Test.YtcgennkddoajeaaDoorPoI
import Derived.Test.YtcgennkddoajeaaDoorRopI
import Derived.Test.YtcgennkddoajeaaDoorDraw2
namespace Go.Proofs.YtcgennkddoajeaaDoor
open Go.RowKit

theorem okR_neg2 {a b : Int} (h : okR a b = true) : okR (-a) b = true := by
  obtain ⟨a1, a2, a3, a4, a5⟩ := okR_true.1 h
  exact okR_true.2 ⟨a1, a2, by omega, by omega, by rw [Int.neg_gcd]; exact a5⟩
/-- The absolute value of a ratio. -/
def absI (n : Int) : Int := if n < 0 then -n else n
theorem abs_ok {n d : Int} (h : okR n d = true) : okR (absI n) d = true := by
  unfold absI; split
  · exact okR_neg2 h
  · exact h
theorem a2Size_any (n d : Int) (w : World) (h1 : -1000000000 ≤ n) (h2 : n ≤ 1000000000) :
    Calls Tryd.prog 10 #[.agg #[.int .i64 n, .int .i64 d]] w fun e w' => e = .returned (.agg #[.int .i64 (absI n), .int .i64 d]) ∧ Below w.heap.size w w' := by
  have B0 := Lib.hid (Box2.new w n d 25)
  have L0 := Lib.hid (bA (bR w) (.cells #[.int .i64 n, .int .i64 d] 25))
  by_cases hn : n < 0
  · have HN := Lib.hid (show absI n = -n by unfold absI; rw [if_pos hn])
    go_enter Tryd.func10, Tryd.ntmps10
    go_wp2_with fail
    refine bodyPost_ret (v := .agg #[.int .i64 (-n), .int .i64 d]) ?_ rfl ⟨by rw [HN.out], ?_⟩
    · simp [results, Tryd.results10, go_sem]
    · exact (bA (bA (bR _) _) _)
  · have HN := Lib.hid (show absI n = n by unfold absI; rw [if_neg hn])
    go_enter Tryd.func10, Tryd.ntmps10
    go_wp2_with fail
    refine bodyPost_ret (v := .agg #[.int .i64 n, .int .i64 d]) ?_ rfl ⟨by rw [HN.out], ?_⟩
    · simp [results, Tryd.results10, go_sem]
    · exact (bA (bA (bR _) _) _)
theorem lr_ltr (l : List Bool) : lr (l.map ltr) = true := by
  unfold lr
  rw [List.all_eq_true]
  intro x hx
  obtain ⟨b, _, rfl⟩ := List.mem_map.1 hx
  cases b <;> rfl
theorem pth_data (l : List Bool) : (pth l).data.toList = l.map ltr := by simp [pth]
theorem pth_size (l : List Bool) : (pth l).size = l.length := by simp [pth, ByteArray.size]
theorem rop_back {N d : Int} (hok : okR N d = true) (hN : 0 < N) (hl : (pathL N d).length ≤ 200) : rpN (pth (pathL N d)).data.toList = N ∧ rpD (pth (pathL N d)).data.toList = d ∧ rpC (pth (pathL N d)).data.toList = 0 := by
  obtain ⟨s, h1, h2, h3⟩ := path_back hok hN
  rw [pth_data]
  obtain ⟨e1, e2, e3⟩ := rp_some (l := (pathL N d).map ltr) (by rw [List.length_map]; omega) (lr_ltr _) h1
  exact ⟨by omega, by omega, e3⟩
theorem rop_swap {N d : Int} (hok : okR N d = true) (hN : 0 < N) (hl : (pathL N d).length ≤ 200) : rpN (pth ((pathL N d).map (!·))).data.toList = d ∧ rpD (pth ((pathL N d).map (!·))).data.toList = N ∧ rpC (pth ((pathL N d).map (!·))).data.toList = 0 := by
  obtain ⟨s, h1, h2, h3⟩ := path_swap hok hN (okR_inv hok hN)
  rw [pth_data]
  obtain ⟨e1, e2, e3⟩ := rp_some (l := ((pathL N d).map (!·)).map ltr) (by rw [List.length_map, List.length_map]; omega) (lr_ltr _) h1
  exact ⟨by omega, by omega, e3⟩
def bAt (l : List Bool) (j : Nat) : Bool := l[j]?.getD false
def chr8 (b : Bool) : Value := .int .u8 (if b then 82 else 76)
/-- What stands in the loop that exchanges the letters. -/
structure OtS (w1 : World) (l : List Bool) (g k : Nat) (W : World) : Prop where
  cl : ∀ j, j < l.length → W.cell? ⟨g, j, none⟩ = some (chr8 (if j < k then !(bAt l j) else bAt l j))
  fr : ∀ j, j < l.length → W.frozen? ⟨g, j, none⟩ = false
  lt : g < W.heap.size
  bel : Below w1.heap.size w1 W
theorem OtS.step {w1 : World} {l : List Bool} {g k : Nat} {W : World} (h : OtS w1 l g k W) (hg : w1.heap.size ≤ g) (hk : k < l.length) : OtS w1 l g (k + 1) (W.setCell ⟨g, k, none⟩ (chr8 (!(bAt l k)))) := by
  refine ⟨fun j hj => ?_, fun j hj => ?_, by simpa [World.setCell] using h.lt, h.bel.setCell (p := ⟨g, k, none⟩) hg _⟩
  · have h1 := h.cl j hj
    have h2 := h.cl k hk
    by_cases e : j = k
    · subst e
      rw [if_pos (by omega)]
      simp [go_sem, h2]
    · have e2 : ¬ k = j := fun x => e x.symm
      have e3 : (j < k + 1) = (j < k) := by apply propext; omega
      simp only [e3]
      simp [go_sem, h1]
  · have h1 := h.fr j hj
    simp [go_sem, h1]
theorem pth_at {l : List Bool} {j : Nat} (hj : j < l.length) (hj2 : j < (pth l).size) : Value.int .u8 (((pth l)[j].toNat : Nat) : Int) = chr8 (bAt l j) := by
  have e : (pth l)[j] = ltr (l[j]) := by simp [pth, ByteArray.getElem_eq_getElem_data]
  unfold chr8 bAt
  rw [e, List.getElem?_eq_getElem hj]
  cases l[j] <;> rfl
theorem conv_ot (W : World) (l : List Bool) : ∃ W4 cap, (convert 9 22 (.string (pth l))).run Tryd.prog W = .ok (.slice (some ⟨W.heap.size, 0, none⟩) (pth l).size cap) W4 ∧ OtS W l W.heap.size 0 W4 := by
  refine ⟨_, _, run_bytes_of_string W 9 22 5 (pth l) Tryd.underlying9 Tryd.underlying22 Tryd.underlying5, ?_⟩
  have hh := World.alloc_heap_new W.drew (.cells (bytesRow (pth l) (grownCap W (pth l).size 0 5)) 5 ((bytesRow (pth l) (grownCap W (pth l).size 0 5)).size, (bytesRow (pth l) (grownCap W (pth l).size 0 5)).size + 1))
  have hsz : (pth l).size ≤ (bytesRow (pth l) (grownCap W (pth l).size 0 5)).size := by
    unfold bytesRow
    rw [Array.size_append, Array.size_map]
    exact Nat.le_add_right _ _
  refine ⟨fun j hj => ?_, fun j hj => ?_, by simp, ((bR W).drew).alloc (Nat.le_refl _) _⟩
  · have hj2 : j < (pth l).data.size := by simpa [pth] using hj
    have hj3 : j < (pth l).size := hj2
    rw [if_neg (by omega), ← pth_at hj hj3]
    unfold World.cell?
    rw [show (World.alloc W.drew _).heap[(⟨W.heap.size, j, none⟩ : Addr).block]? = _ from hh]
    have e : (bytesRow (pth l) (grownCap W (pth l).size 0 5))[j]? = some (.int .u8 (((pth l)[j].toNat : Nat) : Int)) := by
      unfold bytesRow
      rw [Array.getElem?_append_left (by simpa using hj2), Array.getElem?_map, Array.getElem?_eq_getElem hj2]
      rfl
    simpa using e
  · have hj3 : j < (pth l).size := by rw [pth_size]; exact hj
    unfold World.frozen?
    rw [show (World.alloc W.drew _).heap[(⟨W.heap.size, j, none⟩ : Addr).block]? = _ from hh]
    simp
    omega
def OtRel (w1 : World) (l : List Bool) (g : Nat) (i : Value) (wr : World) : Prop := ∃ k : Nat, k ≤ l.length ∧ i = .int .i64 k ∧ OtS w1 l g k wr
set_option maxRecDepth 100000 in
set_option maxHeartbeats 8000000 in
theorem FnPaths_walk (a : Option Addr) (len cap : Nat) (zs : List Int) (w : World) (h : IsRow .u8 w a len cap zs) :
    Calls Tryd.prog 3 #[.slice a len cap] w fun e w' => e = .returned (.bool true) ∧ Below w.heap.size w w' := by
  have l1 := (row_of h).1
  unfold maxLen at l1
  have HA := Lib.hid h
  clear h
  by_cases hl : 3000 < len
  · go_enter Tryd.func3, Tryd.ntmps3
    go_wp2_with fail
    refine (a2Long_yes _ _ _ _ _ _ _ (by omega) (by omega) (.inl hl)).mono ?_
    rintro e w1 ⟨rfl, rfl⟩
    go_wp2_with fail
    go_ret
    exact ⟨rfl, bR _⟩
  · have hl1 : len ≤ 3000 := by omega
    clear hl
    go_enter Tryd.func3, Tryd.ntmps3
    go_wp2_with fail
    refine (a2Long_no _ _ _ _ _ _ _ hl1 (by omega)).mono ?_
    rintro e w0 ⟨rfl, rfl⟩
    go_wp2_with fail
    refine (A2Ratios_any _ a len cap zs HA.out).mono ?_
    rintro e w1 ⟨n, d, p, q, k1, k2, rfl, hb1⟩
    have K1 := Lib.hid k1
    have KA := Lib.hid (abs_ok k1)
    obtain ⟨o1, o2, o3, o4⟩ := okR_bd k1
    have A0 := Lib.hid ((Box2.new w1 n d 25).alloc (.cells #[.int .i64 p, .int .i64 q] 25))
    have L0 := Lib.hid (bA (bA hb1 (.cells #[.int .i64 n, .int .i64 d] 25)) (.cells #[.int .i64 p, .int .i64 q] 25))
    have hw1 := hb1.size
    clear hb1 k1 k2
    go_wp2_with fail
    generalize (w1.alloc (.cells #[.int .i64 n, .int .i64 d] 25)).alloc (.cells #[.int .i64 p, .int .i64 q] 25) = W0 at *
    refine (a2Size_any n d _ o3 o4).mono ?_
    rintro e w2 ⟨rfl, hb2⟩
    have A2 := Lib.hid (A0.out.keep hb2)
    have L2 := Lib.hid (bT L0.out hb2)
    obtain ⟨r0, r1, r2, r3, r4⟩ := A0.out.keep hb2
    clear hb2 A0 L0
    generalize hN : absI n = N at *
    have hN0 : 0 ≤ N := by rw [← hN]; unfold absI; split <;> omega
    have A3 := Lib.hid (A2.out.set N d)
    have L3 := Lib.hid ((L2.out.setCell (p := ⟨w1.heap.size, 0, none⟩) hw1 (.int .i64 N)).setCell (p := ⟨w1.heap.size, 1, none⟩) hw1 (.int .i64 d))
    clear hN A2 L2 K1
    go_wp2_with fail
    clear r0 r1 r2 r3 r4
    generalize (w2.setCell ⟨w1.heap.size, 0, none⟩ (.int .i64 N)).setCell ⟨w1.heap.size, 1, none⟩ (.int .i64 d) = W3 at *
    generalize w1.heap.size = rb at *
    refine (PathOfI_any N d _).mono ?_
    rintro e w4 ⟨rfl, hb4⟩
    have A4 := Lib.hid (A3.out.keep hb4)
    have L4 := Lib.hid (bT L3.out hb4)
    obtain ⟨r0, r1, r2, r3, r4⟩ := A3.out.keep hb4
    clear hb4 A3 L3
    by_cases hz : N ≤ 0
    · obtain rfl : N = 0 := by omega
      rw [(po_neg KA.out hz).1, (po_neg KA.out hz).2]
      go_wp2_with fail
      go_ret
      exact ⟨rfl, L4.out⟩
    · by_cases hlong : 200 < (pathL N d).length
      · rw [(po_full KA.out (by omega) hlong).1, (po_full KA.out (by omega) hlong).2]
        go_wp2_with fail
        go_ret
        exact ⟨rfl, L4.out⟩
      · rw [(po_ok KA.out (by omega) (by omega)).1, (po_ok KA.out (by omega) (by omega)).2]
        have R1 := Lib.hid (rop_back KA.out (by omega) (by omega))
        have R2 := Lib.hid (rop_swap KA.out (by omega) (by omega))
        have HPL := Lib.hid (show (pathL N d).length ≤ 200 by omega)
        have I1 := Lib.hid (fun W => RatioOfPathI_any (pth (pathL N d)) W (by rw [pth_size]; omega))
        have I2 := Lib.hid (fun W => RatioOfPathI_any (pth ((pathL N d).map (!·))) W (by rw [pth_size, List.length_map]; omega))
        unfold RopRet at I1 I2
        rw [R1.out.1, R1.out.2.1, R1.out.2.2] at I1
        rw [R2.out.1, R2.out.2.1, R2.out.2.2] at I2
        have HPZ := Lib.hid (pth_size (pathL N d))
        clear R1 R2 hlong
        generalize pathL N d = P at *
        go_wp2_with fail
        refine (I1.out _).mono ?_
        rintro e w5 ⟨rfl, hb5⟩
        have A5 := Lib.hid ((A4.out.keep hb5).alloc (.cells #[.int .i64 N, .int .i64 d] 25))
        have L5 := Lib.hid (bA (bT L4.out hb5) (.cells #[.int .i64 N, .int .i64 d] 25))
        have B5 := Lib.hid (Box2.new w5 N d 25)
        clear r0 r1 r2 r3 r4 hb5 A4 L4
        obtain ⟨W6, cap6, hcv, hot⟩ := conv_ot (w5.alloc (.cells #[.int .i64 N, .int .i64 d] 25)) P
        rw [HPZ.out] at hcv
        rw [World.size_alloc] at hot
        have HOT := Lib.hid hot
        have HLE := Lib.hid (show (w5.alloc (.cells #[.int .i64 N, .int .i64 d] 25)).heap.size ≤ w5.heap.size + 1 by rw [World.size_alloc]; exact Nat.le_refl _)
        clear hot
        go_wp2_with fail
        clear hcv
        generalize (w5.alloc (.cells #[.int .i64 N, .int .i64 d] 25)) = W5 at *
        generalize w5.heap.size + 1 = g at *
        generalize w5.heap.size = kb at *
        have hP200 := HPL.out
        go_loopw [10] (fun i wr => OtRel W5 P g i wr) (fun i _ => P.length - (intOf i).toNat)
        case atStart => exact ⟨0, Nat.zero_le _, rfl, HOT.out⟩
        case round =>
          obtain ⟨k, hk, rfl, hS⟩ := hrel
          have HS := Lib.hid hS
          clear HOT
          by_cases hkl : k < P.length
          · have c1 := hS.cl k hkl
            have f1 := hS.fr k hkl
            rw [if_neg (by omega)] at c1
            have HN := Lib.hid (hS.step HLE.out hkl)
            clear hS
            cases hb : bAt P k
            · have b1 : ((76 : Int) == 76) = true := by decide
              rw [hb] at c1
              have HN2 := Lib.hid (show OtS W5 P g (k + 1) (wr.setCell ⟨g, k, none⟩ (.int .u8 82)) by have := HN.out; rw [hb] at this; exact this)
              have c2 : wr.cell? ⟨g, k, none⟩ = some (.int .u8 76) := c1
              clear c1 HN
              go_wp2_with fail
              go_roundw
              case rel => exact ⟨k + 1, by omega, by go_num, HN2.out⟩
              case measure => simp [intOf]; omega
            · have b1 : ((82 : Int) == 76) = false := by decide
              rw [hb] at c1
              have HN2 := Lib.hid (show OtS W5 P g (k + 1) (wr.setCell ⟨g, k, none⟩ (.int .u8 76)) by have := HN.out; rw [hb] at this; exact this)
              have c2 : wr.cell? ⟨g, k, none⟩ = some (.int .u8 82) := c1
              clear c1 HN
              go_wp2_with fail
              go_roundw
              case rel => exact ⟨k + 1, by omega, by go_num, HN2.out⟩
              case measure => simp [intOf]; omega
          · obtain rfl : k = P.length := by omega
            have A6 := Lib.hid (A5.out.keep hS.bel)
            have B6 := Lib.hid (B5.out.keep hS.bel)
            have L6 := Lib.hid (bT L5.out hS.bel)
            have hcv := run_convert_bytes_arg (P := Tryd.prog) wr 22 5 Tryd.underlying22 Tryd.underlying5 g 0 P.length cap6 (numsP (P.map (!·))) (by simp [numsP]) (fun i hi => by
              rw [Nat.zero_add, hS.cl i hi, if_pos hi]
              have := nums_at (l := P.map (!·)) (i := i) (by simpa using hi)
              rw [← this]
              unfold cellsP chr8 bAt
              rw [List.getElem?_map, List.getElem?_map, List.getElem?_eq_getElem hi]; rfl) 9 Tryd.underlying9
            rw [nums_str] at hcv
            clear hS
            go_wp2_with fail
            refine (I2.out _).mono ?_
            rintro e w7 ⟨rfl, hb7⟩
            have A7 := Lib.hid ((A6.out.keep hb7).alloc (.cells #[.int .i64 d, .int .i64 N] 25))
            have B7 := Lib.hid ((B6.out.keep hb7).alloc (.cells #[.int .i64 d, .int .i64 N] 25))
            have C7 := Lib.hid (Box2.new w7 d N 25)
            have L7 := Lib.hid (bA (bT L6.out hb7) (.cells #[.int .i64 d, .int .i64 N] 25))
            obtain ⟨x0, x1, x2, x3, x4⟩ := A7.out
            obtain ⟨y0, y1, y2, y3, y4⟩ := B7.out
            obtain ⟨z0, z1, z2, z3, z4⟩ := C7.out
            clear hb7 A5 A6 B5 B6
            have hN1 : (N == N) = true := by simp
            have hd1 : (d == d) = true := by simp
            go_wp2_with fail
            go_ret
            exact ⟨rfl, L7.out⟩
end Go.Proofs.YtcgennkddoajeaaDoor
