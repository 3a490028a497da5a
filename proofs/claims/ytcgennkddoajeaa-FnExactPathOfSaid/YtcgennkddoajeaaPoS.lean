/-
  The contract of spec.PathOf.
-/
import Derived.Test.YtcgennkddoajeaaPoM
import Derived.Test.YtcgennkddoajeaaPoB
import Derived.Test.YtcgennkddoajeaaTermsS
import Derived.Test.YtcgennkddoajeaaEq64
namespace Go.Proofs.Ytcgennkddoajeaa
open Go.RowKit

/-- What PathOf returns. -/
def pathL (n d : Int) : List Bool := runs true (terms n d)
def poC (n d : Int) : Int := if okR n d = true then (if n ≤ 0 then 2 else if 200 < (pathL n d).length then 5 else 0) else 1
def poT (n d : Int) : ByteArray := if okR n d = true ∧ 0 < n ∧ (pathL n d).length ≤ 200 then pth (pathL n d) else ⟨#[]⟩
theorem po_no {n d : Int} (h : okR n d = false) : poC n d = 1 ∧ poT n d = ⟨#[]⟩ := by simp [poC, poT, h]
theorem po_neg {n d : Int} (h : okR n d = true) (hn : n ≤ 0) : poC n d = 2 ∧ poT n d = ⟨#[]⟩ := by
  constructor
  · simp [poC, h, hn]
  · unfold poT; rw [if_neg (by omega)]
theorem po_full {n d : Int} (h : okR n d = true) (hn : 0 < n) (hl : 200 < (pathL n d).length) : poC n d = 5 ∧ poT n d = ⟨#[]⟩ := by
  constructor
  · unfold poC; rw [if_pos h, if_neg (by omega), if_pos hl]
  · unfold poT; rw [if_neg (by omega)]
theorem po_ok {n d : Int} (h : okR n d = true) (hn : 0 < n) (hl : (pathL n d).length ≤ 200) : poC n d = 0 ∧ poT n d = pth (pathL n d) := by
  constructor
  · unfold poC; rw [if_pos h, if_neg (by omega), if_neg (by omega)]
  · unfold poT; rw [if_pos ⟨h, hn, hl⟩]
theorem terms_le : ∀ (k : Nat) (x y : Int), y.toNat ≤ k → 0 ≤ x → x ≤ 1000000000 → y ≤ 1000000000 → ∀ t ∈ terms x y, 0 ≤ t ∧ t ≤ 1000000000
  | k, x, y, hk, hx, hx2, hy2, t, ht => by
    by_cases hy : 1 ≤ y
    · rw [terms_pos hy] at ht
      have m1 := Int.emod_nonneg x (show y ≠ 0 by omega)
      have m2 := Int.emod_lt_of_pos x (show 0 < y by omega)
      rcases List.mem_cons.1 ht with rfl | ht
      · exact ⟨Int.ediv_nonneg hx (by omega), Int.le_trans (Int.ediv_le_self y hx) hx2⟩
      · match k, hk with
        | 0, hk => omega
        | k + 1, hk => exact terms_le k y (x % y) (by omega) (by omega) hy2 (by omega) t ht
    · rw [terms_zero (by omega)] at ht; cases ht
theorem rowB_new (w : World) (t : TypeId) : (w.alloc (.cells #[] t)).ownsRow w.heap.size t 1 (.slice (some ⟨w.heap.size, 0, none⟩) 0 0) 0 [] :=
  ⟨rfl, .inr ⟨w.heap.size, 0, #[], rfl, Nat.le_refl _, (MapKept.heap_alloc w _).1, Nat.le_refl _, Nat.zero_le _, rfl, rfl⟩⟩
theorem belB_grown {B : Nat} {a b c : World} {row : Option Nat} (h : Below B a b) (g : b.grownBy c row) (hB : B ≤ b.heap.size) (hr : ∀ r, row = some r → B ≤ r) : Below B a c :=
  ⟨g.os.trans h.os, g.tape.trans h.tape, g.output.trans h.output, Nat.le_trans h.size g.size, fun k hk => (g.block k (Nat.lt_of_lt_of_le hk hB) (fun e => by have := hr k e.symm; omega)).trans (h.block k hk)⟩
theorem ownB_blk {W : World} {B : Nat} {t : TypeId} {sz n : Nat} {v : Value} {xs : List Value} (h : W.ownsRow B t sz v n xs) : ∀ r, v.ownBlock = some r → B ≤ r := by
  intro r e
  rcases h.2 with ⟨rfl, _⟩ | ⟨g, cap, cur, rfl, hB, hh, _⟩
  · cases e
  · cases e; exact hB
/-- What the loop over the terms carries. -/
def PoRel (W1 : World) (tl : List Int) (o i : Value) (wr : World) : Prop :=
  ∃ k : Nat, k ≤ tl.length ∧ i = .int .i64 k ∧ (flatR true (tl.take k)).length ≤ 200 ∧ wr.ownsRow W1.heap.size 5 1 o (flatR true (tl.take k)).length (cellsP (flatR true (tl.take k))) ∧ Below W1.heap.size W1 wr
/-- What the loop over one term carries. -/
def PjRel (W1 : World) (l : List Bool) (b : Bool) (tn : Nat) (o i : Value) (wr : World) : Prop :=
  ∃ j : Nat, j ≤ tn ∧ i = .int .i64 j ∧ wr.ownsRow W1.heap.size 5 1 o (l ++ List.replicate j b).length (cellsP (l ++ List.replicate j b)) ∧ Below W1.heap.size W1 wr
theorem own_slice {W : World} {B : Nat} {t : TypeId} {sz n : Nat} {v : Value} {xs : List Value} (h : W.ownsRow B t sz v n xs) : ∃ ao cap, v = .slice ao n cap := by
  rcases h.2 with ⟨rfl, h0⟩ | ⟨g, cap, cur, rfl, _⟩
  · exact ⟨none, 0, by rw [h0]⟩
  · exact ⟨_, _, rfl⟩
def numsP (l : List Bool) : List Int := l.map fun b => if b then 82 else 76
theorem nums_str (l : List Bool) : strOfNums (numsP l) = pth l := by
  unfold strOfNums numsP pth
  congr 1
  rw [List.map_map]
  congr 1
  apply List.map_congr_left
  intro b _
  cases b <;> rfl
theorem nums_at {l : List Bool} {i : Nat} (h : i < l.length) : (cellsP l)[i]? = some (.int .u8 ((numsP l).getD i 0)) := by
  unfold cellsP numsP
  rw [List.getElem?_map, List.getD_eq_getElem?_getD, List.getElem?_map, List.getElem?_eq_getElem h]
  rfl
theorem ret_pc {a b : ByteArray} {c e : Int} (h : a = b) (h2 : c = e) : Ending.returned (.tuple #[.string a, .int .i64 c]) = .returned (.tuple #[.string b, .int .i64 e]) := by rw [h, h2]
def PoRet (w : World) (n d : Int) (e : Ending) (w' : World) : Prop := e = .returned (.tuple #[.string (poT n d), .int .i64 (poC n d)]) ∧ Below w.heap.size w w'
set_option maxRecDepth 100000 in
set_option maxHeartbeats 8000000 in
theorem PathOfS_any (n d : Int) (w : World) :
    Calls Try.prog 21 #[.agg #[.int .i64 n, .int .i64 d]] w (PoRet w n d) := by
  obtain ⟨i0, hi, hz0, hz1, hz2⟩ := info_parts infoU8
  have B0 := Lib.hid (Box2.new w n d 25)
  have L0 := Lib.hid (bA (bR w) (.cells #[.int .i64 n, .int .i64 d] 25))
  cases h : okR n d
  · have HR := Lib.hid (po_no h)
    go_enter Try.func21, Try.ntmps21
    go_wp2_with fail
    refine (l02Ok_any n d _).mono ?_
    rw [h]
    rintro e w1 ⟨rfl, hb⟩
    have HB := Lib.hid (bT L0.out hb)
    clear hb
    go_wp2_with fail
    go_ret2
    exact ⟨ret_pc HR.out.2.symm HR.out.1.symm, HB.out⟩
  · have HOK := Lib.hid h
    obtain ⟨o1, o2, o3, o4⟩ := okR_bd h
    by_cases hn : n ≤ 0
    · have HR := Lib.hid (po_neg h hn)
      clear h
      go_enter Try.func21, Try.ntmps21
      go_wp2_with fail
      refine (l02Ok_any n d _).mono ?_
      rw [HOK.out]
      rintro e w1 ⟨rfl, hb⟩
      have HB := Lib.hid (bT L0.out hb)
      obtain ⟨r0, r1, r2, r3, r4⟩ := B0.out.keep hb
      clear hb
      go_wp2_with fail
      go_ret2
      exact ⟨ret_pc HR.out.2.symm HR.out.1.symm, HB.out⟩
    · have hn0 : 0 < n := by omega
      clear h hn
      have htl : ∃ L, (terms n d).length = L + 1 := by rw [terms_pos o1]; exact ⟨_, rfl⟩
      have hlen := terms_len n d (by omega) (by omega)
      go_enter Try.func21, Try.ntmps21
      go_wp2_with fail
      refine (l02Ok_any n d _).mono ?_
      rw [HOK.out]
      rintro e w1 ⟨rfl, hb⟩
      have L1 := Lib.hid (bT L0.out hb)
      obtain ⟨r0, r1, r2, r3, r4⟩ := B0.out.keep hb
      have hw1 := hb.size
      clear hb L0 B0
      go_wp2_with fail
      refine (l03Terms_any n d _ HOK.out).mono ?_
      rintro e w2 ⟨v, rfl, hv, hb⟩
      have L2 := Lib.hid (bT L1.out hb)
      rcases hv.2 with ⟨rfl, h0⟩ | ⟨g, cap, cur, rfl, hB, hh, hq⟩
      · exfalso; obtain ⟨L, hL⟩ := htl; rw [hL] at h0; cases h0
      · have HV := Lib.hid hv
        have hg : g < w2.heap.size := (Array.getElem?_eq_some_iff.1 hh).1
        have hgB : w.heap.size ≤ g := by have := L1.out.size; omega
        obtain ⟨L, hL⟩ := htl
        obtain ⟨tt, htt⟩ : ∃ tt, at0 (terms n d) L = tt := ⟨_, rfl⟩
        obtain ⟨t1, t2⟩ := terms_le _ n d (Nat.le_refl _) (by omega) (by omega) (by omega) tt (by rw [← htt]; exact at0_mem (by omega))
        have c1 : w2.cell? ⟨g, L, none⟩ = some (.int .i64 tt) := by
          rw [hv.cellAt L (by omega), ← htt]
          unfold intC at0
          rw [List.getElem?_map, List.getElem?_eq_getElem (by omega)]; rfl
        have f1 : w2.frozen? ⟨g, L, none⟩ = false := hv.frozenAt L
        have hset := decL_set (ts := terms n d)
        rw [hL, Nat.add_sub_cancel, htt] at hset
        have hrow := (hv.stored L (.int .i64 (tt - 1))).1
        rw [← intC_set, ← hset, ← decL_len] at hrow
        obtain ⟨a', cap', e', hs'⟩ := sl64_of (ts := decL (terms n d)) (by first | exact hrow | (rw [decL_len] at hrow ⊢; exact hrow))
        obtain ⟨g', eg, hg', hc'⟩ := hs' (by rw [decL_len]; omega)
        cases e'
        cases eg
        have HC := Lib.hid hc'
        have LS := Lib.hid (L2.out.setCell (p := ⟨g, L, none⟩) hgB (.int .i64 (tt - 1)))
        have hsz : (w2.setCell ⟨g, L, none⟩ (.int .i64 (tt - 1))).heap.size = w2.heap.size := by simp [World.setCell]
        have HF := Lib.hid (show flatR true (decL (terms n d)) = pathL n d from flat_dec true _)
        have hlt : (decL (terms n d)).length = L + 1 := by rw [decL_len, hL]
        have htle : ∀ k, k < (decL (terms n d)).length → -1 ≤ at0 (decL (terms n d)) k ∧ at0 (decL (terms n d)) k ≤ 1000000000 := fun k hk => by
          rw [decL_at _ _ (by rw [← decL_len]; exact hk)]
          have := terms_le _ n d (Nat.le_refl _) (by omega) (by omega) (by omega) _ (at0_mem (ts := terms n d) (i := k) (by rw [← decL_len]; exact hk))
          split <;> omega
        have HTL := Lib.hid htle
        clear hv hb hh hq hrow hset hs' hc' htle
        generalize decL (terms n d) = tl at *
        have PO := Lib.hid (fun h => po_ok HOK.out hn0 h)
        have PF := Lib.hid (fun h => po_full HOK.out hn0 h)
        go_wp2_with fail
        generalize w2.setCell ⟨g, L, none⟩ (.int .i64 (tt - 1)) = W1 at *
        have RS := Lib.hid (show PoRel W1 tl (.slice (some ⟨w2.heap.size, 0, none⟩) 0 0) (.int .i64 0) (W1.alloc (.cells #[] 5)) from
          ⟨0, Nat.zero_le _, rfl, by simp [flatR], by rw [← hsz]; simpa [flatR, cellsP] using rowB_new W1 5, bA (bR _) _⟩)
        go_loopw [5, 6] (fun o i wr => PoRel W1 tl o i wr) (fun _ i _ => L + 1 - (intOf i).toNat)
        case atStart => exact RS.out
        case round =>
          obtain ⟨k, hk, rfl, hfl, hown, hbw⟩ := hrel
          have HO := Lib.hid hown
          have HB := Lib.hid hbw
          have hBs := hbw.size
          clear RS c1 f1 r0 r1 r2 r3 r4
          by_cases hkl : k < L + 1
          · obtain ⟨x1, x2⟩ := HTL.out k (by omega)
            have C1 := Lib.hid (HC.out k (by omega))
            have c2 : wr.cell? ⟨g, k, none⟩ = some (.int .i64 (at0 tl k)) := (HB.out.cell (p := ⟨g, k, none⟩) hg').trans C1.out
            have HTK := Lib.hid (flat_take (dir := true) (ts := tl) (k := k) (by omega))
            have hft := flat_len_take (dir := true) tl (k + 1)
            rw [HTK.out, List.length_append, List.length_replicate, HF.out] at hft
            have HDB := Lib.hid (show dirB true k = if k % 2 = 0 then true else !true from rfl)
            clear hown hbw
            generalize at0 tl k = x at *
            generalize hfk : flatR true (tl.take k) = fl at *
            generalize dirB true k = bb at *
            have HFK := Lib.hid hfk
            clear hfk
            by_cases hbig : 200 < x
            · have HR := Lib.hid (PF.out (by omega))
              go_wp2_with fail
              go_ret2
              exact ⟨ret_pc HR.out.2.symm HR.out.1.symm, bT LS.out HB.out⟩
            · go_wp2_with fail
              go_loopw [5, 7] (fun o i wr => PjRel W1 fl bb x.toNat o i wr) (fun _ i _ => x.toNat - (intOf i).toNat)
              case atStart => exact ⟨0, Nat.zero_le _, rfl, by simpa using HO.out, HB.out⟩
              case round =>
                obtain ⟨j, hj, rfl, hown2, hbw2⟩ := hrel
                have HO2 := Lib.hid hown2
                have HB2 := Lib.hid hbw2
                have HOB := Lib.hid (ownB_blk hown2)
                have hBs2 := hbw2.size
                have c3 := (hbw2.cell (p := ⟨g, k, none⟩) hg').trans C1.out
                have hlr : (fl ++ List.replicate j bb).length = fl.length + j := by simp
                clear c2
                by_cases hjx : j < x.toNat
                · have hjx2 : (j : Int) < x := by omega
                  clear hown2 hbw2
                  by_cases hpar : k % 2 = 0
                  · have HD := Lib.hid (show bb = true from HDB.out.trans (if_pos hpar))
                    have hm1 : ((k : Int) % 2 == 0) = true := by simp; omega
                    have hm2 : ((k : Int).tmod 2 == 0) = true := by rw [Int.tmod_eq_emod_of_nonneg (by omega)]; exact hm1
                    go_wp2_with (at_builtin; refine wpList_append_own _ rfl _ _ 22 rfl W1.heap.size 5 i0 (.int .u8 0) 1 1 Try.underlying22 hi hz0 hz1 hz2 rfl (by decide) _ (fl ++ List.replicate j bb).length (cellsP (fl ++ List.replicate j bb)) rfl (HO2.out.alloc _) ⟨_, 0, none⟩ 1 1 [.int .u8 82] rfl rfl (row_src _ _ _) ?a3 ?a4 ?a5 ?a6 ?_)
                    case a3 => exact fun u hu => by rw [List.mem_singleton.1 hu]; rfl
                    case a4 => rw [hlr]; unfold maxLen; omega
                    case a5 => rw [hlr]; omega
                    case a6 => simp; omega
                    intro v' w3 hown3 hg3 _
                    have RN := Lib.hid (show PjRel W1 fl bb x.toNat v' (.int .i64 ((j : Int) + 1)) w3 from ⟨j + 1, by omega, by go_num, by
                        rw [List.replicate_succ', ← List.append_assoc, List.length_append, cellsP_append, hlr, hsz]
                        have e : cellsP [bb] = [.int .u8 82] := by rw [HD.out]; rfl
                        rw [e]; exact hown3, belB_grown (bA HB2.out _) hg3 (by simp; omega) HOB.out⟩)
                    clear hown3 hg3
                    go_wp2_with fail
                    go_roundw
                    case rel => exact RN.out
                    case measure => simp [intOf]; omega
                  · have HD := Lib.hid (show bb = false from HDB.out.trans (by rw [if_neg (by omega)]; rfl))
                    have hm1 : ((k : Int) % 2 == 0) = false := by simp; omega
                    have hm2 : ((k : Int).tmod 2 == 0) = false := by rw [Int.tmod_eq_emod_of_nonneg (by omega)]; exact hm1
                    go_wp2_with (at_builtin; refine wpList_append_own _ rfl _ _ 22 rfl W1.heap.size 5 i0 (.int .u8 0) 1 1 Try.underlying22 hi hz0 hz1 hz2 rfl (by decide) _ (fl ++ List.replicate j bb).length (cellsP (fl ++ List.replicate j bb)) rfl (HO2.out.alloc _) ⟨_, 0, none⟩ 1 1 [.int .u8 76] rfl rfl (row_src _ _ _) ?a3 ?a4 ?a5 ?a6 ?_)
                    case a3 => exact fun u hu => by rw [List.mem_singleton.1 hu]; rfl
                    case a4 => rw [hlr]; unfold maxLen; omega
                    case a5 => rw [hlr]; omega
                    case a6 => simp; omega
                    intro v' w3 hown3 hg3 _
                    have RN := Lib.hid (show PjRel W1 fl bb x.toNat v' (.int .i64 ((j : Int) + 1)) w3 from ⟨j + 1, by omega, by go_num, by
                        rw [List.replicate_succ', ← List.append_assoc, List.length_append, cellsP_append, hlr, hsz]
                        have e : cellsP [bb] = [.int .u8 76] := by rw [HD.out]; rfl
                        rw [e]; exact hown3, belB_grown (bA HB2.out _) hg3 (by simp; omega) HOB.out⟩)
                    clear hown3 hg3
                    go_wp2_with fail
                    go_roundw
                    case rel => exact RN.out
                    case measure => simp [intOf]; omega
                · obtain rfl : j = x.toNat := by omega
                  have hjx2 : ¬ ((x.toNat : Nat) : Int) < x := by omega
                  obtain ⟨ao, cp, rfl⟩ := own_slice hown2
                  clear hown2 hbw2
                  by_cases hov : 200 < fl.length + x.toNat
                  · have HR := Lib.hid (PF.out (by omega))
                    have hov2 : decide ((200 : Int) < ((fl ++ List.replicate x.toNat bb).length : Int)) = true := by simp; omega
                    go_wp2_with fail
                    go_ret2
                    exact ⟨ret_pc HR.out.2.symm HR.out.1.symm, bT LS.out HB2.out⟩
                  · have hov2 : decide ((200 : Int) < ((fl ++ List.replicate x.toNat bb).length : Int)) = false := by simp; omega
                    generalize hln : (fl ++ List.replicate x.toNat bb).length = ln at *
                    go_wp2_with fail
                    go_roundw
                    case rel => exact ⟨k + 1, by omega, by go_num, by rw [HTK.out]; omega, by rw [HTK.out, hln]; exact HO2.out, HB2.out⟩
                    case measure => simp [intOf]; omega
          · obtain rfl : k = L + 1 := by omega
            have hall : tl.take (L + 1) = tl := List.take_of_length_le (by omega)
            rw [hall, HF.out] at hown hfl
            have HR := Lib.hid (PO.out hfl)
            generalize pathL n d = P at *
            clear HO
            rcases id hown.2 with ⟨rfl, h0⟩ | ⟨g2, cp, cur, rfl, _⟩
            · have HP0 := Lib.hid (show P = [] from List.length_eq_zero_iff.1 h0)
              have hcv : (convert 22 9 (.slice none 0 0)).run Try.prog wr = .ok (.string ⟨#[]⟩) wr := by
                simp [convert, run_underlying Try.underlying22, run_underlying Try.underlying9, run_underlying Try.underlying5]
                trace_state
                rfl
              clear hown hbw
              go_wp2_with fail
              go_ret2
              exact ⟨ret_pc (by rw [HR.out.2, HP0.out]; rfl) HR.out.1.symm, bT LS.out HB.out⟩
            · have hcv := run_convert_bytes_arg (P := Try.prog) wr 22 5 Try.underlying22 Try.underlying5 g2 0 P.length cp (numsP P) (by simp [numsP]) (fun i hi => by rw [Nat.zero_add, hown.cellAt i (by omega)]; exact nums_at hi) 9 Try.underlying9
              rw [nums_str] at hcv
              clear hown hbw
              go_wp2_with fail
              go_ret2
              exact ⟨ret_pc HR.out.2.symm HR.out.1.symm, bT LS.out HB.out⟩
end Go.Proofs.Ytcgennkddoajeaa
