/-
  The contract of impl.PathOf.
-/
import Derived.Test.YtcgennkddoajeaaDoorPoS
import Derived.Test.YtcgennkddoajeaaDoorRopI
import Derived.Test.YtcgennkddoajeaaDoorCmp
import Derived.Test.YtcgennkddoajeaaDoorPoC
namespace Go.Proofs.YtcgennkddoajeaaDoor
open Go.RowKit

/-- What lies in memory between two steps. -/
structure PwS (w : World) (n d : Int) (bb l h m M : Nat) (a b c e : Int) (pre : List Bool) (W : World) : Prop where
  rb : Box2 W w.heap.size n d
  md : Box2 W M (a + c) (b + e)
  tr : Tree W l h m a b c e
  bu : UCI bb (M + 1) (cellsP pre) W
  bel : Below w.heap.size w W
def lenC (b : Nat) (w : World) : Nat := match w.cell? ⟨b, 1, none⟩ with | some (.slice _ n _) => n | _ => 0
theorem UCI.lenC {b B : Nat} {bs : List Value} {w : World} (h : UCI b B bs w) : lenC b w = bs.length := by
  have key : ∀ p, UC b B p bs w → Proofs.YtcgennkddoajeaaDoor.lenC b w = bs.length := by
    intro p ⟨_, _, v, h3, h4⟩
    obtain ⟨ao, cap, rfl⟩ := own_slice h4
    unfold Proofs.YtcgennkddoajeaaDoor.lenC
    rw [Lib.cell_of_heap h3]; rfl
  exact h.elim (key _) (key _)
theorem PwS.keep {w : World} {n d : Int} {bb l h m M : Nat} {a b c e : Int} {pre : List Bool} {W W' : World} (s : PwS w n d bb l h m M a b c e pre W) (hb : Below W.heap.size W W') : PwS w n d bb l h m M a b c e pre W' :=
  ⟨s.rb.keep hb, s.md.keep hb, ⟨s.tr.low.keep hb, s.tr.high.keep hb, s.tr.med.keep hb⟩, s.bu.mov (Mov.of_below (S := none1) hb) (fun _ h => h.elim), bT s.bel hb⟩
theorem pw_tree {w : World} {n d : Int} {bb l h m M : Nat} {a b c e : Int} {pre : List Bool} {W W1 : World} (hd : w.heap.size < bb ∧ bb < l ∧ l < h ∧ h < m ∧ m < M) (s : PwS w n d bb l h m M a b c e pre W) (hm : Mov (fun k => k = bb ∨ M + 1 ≤ k) W W1) : Tree W1 l h m a b c e :=
  ⟨s.tr.low.ofB hm.size (hm.block _ s.tr.low.lt (by omega)), s.tr.high.ofB hm.size (hm.block _ s.tr.high.lt (by omega)), s.tr.med.ofB hm.size (hm.block _ s.tr.med.lt (by omega))⟩
theorem pathB_len (l : List Bool) : Lib.byteCells (l.map ltr) = cellsP l := by
  unfold cellsP Lib.byteCells
  rw [List.map_map]
  apply List.map_congr_left
  intro b _
  cases b <;> rfl
theorem pw_move {w : World} {n d : Int} {bb l h m M : Nat} {a b c e a' b' c' e' : Int} {pre : List Bool} {x : Bool} {W W1 W2 : World} (hd : w.heap.size < bb ∧ bb < l ∧ l < h ∧ h < m ∧ m < M) (s : PwS w n d bb l h m M a b c e pre W) (hu : UCI bb (M + 1) (cellsP pre ++ [.int .u8 (if x then 82 else 76)]) W1) (hm : Mov (fun k => k = bb ∨ M + 1 ≤ k) W W1) (ht : Tree W2 l h m a' b' c' e') (hm2 : Mov (fun k => k = l ∨ k = h ∨ k = m) W1 W2) :
    PwS w n d bb l h m M a' b' c' e' (pre ++ [x]) ((W2.setCell ⟨M, 0, none⟩ (.int .i64 (a' + c'))).setCell ⟨M, 1, none⟩ (.int .i64 (b' + e'))) ∧ Box2 W2 M (a + c) (b + e) := by
  obtain ⟨d1, d2, d3, d4, d5⟩ := hd
  have hM1 : Box2 W1 M (a + c) (b + e) := s.md.ofB hm.size (hm.block _ s.md.lt (by omega))
  have hM : Box2 W2 M (a + c) (b + e) := hM1.ofB hm2.size (hm2.block _ hM1.lt (by omega))
  have hR1 : Box2 W1 w.heap.size n d := s.rb.ofB hm.size (hm.block _ s.rb.lt (by omega))
  have hR : Box2 W2 w.heap.size n d := hR1.ofB hm2.size (hm2.block _ hR1.lt (by omega))
  have hB : Below w.heap.size w W2 := ⟨hm2.os.trans (hm.os.trans s.bel.os), hm2.tape.trans (hm.tape.trans s.bel.tape), hm2.output.trans (hm.output.trans s.bel.output), Nat.le_trans s.bel.size (Nat.le_trans hm.size hm2.size), fun k hk => (hm2.block k (Nat.lt_of_lt_of_le hk (Nat.le_trans s.bel.size hm.size)) (by omega)).trans ((hm.block k (Nat.lt_of_lt_of_le hk s.bel.size) (by omega)).trans (s.bel.block k hk))⟩
  have hU : UCI bb (M + 1) (cellsP (pre ++ [x])) W2 := by
    rw [cellsP_append]
    exact hu.mov hm2 (fun k hk => by omega)
  have hU2 : UCI bb (M + 1) (cellsP (pre ++ [x])) ((W2.setCell ⟨M, 0, none⟩ (.int .i64 (a' + c'))).setCell ⟨M, 1, none⟩ (.int .i64 (b' + e'))) :=
    hU.mov (((Mov.refl (fun k => k = M) W2).setCell (a := ⟨M, 0, none⟩) (.inl rfl) _).setCell (a := ⟨M, 1, none⟩) (.inl rfl) _) (fun k hk => by omega)
  exact ⟨⟨(hR.other (by omega)).other (by omega), hM.set _ _, ⟨(ht.low.other (by omega)).other (by omega), (ht.high.other (by omega)).other (by omega), (ht.med.other (by omega)).other (by omega)⟩, hU2, (hB.setCell (show w.heap.size ≤ M by omega) _).setCell (show w.heap.size ≤ M by omega) _⟩, hM⟩
def PwRel (w : World) (n d : Int) (bb l h m M : Nat) (wr : World) : Prop :=
  ∃ (pre post : List Bool) (x y a b c e : Int), pathL n d = pre ++ post ∧ SB x y post ∧ PathAt n d a b c e x y ∧ pre.length ≤ 200 ∧ PwS w n d bb l h m M a b c e pre wr
set_option maxRecDepth 100000 in
set_option maxHeartbeats 8000000 in
theorem PathOfI_any (n d : Int) (w : World) :
    Calls Tryd.prog 11 #[.agg #[.int .i64 n, .int .i64 d]] w (PoRet w n d) := by
  have B0 := Lib.hid (Box2.new w n d 25)
  have L0 := Lib.hid (bA (bR w) (.cells #[.int .i64 n, .int .i64 d] 25))
  cases h : okR n d
  · have HR := Lib.hid (po_no h)
    go_enter Tryd.func11, Tryd.ntmps11
    go_wp2_with fail
    refine (valid_any n d _).mono ?_
    rw [h]
    rintro e w1 ⟨rfl, hb⟩
    have HB := Lib.hid (bT L0.out hb)
    clear hb
    go_wp2_with fail
    go_ret2
    exact ⟨ret_pc HR.out.2.symm HR.out.1.symm, HB.out⟩
  · have HOK := Lib.hid h
    obtain ⟨o1, o2, o3, o4⟩ := okR_bd h
    by_cases hn : n ≤ 0
    · have HR := Lib.hid (po_neg h hn)
      clear h
      go_enter Tryd.func11, Tryd.ntmps11
      go_wp2_with fail
      refine (valid_any n d _).mono ?_
      rw [HOK.out]
      rintro e w1 ⟨rfl, hb⟩
      have HB := Lib.hid (bT L0.out hb)
      obtain ⟨r0, r1, r2, r3, r4⟩ := B0.out.keep hb
      clear hb
      go_wp2_with fail
      go_ret2
      exact ⟨ret_pc HR.out.2.symm HR.out.1.symm, HB.out⟩
    · have hn0 : 0 < n := by omega
      clear h
      go_enter Tryd.func11, Tryd.ntmps11
      go_wp2_with fail
      refine (valid_any n d _).mono ?_
      rw [HOK.out]
      rintro e w1 ⟨rfl, hb⟩
      have HB := Lib.hid (bT L0.out hb)
      have RB := Lib.hid (B0.out.keep hb)
      have hw1 : w.heap.size < w1.heap.size := (B0.out.keep hb).lt
      clear hb
      obtain ⟨r0, r1, r2, r3, r4⟩ := RB.out
      go_wp2_with fail
      refine (startOfPath_any _).mono ?_
      rintro e w2 ⟨rfl, htr, hb2⟩
      rw [World.size_alloc] at htr
      have hw2 : w1.heap.size + 1 + 1 + 1 + 1 < w2.heap.size := htr.med.lt
      have W3 := Lib.hid (show PwS w n d w1.heap.size (w1.heap.size + 1 + 1) (w1.heap.size + 1 + 1 + 1) (w1.heap.size + 1 + 1 + 1 + 1) w2.heap.size 0 1 1 0 [] (w2.alloc (.cells #[.int .i64 1, .int .i64 1] 25)) from
        ⟨((RB.out.alloc _).keep hb2).alloc _, by simpa using Box2.new w2 1 1 25, ⟨htr.low.alloc _, htr.high.alloc _, htr.med.alloc _⟩, .inl ⟨by omega, by simp, .slice none 0 0, by
          rw [Below.heap_alloc _ _ _ (by omega), hb2.block _ (by simp), (MapKept.heap_alloc w1 _).1], World.ownsRow_nil _ _ _ _⟩, bA (bT (bA HB.out _) hb2) _⟩)
      clear htr hb2 r0 r1 r2 r3 r4 RB HB B0 L0
      go_wp2_with fail
      generalize (w2.alloc (.cells #[.int .i64 1, .int .i64 1] 25)) = W at *
      generalize w1.heap.size = bb at *
      generalize w2.heap.size = M at *
      have RS := Lib.hid (show PwRel w n d bb (bb + 1 + 1) (bb + 1 + 1 + 1) (bb + 1 + 1 + 1 + 1) M W from
        ⟨[], pathL n d, n, d, 0, 1, 1, 0, rfl, sb_terms _ n d (Nat.le_refl _) o1 hn0 ((okR_true.1 HOK.out).2.2.2.2), PathAt.start n d, by simp, W3.out⟩)
      have hd : w.heap.size < bb ∧ bb < bb + 1 + 1 ∧ bb + 1 + 1 < bb + 1 + 1 + 1 ∧ bb + 1 + 1 + 1 < bb + 1 + 1 + 1 + 1 ∧ bb + 1 + 1 + 1 + 1 < M := by omega
      generalize bb + 1 + 1 + 1 + 1 = m at *
      generalize bb + 1 + 1 + 1 = h at *
      generalize bb + 1 + 1 = l at *
      clear W3
      go_loopw [] (fun wr => PwRel w n d bb l h m M wr) (fun wr => 200 - lenC bb wr)
      case atStart => exact RS.out
      case round =>
        obtain ⟨pre, post, x, y, a, b, c, e, hp, hsb, hpa, hpl, hS⟩ := hrel
        have HS := Lib.hid hS
        obtain ⟨r0, r1, r2, r3, r4⟩ := hS.rb
        obtain ⟨m0, m1, m2, m3, m4⟩ := hS.md
        have HL := Lib.hid hS.bu.is
        have hlen := hS.bu.lenC
        rw [cellsP_len] at hlen
        have HLEN := Lib.hid (show Calls Tryd.prog 31 #[.pointer (some ⟨bb, 0, none⟩)] wr fun e w' => e = .returned (.int .i64 pre.length) ∧ w' = wr by
          have := Tryd.Builder_Len bb bb (cellsP pre) wr HL.out
          rw [cellsP_len] at this
          exact this)
        clear RS hS
        have HPA := Lib.hid hpa
        have hwb : bb ≤ wr.heap.size := by omega
        cases hsb with
        | one =>
          obtain ⟨e1, e2⟩ := hpa.here
          rw [List.append_nil] at hp
          have HR := Lib.hid (po_ok HOK.out hn0 (by rw [hp]; exact hpl))
          have HST := Lib.hid (Tryd.Builder_String_any bb bb (pre.map ltr) wr (by rw [pathB_len]; exact HL.out) hwb)
          have HP := Lib.hid hp
          have HBE := Lib.hid (fun (W : World) (hb : Below bb wr W) => (show Below w.heap.size w W from ⟨hb.os.trans HS.out.bel.os, hb.tape.trans HS.out.bel.tape, hb.output.trans HS.out.bel.output, Nat.le_trans HS.out.bel.size hb.size, fun k hk => (hb.block k (by omega)).trans (HS.out.bel.block k hk)⟩))
          clear hp hpa
          subst e1 e2
          go_wp2_with fail
          refine HST.out.mono ?_
          rintro en w3 ⟨rfl, hb⟩
          have HB := Lib.hid (HBE.out _ hb)
          clear hb
          go_wp2_with fail
          go_ret2
          exact ⟨ret_pc (by rw [HR.out.2, HP.out]; rfl) HR.out.1.symm, HB.out⟩
        | @R x y post hx hy hsb =>
          have hcr := hpa.cross
          have hok := hpa.ok (by omega) (by omega) HOK.out
          obtain ⟨k1, k2, k3, k4⟩ := okR_bd hok
          obtain ⟨g1, g2, g3, g4, g5, g6, g7⟩ := hpa
          have hbe : b + e ≤ d := by
            have p3 := mul_ge g4 (show 1 ≤ x + y by omega)
            have p4 := mul_ge g2 (show 1 ≤ y by omega)
            omega
          have HSB := Lib.hid hsb
          have HCM := Lib.hid (show cmpR n d (a + c) (b + e) = 1 by rw [← cmpR_yes HOK.out hok, ← cmpV_gt (by omega)])
          have HSM := Lib.hid (show SmallT a b c e from ⟨by omega, by omega, by omega, by omega, by omega, by omega, by omega, by omega⟩)
          have hac : ¬ a + c = n := fun e0 => by
            rw [e0] at hcr
            have : n * (b + e) ≤ n * d := Int.mul_le_mul_of_nonneg_left hbe (by omega)
            omega
          clear g5 g6 g7 hcr hok hsb
          go_wp2_with fail
          refine HLEN.out.mono ?_
          rintro en w3 ⟨rfl, rfl⟩
          by_cases hfull : pre.length = 200
          · have HR := Lib.hid (po_full HOK.out hn0 (by rw [hp]; simp; omega))
            have hf2 : ((pre.length : Int) == 200) = true := by simp; omega
            go_wp2_with fail
            go_ret2
            exact ⟨ret_pc HR.out.2.symm HR.out.1.symm, HS.out.bel⟩
          · have hf2 : ((pre.length : Int) == 200) = false := by simp; omega
            go_wp2_with fail
            refine (CompareRatioI_any _ _ _ _ _).mono ?_
            rw [HCM.out]
            rintro en w4 ⟨rfl, hb4⟩
            have S4 := Lib.hid (HS.out.keep hb4)
            clear hb4
            go_wp2_with fail
            refine (WriteByte_above bb (M + 1) (cellsP pre) 82 w4 S4.out.bu (by rw [cellsP_len]; omega)).mono ?_
            rintro en w5 ⟨rfl, hu, hm⟩
            have HU := Lib.hid hu
            have HMV := Lib.hid hm
            have HT5 := Lib.hid (pw_tree hd S4.out hm)
            clear hu hm
            go_wp2_with fail
            refine (step_R 82 l h m a b c e w5 HT5.out (by omega) (by omega) (by omega) HSM.out (by rfl)).mono ?_
            rintro en w6 ⟨rfl, ht, hm2⟩
            have SM := Lib.hid (pw_move (x := true) hd S4.out HU.out HMV.out ht hm2)
            obtain ⟨z0, z1, z2, z3, z4⟩ := SM.out.2
            have HLC := Lib.hid (SM.out.1.bu.lenC)
            clear ht hm2
            go_wp2_with fail
            go_roundw
            case rel => exact ⟨pre ++ [true], post, x, y, a + c, b + e, c, e, by rw [hp]; simp, HSB.out, HPA.out.right, by simp; omega, SM.out.1⟩
            case measure =>
              have h3 := HLC.out
              rw [cellsP_len, List.length_append] at h3
              simp only [List.length_cons, List.length_nil] at h3
              rw [h3, hlen]
              omega
        | @L x y post hx hy hsb =>
          have hcr := hpa.cross
          have hok := hpa.ok (by omega) (by omega) HOK.out
          obtain ⟨k1, k2, k3, k4⟩ := okR_bd hok
          obtain ⟨g1, g2, g3, g4, g5, g6, g7⟩ := hpa
          have hac : a + c ≤ n := by
            have p3 := mul_ge g3 (show 1 ≤ x by omega)
            have p4 := mul_ge g1 (show 1 ≤ x + y by omega)
            omega
          have HSB := Lib.hid hsb
          have HCM := Lib.hid (show cmpR n d (a + c) (b + e) = -1 by rw [← cmpR_yes HOK.out hok, ← cmpV_lt (by omega)])
          have HSM := Lib.hid (show SmallT a b c e from ⟨by omega, by omega, by omega, by omega, by omega, by omega, by omega, by omega⟩)
          have hbd : ¬ b + e = d := fun e0 => by
            rw [e0] at hcr
            have : (a + c) * d ≤ n * d := Int.mul_le_mul_of_nonneg_right hac (by omega)
            omega
          clear g5 g6 g7 hcr hok hsb hac
          have hpq : (a + c = n) ∨ ¬ (a + c = n) := Classical.em _
          go_wp2_with fail
          all_goals
            refine HLEN.out.mono ?_
            rintro en w3 ⟨rfl, rfl⟩
            by_cases hfull : pre.length = 200
            · have HR := Lib.hid (po_full HOK.out hn0 (by rw [hp]; simp; omega))
              have hf2 : ((pre.length : Int) == 200) = true := by simp; omega
              go_wp2_with fail
              go_ret2
              exact ⟨ret_pc HR.out.2.symm HR.out.1.symm, HS.out.bel⟩
            · have hf2 : ((pre.length : Int) == 200) = false := by simp; omega
              go_wp2_with fail
              refine (CompareRatioI_any _ _ _ _ _).mono ?_
              rw [HCM.out]
              rintro en w4 ⟨rfl, hb4⟩
              have S4 := Lib.hid (HS.out.keep hb4)
              clear hb4
              go_wp2_with fail
              refine (WriteByte_above bb (M + 1) (cellsP pre) 76 w4 S4.out.bu (by rw [cellsP_len]; omega)).mono ?_
              rintro en w5 ⟨rfl, hu, hm⟩
              have HU := Lib.hid hu
              have HMV := Lib.hid hm
              have HT5 := Lib.hid (pw_tree hd S4.out hm)
              clear hu hm
              go_wp2_with fail
              refine (step_L l h m a b c e w5 HT5.out (by omega) (by omega) (by omega) HSM.out).mono ?_
              rintro en w6 ⟨rfl, ht, hm2⟩
              have SM := Lib.hid (pw_move (x := false) hd S4.out HU.out HMV.out ht hm2)
              obtain ⟨z0, z1, z2, z3, z4⟩ := SM.out.2
              have HLC := Lib.hid (SM.out.1.bu.lenC)
              clear ht hm2
              go_wp2_with fail
              go_roundw
              case rel => exact ⟨pre ++ [false], post, x, y, a, b, a + c, b + e, by rw [hp]; simp, HSB.out, HPA.out.left, by simp; omega, SM.out.1⟩
              case measure =>
                have h3 := HLC.out
                rw [cellsP_len, List.length_append] at h3
                simp only [List.length_cons, List.length_nil] at h3
                rw [h3, hlen]
                omega
end Go.Proofs.YtcgennkddoajeaaDoor
