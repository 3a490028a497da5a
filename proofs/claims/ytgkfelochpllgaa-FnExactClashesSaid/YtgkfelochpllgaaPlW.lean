/-
  Clashes: the program's side.
-/
import Derived.Test.YtgkfelochpllgaaPlU
import Derived.Maps.AppendAt
namespace Go.Proofs.Ytgkfelochpllgaa
open Go.RowKit

theorem BoxL.grownQ {w w' : World} {b : Nat} {vs : List Value} {row : Option Nat} (h : BoxL w b vs) (g : w.grownBy w' row) (hn : some b ≠ row) : BoxL w' b vs := by
  have e := g.block b h.lt hn
  refine ⟨fun i x hi => ?_, fun i x hi => ?_, Nat.lt_of_lt_of_le h.lt g.size⟩
  · have := h.c i x hi
    unfold World.cell? at this ⊢
    simpa [e] using this
  · have := h.f i x hi
    unfold World.frozen? at this ⊢
    simpa [e] using this
theorem app_clA {ops : Array Oper} {rest : List Oper} {o : Oper} {a : Act} {Q : Exit → Act → World → Prop} {w0 w : World} (hgd : o.guard = none) (s x : Operand)
    (ho : o.op = .call { callee := .builtin .append, args := #[s, x], argTypes := #[44, 44] }) (v : Value) (xs : List (Int × Int)) (g : Int × Int) (hs : a.eval s = v) (hr : CoQ w0 w v xs)
    (hx : a.eval x = .slice (some ⟨w.heap.size, 0, none⟩) 1 1) (hl : xs.length ≤ 1000)
    (h : ∀ v' w', CoQ w0 w' v' (xs ++ [g]) → w.grownBy w' v.ownBlock → (v'.ownBlock = v.ownBlock ∨ v'.ownBlock = some (w.heap.size + 1)) → wpList Try.prog ops Q rest (a.put o.dst v') w') : wpList Try.prog ops Q (o :: rest) a (w.alloc (.cells #[.int .i64 g.1, .int .i64 g.2] 85)) := by
  obtain ⟨i0, hi, hz0, hz1, hz2⟩ := info_parts infoClash
  refine wpList_append_own_at _ hgd s x 44 ho w0.heap.size 85 i0 (.agg #[.int .i64 0, .int .i64 0]) 2 16 Try.underlying44 hi hz0 hz1 hz2 rfl (by decide) v xs.length (pairC xs) hs ((hr.keep (bA (bR w) _)).1) ⟨w.heap.size, 0, none⟩ 1 1 [.int .i64 g.1, .int .i64 g.2] hx rfl (srcQ2 _ _ _ _) (by intro y hy; simp at hy; rcases hy with rfl | rfl <;> rfl) (by unfold maxLen; omega) (by omega) (by have := hr.2.size; simp; omega) ?_
  intro v' w' hown hg _ hb
  have hg2 : w.grownBy w' v.ownBlock := by
    have b := bA (bR w) (.cells #[.int .i64 g.1, .int .i64 g.2] 85)
    exact ⟨hg.os.trans b.os, hg.tape.trans b.tape, hg.output.trans b.output, Nat.le_trans b.size hg.size, fun k hk hn => (hg.block k (Nat.lt_of_lt_of_le hk b.size) hn).trans (b.block k hk)⟩
  refine h v' w' ⟨?_, bel_grownS (bA hr.2 _) hg (fun r e => (own_blk hr.1 r e).1)⟩ hg2 (by simpa using hb)
  rw [pairC_snoc, List.length_append]; exact hown
def CoJ (w : World) (G : Int) (ss : List Sit) (k b6 : Nat) (vs : List Value) (v i : Value) (wr : World) : Prop := ∃ l : Nat, l ≤ ss.length ∧ i = .int .i64 l ∧ CoQ w wr v (clO G ss k ++ clI G ss k l) ∧ BoxL wr b6 vs ∧ (∀ r, v.ownBlock = some r → r ≠ b6)
/-- What stands in a round over two sites. -/
def ClP (W0 : World) (bx b1 b2 : Nat) (G : Int) (n1 : ByteArray) (x1 y1 wh1 st1 : Int) (n2 : ByteArray) (x2 y2 wh2 st2 : Int) (w' : World) : Prop :=
  w'.cell? ⟨bx, 3, none⟩ = some (.int .i64 G) ∧ w'.cell? ⟨b1, 0, none⟩ = some (.string n1) ∧ w'.cell? ⟨b1, 1, none⟩ = some (.int .i64 x1) ∧ w'.cell? ⟨b1, 2, none⟩ = some (.int .i64 y1) ∧ w'.cell? ⟨b1, 3, none⟩ = some (.int .i64 wh1) ∧ w'.cell? ⟨b1, 4, none⟩ = some (.int .i64 st1) ∧
  w'.cell? ⟨b2, 0, none⟩ = some (.string n2) ∧ w'.cell? ⟨b2, 1, none⟩ = some (.int .i64 x2) ∧ w'.cell? ⟨b2, 2, none⟩ = some (.int .i64 y2) ∧ w'.cell? ⟨b2, 3, none⟩ = some (.int .i64 wh2) ∧ w'.cell? ⟨b2, 4, none⟩ = some (.int .i64 st2) ∧ bx < w'.heap.size ∧ b1 < w'.heap.size ∧ b2 < w'.heap.size ∧ Below W0.heap.size W0 w'
theorem ClP.keep {W0 : World} {bx b1 b2 : Nat} {G : Int} {n1 : ByteArray} {x1 y1 wh1 st1 : Int} {n2 : ByteArray} {x2 y2 wh2 st2 : Int} {w' w2 : World} (hb : Below w'.heap.size w' w2) (h : ClP W0 bx b1 b2 G n1 x1 y1 wh1 st1 n2 x2 y2 wh2 st2 w') : ClP W0 bx b1 b2 G n1 x1 y1 wh1 st1 n2 x2 y2 wh2 st2 w2 := by
  obtain ⟨g0, a0, a1, a2, a3, a4, c0, c1, c2, c3, c4, e0, e1, e2, e3⟩ := h
  exact ⟨(hb.cell (p := ⟨bx, 3, none⟩) e0).trans g0, (hb.cell (p := ⟨b1, 0, none⟩) e1).trans a0, (hb.cell (p := ⟨b1, 1, none⟩) e1).trans a1, (hb.cell (p := ⟨b1, 2, none⟩) e1).trans a2, (hb.cell (p := ⟨b1, 3, none⟩) e1).trans a3, (hb.cell (p := ⟨b1, 4, none⟩) e1).trans a4,
    (hb.cell (p := ⟨b2, 0, none⟩) e2).trans c0, (hb.cell (p := ⟨b2, 1, none⟩) e2).trans c1, (hb.cell (p := ⟨b2, 2, none⟩) e2).trans c2, (hb.cell (p := ⟨b2, 3, none⟩) e2).trans c3, (hb.cell (p := ⟨b2, 4, none⟩) e2).trans c4, Nat.lt_of_lt_of_le e0 hb.size, Nat.lt_of_lt_of_le e1 hb.size, Nat.lt_of_lt_of_le e2 hb.size, bT e3 hb⟩
theorem ClP.drew {W0 : World} {bx b1 b2 : Nat} {G : Int} {n1 : ByteArray} {x1 y1 wh1 st1 : Int} {n2 : ByteArray} {x2 y2 wh2 st2 : Int} {w' : World} (h : ClP W0 bx b1 b2 G n1 x1 y1 wh1 st1 n2 x2 y2 wh2 st2 w') : ClP W0 bx b1 b2 G n1 x1 y1 wh1 st1 n2 x2 y2 wh2 st2 w'.drew := h.keep (bR _).drew
set_option maxRecDepth 100000 in
set_option maxHeartbeats 8000000 in
theorem ClashesI_any (p : Pl4) (ss : List Sit) (v : Value) (w : World) (ha : SlSi w v ss) :
    Calls Try.prog 20 #[plV p v] w (CoPost w (clF p.W p.H p.M p.G ss)) := by
  obtain ⟨W, H, M, G⟩ := p
  obtain ⟨h0, ao, cap, rfl, hcp, hc⟩ := ha
  have HV := Lib.hid (fun W' (h : SlSi W' (.slice ao ss.length cap) ss) => ValidPlateI_any ⟨W, H, M, G⟩ ss (.slice ao ss.length cap) W' h)
  unfold plV at HV
  simp only at HV
  unfold plV
  simp only
  have X := Lib.hid (BoxL.new w [.int .i64 W, .int .i64 H, .int .i64 M, .int .i64 G, .slice ao ss.length cap] 49)
  have L0 := Lib.hid (bA (bR w) (.cells #[.int .i64 W, .int .i64 H, .int .i64 M, .int .i64 G, .slice ao ss.length cap] 49))
  have HA := Lib.hid (SlSi.keep (show SlSi w (.slice ao ss.length cap) ss from ⟨h0, ao, cap, rfl, hcp, hc⟩) L0.out)
  clear hc hcp
  cases hok : okPl W H M G ss
  · rw [show clF W H M G ss = ([], 1) by simp [clF, hok]]
    rw [hok] at HV
    go_enter Try.func20, Try.ntmps20
    go_wp2_with fail
    refine (HV.out _ HA.out).mono ?_
    rintro e w1 ⟨rfl, hb⟩
    go_wp2_with fail
    go_ret2
    exact ⟨_, rfl, CoQ.nil (bT L0.out hb)⟩
  rw [show clF W H M G ss = (clO G ss ss.length, 0) by simp [clF, hok]]
  rw [hok] at HV
  have h20 := (okPl_parts hok).2.2.2.2.1
  have HOK := Lib.hid hok
  go_enter Try.func20, Try.ntmps20
  go_wp2_with fail
  refine (HV.out _ HA.out).mono ?_
  rintro e w1 ⟨rfl, hb⟩
  have L1 := Lib.hid (bT L0.out hb)
  have H1 := Lib.hid (HA.out.keep hb)
  have X1 := Lib.hid (X.out.keep hb)
  clear hb X L0 HA HV hok
  have HC := Lib.hid (show 1 ≤ ss.length → ∃ g, ao = some ⟨g, 0, none⟩ ∧ g < w1.heap.size ∧ SitesAt w1 g ss from by obtain ⟨_, a', c', e, _, h⟩ := H1.out; cases e; exact h)
  have RS := Lib.hid (show CoO w1 G ss (.slice none 0 0) (.int .i64 0) w1 from ⟨0, by omega, rfl, CoQ.nil (bR _)⟩)
  obtain ⟨x0, x1, x2, x3, x4, x5⟩ := X1.out.c5
  go_wp2_with fail
  clear x0 x1 x2 x3 x4 x5
  go_loopw [4, 15] (fun v i wr => CoO w1 G ss v i wr) (fun _ i _ => ss.length - (intOf i).toNat)
  case atStart => exact RS.out
  case round =>
    obtain ⟨k, hk, rfl, hS⟩ := hrel
    have HS := Lib.hid hS
    obtain ⟨x0, x1, x2, x3, x4, x5⟩ := (X1.out.keep hS.2).c5
    have hol := clO_len G ss h20 k
    clear RS
    by_cases hlt : k < ss.length
    · obtain ⟨g, rfl, hg, hc⟩ := HC.out (by omega)
      obtain ⟨c0, c1, c2, c3, c4, hsz⟩ := (hc.keep hg hS.2) k hlt
      have HD := Lib.hid hc
      have hbA := bA (bR wr) (.cells #[.string (siAt ss k).nm, .int .i64 (siAt ss k).x, .int .i64 (siAt ss k).y, .int .i64 (siAt ss k).wh, .int .i64 (siAt ss k).st] 90)
      have HS2 := Lib.hid (HS.out.keep hbA)
      have FB := Lib.hid (fun r (e : Value.ownBlock _ = some r) => (own_blk HS.out.1 r e).2)
      have B6 := Lib.hid (BoxL.new wr [.string (siAt ss k).nm, .int .i64 (siAt ss k).x, .int .i64 (siAt ss k).y, .int .i64 (siAt ss k).wh, .int .i64 (siAt ss k).st] 90)
      have X2 := Lib.hid ((X1.out.keep hS.2).keep hbA)
      obtain ⟨z0, z1, z2, z3, z4, z5⟩ := X2.out.c5
      clear hc hS hbA
      go_wp2_with fail
      have k1 := cl_bd HOK.out hlt
      generalize wr.alloc (.cells #[.string (siAt ss k).nm, .int .i64 (siAt ss k).x, .int .i64 (siAt ss k).y, .int .i64 (siAt ss k).wh, .int .i64 (siAt ss k).st] 90) = W6 at *
      generalize hb6 : wr.heap.size = b6 at *
      clear c0 c1 c2 c3 c4 x0 x1 x2 x3 x4 x5 z0 z1 z2 z3 z4 z5
      go_loopw [4, 23] (fun v i wr => CoJ w1 G ss k b6 [.string (siAt ss k).nm, .int .i64 (siAt ss k).x, .int .i64 (siAt ss k).y, .int .i64 (siAt ss k).wh, .int .i64 (siAt ss k).st] v i wr) (fun _ i _ => ss.length - (intOf i).toNat)
      case atStart => exact ⟨0, by omega, rfl, by simpa [clI] using HS2.out, B6.out, fun r e => by have := FB.out r e; omega⟩
      case round =>
        obtain ⟨l, hl, rfl, hS, hB6, hO⟩ := hrel
        have HT := Lib.hid hS
        have HO := Lib.hid hO
        obtain ⟨x0, x1, x2, x3, x4, x5⟩ := (X1.out.keep hS.2).c5
        have hil := clI_len G ss k l
        by_cases hlt2 : l < ss.length
        · obtain ⟨c0, c1, c2, c3, c4, hsz2⟩ := (HD.out.keep hg hS.2) l hlt2
          have l1 := cl_bd HOK.out hlt2
          have hsz3 : w1.heap.size ≤ wr.heap.size := hS.2.size
          have HY0 := clI_yes (G := G) (ss := ss) (k := k) (l := l)
          have HN0 := clI_no (G := G) (ss := ss) (k := k) (l := l)
          rw [clS_eq] at HY0 HN0
          have HY := Lib.hid HY0
          have HN := Lib.hid HN0
          have BK := Lib.hid hB6
          clear hS hB6 hO HY0 HN0
          generalize (siAt ss k).nm = n1 at *
          generalize (siAt ss k).x = p1 at *
          generalize (siAt ss k).y = q1 at *
          generalize (siAt ss k).wh = wh1 at *
          generalize (siAt ss k).st = st1 at *
          have HCL := Lib.hid (fun W' => clearanceTo_any n1 p1 q1 wh1 st1 (siAt ss l).nm (siAt ss l).x (siAt ss l).y (siAt ss l).wh (siAt ss l).st W' k1.1 k1.2.1 k1.2.2.1 l1.1 l1.2.1 l1.2.2.2)
          generalize (siAt ss l).nm = n2 at *
          generalize (siAt ss l).x = p2 at *
          generalize (siAt ss l).y = q2 at *
          generalize (siAt ss l).wh = wh2 at *
          generalize (siAt ss l).st = st2 at *
          generalize clN p1 q1 wh1 p2 q2 st2 = c at *
          have hb8 := bA (bR wr) (.cells #[.string n2, .int .i64 p2, .int .i64 q2, .int .i64 wh2, .int .i64 st2] 90)
          have HT8 := Lib.hid (HT.out.keep hb8)
          have BK8 := Lib.hid (BK.out.keep hb8)
          have B8 := Lib.hid (BoxL.new wr [.string n2, .int .i64 p2, .int .i64 q2, .int .i64 wh2, .int .i64 st2] 90)
          have X8 := Lib.hid (((X1.out.keep HT.out.2).keep hb8))
          clear hb8
          by_cases hkl : k = l
          · have hkl' : ((k : Int) != (l : Int)) = false := by simp [hkl]
            have HN' := Lib.hid (HN.out (fun h => h.1 hkl))
            go_wp2_with fail
            go_quiet (fail)
            go_wp2_with fail
            have HT2 := Lib.hid (HT8.out.keep (bD (bR _) nq))
            have BK2 := Lib.hid (BK8.out.keep (bD (bR _) nq))
            go_roundw
            case rel => exact ⟨l + 1, by omega, by go_num, by rw [HN'.out]; exact HT2.out, BK2.out, HO.out⟩
            case measure => simp [intOf]; omega
          · have hkl' : ((k : Int) != (l : Int)) = true := by simp; omega
            have hkl2 : ¬ (k : Int) = (l : Int) := by omega
            go_wp2_with fail
            generalize wr.alloc (.cells #[.string n2, .int .i64 p2, .int .i64 q2, .int .i64 wh2, .int .i64 st2] 90) = W8 at *
            generalize wr.heap.size = b8 at *
            obtain ⟨_, _, _, g0, _, g1⟩ := X8.out.c5
            obtain ⟨a0, a1, a2, a3, a4, a5⟩ := BK8.out.c5
            obtain ⟨d0, d1, d2, d3, d4, d5⟩ := B8.out.c5
            have HS0 : ClP W8 w.heap.size b6 b8 G n1 p1 q1 wh1 st1 n2 p2 q2 wh2 st2 W8 := ⟨g0, a0, a1, a2, a3, a4, d0, d1, d2, d3, d4, g1, a5, d5, bR _⟩
            clear x0 x1 x2 x3 x4 x5 c0 c1 c2 c3 c4 g0 g1 a0 a1 a2 a3 a4 a5 d0 d1 d2 d3 d4 d5
            go_region_held3 (fun w' => w'.cell? ⟨w.heap.size, 3, none⟩ = some (.int .i64 G) ∧ w'.cell? ⟨b6, 0, none⟩ = some (.string n1) ∧ w'.cell? ⟨b6, 1, none⟩ = some (.int .i64 p1) ∧ w'.cell? ⟨b6, 2, none⟩ = some (.int .i64 q1) ∧ w'.cell? ⟨b6, 3, none⟩ = some (.int .i64 wh1) ∧ w'.cell? ⟨b6, 4, none⟩ = some (.int .i64 st1) ∧ w'.cell? ⟨b8, 0, none⟩ = some (.string n2) ∧ w'.cell? ⟨b8, 1, none⟩ = some (.int .i64 p2) ∧ w'.cell? ⟨b8, 2, none⟩ = some (.int .i64 q2) ∧ w'.cell? ⟨b8, 3, none⟩ = some (.int .i64 wh2) ∧ w'.cell? ⟨b8, 4, none⟩ = some (.int .i64 st2) ∧ w.heap.size < w'.heap.size ∧ b6 < w'.heap.size ∧ b8 < w'.heap.size ∧ Below W8.heap.size W8 w') (first | exact HS0.drew | assumption | exact ClP.keep hb (by first | assumption | exact HS0.drew))
              ((go_at_call 56; refine (HCL.out _).mono ?_; rintro e w' ⟨rfl, hb⟩))
            have HT' : ClP W8 w.heap.size b6 b8 G n1 p1 q1 wh1 st1 n2 p2 q2 wh2 st2 w' := by assumption
            have hbw := HT'.2.2.2.2.2.2.2.2.2.2.2.2.2.2
            obtain ⟨g0, _, _, _, _, _, _, _, _, _, _, g1, _, _, _⟩ := id HT'
            have HT2 := Lib.hid (HT8.out.keep hbw)
            have BK2 := Lib.hid (BK8.out.keep hbw)
            clear HT' HS0 hbw
            by_cases hc : c < G
            · have HY' := Lib.hid (HY.out hkl hc)
              have hbl := BK2.out.lt
              go_wp2_with (at_builtin; refine app_clA rfl _ _ rfl _ _ ((k : Int), (l : Int)) rfl HT2.out rfl (by rw [List.length_append]; omega) ?_)
              intro v' w2 hR hgr hbk
              have R := Lib.hid hR
              have BK3 := Lib.hid (BK2.out.grownQ hgr (fun e => HO.out _ e.symm rfl))
              have HO3 := Lib.hid (show ∀ r, v'.ownBlock = some r → r ≠ b6 from fun r e => by
                rcases hbk with h | h
                · exact HO.out r (h.symm.trans e)
                · rw [h] at e; cases e; omega)
              clear hR hgr hbk
              go_wp2_with fail
              go_roundw
              case rel => exact ⟨l + 1, by omega, by go_num, by rw [HY'.out]; exact R.out, BK3.out, HO3.out⟩
              case measure => simp [intOf]; omega
            · have HN' := Lib.hid (HN.out (fun h => hc h.2))
              go_wp2_with fail
              go_roundw
              case rel => exact ⟨l + 1, by omega, by go_num, by rw [HN'.out]; exact HT2.out, BK2.out, HO.out⟩
              case measure => simp [intOf]; omega
        · obtain rfl : l = ss.length := by omega
          clear hS hB6 hO
          go_wp2_with fail
          go_roundw
          case rel => exact ⟨k + 1, by omega, by go_num, by rw [clO]; exact HT.out⟩
          case measure => simp [intOf]; omega
    · obtain rfl : k = ss.length := by omega
      have HE := Lib.hid (HS.out.low L1.out)
      go_wp2_with fail
      go_ret2
      exact ⟨_, rfl, HE.out⟩
end Go.Proofs.Ytgkfelochpllgaa
