/-
  The contracts of impl.startOfPath, of its function literal, and of impl.RatioOfPath.
-/
import Derived.Test.YtcgennkddoajeaaDoorRopS
import Derived.Test.YtcgennkddoajeaaDoorRf
import Derived.Test.YtcgennkddoajeaaDoorShelf
import Derived.Shelf.Strings.SlTrimAscii
import Derived.Laws.IdiomStrings
namespace Go.Proofs.YtcgennkddoajeaaDoor
open Go.RowKit

/-- The three variables of a walk down the tree, in the boxes l, h and m. -/
structure Tree (W : World) (l h m : Nat) (a b c d : Int) : Prop where
  low : Box2 W l a b
  high : Box2 W h c d
  med : Box2 W m (a + c) (b + d)
def SopRet (w : World) (e : Ending) (w' : World) : Prop := e = .returned (.tuple #[.agg #[.int .i64 1, .int .i64 1], .func (.func 59) #[] #[.pointer (some ⟨w.heap.size + 1 + 1 + 1, 0, none⟩), .pointer (some ⟨w.heap.size + 1 + 1, 0, none⟩), .pointer (some ⟨w.heap.size + 1, 0, none⟩)]]) ∧ Tree w' (w.heap.size + 1) (w.heap.size + 1 + 1) (w.heap.size + 1 + 1 + 1) 0 1 1 0 ∧ Below w.heap.size w w'
theorem sop_tree (w : World) (T : TypeId) : Tree ((((w.alloc (.cells #[.int .i64 1, .int .i64 1] T)).alloc (.cells #[.int .i64 0, .int .i64 1] T)).alloc (.cells #[.int .i64 1, .int .i64 0] T)).alloc (.cells #[.int .i64 1, .int .i64 1] T)) (w.heap.size + 1) (w.heap.size + 1 + 1) (w.heap.size + 1 + 1 + 1) 0 1 1 0 := by
  refine ⟨?_, ?_, ?_⟩
  · have := ((Box2.new (w.alloc (.cells #[.int .i64 1, .int .i64 1] T)) 0 1 T).alloc (.cells #[.int .i64 1, .int .i64 0] T)).alloc (.cells #[.int .i64 1, .int .i64 1] T)
    rw [World.size_alloc] at this
    exact this
  · have := (Box2.new ((w.alloc (.cells #[.int .i64 1, .int .i64 1] T)).alloc (.cells #[.int .i64 0, .int .i64 1] T)) 1 0 T).alloc (.cells #[.int .i64 1, .int .i64 1] T)
    rw [World.size_alloc, World.size_alloc] at this
    exact this
  · have := Box2.new (((w.alloc (.cells #[.int .i64 1, .int .i64 1] T)).alloc (.cells #[.int .i64 0, .int .i64 1] T)).alloc (.cells #[.int .i64 1, .int .i64 0] T)) 1 1 T
    rw [World.size_alloc, World.size_alloc, World.size_alloc] at this
    exact this
theorem startOfPath_any (w : World) : Calls Tryd.prog 30 #[] w (SopRet w) := by
  have HT := Lib.hid (sop_tree w 25)
  go_enter Tryd.func30, Tryd.ntmps30
  go_wp2_with fail
  exact bodyPost_ret (v := .tuple #[.agg #[.int .i64 1, .int .i64 1], .func (.func 59) #[] #[.pointer (some ⟨w.heap.size + 1 + 1 + 1, 0, none⟩), .pointer (some ⟨w.heap.size + 1 + 1, 0, none⟩), .pointer (some ⟨w.heap.size + 1, 0, none⟩)]]) (by simp [results, Tryd.results30, go_sem]) rfl ⟨rfl, HT.out, bA (bA (bA (bA (bR _) _) _) _) _⟩
def StepRet (w : World) (l h m : Nat) (a b c d : Int) (e : Ending) (w' : World) : Prop := e = .returned (.agg #[.int .i64 (a + c), .int .i64 (b + d)]) ∧ Tree w' l h m a b c d ∧ Mov (fun k => k = l ∨ k = h ∨ k = m) w w'
def SmallT (a b c d : Int) : Prop := 0 ≤ a ∧ a ≤ 1000000000 ∧ 0 ≤ b ∧ b ≤ 1000000000 ∧ 0 ≤ c ∧ c ≤ 1000000000 ∧ 0 ≤ d ∧ d ≤ 1000000000
theorem step_L (l h m : Nat) (a b c d : Int) (w : World) (ht : Tree w l h m a b c d) (n1 : ¬ l = h) (n2 : ¬ l = m) (n3 : ¬ h = m) (h0 : SmallT a b c d) :
    Calls Tryd.prog 59 #[.int .u8 76, .pointer (some ⟨m, 0, none⟩), .pointer (some ⟨h, 0, none⟩), .pointer (some ⟨l, 0, none⟩)] w (StepRet w l h m a b (a + c) (b + d)) := by
  obtain ⟨a1, a2, b1, b2, c1, c2, d1, d2⟩ := h0
  have HT := Lib.hid ht
  have n4 : ¬ h = l := fun e => n1 e.symm
  have n5 : ¬ m = l := fun e => n2 e.symm
  have n6 : ¬ m = h := fun e => n3 e.symm
  obtain ⟨⟨x0, x1, x2, x3, x4⟩, ⟨y0, y1, y2, y3, y4⟩, ⟨z0, z1, z2, z3, z4⟩⟩ := ht
  go_enter Tryd.func59, Tryd.ntmps59
  go_wp2_with fail
  refine bodyPost_ret (v := .agg #[.int .i64 (a + (a + c)), .int .i64 (b + (b + d))]) (by simp [results, Tryd.results59, go_sem, *]) rfl ⟨rfl, ⟨?_, ?_, ?_⟩, ?_⟩
  · exact ((((HT.out.low.other n1).other n1).other n2).other n2).alloc _
  · exact (((HT.out.high.set (a + c) (b + d)).other n3).other n3).alloc _
  · exact (((HT.out.med.other n6).other n6).set (a + (a + c)) (b + (b + d))).alloc _
  · exact (((((Mov.refl _ w).setCell (.inl (.inr (.inl rfl))) _).setCell (.inl (.inr (.inl rfl))) _).setCell (.inl (.inr (.inr rfl))) _).setCell (.inl (.inr (.inr rfl))) _).alloc _
theorem step_R (ch : UInt8) (l h m : Nat) (a b c d : Int) (w : World) (ht : Tree w l h m a b c d) (n1 : ¬ l = h) (n2 : ¬ l = m) (n3 : ¬ h = m) (h0 : SmallT a b c d) (hc : (((ch.toNat : Nat) : Int) == 76) = false) :
    Calls Tryd.prog 59 #[.int .u8 ((ch.toNat : Nat) : Int), .pointer (some ⟨m, 0, none⟩), .pointer (some ⟨h, 0, none⟩), .pointer (some ⟨l, 0, none⟩)] w (StepRet w l h m (a + c) (b + d) c d) := by
  obtain ⟨a1, a2, b1, b2, c1, c2, d1, d2⟩ := h0
  have HT := Lib.hid ht
  have n4 : ¬ h = l := fun e => n1 e.symm
  have n5 : ¬ m = l := fun e => n2 e.symm
  have n6 : ¬ m = h := fun e => n3 e.symm
  obtain ⟨⟨x0, x1, x2, x3, x4⟩, ⟨y0, y1, y2, y3, y4⟩, ⟨z0, z1, z2, z3, z4⟩⟩ := ht
  go_enter Tryd.func59, Tryd.ntmps59
  go_wp2_with fail
  refine bodyPost_ret (v := .agg #[.int .i64 (a + c + c), .int .i64 (b + d + d)]) (by simp [results, Tryd.results59, go_sem, *]) rfl ⟨rfl, ⟨?_, ?_, ?_⟩, ?_⟩
  · exact (((HT.out.low.set (a + c) (b + d)).other n2).other n2).alloc _
  · exact ((((HT.out.high.other n4).other n4).other n3).other n3).alloc _
  · exact (((HT.out.med.other n5).other n5).set (a + c + c) (b + d + d)).alloc _
  · exact (((((Mov.refl _ w).setCell (.inl (.inl rfl)) _).setCell (.inl (.inl rfl)) _).setCell (.inl (.inr (.inr rfl))) _).setCell (.inl (.inr (.inr rfl))) _).alloc _
theorem trim_any (s : ByteArray) (w : World) (hs : s.size ≤ 1048576) : Calls Tryd.prog 35 #[.string s, .string ⟨#[76, 82]⟩] w fun e w' => e = .returned (.string ⟨(Lib.trimS s.data.toList [76, 82]).toArray⟩) ∧ Below w.heap.size w w' :=
  Any.strings_Trim_laid Tryd.lays160 (by kernel_rfl) s ⟨#[76, 82]⟩ w (by omega) (by decide) (ascii_of_all (by decide))
theorem conv_bytes (W : World) (s : ByteArray) : ∃ W4 cap, (convert 9 22 (.string s)).run Tryd.prog W = .ok (.slice (some ⟨W.heap.size, 0, none⟩) s.size cap) W4 ∧ Below W.heap.size W W4 ∧ W.heap.size < W4.heap.size ∧ ∀ j (hj : j < s.size), W4.cell? ⟨W.heap.size, j, none⟩ = some (.int .u8 ((s[j].toNat : Nat) : Int)) := by
  refine ⟨_, _, run_bytes_of_string W 9 22 5 s Tryd.underlying9 Tryd.underlying22 Tryd.underlying5, ((bR W).drew).alloc (Nat.le_refl _) _, by simp, fun j hj => ?_⟩
  have hj2 : j < s.data.size := hj
  have hh := World.alloc_heap_new W.drew (.cells (bytesRow s (grownCap W s.size 0 5)) 5 ((bytesRow s (grownCap W s.size 0 5)).size, (bytesRow s (grownCap W s.size 0 5)).size + 1))
  unfold World.cell?
  rw [show (World.alloc W.drew _).heap[(⟨W.heap.size, j, none⟩ : Addr).block]? = _ from hh]
  have e : (bytesRow s (grownCap W s.size 0 5))[j]? = some (.int .u8 ((s[j].toNat : Nat) : Int)) := by
    unfold bytesRow
    rw [Array.getElem?_append_left (by simpa using hj2), Array.getElem?_map, Array.getElem?_eq_getElem hj2]
    rfl
  simpa using e
theorem Box2.ofB {w w' : World} {b : Nat} {x y : Int} (h : Box2 w b x y) (hs : w.heap.size ≤ w'.heap.size) (hb : w'.heap[b]? = w.heap[b]?) : Box2 w' b x y :=
  ⟨(World.cell?_of_block hb).trans h.c0, (World.cell?_of_block hb).trans h.c1, (World.frozen?_of_block hb).trans h.f0, (World.frozen?_of_block hb).trans h.f1, Nat.lt_of_lt_of_le h.lt hs⟩
/-- What lies in memory between two letters. -/
structure RpW (w : World) (s : ByteArray) (l h m M g : Nat) (a b c d : Int) (W : World) : Prop where
  tr : Tree W l h m a b c d
  res : Box2 W w.heap.size 0 0
  med : Box2 W M (a + c) (b + d)
  byt : ∀ j (hj : j < s.size), W.cell? ⟨g, j, none⟩ = some (.int .u8 ((s[j].toNat : Nat) : Int))
  glt : g < W.heap.size
  bel : Below w.heap.size w W
theorem RpW.keep {w : World} {s : ByteArray} {l h m M g : Nat} {a b c d : Int} {W W' : World} (x : RpW w s l h m M g a b c d W) (hb : Below W.heap.size W W') : RpW w s l h m M g a b c d W' :=
  ⟨⟨x.tr.low.keep hb, x.tr.high.keep hb, x.tr.med.keep hb⟩, x.res.keep hb, x.med.keep hb, fun j hj => (hb.cell (p := ⟨g, j, none⟩) x.glt).trans (x.byt j hj), Nat.lt_of_lt_of_le x.glt hb.size, bT x.bel hb⟩
theorem RpW.step {w : World} {s : ByteArray} {l h m M g : Nat} {a b c d a' b' c' d' : Int} {W w5 : World} (hd : w.heap.size < l ∧ l < h ∧ h < m ∧ m < M ∧ M < g) (x : RpW w s l h m M g a b c d W) (ht : Tree w5 l h m a' b' c' d') (hm : Mov (fun k => k = l ∨ k = h ∨ k = m) W w5) :
    RpW w s l h m M g a' b' c' d' ((w5.setCell ⟨M, 0, none⟩ (.int .i64 (a' + c'))).setCell ⟨M, 1, none⟩ (.int .i64 (b' + d'))) ∧ Box2 w5 M (a + c) (b + d) := by
  obtain ⟨d1, d2, d3, d4, d5⟩ := hd
  have hM : Box2 w5 M (a + c) (b + d) := x.med.ofB hm.size (hm.block _ x.med.lt (by omega))
  refine ⟨⟨⟨(ht.low.other (by omega)).other (by omega), (ht.high.other (by omega)).other (by omega), (ht.med.other (by omega)).other (by omega)⟩, ?_, hM.set _ _, fun j hj => ?_, ?_, ?_⟩, hM⟩
  · exact ((x.res.ofB hm.size (hm.block _ x.res.lt (by omega))).other (by omega)).other (by omega)
  · rw [World.cell?_of_block (Below.heap_setCell _ _ _ _ (show g ≠ M by omega)), World.cell?_of_block (Below.heap_setCell _ _ _ _ (show g ≠ M by omega)), World.cell?_of_block (hm.block g x.glt (show ¬ (g = l ∨ g = h ∨ g = m) by omega))]
    exact x.byt j hj
  · have := hm.size
    have := x.glt
    simp [World.setCell]; omega
  · have hb : Below w.heap.size w w5 := ⟨hm.os.trans x.bel.os, hm.tape.trans x.bel.tape, hm.output.trans x.bel.output, Nat.le_trans x.bel.size hm.size, fun k hk => (hm.block k (Nat.lt_of_lt_of_le hk x.bel.size) (by omega)).trans (x.bel.block k hk)⟩
    exact (hb.setCell (show w.heap.size ≤ M by omega) _).setCell (show w.heap.size ≤ M by omega) _
def RpiRel (w : World) (s : ByteArray) (l h m M g : Nat) (vi : Value) (wr : World) : Prop :=
  ∃ (k : Nat) (a b c d : Int), k ≤ s.size ∧ vi = .int .i64 k ∧ RpI ⟨a, b, c, d⟩ ∧ rp s.data.toList rp0 = rp (s.data.toList.drop k) ⟨a, b, c, d⟩ ∧ RpW w s l h m M g a b c d wr
theorem mt_yes {l : List UInt8} (h : lr l = true) : Lib.trimS l [76, 82] = [] := (trim_lr l).2 h
theorem mt_no {l : List UInt8} (h : lr l = false) : Lib.trimS l [76, 82] ≠ [] := fun e => by have := (trim_lr l).1 e; rw [h] at this; cases this
set_option maxRecDepth 100000 in
set_option maxHeartbeats 8000000 in
theorem RatioOfPathI_any (s : ByteArray) (w : World) (hs : s.size ≤ 1048576) :
    Calls Tryd.prog 12 #[.string s] w (RopRet w s.data.toList) := by
  have hsz := sz_eq s
  have B0 := Lib.hid (Box2.new w 0 0 25)
  have L0 := Lib.hid (bA (bR w) (.cells #[.int .i64 0, .int .i64 0] 25))
  by_cases hlong : 200 < s.size
  · have HR := Lib.hid (rp_long (l := s.data.toList) (by omega))
    clear hsz
    go_enter Tryd.func12, Tryd.ntmps12
    go_wp2_with fail
    exact bodyPost_ret (v := .tuple #[.agg #[.int .i64 0, .int .i64 0], .int .i64 5]) (by simp [results, Tryd.results12, go_sem]) rfl ⟨ret_rc HR.out.1.symm HR.out.2.1.symm HR.out.2.2.symm, L0.out⟩
  · have HL := Lib.hid (show ¬ 200 < s.data.toList.length by omega)
    have hs2 : s.size ≤ 200 := by omega
    clear hsz hlong
    cases hlr : lr s.data.toList
    · have HR := Lib.hid (rp_syn HL.out hlr)
      have HT := Lib.hid (fun (W : World) => trim_any s W hs)
      have hne := mt_no hlr
      generalize Lib.trimS s.data.toList [76, 82] = t at *
      have e1 : t.isEmpty = false := by cases t with
        | nil => exact absurd rfl hne
        | cons a b => rfl
      clear hs hlr
      go_enter Tryd.func12, Tryd.ntmps12
      go_wp2_with fail
      generalize w.alloc (.cells #[.int .i64 0, .int .i64 0] 25) = W0 at *
      refine (HT.out _).mono ?_
      rintro e w1 ⟨rfl, hb1⟩
      obtain ⟨u0, u1, u2, u3, u4⟩ := B0.out.keep hb1
      have L1 := Lib.hid (bT L0.out hb1)
      clear hb1
      go_wp2_with fail
      exact bodyPost_ret (v := .tuple #[.agg #[.int .i64 0, .int .i64 0], .int .i64 7]) (by simp [results, Tryd.results12, go_sem, u0, u1]) rfl ⟨ret_rc HR.out.1.symm HR.out.2.1.symm HR.out.2.2.symm, (L1.out.setCell (Nat.le_refl _) _).setCell (Nat.le_refl _) _⟩
    · have HLR := Lib.hid hlr
      have HT := Lib.hid (fun (W : World) => trim_any s W hs)
      have HM := Lib.hid (mt_yes hlr)
      clear hs hlr
      go_enter Tryd.func12, Tryd.ntmps12
      go_wp2_with fail
      generalize w.alloc (.cells #[.int .i64 0, .int .i64 0] 25) = W0 at *
      refine (HT.out _).mono ?_
      rw [HM.out]
      rintro e w1 ⟨rfl, hb1⟩
      have B1 := Lib.hid (B0.out.keep hb1)
      have L1 := Lib.hid (bT L0.out hb1)
      clear hb1
      go_wp2_with fail
      refine (startOfPath_any _).mono ?_
      rintro e w2 ⟨rfl, ht, hb2⟩
      have HTR := Lib.hid ht
      have B2 := Lib.hid (B1.out.keep hb2)
      have L2 := Lib.hid (bT L1.out hb2)
      have hs21 := ht.med.lt
      have hs20 := hb2.size
      have hs19 := B1.out.lt
      clear ht hb2 B1 L1
      have B3 := Lib.hid (B2.out.alloc (.cells #[.int .i64 1, .int .i64 1] 25))
      have M3 := Lib.hid (Box2.new w2 1 1 25)
      have T3 := Lib.hid (show Tree (w2.alloc (.cells #[.int .i64 1, .int .i64 1] 25)) _ _ _ _ _ _ _ from ⟨HTR.out.low.alloc _, HTR.out.high.alloc _, HTR.out.med.alloc _⟩)
      have L3 := Lib.hid (bA L2.out (.cells #[.int .i64 1, .int .i64 1] 25))
      obtain ⟨W4, cap, hcv, hb4, hs4, hby⟩ := conv_bytes (w2.alloc (.cells #[.int .i64 1, .int .i64 1] 25)) s
      have B4 := Lib.hid (B3.out.keep hb4)
      have M4 := Lib.hid (M3.out.keep hb4)
      have T4 := Lib.hid (show Tree W4 _ _ _ _ _ _ _ from ⟨T3.out.low.keep hb4, T3.out.high.keep hb4, T3.out.med.keep hb4⟩)
      have L4 := Lib.hid (bT L3.out hb4)
      have HBY := Lib.hid hby
      clear hb4 hby B3 M3 T3 L3 HTR B2 L2
      rw [World.size_alloc] at hcv hs4
      have hdis : w.heap.size < w1.heap.size + 1 ∧ w1.heap.size + 1 < w1.heap.size + 1 + 1 ∧ w1.heap.size + 1 + 1 < w1.heap.size + 1 + 1 + 1 ∧ w1.heap.size + 1 + 1 + 1 < w2.heap.size ∧ w2.heap.size < w2.heap.size + 1 := by omega
      have HDIS := Lib.hid hdis
      have RS := Lib.hid (show RpiRel w s (w1.heap.size + 1) (w1.heap.size + 1 + 1) (w1.heap.size + 1 + 1 + 1) w2.heap.size (w2.heap.size + 1) (.int .i64 0) W4 from
        ⟨0, 0, 1, 1, 0, Nat.zero_le _, rfl, rpI_start, rfl, T4.out, B4.out, M4.out, by have := HBY.out; rw [World.size_alloc] at this; exact this, hs4, L4.out⟩)
      clear hdis T4 B4 M4 HBY
      go_wp2_with fail
      go_loopw [23] (fun i wr => RpiRel w s (w1.heap.size + 1) (w1.heap.size + 1 + 1) (w1.heap.size + 1 + 1 + 1) w2.heap.size (w2.heap.size + 1) i wr) (fun i _ => s.size - (intOf i).toNat)
      case atStart => exact RS.out
      case round =>
        obtain ⟨k, a, b, c, d, hk2, rfl, hI, hrp, hW⟩ := hrel
        have HI := Lib.hid hI
        have HRP := Lib.hid hrp
        have HW := Lib.hid hW
        have hsm : SmallT a b c d := by obtain ⟨a0, b0, c0, d0, _, ac, bd, sm, sm2⟩ := hI; simp only [] at a0 b0 c0 d0 ac bd sm sm2; unfold SmallT; omega
        have HSM := Lib.hid hsm
        have hglt := hW.glt
        clear hrp hI hsm hcv
        by_cases hlt : k < s.size
        · have HD := Lib.hid (at_drop s k hlt)
          have cb := hW.byt k hlt
          clear hW
          have hn1 : ¬ w1.heap.size + 1 = w1.heap.size + 1 + 1 := by omega
          have hn2 : ¬ w1.heap.size + 1 = w1.heap.size + 1 + 1 + 1 := by omega
          have hn3 : ¬ w1.heap.size + 1 + 1 = w1.heap.size + 1 + 1 + 1 := by omega
          have N := Lib.hid (And.intro hn1 (And.intro hn2 hn3))
          clear hn1 hn2 hn3
          by_cases h1 : s[k] = 76
          · have HST := Lib.hid (show rpStep ⟨a, b, c, d⟩ s[k] = ⟨a, b, a + c, b + d⟩ by unfold rpStep; rw [if_pos h1, Int.add_comm c a, Int.add_comm d b])
            have e76 : ((s[k].toNat : Nat) : Int) = 76 := by rw [h1]; rfl
            rw [e76] at cb
            clear h1 e76
            go_wp2_with fail
            refine (step_L _ _ _ _ _ _ _ _ HW.out.tr N.out.1 N.out.2.1 N.out.2.2 HSM.out).mono ?_
            rintro e w5 ⟨rfl, ht, hm⟩
            obtain ⟨hW6, hM5⟩ := RpW.step HDIS.out HW.out ht hm
            have HW6 := Lib.hid hW6
            obtain ⟨m0, m1, m2, m3, m4⟩ := hM5
            clear hW6 ht hm cb
            have OK := Lib.hid (rp_ok HI.out s[k])
            go_wp2_with fail
            generalize (w5.setCell ⟨w2.heap.size, 0, none⟩ (.int .i64 (a + (a + c)))).setCell ⟨w2.heap.size, 1, none⟩ (.int .i64 (b + (b + d))) = w6 at *
            clear m0 m1 m2 m3 m4
            refine (valid_any _ _ _).mono ?_
            rintro e w7 ⟨rfl, hb7⟩
            have HW7 := Lib.hid (HW6.out.keep hb7)
            clear hb7
            cases hbig : rpBig (rpStep ⟨a, b, c, d⟩ s[k])
            · have hok : okR (a + (a + c)) (b + (b + d)) = true := by have := OK.out; rw [HST.out] at this; rw [HST.out] at hbig; rw [hbig] at this; exact this
              have HN := Lib.hid (rpI_step HI.out s[k] hbig)
              have HG := Lib.hid (show rp s.data.toList rp0 = rp (s.data.toList.drop (k + 1)) ⟨a, b, a + c, b + d⟩ by rw [HRP.out, HD.out, rp_go hbig, HST.out])
              clear hbig
              rw [hok]
              clear hok
              go_wp2_with fail
              go_roundw
              case rel => exact ⟨k + 1, _, _, _, _, by omega, by go_num, by have := HN.out; rw [HST.out] at this; exact this, HG.out, HW7.out⟩
              case measure => simp [intOf]; omega
            · have hok : okR (a + (a + c)) (b + (b + d)) = false := by have := OK.out; rw [HST.out] at this; rw [HST.out] at hbig; rw [hbig] at this; exact this
              have HR := Lib.hid (rp_none HL.out HLR.out (by rw [HRP.out, HD.out]; exact rp_no hbig))
              clear hbig
              rw [hok]
              clear hok
              obtain ⟨u0, u1, u2, u3, u4⟩ := HW7.out.res
              go_wp2_with fail
              exact bodyPost_ret (v := .tuple #[.agg #[.int .i64 0, .int .i64 0], .int .i64 2]) (by simp [results, Tryd.results12, go_sem, u0, u1]) rfl ⟨ret_rc HR.out.1.symm HR.out.2.1.symm HR.out.2.2.symm, (HW7.out.bel.setCell (Nat.le_refl _) _).setCell (Nat.le_refl _) _⟩
          · have HST := Lib.hid (show rpStep ⟨a, b, c, d⟩ s[k] = ⟨a + c, b + d, c, d⟩ by unfold rpStep; rw [if_neg h1])
            have z : (((s[k].toNat : Nat) : Int) == 76) = false := by rw [beq_eq_false_iff_ne]; exact fun e => h1 (UInt8.toNat_inj.1 (show s[k].toNat = 76 by omega))
            have HZ := Lib.hid z
            clear h1 z
            go_wp2_with fail
            refine (step_R _ _ _ _ _ _ _ _ _ HW.out.tr N.out.1 N.out.2.1 N.out.2.2 HSM.out HZ.out).mono ?_
            rintro e w5 ⟨rfl, ht, hm⟩
            obtain ⟨hW6, hM5⟩ := RpW.step HDIS.out HW.out ht hm
            have HW6 := Lib.hid hW6
            obtain ⟨m0, m1, m2, m3, m4⟩ := hM5
            clear hW6 ht hm cb
            have OK := Lib.hid (rp_ok HI.out s[k])
            go_wp2_with fail
            generalize (w5.setCell ⟨w2.heap.size, 0, none⟩ (.int .i64 (a + c + c))).setCell ⟨w2.heap.size, 1, none⟩ (.int .i64 (b + d + d)) = w6 at *
            clear m0 m1 m2 m3 m4
            refine (valid_any _ _ _).mono ?_
            rintro e w7 ⟨rfl, hb7⟩
            have HW7 := Lib.hid (HW6.out.keep hb7)
            clear hb7
            cases hbig : rpBig (rpStep ⟨a, b, c, d⟩ s[k])
            · have hok : okR (a + c + c) (b + d + d) = true := by have := OK.out; rw [HST.out] at this; rw [HST.out] at hbig; rw [hbig] at this; exact this
              have HN := Lib.hid (rpI_step HI.out s[k] hbig)
              have HG := Lib.hid (show rp s.data.toList rp0 = rp (s.data.toList.drop (k + 1)) ⟨a + c, b + d, c, d⟩ by rw [HRP.out, HD.out, rp_go hbig, HST.out])
              clear hbig
              rw [hok]
              clear hok
              go_wp2_with fail
              go_roundw
              case rel => exact ⟨k + 1, _, _, _, _, by omega, by go_num, by have := HN.out; rw [HST.out] at this; exact this, HG.out, HW7.out⟩
              case measure => simp [intOf]; omega
            · have hok : okR (a + c + c) (b + d + d) = false := by have := OK.out; rw [HST.out] at this; rw [HST.out] at hbig; rw [hbig] at this; exact this
              have HR := Lib.hid (rp_none HL.out HLR.out (by rw [HRP.out, HD.out]; exact rp_no hbig))
              clear hbig
              rw [hok]
              clear hok
              obtain ⟨u0, u1, u2, u3, u4⟩ := HW7.out.res
              go_wp2_with fail
              exact bodyPost_ret (v := .tuple #[.agg #[.int .i64 0, .int .i64 0], .int .i64 2]) (by simp [results, Tryd.results12, go_sem, u0, u1]) rfl ⟨ret_rc HR.out.1.symm HR.out.2.1.symm HR.out.2.2.symm, (HW7.out.bel.setCell (Nat.le_refl _) _).setCell (Nat.le_refl _) _⟩
        · obtain rfl : k = s.size := by omega
          have HR := Lib.hid (rp_some HL.out HLR.out (s := ⟨a, b, c, d⟩) (by rw [HRP.out, List.drop_of_length_le (by rw [sz_eq]; exact Nat.le_refl _)]; rfl))
          obtain ⟨u0, u1, u2, u3, u4⟩ := hW.res
          obtain ⟨m0, m1, m2, m3, m4⟩ := hW.med
          clear hW
          go_wp2_with fail
          exact bodyPost_ret (v := .tuple #[.agg #[.int .i64 (a + c), .int .i64 (b + d)], .int .i64 0]) (by simp [results, Tryd.results12, go_sem, u0, u1]) rfl ⟨ret_rc HR.out.1.symm HR.out.2.1.symm HR.out.2.2.symm, (HW.out.bel.setCell (Nat.le_refl _) _).setCell (Nat.le_refl _) _⟩
end Go.Proofs.YtcgennkddoajeaaDoor
