/-
  A third point that is drawn: spec.DrawThirdPoint.
-/
import Derived.Test.YtclefibjmnabbaaTpD
import Derived.Test.YtclefibjmnabbaaDrawT
import Derived.Deep.DeepCutAuto
import Derived.Deep.RegionWith
namespace Go.Proofs.Ytclefibjmnabbaa
open Go.RowKit

/-- What stands while a third point is drawn. -/
structure DtS (w : World) (p : Nat) (a : Option Addr) (len cap c : Nat) (b8 b9 : Nat) (x1 y1 x2 y2 : Int) (wx : World) : Prop where
  s : SrcAt wx p a len cap c
  l : Below w.heap.size w wx
  r1 : BoxL wx w.heap.size [.int .i64 0, .int .i64 0]
  r2 : BoxL wx (w.heap.size + 1) [.int .i64 0, .int .i64 0]
  k8 : BoxL wx b8 [.int .i64 x1, .int .i64 y1]
  k9 : BoxL wx b9 [.int .i64 x2, .int .i64 y2]
theorem DtS.grown {w : World} {p : Nat} {a : Option Addr} {len cap c c' b8 b9 : Nat} {x1 y1 x2 y2 : Int} {wx w' : World} (h : DtS w p a len cap c b8 b9 x1 y1 x2 y2 wx) (hp : p = w.heap.size + 1 + 1) (h8 : p < b8) (h9 : p < b9) (s : SrcAt w' p a len cap c') (g : wx.grownBy w' (some p)) : DtS w p a len cap c' b8 b9 x1 y1 x2 y2 w' :=
  ⟨s, gNew h.l g (by omega), h.r1.grown g (by omega), h.r2.grown g (by omega), h.k8.grown g (by omega), h.k9.grown g (by omega)⟩
theorem DtS.keep {w : World} {p : Nat} {a : Option Addr} {len cap c b8 b9 : Nat} {x1 y1 x2 y2 : Int} {wx w' : World} (h : DtS w p a len cap c b8 b9 x1 y1 x2 y2 wx) (hb : Below wx.heap.size wx w') : DtS w p a len cap c b8 b9 x1 y1 x2 y2 w' :=
  ⟨h.s.keep hb, bT h.l hb, h.r1.keep hb, h.r2.keep hb, h.k8.keep hb, h.k9.keep hb⟩
theorem BoxL.set2 {w : World} {b : Nat} {u v : Value} (h : BoxL w b [u, v]) (u' v' : Value) : BoxL ((w.setCell ⟨b, 0, none⟩ u').setCell ⟨b, 1, none⟩ v') b [u', v'] := by
  obtain ⟨⟨a0, a1⟩, ⟨a2, a3⟩, a4⟩ := h.g2
  refine ⟨fun i x e => ?_, fun i x e => ?_, by simpa [World.setCell] using a4⟩
  · match i with
    | 0 => simp at e; subst e; simp [go_sem, a0]
    | 1 => simp at e; subst e; simp [go_sem, a1]
    | i + 2 => simp at e
  · match i with
    | 0 => simp [go_sem, a2]
    | 1 => simp [go_sem, a3]
    | i + 2 => simp at e
theorem DtS.copy {w : World} {p : Nat} {a : Option Addr} {len cap c b8 b9 : Nat} {x1 y1 x2 y2 : Int} {wx : World} (h : DtS w p a len cap c b8 b9 x1 y1 x2 y2 wx) (hp : p = w.heap.size + 1 + 1) (h8 : p < b8) (h89 : b8 < b9) (ho : 0 < len → ∀ xb xo, a = some ⟨xb, xo, none⟩ → xb ≠ b9) :
    DtS w p a len cap c b8 b9 x1 y1 x1 y1 ((wx.setCell ⟨b9, 0, none⟩ (.int .i64 x1)).setCell ⟨b9, 1, none⟩ (.int .i64 y1)) :=
  ⟨(h.s.set (by omega) ho).set (by omega) ho, (h.l.setCell (by simp; omega) _).setCell (by simp; omega) _, (h.r1.other (by omega)).other (by omega), (h.r2.other (by omega)).other (by omega), (h.k8.other (by omega)).other (by omega), h.k9.set2 _ _⟩
def T8 (w : World) (b8 b9 : Nat) (x1 y1 x2 y2 : Int) (w' : World) : Prop :=
  w'.cell? ⟨b8, 0, none⟩ = some (.int .i64 x1) ∧ w'.cell? ⟨b8, 1, none⟩ = some (.int .i64 y1) ∧ w'.cell? ⟨b9, 0, none⟩ = some (.int .i64 x2) ∧ w'.cell? ⟨b9, 1, none⟩ = some (.int .i64 y2) ∧ b8 < w'.heap.size ∧ b9 < w'.heap.size ∧ Below w.heap.size w w'
theorem T8.of {w : World} {p : Nat} {a : Option Addr} {len cap c b8 b9 : Nat} {x1 y1 x2 y2 : Int} {wx : World} (h : DtS w p a len cap c b8 b9 x1 y1 x2 y2 wx) : T8 w b8 b9 x1 y1 x2 y2 wx :=
  ⟨h.k8.g2.1.1, h.k8.g2.1.2, h.k9.g2.1.1, h.k9.g2.1.2, h.k8.lt, h.k9.lt, h.l⟩
theorem T8.drew {w : World} {b8 b9 : Nat} {x1 y1 x2 y2 : Int} {wx : World} (h : T8 w b8 b9 x1 y1 x2 y2 wx) : T8 w b8 b9 x1 y1 x2 y2 wx.drew := by
  obtain ⟨c0, c1, c2, c3, c4, c5, c6⟩ := h
  exact ⟨c0, c1, c2, c3, c4, c5, c6.drew⟩
theorem T8.grown {w : World} {p b8 b9 : Nat} {x1 y1 x2 y2 : Int} {wx w' : World} (g : wx.grownBy w' (some p)) (h : T8 w b8 b9 x1 y1 x2 y2 wx) (hp : w.heap.size ≤ p) (h8 : b8 ≠ p) (h9 : b9 ≠ p) : T8 w b8 b9 x1 y1 x2 y2 w' := by
  obtain ⟨c0, c1, c2, c3, c4, c5, c6⟩ := h
  exact ⟨((gcell g).1 b8 0 c4 h8).trans c0, ((gcell g).1 b8 1 c4 h8).trans c1, ((gcell g).1 b9 0 c5 h9).trans c2, ((gcell g).1 b9 1 c5 h9).trans c3, Nat.lt_of_lt_of_le c4 g.size, Nat.lt_of_lt_of_le c5 g.size, gNew c6 g hp⟩
theorem T8.set {w : World} {b8 b9 r o : Nat} {x1 y1 x2 y2 : Int} {u : Value} {wx : World} (h : T8 w b8 b9 x1 y1 x2 y2 wx) (hr : w.heap.size ≤ r) (h8 : b8 ≠ r) (h9 : b9 ≠ r) : T8 w b8 b9 x1 y1 x2 y2 (wx.setCell ⟨r, o, none⟩ u) := by
  obtain ⟨c0, c1, c2, c3, c4, c5, c6⟩ := h
  have E : ∀ b o', b ≠ r → (wx.setCell ⟨r, o, none⟩ u).cell? ⟨b, o', none⟩ = wx.cell? ⟨b, o', none⟩ := fun b o' hb => World.cell?_of_block (Below.heap_setCell _ _ _ _ hb)
  exact ⟨(E _ _ h8).trans c0, (E _ _ h8).trans c1, (E _ _ h9).trans c2, (E _ _ h9).trans c3, by simpa [World.setCell] using c4, by simpa [World.setCell] using c5, c6.setCell hr _⟩
def TpDraw (w : World) (e : Ending) (w' : World) : Prop :=
  ∃ (x1 y1 x2 y2 ra rb : Int) (l : Bool), e = .returned (.tuple #[.agg #[.int .i64 x1, .int .i64 y1], .agg #[.int .i64 x2, .int .i64 y2], .int .i64 ra, .int .i64 rb, .bool l]) ∧ (-1000000 ≤ ra ∧ ra ≤ 1000000) ∧ (-1000000 ≤ rb ∧ rb ≤ 1000000) ∧ Below w.heap.size w w'
set_option maxRecDepth 100000 in
set_option maxHeartbeats 8000000 in
theorem DrawThirdPoint_any (w : World) (a : Option Addr) (len cap : Nat) (zs : List Int) (h : IsRow .u8 w a len cap zs) :
    Calls Try.prog 25 #[.slice a len cap] w (TpDraw w) := by
  have HH := Lib.hid h
  have R1 := Lib.hid ((BoxL.new w [.int .i64 0, .int .i64 0] 38).alloc (.cells #[.int .i64 0, .int .i64 0] 38))
  have R2 := Lib.hid (BoxL.at_ (w := w.alloc (.cells #[.int .i64 0, .int .i64 0] 38)) (b := w.heap.size + 1) (vs := [.int .i64 0, .int .i64 0]) (T := 38) (by simp))
  have L0 := Lib.hid (bA (bA (bR w) (.cells #[.int .i64 0, .int .i64 0] 38)) (.cells #[.int .i64 0, .int .i64 0] 38))
  have hsz0 : ((w.alloc (.cells #[.int .i64 0, .int .i64 0] 38)).alloc (.cells #[.int .i64 0, .int .i64 0] 38)).heap.size = w.heap.size + 1 + 1 := by simp
  have HO2 := Lib.hid (show ∀ r, w.heap.size ≤ r → 0 < len → ∀ xb xo, a = some ⟨xb, xo, none⟩ → xb ≠ r from fun r hr hl xb xo e => by
    obtain ⟨xb', xo', z, e', hlt, _⟩ := (row_of h).2 0 hl
    rw [e] at e'
    cases e'
    omega)
  clear h
  go_enter Try.func25, Try.ntmps25
  go_wp2_with fail
  generalize (w.alloc (.cells #[.int .i64 0, .int .i64 0] 38)).alloc (.cells #[.int .i64 0, .int .i64 0] 38) = W0 at *
  refine (l00From_any _ a len cap zs (HH.out.keep L0.out)).mono ?_
  rintro e w1 ⟨rfl, s1, hb1⟩
  rw [hsz0] at s1
  have L1 := Lib.hid (bT L0.out hb1)
  have A1 := Lib.hid (R1.out.keep hb1)
  have B1 := Lib.hid (R2.out.keep hb1)
  have S1 := Lib.hid s1
  rw [hsz0]
  clear s1 hb1 R1 R2 L0 HH hsz0
  generalize hp : w.heap.size + 1 + 1 = p at *
  have hlt := S1.out.lt
  go_wp2_with fail
  refine (l09BentPoint_any _ p a len cap _ S1.out (by omega)).mono ?_
  rintro e w2 ⟨x1, y1, hx1, hy1, rfl, s2, g2⟩
  have hw2 : p < w2.heap.size := s2.lt
  have S2 := Lib.hid (s2.keep (bA (bR w2) (.cells #[.int .i64 x1, .int .i64 y1] 38)))
  have L2 := Lib.hid (bA (gNew L1.out g2 (by omega)) (.cells #[.int .i64 x1, .int .i64 y1] 38))
  have A2 := Lib.hid ((A1.out.grown g2 (by omega)).alloc (.cells #[.int .i64 x1, .int .i64 y1] 38))
  have B2 := Lib.hid ((B1.out.grown g2 (by omega)).alloc (.cells #[.int .i64 x1, .int .i64 y1] 38))
  have K2 := Lib.hid (BoxL.new w2 [.int .i64 x1, .int .i64 y1] 38)
  clear s2 g2 A1 B1 L1
  go_wp2_with fail
  generalize w2.alloc (.cells #[.int .i64 x1, .int .i64 y1] 38) = W2 at *
  generalize w2.heap.size = b8 at *
  refine (l09BentPoint_any _ p a len cap _ S2.out (by omega)).mono ?_
  rintro e w3 ⟨x2, y2, hx2, hy2, rfl, s3, g3⟩
  have hb : Below w3.heap.size w3 (w3.alloc (.cells #[.int .i64 x2, .int .i64 y2] 38)) := bA (bR w3) _
  have D3 : Hid (DtS w p a len cap (0 + 10 + 10) b8 w3.heap.size x1 y1 x2 y2 (w3.alloc (.cells #[.int .i64 x2, .int .i64 y2] 38))) := Lib.hid
    ⟨s3.keep hb, bT (gNew L2.out g3 (by omega)) hb, (A2.out.grown g3 (by omega)).keep hb, (B2.out.grown g3 (by omega)).keep hb, (K2.out.grown g3 (by omega)).keep hb, BoxL.new w3 [.int .i64 x2, .int .i64 y2] 38⟩
  have h89 : b8 < w3.heap.size := Nat.lt_of_lt_of_le K2.out.lt g3.size
  clear s3 g3 A2 B2 L2 K2 S2 hb
  go_wp2_with fail
  generalize w3.alloc (.cells #[.int .i64 x2, .int .i64 y2] 38) = W3 at *
  generalize w3.heap.size = b9 at *
  refine (one_any _ p a len cap _ 12 D3.out.s (by omega) (by omega) (by omega)).mono ?_
  rintro e w4 ⟨q, rfl, s4, g4⟩
  have D4 := Lib.hid (D3.out.grown hp.symm hw2 (by omega) s4 g4)
  clear D3 s4 g4
  go_upto_if 20 with fail
  go_cut [] (fun wx => ∃ x2 y2, (-1 ≤ x2 ∧ x2 ≤ 10001) ∧ (-1 ≤ y2 ∧ y2 ≤ 10001) ∧ DtS w p a len cap (0 + 10 + 10 + 2) b8 b9 x1 y1 x2 y2 wx)
  case first =>
    obtain ⟨⟨c0, c1⟩, ⟨c2, c3⟩, c4⟩ := D4.out.k8.g2
    obtain ⟨⟨d0, d1⟩, ⟨d2, d3⟩, d4⟩ := D4.out.k9.g2
    cases q
    · clear c0 c1 c2 c3 c4 d0 d1 d2 d3 d4
      go_wp2_with fail
      go_meet
      exact ⟨x2, y2, hx2, hy2, D4.out⟩
    · go_wp2_with fail
      go_meet
      exact ⟨x1, y1, hx1, hy1, D4.out.copy hp.symm hw2 h89 (HO2.out b9 (by omega))⟩
  case rest =>
    clear D4 hx2 hy2
    obtain ⟨x2, y2, hx2, hy2, D5⟩ := hcut
    have D5 := Lib.hid D5
    generalize wc = w5 at *
    go_wp2_with fail
    refine (l09DrawPoint_any _ p a len cap _ D5.out.s (by omega)).mono ?_
    rintro e w6 ⟨xc, yc, hxc, hyc, rfl, s6, g6⟩
    have D6 := Lib.hid ((D5.out.grown hp.symm hw2 (by omega) s6 g6).keep (bA (bR w6) (.cells #[.int .i64 xc, .int .i64 yc] 38)))
    have C6 := Lib.hid (BoxL.new w6 [.int .i64 xc, .int .i64 yc] 38)
    have hb10 : b9 < w6.heap.size := Nat.lt_of_lt_of_le D5.out.k9.lt g6.size
    clear s6 g6 D5
    obtain ⟨⟨c0, c1⟩, ⟨c2, c3⟩, c4⟩ := D6.out.k8.g2
    obtain ⟨⟨f0, f1⟩, ⟨f2, f3⟩, f4⟩ := C6.out.g2
    go_wp2_with fail
    generalize w6.alloc (.cells #[.int .i64 xc, .int .i64 yc] 38) = W6 at *
    generalize w6.heap.size = b10 at *
    refine (l09SquareW_any _ _ _ _ _ hx1 hy1 hxc hyc).mono ?_
    rintro e w7 ⟨rfl, hb⟩
    have D7 := Lib.hid (D6.out.keep hb)
    have C7 := Lib.hid (C6.out.keep hb)
    obtain ⟨_, _, q1, q2⟩ := d2_bdW hx1 hy1 hxc hyc
    have m1 : 0 ≤ min (d2 x1 y1 xc yc) 100000000 ∧ min (d2 x1 y1 xc yc) 100000000 ≤ 100000000 := by omega
    have t0 := (rt_is m1.1).1
    have t1 := rt_le (n := min (d2 x1 y1 xc yc) 100000000) (m := 10000) m1.1 (by omega) (by omega)
    have HR := Lib.hid (fun W => l09Root_any (min (d2 x1 y1 xc yc) 100000000) W m1.1 (by omega))
    clear hb D6 C6 c0 c1 c2 c3 c4 f0 f1 f2 f3 f4
    go_wp2_with fail
    refine (l00Min_any _ _ _).mono ?_
    rintro e w' ⟨rfl, rfl⟩
    generalize min (d2 x1 y1 xc yc) 100000000 = mn at *
    go_wp2_with fail
    refine (HR.out _).mono ?_
    rintro e w' ⟨rfl, rfl⟩
    generalize rt mn = rr at *
    go_wp2_with fail
    refine (pick_any _ p a len cap _ 3 D7.out.s (by omega) (by omega) (by omega)).mono ?_
    rintro e w8 ⟨u, u0, u1, rfl, s8, g8⟩
    have D8 := Lib.hid (D7.out.grown hp.symm hw2 (by omega) s8 g8)
    have C8 := Lib.hid (C7.out.grown g8 (by omega))
    clear s8 g8 D7 C7 HR
    obtain ⟨⟨c0, c1⟩, ⟨c2, c3⟩, c4⟩ := D8.out.k9.g2
    obtain ⟨⟨f0, f1⟩, ⟨f2, f3⟩, f4⟩ := C8.out.g2
    go_wp2_with fail
    have hra : -1000000 ≤ rr + u ∧ rr + u ≤ 1000000 := by omega
    generalize rr + u = ra at *
    refine (l09SquareW_any _ _ _ _ _ hx2 hy2 hxc hyc).mono ?_
    rintro e w9 ⟨rfl, hb⟩
    have D9 := Lib.hid (D8.out.keep hb)
    obtain ⟨_, _, q1, q2⟩ := d2_bdW hx2 hy2 hxc hyc
    have m1 : 0 ≤ min (d2 x2 y2 xc yc) 100000000 ∧ min (d2 x2 y2 xc yc) 100000000 ≤ 100000000 := by omega
    have t0 := (rt_is m1.1).1
    have t1 := rt_le (n := min (d2 x2 y2 xc yc) 100000000) (m := 10000) m1.1 (by omega) (by omega)
    have HR := Lib.hid (fun W => l09Root_any (min (d2 x2 y2 xc yc) 100000000) W m1.1 (by omega))
    clear hb D8 C8 c0 c1 c2 c3 c4 f0 f1 f2 f3 f4
    go_wp2_with fail
    refine (l00Min_any _ _ _).mono ?_
    rintro e w' ⟨rfl, rfl⟩
    generalize min (d2 x2 y2 xc yc) 100000000 = mn at *
    go_wp2_with fail
    refine (HR.out _).mono ?_
    rintro e w' ⟨rfl, rfl⟩
    generalize rt mn = rs at *
    go_wp2_with fail
    refine (pick_any _ p a len cap _ 3 D9.out.s (by omega) (by omega) (by omega)).mono ?_
    rintro e wa ⟨v, v0, v1, rfl, sa, ga⟩
    have Da := Lib.hid (D9.out.grown hp.symm hw2 (by omega) sa ga)
    clear sa ga D9 HR
    go_wp2_with fail
    have hrb : -1000000 ≤ rs + v ∧ rs + v ≤ 1000000 := by omega
    generalize rs + v = rb at *
    refine (one_any _ p a len cap _ 6 Da.out.s (by omega) (by omega) (by omega)).mono ?_
    rintro e wb ⟨q, rfl, sb, gb⟩
    have Db := Lib.hid (Da.out.grown hp.symm hw2 (by omega) sb gb)
    clear sb gb Da
    go_upto_if 41 with fail
    go_cut [11] (fun s wx => ∃ ra, s = .int .i64 ra ∧ (-1000000 ≤ ra ∧ ra ≤ 1000000) ∧ DtS w p a len cap 100 b8 b9 x1 y1 x2 y2 wx)
    case first =>
      cases q
      · go_wp2_with fail
        go_meet
        exact ⟨ra, rfl, hra, ⟨Db.out.s.mono (by omega), Db.out.l, Db.out.r1, Db.out.r2, Db.out.k8, Db.out.k9⟩⟩
      · go_wp2_with fail
        refine (pick_any _ p a len cap _ 400 Db.out.s (by omega) (by omega) (by omega)).mono ?_
        rintro e wd ⟨z, z0, z1, rfl, sd, gd⟩
        have Dd := Lib.hid (Db.out.grown hp.symm hw2 (by omega) sd gd)
        clear sd gd Db
        go_wp2_with fail
        go_meet
        exact ⟨z, rfl, by omega, ⟨Dd.out.s.mono (by omega), Dd.out.l, Dd.out.r1, Dd.out.r2, Dd.out.k8, Dd.out.k9⟩⟩
    case rest =>
      clear Db hra
      obtain ⟨ra, rfl, hra, De⟩ := hcut
      have De := Lib.hid De
      generalize wc = we at *
      go_wp2_with fail
      refine (one_any _ p a len cap _ 20 De.out.s (by omega) (by omega) (by omega)).mono ?_
      rintro e wf ⟨q, rfl, sf, gf⟩
      have Df := Lib.hid (De.out.grown hp.symm hw2 (by omega) sf gf)
      clear sf gf De
      go_upto_if 45 with fail
      go_cut [12] (fun s wx => ∃ rb, s = .int .i64 rb ∧ (-1000000 ≤ rb ∧ rb ≤ 1000000) ∧ DtS w p a len cap 200 b8 b9 x1 y1 x2 y2 wx)
      case first =>
        cases q
        · go_wp2_with fail
          go_meet
          exact ⟨rb, rfl, hrb, ⟨Df.out.s.mono (by omega), Df.out.l, Df.out.r1, Df.out.r2, Df.out.k8, Df.out.k9⟩⟩
        · go_wp2_with fail
          refine (among_any _ p a len cap _ _ 4 (-1) 10001 (Df.out.s.keep (bA (bR _) _)) (by omega) (by omega) (by omega) (by have := Df.out.s.lt; omega) (by simp) ?hnu).mono ?_
          case hnu =>
            intro i hi
            match i, hi with
            | 0, _ => exact ⟨_, by simp [go_sem]; rfl, by omega, by omega⟩
            | 1, _ => exact ⟨_, by simp [go_sem]; rfl, by omega, by omega⟩
            | 2, _ => exact ⟨_, by simp [go_sem]; rfl, by omega, by omega⟩
            | 3, _ => exact ⟨_, by simp [go_sem]; rfl, by omega, by omega⟩
          rintro e wg ⟨z, z0, z1, rfl, sg, gg⟩
          have Dg := Lib.hid ((Df.out.keep (bA (bR _) _)).grown hp.symm hw2 (by omega) sg gg)
          clear sg gg Df
          go_wp2_with fail
          go_meet
          exact ⟨z, rfl, by omega, ⟨Dg.out.s.mono (by omega), Dg.out.l, Dg.out.r1, Dg.out.r2, Dg.out.k8, Dg.out.k9⟩⟩
      case rest =>
        clear Df hrb
        obtain ⟨rb, rfl, hrb, Dh⟩ := hcut
        have Dh := Lib.hid Dh
        generalize wc = wh at *
        have H0 := T8.of Dh.out
        have S0 := Lib.hid (Dh.out.s.keep (bR wh).drew)
        have Q1 := Lib.hid (Dh.out.r1.keep (bR wh).drew)
        have Q2 := Lib.hid (Dh.out.r2.keep (bR wh).drew)
        have o1 := Lib.hid (HO2.out w.heap.size (Nat.le_refl _))
        have o2 := Lib.hid (HO2.out (w.heap.size + 1) (by omega))
        have n1 : w.heap.size ≠ p := by omega
        have n2 : w.heap.size + 1 ≠ p := by omega
        have m8 : b8 ≠ w.heap.size := by omega
        have m9 : b9 ≠ w.heap.size := by omega
        have k8 : b8 ≠ w.heap.size + 1 := by omega
        have k9 : b9 ≠ w.heap.size + 1 := by omega
        have p8 : b8 ≠ p := by omega
        have p9 : b9 ≠ p := by omega
        have hwp : w.heap.size ≤ p := by omega
        have hl1 : w.heap.size ≤ w.heap.size + 1 := by omega
        obtain ⟨⟨z0, z1⟩, ⟨z2, z3⟩, z4⟩ := Q1.out.g2
        obtain ⟨⟨v0, v1⟩, ⟨v2, v3⟩, v4⟩ := Q2.out.g2
        clear Dh hp
        go_upto_region 13 with fail
        have r12 : w.heap.size ≠ w.heap.size + 1 := by omega
        have r21 : w.heap.size + 1 ≠ w.heap.size := by omega
        go_region_held3 (fun w' => w'.cell? ⟨b8, 0, none⟩ = some (.int .i64 x1) ∧ w'.cell? ⟨b8, 1, none⟩ = some (.int .i64 y1) ∧ w'.cell? ⟨b9, 0, none⟩ = some (.int .i64 x2) ∧ w'.cell? ⟨b9, 1, none⟩ = some (.int .i64 y2) ∧ b8 < w'.heap.size ∧ b9 < w'.heap.size ∧ Below w.heap.size w w')
          (first | exact H0.drew | assumption | exact T8.grown g (by first | assumption | exact H0.drew) hwp p8 p9 | exact T8.set (T8.set (by first | assumption | exact H0.drew) (Nat.le_refl _) m8 m9) (Nat.le_refl _) m8 m9 | exact T8.set (T8.set (by first | assumption | exact H0.drew) hl1 k8 k9) hl1 k8 k9)
          (first
            | (go_at_call 61; refine (one_any _ p a len cap 200 2 (by (first | exact S0.out | exact (S0.out.set n1 o1.out).set n1 o1.out | exact (S0.out.set n2 o2.out).set n2 o2.out | exact (((S0.out.set n1 o1.out).set n1 o1.out).set n2 o2.out).set n2 o2.out | exact (((S0.out.set n2 o2.out).set n2 o2.out).set n1 o1.out).set n1 o1.out)) (by omega) (by omega) (by omega)).mono ?_; rintro e w' ⟨q, rfl, s', g⟩; (first | (have Z1 := Lib.hid (BoxL.grown Q1.out g n1)) | (have Z1 := Lib.hid (BoxL.grown (Q1.out.set2 (.int .i64 x1) (.int .i64 y1)) g n1)) | (have Z1 := Lib.hid (BoxL.grown ((Q1.out.other r12).other r12) g n1)) | (have Z1 := Lib.hid (BoxL.grown (((Q1.out.set2 (.int .i64 x1) (.int .i64 y1)).other r12).other r12) g n1)) | (have Z1 := Lib.hid (BoxL.grown (((Q1.out.other r12).other r12).set2 (.int .i64 x1) (.int .i64 y1)) g n1))); (first | (have Z2 := Lib.hid (BoxL.grown Q2.out g n2)) | (have Z2 := Lib.hid (BoxL.grown (Q2.out.set2 (.int .i64 x2) (.int .i64 y2)) g n2)) | (have Z2 := Lib.hid (BoxL.grown ((Q2.out.other r21).other r21) g n2)) | (have Z2 := Lib.hid (BoxL.grown (((Q2.out.set2 (.int .i64 x2) (.int .i64 y2)).other r21).other r21) g n2)) | (have Z2 := Lib.hid (BoxL.grown (((Q2.out.other r21).other r21).set2 (.int .i64 x2) (.int .i64 y2)) g n2))); obtain ⟨⟨y0', y1'⟩, ⟨y2', y3'⟩, y4'⟩ := Z1.out.g2; obtain ⟨⟨t0', t1'⟩, ⟨t2', t3'⟩, t4'⟩ := Z2.out.g2))
        have HT : T8 w b8 b9 x1 y1 x2 y2 ((((w'.setCell ⟨w.heap.size, 0, none⟩ (.int .i64 x1)).setCell ⟨w.heap.size, 1, none⟩ (.int .i64 y1)).setCell ⟨w.heap.size + 1, 0, none⟩ (.int .i64 x2)).setCell ⟨w.heap.size + 1, 1, none⟩ (.int .i64 y2)) := by assumption
        have HU := Lib.hid HT.2.2.2.2.2.2
        clear HT
        go_wp2_with fail
        refine bodyPost_ret (v := .tuple #[.agg #[.int .i64 x1, .int .i64 y1], .agg #[.int .i64 x2, .int .i64 y2], .int .i64 ra, .int .i64 rb, .bool q]) ?_ rfl ⟨x1, y1, x2, y2, ra, rb, q, rfl, hra, hrb, HU.out⟩
        simp [results, Try.results25, go_sem, y0', y1', t0', t1']
end Go.Proofs.Ytclefibjmnabbaa
