/-
  toPlate with its row named; MirrorPlate's and TurnPlate's results in one form.
-/
import Derived.Test.YtmhheecjpalajaaPlF
import Derived.Test.YtmhheecjpalajaaPlP
namespace Go.Proofs.Ytmhheecjpalajaa
open Go.RowKit Go.Joins

def ToPlAt (w : World) (p : Pl4) (ss : List Sit) (e : Ending) (w' : World) : Prop := ∃ g, e = .returned (plV p (.slice (some ⟨g, 0, none⟩) ss.length ss.length)) ∧ OwSi w.heap.size w' (.slice (some ⟨g, 0, none⟩) ss.length ss.length) ss ∧ Below w.heap.size w w'
set_option maxRecDepth 100000 in
set_option maxHeartbeats 4000000 in
theorem toPlate_at (v : Value) (p : Pl4) (ss : List Sit) (w : World) (h : IsPt w v p ss) (hl : ss.length ≤ 1048576) :
    Calls Try.prog 9 #[v] w (ToPlAt w p ss) := by
  obtain ⟨a, len, cap, rfl, hA⟩ := h
  obtain ⟨W, H, M, G⟩ := p
  unfold plV
  have A2 := Lib.hid ((BoxL.at_ (w := w.alloc (.cells #[.int .i64 W, .int .i64 H, .int .i64 M, .int .i64 G, .slice a len cap] 24)) (b := w.heap.size + 1) (vs := [.int .i64 0, .int .i64 0, .int .i64 0, .int .i64 0, .slice none 0 0]) (T := 28) (by simp)).alloc (.cells #[.int .i64 W, .int .i64 H, .int .i64 M, .int .i64 G, .slice none 0 0] 28))
  have A3 := Lib.hid (BoxL.at_ (w := (w.alloc (.cells #[.int .i64 W, .int .i64 H, .int .i64 M, .int .i64 G, .slice a len cap] 24)).alloc (.cells #[.int .i64 0, .int .i64 0, .int .i64 0, .int .i64 0, .slice none 0 0] 28)) (b := w.heap.size + 1 + 1) (vs := [.int .i64 W, .int .i64 H, .int .i64 M, .int .i64 G, .slice none 0 0]) (T := 28) (by simp))
  have L0 := Lib.hid (bA (bA (bA (bR w) (.cells #[.int .i64 W, .int .i64 H, .int .i64 M, .int .i64 G, .slice a len cap] 24)) (.cells #[.int .i64 0, .int .i64 0, .int .i64 0, .int .i64 0, .slice none 0 0] 28)) (.cells #[.int .i64 W, .int .i64 H, .int .i64 M, .int .i64 G, .slice none 0 0] 28))
  have HA := Lib.hid (hA.keep L0.out)
  clear hA
  go_enter Try.func9, Try.ntmps9
  go_wp2_with fail
  generalize ((w.alloc (.cells #[.int .i64 W, .int .i64 H, .int .i64 M, .int .i64 G, .slice a len cap] 24)).alloc (.cells #[.int .i64 0, .int .i64 0, .int .i64 0, .int .i64 0, .slice none 0 0] 28)).alloc (.cells #[.int .i64 W, .int .i64 H, .int .i64 M, .int .i64 G, .slice none 0 0] 28) = W0 at *
  refine (toSiteS_any a len cap ss _ HA.out hl).mono ?_
  rintro e w1 ⟨rfl, hu, hb⟩
  have L1 := Lib.hid (bT L0.out hb)
  obtain ⟨z0, z1, z2, z3, z4, z5⟩ := (A2.out.keep hb).c5
  obtain ⟨y0, y1, y2, y3, y4⟩ := (A2.out.keep hb).f5
  obtain ⟨u0, u1, u2, u3, u4, u5⟩ := (A3.out.keep hb).c5
  obtain ⟨v0, v1, v2, v3, v4⟩ := (A3.out.keep hb).f5
  have hlt := A3.out.lt
  have P1 := Lib.hid hu
  clear hb hu A2 A3 L0 HA
  generalize W0.heap.size = g at *
  generalize hb3 : w.heap.size + 1 + 1 = b3 at *
  generalize hb2 : w.heap.size + 1 = b2 at *
  have hn23 : ¬ b2 = b3 := by omega
  have hn32 : ¬ b3 = b2 := by omega
  have hl2 : w.heap.size ≤ b2 := by omega
  have hl3 : w.heap.size ≤ b3 := by omega
  have hg2 : b2 < g := by omega
  have hg3 : b3 < g := hlt
  have hg : w.heap.size ≤ g := by omega
  have PF := Lib.hid ((((((P1.out.other (b := b3) (o := 4) (x := .slice (some ⟨g, 0, none⟩) ss.length ss.length) hg3).other (b := b2) (o := 0) (x := .int .i64 W) hg2).other (b := b2) (o := 1) (x := .int .i64 H) hg2).other (b := b2) (o := 2) (x := .int .i64 M) hg2).other (b := b2) (o := 3) (x := .int .i64 G) hg2).other (b := b2) (o := 4) (x := .slice (some ⟨g, 0, none⟩) ss.length ss.length) hg2)
  go_wp2_with fail
  refine bodyPost_ret (v := .agg #[.int .i64 W, .int .i64 H, .int .i64 M, .int .i64 G, .slice (some ⟨g, 0, none⟩) ss.length ss.length]) ?_ rfl ⟨_, rfl, PF.out.low hg, ((((((L1.out.setCell hl3 _).setCell hl2 _).setCell hl2 _).setCell hl2 _).setCell hl2 _).setCell hl2 _)⟩
  simp [results, Try.results9, go_sem, z0, z1, z2, z3, z4]

theorem OwSi.at_ {B g cap : Nat} {W : World} {ss : List Sit} (h : OwSi B W (.slice (some ⟨g, 0, none⟩) ss.length cap) ss) : B ≤ g ∧ g < W.heap.size ∧ SitesAt W g ss :=
  ⟨(own_blk h.2.2 g rfl).1, (own_blk h.2.2 g rfl).2, own_sites h.2.2 h.2.1⟩
theorem mk_ow {B k n : Nat} {W : World} {v : Value} (h : W.ownsRow B 88 5 v n (siC (mkSi k n))) (hn : n ≤ 1048576) (hk : k ≤ 100000000) : OwSi B W v (mkSi k n) :=
  ⟨by rw [mkSi_len]; exact hn, fun i hi => by rw [mkSi_len] at hi; rw [mkSi_at hi]; exact mkT_size (by omega), by rw [mkSi_len]; exact h⟩
def MpU (q : Pl4) (rs : List Sit) (s : Int) (w : World) (e : Ending) (w' : World) : Prop := ∃ u, e = .returned (.tuple #[plV q u, .int .i64 s]) ∧ OwSi w.heap.size w' u rs ∧ Below w.heap.size w w'
theorem MpRet.u {p : Pl4} {m : Int} {ss : List Sit} : ∃ q rs s, rs.length ≤ ss.length ∧ ∀ w e w', MpRet p m ss w e w' → MpU q rs s w e w' := by
  cases ho : okPl p.W p.H p.M p.G ss
  · refine ⟨⟨0, 0, 0, 0⟩, [], 1, by simp, ?_⟩
    rintro w e w' (⟨h, _⟩ | ⟨_, rfl, hb⟩)
    · rw [ho] at h; cases h
    · exact ⟨_, rfl, ⟨by simp, fun i hi => absurd hi (Nat.not_lt_zero _), ⟨by simp [siC], .inl ⟨rfl, rfl⟩⟩⟩, hb⟩
  · refine ⟨mvP p m, ss.map (mvS p.W p.H m), 0, by simp, ?_⟩
    rintro w e w' (⟨_, h⟩ | ⟨h, _⟩)
    · exact h
    · rw [ho] at h; cases h
theorem BoxL.grownM {w w' : World} {b : Nat} {vs : List Value} {row : Option Nat} (h : BoxL w b vs) (g : w.grownBy w' row) (hn : some b ≠ row) : BoxL w' b vs := by
  have e := g.block b h.lt hn
  refine ⟨fun i x hi => ?_, fun i x hi => ?_, Nat.lt_of_lt_of_le h.lt g.size⟩
  · have := h.c i x hi
    unfold World.cell? at this ⊢
    simpa [e] using this
  · have := h.f i x hi
    unfold World.frozen? at this ⊢
    simpa [e] using this
theorem ownM {W W' : World} {B : Nat} {t : TypeId} {sz n : Nat} {v : Value} {xs : List Value} {row : Option Nat} (h : W.ownsRow B t sz v n xs) (g : W.grownBy W' row) (hne : ∀ k, v.ownBlock = some k → some k ≠ row) : W'.ownsRow B t sz v n xs := by
  refine ⟨h.1, ?_⟩
  rcases h.2 with h0 | ⟨g', cap, cur, h0, hB, hh, r⟩
  · exact .inl h0
  · exact .inr ⟨g', cap, cur, h0, hB, (g.block g' (Array.getElem?_eq_some_iff.1 hh).1 (fun e => hne g' (by rw [h0]; rfl) e)).trans hh, r⟩
theorem OwSi.grownM {W W' : World} {B : Nat} {v : Value} {ss : List Sit} {row : Option Nat} (h : OwSi B W v ss) (g : W.grownBy W' row) (hne : ∀ k, v.ownBlock = some k → some k ≠ row) : OwSi B W' v ss := ⟨h.1, h.2.1, ownM h.2.2 g hne⟩
/-- What a law with a plate as its result keeps beside its argument's box. -/
structure RwM (B3 B5 B4 bw bg : Nat) (q : List Value) (uw ug u : Value) (rs ss : List Sit) (w' : World) : Prop where
  ow : OwSi B3 w' uw rs
  og : OwSi B5 w' ug rs
  ox : OwSi B4 w' u ss
  bw : BoxL w' bw (q ++ [uw])
  bg : BoxL w' bg (q ++ [ug])
theorem RwM.keep {B3 B5 B4 bw bg : Nat} {q : List Value} {uw ug u : Value} {rs ss : List Sit} {w' w2 : World} (h : RwM B3 B5 B4 bw bg q uw ug u rs ss w') (hb : Below w'.heap.size w' w2) : RwM B3 B5 B4 bw bg q uw ug u rs ss w2 := ⟨h.ow.keep hb, h.og.keep hb, h.ox.keep hb, h.bw.keep hb, h.bg.keep hb⟩
def FinM (W0 : World) (bl bx : Nat) (W H M G : Int) (pa : Option Addr) (pn pc : Nat) (u : Value) (ss : List Sit) (R : World → Prop) (w' : World) : Prop :=
  w'.cell? ⟨bl, 0, none⟩ = some (.int .i64 W) ∧ w'.cell? ⟨bl, 1, none⟩ = some (.int .i64 H) ∧ w'.cell? ⟨bl, 2, none⟩ = some (.int .i64 M) ∧ w'.cell? ⟨bl, 3, none⟩ = some (.int .i64 G) ∧ w'.cell? ⟨bl, 4, none⟩ = some (.slice pa pn pc) ∧ w'.cell? ⟨bx, 0, none⟩ = some (.int .i64 W) ∧ w'.cell? ⟨bx, 1, none⟩ = some (.int .i64 H) ∧ w'.cell? ⟨bx, 2, none⟩ = some (.int .i64 M) ∧ w'.cell? ⟨bx, 3, none⟩ = some (.int .i64 G) ∧ w'.cell? ⟨bx, 4, none⟩ = some u ∧ bl < w'.heap.size ∧ bx < w'.heap.size ∧ IsSi w' pa pn pc ss ∧ BoxL w' bl [.int .i64 W, .int .i64 H, .int .i64 M, .int .i64 G, .slice pa pn pc] ∧ Below W0.heap.size W0 w' ∧ R w'
theorem FinM.keep {W0 : World} {bl bx : Nat} {W H M G : Int} {pa : Option Addr} {pn pc : Nat} {u : Value} {ss : List Sit} {B3 B5 B4 bw bg : Nat} {q : List Value} {uw ug : Value} {rs : List Sit} {w' w2 : World} (hb : Below w'.heap.size w' w2) (h : FinM W0 bl bx W H M G pa pn pc u ss (RwM B3 B5 B4 bw bg q uw ug u rs ss) w') : FinM W0 bl bx W H M G pa pn pc u ss (RwM B3 B5 B4 bw bg q uw ug u rs ss) w2 := by
  obtain ⟨a0, a1, a2, a3, a4, c0, c1, c2, c3, c4, e1, e2, e3, e4, e5, e6⟩ := h
  exact ⟨(hb.cell (p := ⟨bl, 0, none⟩) e1).trans a0, (hb.cell (p := ⟨bl, 1, none⟩) e1).trans a1, (hb.cell (p := ⟨bl, 2, none⟩) e1).trans a2, (hb.cell (p := ⟨bl, 3, none⟩) e1).trans a3, (hb.cell (p := ⟨bl, 4, none⟩) e1).trans a4,
    (hb.cell (p := ⟨bx, 0, none⟩) e2).trans c0, (hb.cell (p := ⟨bx, 1, none⟩) e2).trans c1, (hb.cell (p := ⟨bx, 2, none⟩) e2).trans c2, (hb.cell (p := ⟨bx, 3, none⟩) e2).trans c3, (hb.cell (p := ⟨bx, 4, none⟩) e2).trans c4, Nat.lt_of_lt_of_le e1 hb.size, Nat.lt_of_lt_of_le e2 hb.size, e3.keep hb, e4.keep hb, bT e5 hb, e6.keep hb⟩
theorem FinM.drew {W0 : World} {bl bx : Nat} {W H M G : Int} {pa : Option Addr} {pn pc : Nat} {u : Value} {ss : List Sit} {B3 B5 B4 bw bg : Nat} {q : List Value} {uw ug : Value} {rs : List Sit} {w' : World} (h : FinM W0 bl bx W H M G pa pn pc u ss (RwM B3 B5 B4 bw bg q uw ug u rs ss) w') : FinM W0 bl bx W H M G pa pn pc u ss (RwM B3 B5 B4 bw bg q uw ug u rs ss) w'.drew := h.keep (bR _).drew
end Go.Proofs.Ytmhheecjpalajaa
