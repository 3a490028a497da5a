/-
  A train that is drawn: the contracts of spec.l05Draw and spec.A2Train.
-/
import Derived.Test.YtclefibjmnabbaaTrI
import Derived.Test.YtclefibjmnabbaaDraw2
namespace Go.Proofs.Ytclefibjmnabbaa
open Go.RowKit

theorem infoPr : (Try.prog.info? 67).map (fun i => (i.zero, i.size, i.bytes)) = some (some (.agg #[.int .i64 0, .int .i64 0]), 2, 16) := by kernel_rfl
theorem own_grown {W W' : World} {B : Nat} {t : TypeId} {sz n p : Nat} {v : Value} {xs : List Value} (h : W.ownsRow B t sz v n xs) (g : W.grownBy W' (some p)) (hp : p < B) : W'.ownsRow B t sz v n xs := by
  refine ⟨h.1, ?_⟩
  rcases h.2 with h0 | ⟨g', cap, cur, h0, hB, hh, r⟩
  · exact .inl h0
  · exact .inr ⟨g', cap, cur, h0, hB, (g.block g' (Array.getElem?_eq_some_iff.1 hh).1 (fun e => by cases e; omega)).trans hh, r⟩
theorem SrcAt.grown {W W' : World} {p : Nat} {a : Option Addr} {len cap c : Nat} {row : Option Nat} (h : SrcAt W p a len cap c) (g : W.grownBy W' row) (hp : row ≠ some p) (hx : 0 < len → ∀ xb xo, a = some ⟨xb, xo, none⟩ → row ≠ some xb) : SrcAt W' p a len cap c := by
  have hb : W'.heap[p]? = W.heap[p]? := g.block p h.lt (Ne.symm hp)
  obtain ⟨n, hn, e1⟩ := h.c1
  obtain ⟨s, e2⟩ := h.c2
  refine ⟨(World.cell?_of_block hb).trans h.c0, ⟨n, hn, (World.cell?_of_block hb).trans e1⟩, ⟨s, (World.cell?_of_block hb).trans e2⟩, (World.frozen?_of_block hb).trans h.f1, (World.frozen?_of_block hb).trans h.f2, Nat.lt_of_lt_of_le h.lt g.size, ?_, h.len0⟩
  intro i hi
  obtain ⟨xb, xo, z, hx', hxp, hcz, z0, z1⟩ := h.row i hi
  have hlt : xb < W.heap.size := by
    by_cases hb' : xb < W.heap.size
    · exact hb'
    · exfalso
      have : W.heap[xb]? = none := by simp; omega
      simp [World.cell?, this] at hcz
  exact ⟨xb, xo, z, hx', hxp, (World.cell?_of_block (g.block xb hlt (Ne.symm (hx (by omega) xb xo hx')))).trans hcz, z0, z1⟩
theorem gGrown {w W W' : World} {p : Nat} {row : Option Nat} (h : w.grownBy W (some p)) (g : W.grownBy W' row) (hr : ∀ r, row = some r → w.heap.size ≤ r) : w.grownBy W' (some p) :=
  ⟨g.os.trans h.os, g.tape.trans h.tape, g.output.trans h.output, Nat.le_trans h.size g.size, fun k hk hn => (g.block k (Nat.lt_of_lt_of_le hk h.size) (fun e => by have := hr k e.symm; omega)).trans (h.block k hk hn)⟩
theorem rowPair_new (w : World) (t : TypeId) : (w.alloc (.cells #[] t)).ownsRow w.heap.size t 2 (.slice (some ⟨w.heap.size, 0, none⟩) 0 0) 0 [] :=
  ⟨rfl, .inr ⟨w.heap.size, 0, #[], rfl, Nat.le_refl _, (MapKept.heap_alloc w _).1, Nat.le_refl _, Nat.zero_le _, rfl, rfl⟩⟩
/-- What stands between two rounds. -/
def DTRel (w : World) (p : Nat) (a : Option Addr) (len cap c m : Nat) (out k : Value) (wr : World) : Prop :=
  ∃ (j : Nat) (ps : List (Int × Int)), k = .int .i64 j ∧ ps.length + j ≤ m ∧ (∀ q ∈ ps, okP q = true) ∧ wr.ownsRow w.heap.size 67 2 out ps.length (pairC ps) ∧ SrcAt wr p a len cap (c + 2 + 4 * ps.length) ∧ w.grownBy wr (some p)
/-- What is drawn: a train of at most m pairs, in a row of its own. -/
def DTPost (w : World) (p : Nat) (a : Option Addr) (len cap c m : Nat) (e : Ending) (w' : World) : Prop :=
  ∃ (ps : List (Int × Int)) (v : Value), e = .returned v ∧ ps.length ≤ m ∧ (∀ q ∈ ps, okP q = true) ∧ w'.ownsRow w.heap.size 67 2 v ps.length (pairC ps) ∧ SrcAt w' p a len cap (c + 2 + 4 * m) ∧ w.grownBy w' (some p)
theorem src2 {W : World} {b : Nat} {x y : Value} (c0 : W.cell? ⟨b, 0, none⟩ = some x) (c1 : W.cell? ⟨b, 1, none⟩ = some y) : ∀ (j : Nat) (u : Value), [x, y][j]? = some u → W.cell? ((⟨b, 0, none⟩ : Addr).add j) = some u := by
  intro j u hj
  match j, hj with
  | 0, hj => simp at hj; subst hj; simpa [Addr.add] using c0
  | 1, hj => simp at hj; subst hj; simpa [Addr.add] using c1
  | (j + 2), hj => simp at hj
theorem two_new (W : World) (n : Nat) (x y : Value) (t : TypeId) (h : W.heap.size = n) : ∀ (j : Nat) (u : Value), [x, y][j]? = some u → (W.alloc (.cells #[x, y] t)).cell? ((⟨n, 0, none⟩ : Addr).add j) = some u := by
  subst h
  exact src2 (by simp [go_sem]) (by simp [go_sem])
set_option maxRecDepth 100000 in
set_option maxHeartbeats 4000000 in
theorem l05Draw_any (w : World) (p : Nat) (a : Option Addr) (len cap c m : Nat) (h : SrcAt w p a len cap c) (hc : c ≤ 800000) (hm : m ≤ 20) :
    Calls Try.prog 82 #[.pointer (some ⟨p, 0, none⟩), .int .i64 m] w (DTPost w p a len cap c m) := by
  obtain ⟨i0, hi, hz0, hz1, hz2⟩ := info_parts infoPr
  have hlt := h.lt
  have HOLD := Lib.hid (fun hl => h.old hl (Nat.le_refl w.heap.size))
  have HLT := Lib.hid (fun (hl : 0 < len) (xb xo : Nat) (e : a = some ⟨xb, xo, none⟩) => (show xb < w.heap.size by
    obtain ⟨xb', xo', z, hx', hxp, hcz, z0, z1⟩ := h.row 0 hl
    rw [hx'] at e; cases e
    by_cases hb' : xb < w.heap.size
    · exact hb'
    · exfalso
      have : w.heap[xb]? = none := by simp; omega
      simp [World.cell?, this] at hcz))
  have HH := Lib.hid h
  clear h
  go_enter Try.func82, Try.ntmps82
  go_wp2_with fail
  refine (pick_any _ p a len cap c ((m : Int) + 1) (HH.out.keep (bA (bR _) _)) (by omega) (by omega) (by omega)).mono ?_
  rintro e w1 ⟨v, v0, v1, rfl, s1, g1⟩
  obtain ⟨j0, rfl⟩ := Int.eq_ofNat_of_zero_le v0
  have RS := Lib.hid (show DTRel w p a len cap c m (.slice (some ⟨w.heap.size, 0, none⟩) 0 0) (.int .i64 (j0 : Int)) w1 from
    ⟨j0, [], rfl, by simp; omega, fun q hq => by simp at hq, by
      have := own_grown (p := p) (rowPair_new w 67) g1 (by omega)
      simpa [pairC] using this, by simpa using s1, gFrom g1⟩)
  clear s1 g1 v0 v1 HH
  go_wp2_with fail
  go_loopw [5, 6] (fun out k wr => DTRel w p a len cap c m out k wr) (fun _ k _ => (intOf k).toNat)
  case atStart => exact RS.out
  case round =>
    obtain ⟨j, ps, rfl, hjm, hok, hown, hsrc, hgr⟩ := hrel
    have HOK := Lib.hid hok
    have HO := Lib.hid hown
    have HS := Lib.hid hsrc
    have HG := Lib.hid hgr
    have hw := hgr.size
    have HOB := Lib.hid (own_blk hown)
    clear hok hown hsrc hgr
    by_cases hj : 0 < j
    · have hp1 : p ≠ wr.heap.size := by omega
      go_wp2_with fail
      refine (among_any _ p a len cap _ _ 8 6 240 (HS.out.keep (bA (bR _) _)) (by omega) (by omega) (by omega) (Ne.symm hp1) (by simp) ?hnu).mono ?_
      case hnu =>
        intro i hi
        match i, hi with
        | 0, _ => exact ⟨_, by simp [go_sem]; rfl, by omega, by omega⟩
        | 1, _ => exact ⟨_, by simp [go_sem]; rfl, by omega, by omega⟩
        | 2, _ => exact ⟨_, by simp [go_sem]; rfl, by omega, by omega⟩
        | 3, _ => exact ⟨_, by simp [go_sem]; rfl, by omega, by omega⟩
        | 4, _ => exact ⟨_, by simp [go_sem]; rfl, by omega, by omega⟩
        | 5, _ => exact ⟨_, by simp [go_sem]; rfl, by omega, by omega⟩
        | 6, _ => exact ⟨_, by simp [go_sem]; rfl, by omega, by omega⟩
        | 7, _ => exact ⟨_, by simp [go_sem]; rfl, by omega, by omega⟩
      rintro e w2 ⟨x, x0, x1, rfl, s2, g2⟩
      have S2 := Lib.hid s2
      have O2 := Lib.hid (own_grown (p := p) (HO.out.alloc _) g2 (by omega))
      have G2 := Lib.hid (gTrans (gAlloc HG.out _) g2)
      have hw2 := G2.out.size
      have hw2' : wr.heap.size < w2.heap.size := by have := g2.size; simp at this; omega
      clear s2 g2 HO HS HG
      have hp2 : p ≠ w2.heap.size := by omega
      go_wp2_with fail
      refine (among_any _ p a len cap _ _ 8 6 240 ((S2.out.keep (bA (bR _) _)).keep (bA (bR _) _)) (by omega) (by omega) (by omega) (by simp; omega) (by simp) ?hnv).mono ?_
      case hnv =>
        intro i hi
        match i, hi with
        | 0, _ => exact ⟨_, by simp [go_sem]; rfl, by omega, by omega⟩
        | 1, _ => exact ⟨_, by simp [go_sem]; rfl, by omega, by omega⟩
        | 2, _ => exact ⟨_, by simp [go_sem]; rfl, by omega, by omega⟩
        | 3, _ => exact ⟨_, by simp [go_sem]; rfl, by omega, by omega⟩
        | 4, _ => exact ⟨_, by simp [go_sem]; rfl, by omega, by omega⟩
        | 5, _ => exact ⟨_, by simp [go_sem]; rfl, by omega, by omega⟩
        | 6, _ => exact ⟨_, by simp [go_sem]; rfl, by omega, by omega⟩
        | 7, _ => exact ⟨_, by simp [go_sem]; rfl, by omega, by omega⟩
      rintro e w3 ⟨y, y0, y1, rfl, s3, g3⟩
      have S3 := Lib.hid s3
      have O3 := Lib.hid (own_grown (p := p) ((O2.out.alloc _).alloc _) g3 (by omega))
      have G3 := Lib.hid (gTrans (gAlloc (gAlloc G2.out _) _) g3)
      have B3 := Lib.hid (((Box2.new w2 x 0 67).alloc _).grown g3 (by simp; omega))
      have hw3 := G3.out.size
      have hw3' : w2.heap.size + 1 < w3.heap.size := by have := g3.size; simp at this; omega
      clear s3 g3 S2 O2 G2
      obtain ⟨k0, k1, k2, k3, k4⟩ := B3.out
      have O4 := Lib.hid (ownsRow_setCell_other (a := ⟨w2.heap.size, 1, none⟩) O3.out (fun e => by have := (HOB.out _ e).2; simp at this; omega) (.int .i64 y))
      have G4 := Lib.hid (gSet (o := 1) (v := .int .i64 y) G3.out (show w.heap.size ≤ w2.heap.size by omega))
      have S4 := Lib.hid (S3.out.set (o := 1) (v := .int .i64 y) (Ne.symm hp2) (fun hl xb xo e => by have := HLT.out hl xb xo e; omega))
      have z4 : (w3.setCell ⟨w2.heap.size, 1, none⟩ (.int .i64 y)).heap.size = w3.heap.size := by simp [World.setCell]
      have Z4 := Lib.hid z4
      clear O3 G3 S3 B3 z4
      go_wp2_with (at_builtin; refine wpList_append_own _ rfl _ _ 27 rfl w.heap.size 67 i0 (.agg #[.int .i64 0, .int .i64 0]) 2 16 Try.underlying27 hi hz0 hz1 hz2 rfl (by decide) _ ps.length (pairC ps) rfl (O4.out.alloc _) ⟨w3.heap.size, 0, none⟩ 1 1 [.int .i64 x, .int .i64 y] rfl ?d1 ?d2 ?d3 ?d4 ?d5 ?d6 ?_)
      try (case d1 => rfl)
      case d2 => exact two_new _ _ _ _ _ Z4.out
      case d3 => intro u hu; simp at hu; rcases hu with rfl | rfl <;> rfl
      case d4 => unfold maxLen; omega
      case d5 => omega
      case d6 => have := Z4.out; simp; omega
      intro v' w5 hown5 hg5 _
      rw [← pairC_snoc ps (x, y)] at hown5
      have RN := Lib.hid (show DTRel w p a len cap c m v' (.int .i64 ((j : Int) - 1)) w5 from by
        refine ⟨j - 1, ps ++ [(x, y)], ?_, by simp; omega, ?_, by simpa using hown5, ?_, ?_⟩
        · exact congrArg (Value.int .i64) (by omega)
        · intro q hq
          rcases List.mem_append.1 hq with h | h
          · exact HOK.out q h
          · simp at h; subst h; exact okP_yes (inB_true.2 ⟨x0, x1⟩) (inB_true.2 ⟨y0, y1⟩)
        · refine ((S4.out.keep (bA (bR _) _)).grown hg5 (fun e => by have := (HOB.out _ e).1; omega) (fun hl xb xo e h => by have := (HOB.out _ h).1; have := HLT.out hl xb xo e; omega)).mono (by simp; omega)
        · exact gGrown (gAlloc G4.out _) hg5 (fun r e => (HOB.out r e).1))
      clear hown5 hg5
      go_wp2_with fail
      go_roundw
      case rel => exact RN.out
      case measure => simp [intOf]; omega
    · obtain rfl : j = 0 := by omega
      go_wp2_with fail
      go_ret
      exact ⟨ps, _, rfl, by omega, HOK.out, HO.out, HS.out.mono (by omega), HG.out⟩
/-- What A2Train hands out. -/
def TrainPost (w : World) (e : Ending) (w' : World) : Prop :=
  ∃ (ps : List (Int × Int)) (v : Value), e = .returned v ∧ ps.length ≤ 4 ∧ okT ps = true ∧ SlP w' v ps ∧ Below w.heap.size w w'
theorem gNew {w w1 w2 : World} {p : Nat} (hb : Below w.heap.size w w1) (g : w1.grownBy w2 (some p)) (hp : w.heap.size ≤ p) : Below w.heap.size w w2 :=
  ⟨g.os.trans hb.os, g.tape.trans hb.tape, g.output.trans hb.output, Nat.le_trans hb.size g.size, fun k hk => (g.block k (Nat.lt_of_lt_of_le hk hb.size) (fun e => by cases e; omega)).trans (hb.block k hk)⟩
end Go.Proofs.Ytclefibjmnabbaa
