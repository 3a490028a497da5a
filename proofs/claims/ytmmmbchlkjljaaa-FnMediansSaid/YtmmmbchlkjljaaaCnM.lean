/-
  The canonical train: the plain words; two rows that grow beside each other; impl.wheelsOf.
-/
import Derived.Test.YtmmmbchlkjljaaaSrt
import Derived.Test.YtmmmbchlkjljaaaEqP
import Derived.Test.YtmmmbchlkjljaaaTrI
import Derived.Maps.AppendAt
import Derived.OwnWalk
namespace Go.Proofs.Ytmmmbchlkjljaaa
open Go.RowKit

def drv (ps : List (Int × Int)) : List Int := ps.map (·.1)
def drn (ps : List (Int × Int)) : List Int := ps.map (·.2)
theorem drv_len (ps : List (Int × Int)) : (drv ps).length = ps.length := by simp [drv]
theorem drn_len (ps : List (Int × Int)) : (drn ps).length = ps.length := by simp [drn]
theorem drv_take {ps : List (Int × Int)} {k : Nat} (h : k < ps.length) : drv (ps.take (k + 1)) = drv (ps.take k) ++ [(pat ps k).1] := by simp [drv, pat_take h]
theorem drn_take {ps : List (Int × Int)} {k : Nat} (h : k < ps.length) : drn (ps.take (k + 1)) = drn (ps.take k) ++ [(pat ps k).2] := by simp [drn, pat_take h]
theorem takeT_len {ps : List (Int × Int)} {k : Nat} (h : k ≤ ps.length) : (drv (ps.take k)).length = k ∧ (drn (ps.take k)).length = k := by simp [drv, drn]; omega
/-- The wheels of a train in canonical order. -/
def cnP (ps : List (Int × Int)) : List (Int × Int) := (srtL (drv ps)).reverse.zip (srtL (drn ps))
def cnL (ps : List (Int × Int)) : List (Int × Int) := if okT ps then cnP ps else []
def cnC (ps : List (Int × Int)) : Int := if okT ps then 0 else 1
theorem cn_no {ps : List (Int × Int)} (h : okT ps = false) : cnL ps = [] ∧ cnC ps = 1 := by simp [cnL, cnC, h]
theorem cn_yes {ps : List (Int × Int)} (h : okT ps = true) : cnL ps = cnP ps ∧ cnC ps = 0 := by simp [cnL, cnC, h]
theorem cnP_len (ps : List (Int × Int)) : (cnP ps).length = ps.length := by simp [cnP, srt_len, drv_len, drn_len]
theorem cnL_len (ps : List (Int × Int)) : (cnL ps).length ≤ ps.length := by
  unfold cnL; split
  · rw [cnP_len]; exact Nat.le_refl _
  · simp
theorem own_grow2 {W W' : World} {B : Nat} {t : TypeId} {sz n : Nat} {v : Value} {xs : List Value} {row : Option Nat} (h : W.ownsRow B t sz v n xs) (g : W.grownBy W' row) (hne : ∀ k, v.ownBlock = some k → row ≠ some k) : W'.ownsRow B t sz v n xs := by
  refine ⟨h.1, ?_⟩
  rcases h.2 with h0 | ⟨g', cap, cur, h0, hB, hh, r⟩
  · exact .inl h0
  · exact .inr ⟨g', cap, cur, h0, hB, (g.block g' (Array.getElem?_eq_some_iff.1 hh).1 (fun e => hne g' (by rw [h0]; rfl) e.symm)).trans hh, r⟩
theorem bel_grown2 {a b c : World} {row : Option Nat} {B : Nat} (h : Below B a b) (g : b.grownBy c row) (hB : B ≤ b.heap.size) (hr : ∀ r, row = some r → B ≤ r) : Below B a c :=
  ⟨g.os.trans h.os, g.tape.trans h.tape, g.output.trans h.output, Nat.le_trans h.size g.size, fun k hk => (g.block k (Nat.lt_of_lt_of_le hk hB) (fun e => by have := hr k e.symm; omega)).trans (h.block k hk)⟩
/-- Two rows of numbers beside each other. -/
structure TwoW (w0 : World) (t : TypeId) (a b : List Int) (va vb : Value) (wr : World) : Prop where
  oa : wr.ownsRow w0.heap.size t 1 va a.length (intC a)
  ob : wr.ownsRow w0.heap.size t 1 vb b.length (intC b)
  ne : ∀ k, va.ownBlock = some k → vb.ownBlock ≠ some k
  bel : Below w0.heap.size w0 wr
theorem TwoW.keep {w0 wr w' : World} {t : TypeId} {a b : List Int} {va vb : Value} (h : TwoW w0 t a b va vb wr) (hb : Below wr.heap.size wr w') : TwoW w0 t a b va vb w' :=
  ⟨own_keep h.oa hb, own_keep h.ob hb, h.ne, bT h.bel hb⟩
theorem TwoW.nil (w0 : World) (t : TypeId) : TwoW w0 t [] [] (.slice none 0 0) (.slice none 0 0) w0 :=
  ⟨World.ownsRow_nil _ _ _ _, World.ownsRow_nil _ _ _ _, fun k h => (by cases h), bR _⟩
theorem TwoW.a {w0 wr wX w' : World} {t : TypeId} {a b : List Int} {va vb v' : Value} {x : Int} (h : TwoW w0 t a b va vb wr) (hx : Below wr.heap.size wr wX) (ho : w'.ownsRow w0.heap.size t 1 v' (a.length + 1) (intC a ++ [.int .i64 x])) (hg : wX.grownBy w' va.ownBlock)
    (hb : v'.ownBlock = va.ownBlock ∨ v'.ownBlock = some wX.heap.size) : TwoW w0 t (a ++ [x]) b v' vb w' := by
  have k1 := own_blk h.oa
  have k2 := own_blk h.ob
  refine ⟨by simpa [intC] using ho, own_grow2 (own_keep h.ob hx) hg (fun k hk e => h.ne k e hk), fun k hk hk2 => ?_, bel_grown2 (bT h.bel hx) hg (Nat.le_trans h.bel.size hx.size) (fun r e => (k1 r e).1)⟩
  rcases hb with e | e
  · exact h.ne k (e.symm.trans hk) hk2
  · have e2 : wX.heap.size = k := by rw [e] at hk; exact Option.some.inj hk
    have := (k2 k hk2).2
    have := hx.size
    omega
theorem TwoW.b {w0 wr wX w' : World} {t : TypeId} {a b : List Int} {va vb v' : Value} {x : Int} (h : TwoW w0 t a b va vb wr) (hx : Below wr.heap.size wr wX) (ho : w'.ownsRow w0.heap.size t 1 v' (b.length + 1) (intC b ++ [.int .i64 x])) (hg : wX.grownBy w' vb.ownBlock)
    (hb : v'.ownBlock = vb.ownBlock ∨ v'.ownBlock = some wX.heap.size) : TwoW w0 t a (b ++ [x]) va v' w' := by
  have k1 := own_blk h.oa
  have k2 := own_blk h.ob
  refine ⟨own_grow2 (own_keep h.oa hx) hg (fun k hk e => h.ne k hk e), by simpa [intC] using ho, fun k hk hk2 => ?_, bel_grown2 (bT h.bel hx) hg (Nat.le_trans h.bel.size hx.size) (fun r e => (k2 r e).1)⟩
  rcases hb with e | e
  · exact h.ne k hk (e.symm.trans hk2)
  · have e2 : wX.heap.size = k := by rw [e] at hk2; exact Option.some.inj hk2
    have := (k1 k hk).2
    have := hx.size
    omega
theorem row_srcN (W : World) (n : Nat) (x : Value) (t : TypeId) (h : W.heap.size = n) : ∀ (j : Nat) (u : Value), [x][j]? = some u → (W.alloc (.cells #[x] t)).cell? ((⟨n, 0, none⟩ : Addr).add j) = some u := by
  subst h
  intro j u hj
  match j, hj with
  | 0, hj => simp at hj; subst hj; simp [go_sem, Addr.add]
def WhRel (w0 : World) (t : TypeId) (ps : List (Int × Int)) (v1 v2 i : Value) (wr : World) : Prop :=
  ∃ k : Nat, k ≤ ps.length ∧ i = .int .i64 k ∧ TwoW w0 t (drv (ps.take k)) (drn (ps.take k)) v1 v2 wr
theorem wh_next {w0 w' : World} {t : TypeId} {ps : List (Int × Int)} {k : Nat} {v1 v2 : Value} {a b : List Int} {x y : Int} (hk : k < ps.length) (h : TwoW w0 t (a ++ [x]) (b ++ [y]) v1 v2 w') (ha : drv (ps.take (k + 1)) = a ++ [x]) (hb : drn (ps.take (k + 1)) = b ++ [y]) :
    ∃ k' : Nat, k' ≤ ps.length ∧ Value.int .i64 ((k : Int) + 1) = .int .i64 k' ∧ TwoW w0 t (drv (ps.take k')) (drn (ps.take k')) v1 v2 w' :=
  ⟨k + 1, hk, by go_num, by rw [ha, hb]; exact h⟩
end Go.Proofs.Ytmmmbchlkjljaaa
