/-
  What is wrong with planetary gears: the contracts of the methods of impl.Epi, impl.wordsOf, impl.EpiFaults, impl.ValidEpi.
-/
import Derived.Test.YtcklcledchboiaaDoorEpM
import Derived.Test.YtcklcledchboiaaDoorTrS
import Derived.Test.YtcklcledchboiaaDoorStrS
import Derived.Test.YtcklcledchboiaaDoorOwn
import Derived.Deep.QuietTactic
import Derived.BigQuiet
import Derived.Laws.EntriesVeiled
import Derived.Shelf.Abstract
namespace Go.Proofs.YtcklcledchboiaaDoor
open Go.RowKit

/-- The table of the sines is laid. -/
structure Sines (w : World) : Prop where
  at_ : ∀ i, i < 7 → w.cell? ⟨0, i, none⟩ = some (.int .i64 (sinL.getD i 0))
  lt : 0 < w.heap.size
theorem Sines.keep {w w' : World} (h : Sines w) (hb : Below w.heap.size w w') : Sines w' :=
  ⟨fun i hi => (hb.cell (p := ⟨0, i, none⟩) h.lt).trans (h.at_ i hi), Nat.lt_of_lt_of_le h.lt hb.size⟩
/-- The words so far: their row is the call's own. -/
def WdR (w0 w : World) (v : Value) (ps : List ByteArray) : Prop := w.ownsRow w0.heap.size 9 1 v ps.length (strC ps) ∧ Below w0.heap.size w0 w
theorem WdR.keep {w0 w w' : World} {v : Value} {ps : List ByteArray} (h : WdR w0 w v ps) (hb : Below w.heap.size w w') : WdR w0 w' v ps := ⟨own_keep h.1 hb, bT h.2 hb⟩
theorem WdR.nil (w : World) : WdR w w (.slice none 0 0) [] := ⟨World.ownsRow_nil _ _ _ _, bR _⟩
theorem WdR.lower {w w0 w1 : World} {v : Value} {ps : List ByteArray} (h : WdR w0 w1 v ps) (hb : Below w.heap.size w w0) : WdR w w1 v ps := ⟨own_lower h.1 hb.size, bT hb h.2⟩
theorem infoWd : (Tryd.prog.info? 9).map (fun i => (i.zero, i.size, i.bytes)) = some (some (.string ⟨#[]⟩), 1, 16) := by kernel_rfl
theorem srcW (W : World) (x : Value) (t : TypeId) : ∀ (j : Nat) (u : Value), [x][j]? = some u → (W.alloc (.cells #[x] t)).cell? ((⟨W.heap.size, 0, none⟩ : Addr).add j) = some u := by
  intro j u hj
  match j, hj with
  | 0, hj => simp at hj; subst hj; simp [go_sem, Addr.add]
  | (j + 1), hj => simp at hj
theorem bel_grownE {a b c : World} {row : Option Nat} {B : Nat} (h : Below B a b) (g : b.grownBy c row) (hB : B ≤ b.heap.size) (hr : ∀ r, row = some r → B ≤ r) : Below B a c :=
  ⟨g.os.trans h.os, g.tape.trans h.tape, g.output.trans h.output, Nat.le_trans h.size g.size, fun k hk => (g.block k (Nat.lt_of_lt_of_le hk hB) (fun e => by have := hr k e.symm; omega)).trans (h.block k hk)⟩
theorem app_wd {ops : Array Oper} {rest : List Oper} {o : Oper} {a : Act} {Q : Exit → Act → World → Prop} {w0 w : World} (hgd : o.guard = none) (s x : Operand)
    (ho : o.op = .call { callee := .builtin .append, args := #[s, x], argTypes := #[38, 38] }) (v : Value) (ps : List ByteArray) (u : ByteArray) (hs : a.eval s = v) (hr : WdR w0 w v ps)
    (hx : a.eval x = .slice (some ⟨w.heap.size, 0, none⟩) 1 1) (hl : ps.length ≤ 100)
    (h : ∀ v' w', WdR w0 w' v' (ps ++ [u]) → wpList Tryd.prog ops Q rest (a.put o.dst v') w') : wpList Tryd.prog ops Q (o :: rest) a (w.alloc (.cells #[.string u] 9)) := by
  obtain ⟨i0, hi, hz0, hz1, hz2⟩ := info_parts infoWd
  refine wpList_append_own _ hgd s x 38 ho w0.heap.size 9 i0 (.string ⟨#[]⟩) 1 16 Tryd.underlying38 hi hz0 hz1 hz2 rfl (by decide) v ps.length (strC ps) hs ((hr.keep (bA (bR w) _)).1) ⟨w.heap.size, 0, none⟩ 1 1 [.string u] hx rfl (srcW _ _ _) (by intro y hy; simp at hy; subst hy; rfl) (by unfold maxLen; omega) (by omega) (by have := hr.2.size; simp; omega) ?_
  intro v' w' hown hg _
  refine h v' w' ⟨?_, bel_grownE (bA hr.2 _) hg (by have := hr.2.size; simp; omega) (fun r e => (own_blk hr.1 r e).1)⟩
  have e1 : strC (ps ++ [u]) = strC ps ++ [.string u] := by simp [strC]
  rw [e1, List.length_append]; exact hown

/-- A fault: its word, its method, whether it applies. -/
abbrev Ft := ByteArray × FuncId × Bool
def fat (fs : List Ft) (i : Nat) : Ft := fs.getD i (⟨#[]⟩, 0, false)
def FtAt (W : World) (g : Nat) (e : Value) (fs : List Ft) : Prop := ∀ i, i < fs.length → W.cell? ⟨g, i * 2, none⟩ = some (.string (fat fs i).1) ∧ W.cell? ⟨g, i * 2 + 1, none⟩ = some (.func (.func (fat fs i).2.1) #[e] #[])
theorem FtAt.keep {W W' : World} {g : Nat} {e : Value} {fs : List Ft} (h : FtAt W g e fs) (hg : g < W.heap.size) (hb : Below W.heap.size W W') : FtAt W' g e fs := fun i hi =>
  ⟨(hb.cell (p := ⟨g, i * 2, none⟩) hg).trans (h i hi).1, (hb.cell (p := ⟨g, i * 2 + 1, none⟩) hg).trans (h i hi).2⟩
def pickF (fs : List Ft) : List ByteArray := (fs.filter (·.2.2)).map (·.1)
theorem pickF_next {fs : List Ft} {k : Nat} (h : k < fs.length) : pickF (fs.take (k + 1)) = pickF (fs.take k) ++ (if (fat fs k).2.2 then [(fat fs k).1] else []) := by
  have e : fs.take (k + 1) = fs.take k ++ [fat fs k] := by
    rw [List.take_add_one, List.getElem?_eq_getElem h]
    simp [fat, h]
  unfold pickF
  rw [e, List.filter_append, List.map_append]
  cases h2 : (fat fs k).2.2 <;> simp [h2]
theorem pickF_len (fs : List Ft) (k : Nat) : (pickF (fs.take k)).length ≤ fs.length := by
  have h1 := List.length_filter_le (fun x : Ft => x.2.2) (fs.take k)
  unfold pickF
  rw [List.length_map]
  simp at h1 ⊢; omega
def WoRet (w : World) (ps : List ByteArray) (e : Ending) (w' : World) : Prop := ∃ v, e = .returned v ∧ WdR w w' v ps
set_option maxRecDepth 100000 in
set_option maxHeartbeats 1000000 in
theorem wordsOf_any (e : Value) (fs : List Ft) (g cap : Nat) (w : World) (hg : g < w.heap.size) (hc : FtAt w g e fs) (hmax : fs.length ≤ 3)
    (hE : ∀ i, i < fs.length → Enters Tryd.prog (fat fs i).2.1) (hF : ∀ i, i < fs.length → ∀ W, Below w.heap.size w W → Calls Tryd.prog (fat fs i).2.1 #[e] W (BoolBel (fat fs i).2.2 W)) :
    Calls Tryd.prog 65 #[.slice (some ⟨g, 0, none⟩) fs.length cap] w (WoRet w (pickF fs)) := by
  have HC := Lib.hid hc
  have HFF := Lib.hid hF
  clear hc hF
  go_enter Tryd.func65, Tryd.ntmps65
  go_wp2_with fail
  go_loopw [3, 8] (fun v i wr => ∃ k : Nat, k ≤ fs.length ∧ i = .int .i64 k ∧ WdR w wr v (pickF (fs.take k))) (fun _ i _ => fs.length - (intOf i).toNat)
  case atStart => exact ⟨0, by omega, rfl, by simpa [pickF] using WdR.nil w⟩
  case round =>
    obtain ⟨k, hk, rfl, hr⟩ := hrel
    have HR := Lib.hid hr
    have hpl := pickF_len fs k
    by_cases hlt : k < fs.length
    · obtain ⟨c1, c2⟩ := (HC.out.keep hg hr.2) k hlt
      have HF := Lib.hid (HFF.out k hlt)
      have he : ∀ (args : Array Value) (w : World), (callFunc (fat fs k).2.1 args).run Tryd.prog w = .ok (.enter (fat fs k).2.1 args) w := hE k hlt
      have HP := Lib.hid (pickF_next hlt)
      have hg' : g < wr.heap.size := Nat.lt_of_lt_of_le hg hr.2.size
      clear hr hE
      generalize fat fs k = f at *
      obtain ⟨x, fid, b⟩ := f
      go_wp2_with fail
      have R1 := Lib.hid (HR.out.keep (bA (bR wr) (.cells #[.string x, .func (.func fid) #[e] #[]] 71)))
      have X0 := Lib.hid (show (wr.alloc (.cells #[.string x, .func (.func fid) #[e] #[]] 71)).cell? ⟨wr.heap.size, 0, none⟩ = some (.string x) by simp [go_sem])
      have hsz : wr.heap.size < (wr.alloc (.cells #[.string x, .func (.func fid) #[e] #[]] 71)).heap.size := by simp
      generalize wr.alloc (.cells #[.string x, .func (.func fid) #[e] #[]] 71) = W1 at *
      generalize wr.heap.size = bf at *
      refine (HF.out _ R1.out.2).mono ?_
      rintro e2 w2 ⟨rfl, hb⟩
      have R2 := Lib.hid (R1.out.keep hb)
      have x2 := (hb.cell (p := ⟨bf, 0, none⟩) hsz).trans X0.out
      have hsz2 : bf < w2.heap.size := Nat.lt_of_lt_of_le hsz hb.size
      clear hb HF R1 X0 HR
      cases b
      · go_wp2_with fail
        exact ⟨⟨k + 1, hlt, by go_num, by rw [HP.out]; simpa using R2.out⟩, by simp [intOf]; omega⟩
      · go_wp2_with (at_builtin; refine app_wd rfl _ _ rfl _ _ _ rfl R2.out rfl (by omega) ?_)
        intro v' w3 hr'
        have RN := Lib.hid hr'
        clear hr'
        go_wp2_with fail
        exact ⟨⟨k + 1, hlt, by go_num, by rw [HP.out]; simpa using RN.out⟩, by simp [intOf]; omega⟩
    · obtain rfl : k = fs.length := by omega
      go_wp2_with fail
      go_ret
      exact ⟨_, rfl, by rw [List.take_length] at hr; exact hr⟩
end Go.Proofs.YtcklcledchboiaaDoor
