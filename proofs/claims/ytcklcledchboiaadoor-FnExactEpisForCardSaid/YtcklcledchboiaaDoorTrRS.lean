/-
  The contracts of spec.l02Whole, l05Ratio, TrainRatio.
-/
import Derived.Test.YtcklcledchboiaaDoorTrM
import Derived.Test.YtcklcledchboiaaDoorTrS
import Derived.Test.YtcklcledchboiaaDoorBox
import Derived.Deep.RegionWith
import Derived.Deep.DeepCutAuto
namespace Go.Proofs.YtcklcledchboiaaDoor
open Go.RowKit

theorem l02Whole_any (n : Int) (w : World) :
    Calls Tryd.prog 93 #[.int .i64 n] w fun e w' => e = .returned (.agg #[.int .i64 n, .int .i64 1]) ∧ Below w.heap.size w w' := by
  go_enter Tryd.func93, Tryd.ntmps93
  go_wp2_with fail
  exact bodyPost_ret (v := .agg #[.int .i64 n, .int .i64 1]) (by simp [results, Tryd.results93, go_sem]) rfl ⟨rfl, bA (bR _) _⟩
def trA0 (ps : List (Int × Int)) : Int := match trF 1 1 ps with | some r => r.1 | none => 0
def trB0 (ps : List (Int × Int)) : Int := match trF 1 1 ps with | some r => r.2 | none => 0
def trK (ps : List (Int × Int)) : Bool := (trF 1 1 ps).isSome
theorem tr0_far {ps : List (Int × Int)} (h2 : trF 1 1 ps = none) : trA0 ps = 0 ∧ trB0 ps = 0 ∧ trK ps = false := by simp [trA0, trB0, trK, h2]
theorem tr0_got {ps : List (Int × Int)} {n d : Int} (h2 : trF 1 1 ps = some (n, d)) : trA0 ps = n ∧ trB0 ps = d ∧ trK ps = true := by simp [trA0, trB0, trK, h2]
def RatB (w : World) (a b : Int) (c : Bool) (e : Ending) (w' : World) : Prop := e = .returned (.tuple #[.agg #[.int .i64 a, .int .i64 b], .bool c]) ∧ Below w.heap.size w w'
/-- What stands in a round's region. -/
def RH (w : World) (g o : Nat) (x y : Int) (br bo : Nat) (n d : Int) (w' : World) : Prop :=
  w'.cell? ⟨g, o, none⟩ = some (.int .i64 x) ∧ w'.cell? ⟨g, o + 1, none⟩ = some (.int .i64 y) ∧ Box2 w' br 0 0 ∧ Box2 w' bo n d ∧ g < w'.heap.size ∧ Below w.heap.size w w'
theorem RH.drew {w : World} {g o : Nat} {x y : Int} {br bo : Nat} {n d : Int} {w' : World} (h : RH w g o x y br bo n d w') : RH w g o x y br bo n d w'.drew := ⟨h.1, h.2.1, h.2.2.1.drew, h.2.2.2.1.drew, h.2.2.2.2.1, h.2.2.2.2.2.drew⟩
theorem RH.keep {w : World} {g o : Nat} {x y : Int} {br bo : Nat} {n d : Int} {w' w2 : World} (hb : Below w'.heap.size w' w2) (h : RH w g o x y br bo n d w') : RH w g o x y br bo n d w2 := by
  obtain ⟨h1, h2, h3, h4, h5, h6⟩ := h
  exact ⟨(hb.cell (p := ⟨g, o, none⟩) h5).trans h1, (hb.cell (p := ⟨g, o + 1, none⟩) h5).trans h2, h3.keep hb, h4.keep hb, Nat.lt_of_lt_of_le h5 hb.size, bT h6 hb⟩
theorem RH.alloc {w : World} {g o : Nat} {x y : Int} {br bo : Nat} {n d : Int} {w' : World} (h : RH w g o x y br bo n d w') (ob : Obj) : RH w g o x y br bo n d (w'.alloc ob) := RH.keep (bA (bR _) _) h
theorem RH.set {w : World} {g o : Nat} {x y : Int} {br bo : Nat} {n d : Int} {w' : World} {b i : Nat} {v : Value} (h : RH w g o x y br bo n d w') (h1 : g ≠ b) (h2 : br ≠ b) (h3 : bo ≠ b) (h4 : w.heap.size ≤ b) : RH w g o x y br bo n d (w'.setCell ⟨b, i, none⟩ v) := by
  obtain ⟨e1, e2, e3, e4, e5, e6⟩ := h
  exact ⟨(cell_off (by simpa using Ne.symm h1)).trans e1, (cell_off (by simpa using Ne.symm h1)).trans e2, e3.other h2, e4.other h3, by simpa [World.setCell] using e5, e6.setCell h4 v⟩
/-- What a round's first statement leaves: the step's box and that it is a ratio. -/
def CutR (w : World) (g o : Nat) (x y : Int) (br bo : Nat) (n d : Int) (p q : Int) (s6 s7 : Value) (wx : World) : Prop :=
  ∃ b : Nat, s6 = .pointer (some ⟨b, 0, none⟩) ∧ s7 = .bool true ∧ Box2 wx b p q ∧ RH w g o x y br bo n d wx
theorem cutA {w W w' : World} {g o : Nat} {x y : Int} {br bo : Nat} {n d p q : Int} {b : Nat} (hw : w.heap.size ≤ b) (h : RH w g o x y br bo n d W) (hB : Box2 W b 0 0) (hg : g < b) (h2 : br < b) (h3 : bo < b) (hb : Below W.heap.size W w') :
    CutR w g o x y br bo n d p q (.pointer (some ⟨b, 0, none⟩)) (.bool true) ((w'.setCell ⟨b, 0, none⟩ (.int .i64 p)).setCell ⟨b, 1, none⟩ (.int .i64 q)) :=
  ⟨b, rfl, rfl, (hB.keep hb).set p q, ((h.keep hb).set (by omega) (by omega) (by omega) hw).set (by omega) (by omega) (by omega) hw⟩
theorem cutB {w W w' : World} {g o : Nat} {x y : Int} {br bo : Nat} {n d p q : Int} {t : TypeId} (h : RH w g o x y br bo n d W) (hb : Below W.heap.size W w') :
    CutR w g o x y br bo n d p q (.pointer (some ⟨w'.heap.size, 0, none⟩)) (.bool true) (((w'.alloc (.cells #[.int .i64 0, .int .i64 0] t)).setCell ⟨w'.heap.size, 0, none⟩ (.int .i64 p)).setCell ⟨w'.heap.size, 1, none⟩ (.int .i64 q)) := by
  have h' := h.keep hb
  have e1 := h'.2.2.1.lt
  have e2 := h'.2.2.2.1.lt
  have e3 := h'.2.2.2.2.1
  have e4 := h'.2.2.2.2.2.size
  exact ⟨w'.heap.size, rfl, rfl, (Box2.new w' 0 0 t).set p q, ((h'.alloc _).set (by omega) (by omega) (by omega) e4).set (by omega) (by omega) (by omega) e4⟩
theorem cutC {w W w' : World} {g o : Nat} {x y : Int} {br bo : Nat} {n d p q : Int} {t : TypeId} (h : RH w g o x y br bo n d W) (hb : Below W.heap.size W w') :
    CutR w g o x y br bo n d p q (.pointer (some ⟨w'.heap.size, 0, none⟩)) (.bool true) (w'.alloc (.cells #[.int .i64 p, .int .i64 q] t)) :=
  ⟨w'.heap.size, rfl, rfl, Box2.new w' p q t, (h.keep hb).alloc _⟩
def TsRel (w : World) (ps : List (Int × Int)) (br bo : Nat) (i : Value) (wr : World) : Prop :=
  ∃ (k : Nat) (n d : Int), k ≤ ps.length ∧ i = .int .i64 k ∧ Box2 wr br 0 0 ∧ Box2 wr bo n d ∧ okR n d = true ∧ trF 1 1 ps = trF n d (ps.drop k) ∧ Below w.heap.size w wr
theorem bset {w x : World} {b o : Nat} {v : Value} (h : Below w.heap.size w x) (ha : w.heap.size ≤ b) : Below w.heap.size w (x.setCell ⟨b, o, none⟩ v) := h.setCell ha v
theorem tr_of0 {ps : List (Int × Int)} (h : okT ps = true) : trA ps = (if trK ps then trA0 ps else 0) ∧ trB ps = (if trK ps then trB0 ps else 0) ∧ trC' ps = (if trK ps then 0 else 2) := by
  unfold trA trB trC' trK trA0 trB0
  rw [if_pos h, if_pos h, if_pos h]
  cases trF 1 1 ps <;> simp
def RatC2 (w : World) (a b c : Int) (e : Ending) (w' : World) : Prop := e = .returned (.tuple #[.agg #[.int .i64 a, .int .i64 b], .int .i64 c]) ∧ Below w.heap.size w w'
end Go.Proofs.YtcklcledchboiaaDoor
