/-
  Walks of the laws over rates and lists of segments with numbers as results: what stands on the way.
-/
import Derived.Test.YtpmelgdhcjnagaaDoorRaS
import Derived.Test.YtpmelgdhcjnagaaDoorSgQ
namespace Go.Proofs.YtpmelgdhcjnagaaDoor
open Go.RowKit

/-- A rate's box of a law. -/
def RtH (w : World) (b l c m : Int) (w' : World) : Prop := BoxL w' w.heap.size [.int .i64 b, .int .i64 l, .int .i64 c, .int .i64 m] ∧ Below w.heap.size w w'
theorem RtH.new (w : World) (b l c m : Int) (T : TypeId) : RtH w b l c m (w.alloc (.cells #[.int .i64 b, .int .i64 l, .int .i64 c, .int .i64 m] T)) := ⟨BoxL.new w [.int .i64 b, .int .i64 l, .int .i64 c, .int .i64 m] T, bA (bR _) _⟩
theorem RtH.keep {w : World} {b l c m : Int} {x y : World} (h : RtH w b l c m x) (hb : Below x.heap.size x y) : RtH w b l c m y := ⟨h.1.keep hb, bT h.2 hb⟩
/-- The same, cell by cell, for drawn regions. -/
def RtC (w0 w : World) (b l c m : Int) (w' : World) : Prop :=
  w'.cell? ⟨w0.heap.size, 0, none⟩ = some (.int .i64 b) ∧ w'.cell? ⟨w0.heap.size, 1, none⟩ = some (.int .i64 l) ∧ w'.cell? ⟨w0.heap.size, 2, none⟩ = some (.int .i64 c) ∧ w'.cell? ⟨w0.heap.size, 3, none⟩ = some (.int .i64 m) ∧ w0.heap.size < w'.heap.size ∧ Below w.heap.size w w'
theorem RtC.of {w0 w : World} {b l c m : Int} {w' : World} (h : BoxL w w0.heap.size [.int .i64 b, .int .i64 l, .int .i64 c, .int .i64 m]) (hb : Below w.heap.size w w') : RtC w0 w b l c m w' := by
  obtain ⟨c0, c1, c2, c3, c4⟩ := (h.keep hb).c4
  exact ⟨c0, c1, c2, c3, c4, hb⟩
theorem RtC.bel {w0 w : World} {b l c m : Int} {w' : World} (h : RtC w0 w b l c m w') : Below w.heap.size w w' := h.2.2.2.2.2
/-- The conversion of a list, by what is read of its result; by what is owned. -/
theorem toSg_ex (a : Option Addr) (len cap : Nat) (ps : List (Int × Int)) (w : World) (h : IsPR w a len cap ps) (hlen : len ≤ 1048576) :
    Calls Tryd.prog 9 #[.slice a len cap] w fun en w' => ∃ v, en = .returned v ∧ SlP w' v ps ∧ Below w.heap.size w w' :=
  (toSegmentS_any a len cap ps w h hlen).mono fun _ _ ⟨he, hr, hb⟩ => ⟨_, he, slP_of hr, hb⟩
theorem toSg_own (a : Option Addr) (len cap : Nat) (ps : List (Int × Int)) (w : World) (h : IsPR w a len cap ps) (hlen : len ≤ 1048576) :
    Calls Tryd.prog 9 #[.slice a len cap] w fun en w' => ∃ v, en = .returned v ∧ w'.ownsRow w.heap.size 48 2 v ps.length (pairC ps) ∧ Below w.heap.size w w' :=
  (toSegmentS_any a len cap ps w h hlen).mono fun _ _ ⟨he, hr, hb⟩ => ⟨_, he, hr, hb⟩
end Go.Proofs.YtpmelgdhcjnagaaDoor
