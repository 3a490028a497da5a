/-
  Reading a train: impl.readPair.
-/
import Derived.Test.YtnndjbngcaafhaaDoorSpM
import Derived.Test.YtnndjbngcaafhaaDoorTrI
import Derived.Test.YtnndjbngcaafhaaDoorBox
import Derived.Test.YtnndjbngcaafhaaDoorTrRS
import Derived.Test.YtnndjbngcaafhaaDoorShelf
namespace Go.Proofs.YtnndjbngcaafhaaDoor
open Go.RowKit

/-- A variable of the standard library holds a number. -/
def MaxV (w : World) : Prop := ∃ m : Int, w.cell? ⟨4, 0, none⟩ = some (.int .i64 m)
theorem MaxV.keep {w w' : World} (h : MaxV w) (hb : Below w.heap.size w w') : MaxV w' := by
  obtain ⟨m, hm⟩ := h
  have hl : 4 < w.heap.size := by
    by_cases hx : 4 < w.heap.size
    · exact hx
    · exfalso
      have : w.heap[4]? = none := by simp; omega
      simp [World.cell?, this] at hm
  exact ⟨m, (hb.cell (p := ⟨4, 0, none⟩) hl).trans hm⟩
/-- The variables that reading wants. -/
def RdVars (w : World) : Prop := Pow10 w ∧ ErrVars w ∧ MaxV w
theorem RdVars.keep {w w' : World} (h : RdVars w) (hb : Below w.heap.size w w') : RdVars w' := ⟨Pow10.keep hb h.1, ErrVars.keep hb h.2.1, h.2.2.keep hb⟩
theorem cut_len (s c : List UInt8) : (Lib.cut s c).1.length ≤ s.length ∧ (Lib.cut s c).2.1.length ≤ s.length := by
  unfold Lib.cut
  split <;> simp <;> omega
theorem bel_dn (w : World) (n : Nat) : Below w.heap.size w (w.drewN n) := ⟨rfl, rfl, rfl, Nat.le_refl _, fun _ _ => rfl⟩
def RpIs (u : ByteArray) (a b : Int) (k : Bool) : Prop :=
  (k = true ∧ prF u.data.toList = some (a, b) ∧ okP (a, b) = true) ∨ (k = false ∧ (prF u.data.toList = none ∨ ∃ q, prF u.data.toList = some q ∧ okP q = false))
def RpRet (w : World) (u : ByteArray) (e : Ending) (w' : World) : Prop := ∃ a b k, e = .returned (.tuple #[.agg #[.int .i64 a, .int .i64 b], .bool k]) ∧ RpIs u a b k ∧ Below w.heap.size w w'
theorem slP_one (w : World) (x y : Int) (t : TypeId) : SlP (w.alloc (.cells #[.int .i64 x, .int .i64 y] t)) (.slice (some ⟨w.heap.size, 0, none⟩) 1 1) [(x, y)] := by
  refine ⟨_, 1, rfl, fun _ => ⟨w.heap.size, rfl, by simp, fun i hi => ?_⟩⟩
  have : i = 0 := by simp at hi; omega
  subst this
  exact ⟨by simp [go_sem, pat], by simp [go_sem, pat]⟩
theorem okT_one (q : Int × Int) : okT [q] = okP q := by simp [okT]
set_option maxRecDepth 100000 in
set_option maxHeartbeats 4000000 in
theorem readPair_any (u : ByteArray) (w : World) (hs : u.size ≤ 1048576) (hV : RdVars w) :
    Calls Tryd.prog 27 #[.string u] w (RpRet w u) := by
  have B0 := Lib.hid (Box2.new w 0 0 54)
  have L0 := Lib.hid (bA (bR w) (.cells #[.int .i64 0, .int .i64 0] 54))
  have V0 := Lib.hid (hV.keep L0.out)
  obtain ⟨m, hm⟩ := V0.out.2.2
  have CU := Lib.hid (Tryd.strings_Cut u ⟨#[58]⟩ m _ (by omega) hm)
  have hcl := cut_len u.data.toList [58]
  have hus : u.data.toList.length = u.size := by simp
  have PC := Lib.hid (fun a b o1 o2 h1 h2 => prF_cut (u := u.data.toList) (a := a) (b := b) (o1 := o1) (o2 := o2) h1 h2)
  have hcc : (⟨#[58]⟩ : ByteArray).data.toList = [58] := rfl
  rw [hcc] at CU
  generalize (Lib.cut u.data.toList [58]).1 = l at *
  generalize (Lib.cut u.data.toList [58]).2.1 = r at *
  generalize (Lib.cut u.data.toList [58]).2.2 = f at *
  have RL := Lib.hid (fun W (h : RdVars W) => ReadDecimalI_any ⟨l.toArray⟩ W (by simp [ByteArray.size]; omega) h.1 h.2.1)
  have RR := Lib.hid (fun W (h : RdVars W) => ReadDecimalI_any ⟨r.toArray⟩ W (by simp [ByteArray.size]; omega) h.1 h.2.1)
  clear hm hV hcl hus hcc
  go_enter Tryd.func27, Tryd.ntmps27
  go_wp2_with fail
  refine CU.out.mono ?_
  rintro e w1 ⟨rfl, n1, rfl⟩
  have L1 := Lib.hid (bT L0.out (bel_dn _ n1))
  have B1 := Lib.hid (B0.out.keep (bel_dn _ n1))
  have V1 := Lib.hid (V0.out.keep (bel_dn _ n1))
  clear L0 B0 V0 CU
  go_wp2_with fail
  generalize (w.alloc (.cells #[.int .i64 0, .int .i64 0] 54)).drewN n1 = W1 at *
  refine (RL.out _ V1.out).mono ?_
  rintro e w2 ⟨⟨a, o1, rfl, h1⟩, hb⟩
  have H1 := Lib.hid h1
  have L2 := Lib.hid (bT L1.out hb)
  have B2 := Lib.hid (B1.out.keep hb)
  have V2 := Lib.hid (V1.out.keep hb)
  clear h1 hb L1 B1 V1
  go_wp2_with fail
  refine (RR.out _ V2.out).mono ?_
  rintro e w3 ⟨⟨b, o2, rfl, h2⟩, hb⟩
  have HP := Lib.hid (PC.out a b o1 o2 (by simpa using H1.out) (by simpa using h2))
  have L3 := Lib.hid (bA (bT L2.out hb) (.cells #[.int .i64 a, .int .i64 b] 54))
  have B3 := Lib.hid ((B2.out.keep hb).alloc (.cells #[.int .i64 a, .int .i64 b] 54))
  have P3 := Lib.hid (Box2.new w3 a b 54)
  clear h2 hb L2 B2 V2 RL RR PC H1
  obtain ⟨x0, x1, x2, x3, x4⟩ := B3.out
  obtain ⟨y0, y1, y2, y3, y4⟩ := P3.out
  by_cases hk : o1 = true ∧ o2 = true
  · obtain ⟨rfl, rfl⟩ := hk
    have hq : prF u.data.toList = some (a, b) := by simpa using HP.out
    have HQ := Lib.hid hq
    have W4 := Lib.hid (slP_one (w3.alloc (.cells #[.int .i64 a, .int .i64 b] 54)) a b 54)
    have L4 := Lib.hid (bA L3.out (.cells #[.int .i64 a, .int .i64 b] 54))
    have B4 := Lib.hid (B3.out.alloc (.cells #[.int .i64 a, .int .i64 b] 54))
    have P4 := Lib.hid (P3.out.alloc (.cells #[.int .i64 a, .int .i64 b] 54))
    clear hq HP
    rw [World.size_alloc] at W4
    go_wp2_with fail
    refine (isTrain_any [(a, b)] _ _ W4.out (by simp)).mono ?_
    rintro e w4 ⟨rfl, hb⟩
    rw [okT_one]
    have L5 := Lib.hid (bT L4.out hb)
    have B5 := Lib.hid (B4.out.keep hb)
    have P5 := Lib.hid (P4.out.keep hb)
    clear hb L3 L4 B3 B4 P3 P4 W4 x0 x1 x2 x3 x4 y0 y1 y2 y3 y4
    obtain ⟨x0, x1, x2, x3, x4⟩ := B5.out
    obtain ⟨y0, y1, y2, y3, y4⟩ := P5.out
    cases hp : okP (a, b)
    · have Z := Lib.hid (B5.out.set 0 0)
      obtain ⟨z0, z1, z2, z3, z4⟩ := Z.out
      have RN := Lib.hid (show RpIs u 0 0 false from .inr ⟨rfl, .inr ⟨_, HQ.out, hp⟩⟩)
      clear hp
      go_wp2_with fail
      refine bodyPost_ret (v := .tuple #[.agg #[.int .i64 0, .int .i64 0], .bool false]) ?_ rfl ⟨0, 0, false, rfl, RN.out, bset (bset L5.out (Nat.le_refl _)) (Nat.le_refl _)⟩
      simp [results, Tryd.results27, go_sem, z0, z1]
    · have Z := Lib.hid (B5.out.set a b)
      obtain ⟨z0, z1, z2, z3, z4⟩ := Z.out
      have RN := Lib.hid (show RpIs u a b true from .inl ⟨rfl, HQ.out, hp⟩)
      clear hp
      go_wp2_with fail
      refine bodyPost_ret (v := .tuple #[.agg #[.int .i64 a, .int .i64 b], .bool true]) ?_ rfl ⟨a, b, true, rfl, RN.out, bset (bset L5.out (Nat.le_refl _)) (Nat.le_refl _)⟩
      simp [results, Tryd.results27, go_sem, z0, z1]
  · have hq : prF u.data.toList = none := by
      rw [HP.out]
      cases o1 <;> cases o2 <;> simp_all
    have RN := Lib.hid (show RpIs u 0 0 false from .inr ⟨rfl, .inl hq⟩)
    have Z := Lib.hid (B3.out.set 0 0)
    obtain ⟨z0, z1, z2, z3, z4⟩ := Z.out
    clear hq HP
    cases o1 <;> cases o2
    case true.true => exact absurd ⟨rfl, rfl⟩ hk
    all_goals
      clear hk
      go_wp2_with fail
      refine bodyPost_ret (v := .tuple #[.agg #[.int .i64 0, .int .i64 0], .bool false]) ?_ rfl ⟨0, 0, false, rfl, RN.out, bset (bset L3.out (Nat.le_refl _)) (Nat.le_refl _)⟩
      simp [results, Tryd.results27, go_sem, z0, z1]
end Go.Proofs.YtnndjbngcaafhaaDoor
