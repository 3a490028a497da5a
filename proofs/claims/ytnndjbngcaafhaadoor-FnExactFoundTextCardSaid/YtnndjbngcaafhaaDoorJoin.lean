/-
  The contract of strings.Join with a blank between the texts.
-/
import Derived.Test.YtnndjbngcaafhaaDoorBld
import Derived.Lib.UnsafeStr
import Derived.Laws.OwnMore
namespace Go.Proofs.YtnndjbngcaafhaaDoor
open Go.RowKit

def jAt (ss : List ByteArray) (i : Nat) : ByteArray := ss[i]?.getD ⟨#[]⟩
def jC (ss : List ByteArray) : List Value := ss.map Value.string
theorem jC_len (ss : List ByteArray) : (jC ss).length = ss.length := by simp [jC]
theorem jC_at {ss : List ByteArray} {i : Nat} (h : i < ss.length) : (jC ss)[i]? = some (.string (jAt ss i)) := by
  unfold jC jAt; rw [List.getElem?_map, List.getElem?_eq_getElem h]; rfl
theorem jAt_mem {ss : List ByteArray} {i : Nat} (h : i < ss.length) : jAt ss i ∈ ss := by unfold jAt; rw [List.getElem?_eq_getElem h]; simp
theorem jAt_get {ss : List ByteArray} {i : Nat} (h : i < ss.length) : ss[i] = jAt ss i := by unfold jAt; rw [List.getElem?_eq_getElem h]; rfl
/-- A slice reads as a list of texts. -/
def SlT (W : World) (v : Value) (ss : List ByteArray) : Prop := ∃ ao cap, v = .slice ao ss.length cap ∧ ss.length ≤ cap ∧ (1 ≤ ss.length → ∃ g, ao = some ⟨g, 0, none⟩ ∧ g < W.heap.size ∧ ∀ i, i < ss.length → W.cell? ⟨g, i, none⟩ = some (.string (jAt ss i)))
theorem slT_of {W : World} {B : Nat} {t : TypeId} {v : Value} {ss : List ByteArray} (h : W.ownsRow B t 1 v ss.length (jC ss)) : SlT W v ss := by
  rcases h.2 with ⟨rfl, h0⟩ | ⟨g, cap, cur, rfl, hB, hh, hl, _⟩
  · exact ⟨none, 0, by rw [h0], by omega, fun h1 => by omega⟩
  · exact ⟨_, cap, rfl, hl, fun _ => ⟨g, rfl, (Array.getElem?_eq_some_iff.1 hh).1, fun i hi => (h.cellAt i (by omega)).trans (jC_at hi)⟩⟩
/-- The texts with a blank between them. -/
def joinL : List (List UInt8) → List UInt8
  | [] => []
  | x :: xs => x ++ xs.flatMap fun y => 32 :: y
def joinB (ss : List ByteArray) : ByteArray := ⟨(joinL (ss.map fun s => s.data.toList)).toArray⟩
theorem joinL_snoc {x : List UInt8} {xs : List (List UInt8)} {y : List UInt8} : joinL ((x :: xs) ++ [y]) = joinL (x :: xs) ++ 32 :: y := by simp [joinL]
def partL (ss : List ByteArray) (k : Nat) : List UInt8 := joinL ((ss.take k).map fun s => s.data.toList)
theorem part_one {ss : List ByteArray} (h : 0 < ss.length) : partL ss 1 = (jAt ss 0).data.toList := by
  cases ss with
  | nil => simp at h
  | cons s ss => simp [partL, joinL, jAt]
theorem part_next {ss : List ByteArray} {k : Nat} (h0 : 1 ≤ k) (h : k < ss.length) : partL ss (k + 1) = partL ss k ++ 32 :: (jAt ss k).data.toList := by
  unfold partL
  rw [List.take_succ_eq_append_getElem h, List.map_append, jAt_get h]
  cases ss with
  | nil => simp at h
  | cons s ss =>
    obtain ⟨m, rfl⟩ : ∃ m, k = m + 1 := ⟨k - 1, by omega⟩
    rw [List.take_succ_cons, List.map_cons]
    exact joinL_snoc
theorem part_all (ss : List ByteArray) : partL ss ss.length = joinL (ss.map fun s => s.data.toList) := by unfold partL; rw [List.take_length]
theorem part_len {ss : List ByteArray} (hs : ∀ s ∈ ss, s.size ≤ 1000) : ∀ k, k ≤ ss.length → (partL ss k).length ≤ 1001 * k := by
  intro k
  induction k with
  | zero => intro _; simp [partL, joinL]
  | succ k ih =>
    intro hk
    have h2 := hs _ (jAt_mem (show k < ss.length by omega))
    have h3 : (jAt ss k).data.toList.length = (jAt ss k).size := Array.length_toList
    by_cases h0 : k = 0
    · subst h0; rw [part_one (by omega)]; omega
    · rw [part_next (by omega) (by omega), List.length_append, List.length_cons]
      have := ih (by omega)
      omega
theorem strC_bytes (s : ByteArray) : Lib.strCells s = Lib.byteCells s.data.toList := rfl
theorem cells_next {ss : List ByteArray} {k : Nat} (h0 : 1 ≤ k) (h : k < ss.length) : (Lib.byteCells (partL ss k) ++ Lib.strCells ⟨#[32]⟩) ++ Lib.strCells (jAt ss k) = Lib.byteCells (partL ss (k + 1)) := by
  rw [part_next h0 h, strC_bytes, strC_bytes]; simp [Lib.byteCells]
theorem ret_s {a b : ByteArray} (h : a = b) : Ending.returned (.string a) = .returned (.string b) := by rw [h]
theorem UB.keep {B b : Nat} {bs : List Value} {w w' : World} (h : UB B b bs w) (hb : Below w.heap.size w w') : UB B b bs w' := by
  have hlt := Lib.BuilderAt.lt h
  obtain ⟨hB, v, hbk, hown, hne⟩ := h
  refine ⟨hB, v, (hb.block b hlt).trans hbk, ⟨hown.1, ?_⟩, hne⟩
  rcases hown.2 with h0 | ⟨g, cap, cur, h0, hB', hh, r⟩
  · exact .inl h0
  · exact .inr ⟨g, cap, cur, h0, hB', (hb.block g (Array.getElem?_eq_some_iff.1 hh).1).trans hh, r⟩
/-- What stands while the texts are written. -/
def JnRel (w : World) (ss : List ByteArray) (b : Nat) (i : Value) (wr : World) : Prop :=
  ∃ j : Nat, i = .int .i64 j ∧ j + 1 ≤ ss.length ∧ UB w.heap.size b (Lib.byteCells (partL ss (j + 1))) wr ∧ Below w.heap.size w wr
set_option maxRecDepth 100000 in
set_option maxHeartbeats 4000000 in
theorem Join_any (ss : List ByteArray) (v : Value) (w : World) (h : SlT w v ss) (hn : ss.length ≤ 1000) (hs : ∀ s ∈ ss, s.size ≤ 1000) :
    Calls Tryd.prog 72 #[v, .string ⟨#[32]⟩] w fun e w' => e = .returned (.string (joinB ss)) ∧ Below w.heap.size w w' := by
  obtain ⟨ao, cap, rfl, hcap, h⟩ := h
  have HS := Lib.hid h
  have HZ := Lib.hid hs
  clear h hs
  by_cases h0 : ss.length = 0
  · have HR := Lib.hid (show (⟨#[]⟩ : ByteArray) = joinB ss by rw [List.length_eq_zero_iff.1 h0]; rfl)
    rw [h0]
    clear h0
    go_enter Tryd.func72, Tryd.ntmps72
    go_wp2_with fail
    go_ret
    exact ⟨ret_s HR.out, bR _⟩
  obtain ⟨g, rfl, hg, hc⟩ := HS.out (by omega)
  have HC := Lib.hid hc
  have c0 := hc 0 (by omega)
  clear hc HS
  by_cases h1 : ss.length = 1
  · have HR := Lib.hid (show jAt ss 0 = joinB ss by
      unfold joinB; rw [← part_all, h1, part_one (by omega)])
    rw [h1]
    clear h1 h0
    go_enter Tryd.func72, Tryd.ntmps72
    go_wp2_with fail
    go_ret
    exact ⟨ret_s HR.out, bR _⟩
  have e0 : ((ss.length : Int) == 0) = false := by rw [beq_eq_false_iff_ne]; omega
  have e1 : ((ss.length : Int) == 1) = false := by rw [beq_eq_false_iff_ne]; omega
  have hq2 : ¬ 9223372036854775807 / ((ss.length : Int) - 1) ≤ 1 := fun hle => by
    have h2 : (2 : Int) ≤ 9223372036854775807 / ((ss.length : Int) - 1) := (Int.le_ediv_iff_mul_le (show 0 < (ss.length : Int) - 1 by omega)).2 (by omega)
    have := Int.le_trans h2 hle
    omega
  have hn1 : ¬ ((ss.length : Int) - 1) = 0 := by omega
  go_enter Tryd.func72, Tryd.ntmps72
  go_wp2_with fail
  go_loop [5, 41] (fun t i => ∃ (k S : Nat), k ≤ ss.length ∧ i = .int .i64 k ∧ t = .int .i64 S ∧ S ≤ 1000 + 1000 * k) (fun _ i => ss.length - (intOf i).toNat)
  case atStart => exact ⟨0, ss.length - 1, by omega, rfl, by first | go_num | exact congrArg (Value.int .i64) (by omega), by omega⟩
  case round =>
    obtain ⟨k, S, hk, rfl, rfl, hS⟩ := hrel
    by_cases hlt : k < ss.length
    · have ck := HC.out k hlt
      have sk := HZ.out _ (jAt_mem hlt)
      generalize jAt ss k = x at ck sk
      go_wp2_with fail
      go_round
      case rel => exact ⟨k + 1, S + x.size, by omega, by go_num, by go_num, by omega⟩
      case measure => simp [intOf]; omega
    · have hP := Lib.hid (Tryd.Builder_Grow_fresh w.heap.size w.heap.size S (w.alloc (.cells #[.pointer none, .slice none 0 0] 117)) (Nat.le_refl _) (MapKept.heap_alloc w _).1 (by simp) (by omega))
      go_wp2_with fail
      refine hP.out.mono ?_
      rintro e w1 ⟨rfl, hu, hb⟩
      have HU := Lib.hid hu
      have HB := Lib.hid (show Below w.heap.size w w1 from ((Below.refl _ w).alloc (Nat.le_refl _) _).trans hb)
      have d0 : w1.cell? ⟨g, 0, none⟩ = some (.string (jAt ss 0)) := (HB.out.cell (p := ⟨g, 0, none⟩) hg).trans c0
      clear hu hb hP
      go_wp2_with fail
      refine (WriteString_used _ _ _ _ _ HU.out (by have := HZ.out _ (jAt_mem (show 0 < ss.length by omega)); simp; omega) HB.out.size).mono ?_
      rintro e w2 ⟨rfl, hu2, hb2⟩
      have RI := Lib.hid (show JnRel w ss w.heap.size (.int .i64 0) w2 from ⟨0, rfl, by omega, by rw [part_one (by omega)]; exact hu2, HB.out.trans hb2⟩)
      have hm1 : ((ss.length - 1 : Nat) : Int) = (ss.length : Int) - 1 := by omega
      clear hu2 hb2 HU HB d0
      go_wp2_with fail
      go_loopw [65] (fun i wr => JnRel w ss w.heap.size i wr) (fun i _ => ss.length - (intOf i).toNat)
      case atStart => exact RI.out
      case round =>
        obtain ⟨j, rfl, hj, hu, hb⟩ := hrel
        have HU := Lib.hid hu
        have HB := Lib.hid hb
        have hsz := hb.size
        have hpl := part_len HZ.out (j + 1) hj
        have hbl : (Lib.byteCells (partL ss (j + 1))).length = (partL ss (j + 1)).length := Lib.byteCells_length _
        clear hu hb RI
        by_cases hlj : j + 1 < ss.length
        · have ck : wr.cell? ⟨g, 1 + j, none⟩ = some (.string (jAt ss (j + 1))) := by
            rw [Nat.add_comm]; exact (HB.out.cell (p := ⟨g, j + 1, none⟩) hg).trans (HC.out (j + 1) hlj)
          have sk := HZ.out _ (jAt_mem hlj)
          have hlj2 : j < ss.length - 1 := by omega
          have W1 := Lib.hid (WriteString_used w.heap.size w.heap.size (Lib.byteCells (partL ss (j + 1))) ⟨#[32]⟩ wr HU.out (by rw [hbl]; show _ + 1 ≤ _; omega) hsz)
          have CN := Lib.hid (cells_next (ss := ss) (k := j + 1) (by omega) hlj)
          clear hbl
          go_wp2_with fail
          refine W1.out.mono ?_
          rintro e w3 ⟨rfl, hu3, hb3⟩
          have HU3 := Lib.hid hu3
          have HB3 := Lib.hid (HB.out.trans hb3)
          clear hu3 hb3 ck
          go_wp2_with fail
          refine (WriteString_used _ _ _ _ _ HU3.out (by rw [List.length_append, Lib.byteCells_length, Lib.strCells_length]; show _ + 1 + _ ≤ _; omega) HB3.out.size).mono ?_
          rintro e w4 ⟨rfl, hu4, hb4⟩
          have RN := Lib.hid (show JnRel w ss w.heap.size (.int .i64 ((j : Int) + 1)) w4 from ⟨j + 1, by go_num, by omega, by rw [← CN.out]; exact hu4, HB3.out.trans hb4⟩)
          clear hu4 hb4
          go_wp2_with fail
          go_roundw
          case rel => exact RN.out
          case measure => simp [intOf]; omega
        · have hje : j + 1 = ss.length := by omega
          have hlj2 : ¬ j < ss.length - 1 := by omega
          have HST := Lib.hid (Tryd.Builder_String_any w.heap.size w.heap.size (partL ss (j + 1)) wr (.inr HU.out) hsz)
          clear hbl
          go_wp2_with fail
          refine HST.out.mono ?_
          rintro e w3 ⟨rfl, hb3⟩
          have HB3 := Lib.hid (HB.out.trans hb3)
          clear hb3
          go_wp2_with fail
          go_ret
          exact ⟨ret_s (by unfold joinB; rw [part_all]), HB3.out⟩
end Go.Proofs.YtnndjbngcaafhaaDoor
