/-
  The names of the codes: the contracts of spec.CodeName and impl.CodeName; the walk of laws.FnExactCodeName.
-/
import Derived.Test.YtdjkmefkfknobaaDoorNum
namespace Go.Proofs.YtdjkmefkfknobaaDoor
open Go.RowKit

/-- The name of a code. -/
def codeNm (n : Int) : ByteArray :=
  if n = 0 then ⟨#[111, 107]⟩ else if n = 1 then ⟨#[105, 110, 118, 97, 108, 105, 100]⟩ else if n = 2 then ⟨#[114, 97, 110, 103, 101]⟩ else if n = 3 then ⟨#[110, 111, 116, 45, 102, 111, 117, 110, 100]⟩
  else if n = 4 then ⟨#[101, 120, 105, 115, 116, 115]⟩ else if n = 5 then ⟨#[102, 117, 108, 108]⟩ else if n = 6 then ⟨#[115, 116, 97, 116, 101]⟩ else if n = 7 then ⟨#[115, 121, 110, 116, 97, 120]⟩
  else if n = 8 then ⟨#[102, 111, 114, 109, 97, 116]⟩ else if n = 9 then ⟨#[108, 111, 111, 112]⟩ else if n = 10 then ⟨#[98, 114, 111, 107, 101, 110]⟩ else ⟨#[]⟩
theorem codeNm_out {n : Int} (h : n < 0 ∨ 10 < n) : ⟨#[]⟩ = codeNm n := by
  unfold codeNm
  rw [if_neg (by omega), if_neg (by omega), if_neg (by omega), if_neg (by omega), if_neg (by omega), if_neg (by omega), if_neg (by omega), if_neg (by omega), if_neg (by omega), if_neg (by omega), if_neg (by omega)]
theorem ret_str {a b : ByteArray} (h : a = b) : Ending.returned (.string a) = .returned (.string b) := by rw [h]

theorem lt_cell0 {w : World} {b o : Nat} {v : Value} (h : w.cell? ⟨b, o, none⟩ = some v) : b < w.heap.size := by
  by_cases hb : b < w.heap.size
  · exact hb
  · exfalso
    have : w.heap[b]? = none := by simp; omega
    simp [World.cell?, this] at h
/-- The table of names, as it lies in memory. -/
def NamesAt (w : World) : Prop := ∀ i : Nat, i < 11 → w.cell? ⟨0, i, none⟩ = some (.string (codeNm i))

set_option maxHeartbeats 400000 in
theorem CodeNameI_any (n : Int) (w : World) (h : NamesAt w) :
    Calls Tryd.prog 25 #[.int .i64 n] w fun e w' => e = .returned (.string (codeNm n)) ∧ w = w' := by
  by_cases h0 : n < 0
  · have HN := Lib.hid (codeNm_out (.inl h0))
    clear h
    go_enter Tryd.func25, Tryd.ntmps25
    go_wp2_with fail
    go_ret
    exact ⟨ret_str HN.out, rfl⟩
  · by_cases h1 : 10 < n
    · have HN := Lib.hid (codeNm_out (.inr h1))
      clear h
      go_enter Tryd.func25, Tryd.ntmps25
      go_wp2_with fail
      go_ret
      exact ⟨ret_str HN.out, rfl⟩
    · obtain ⟨k, rfl⟩ := Int.eq_ofNat_of_zero_le (show 0 ≤ n by omega)
      have hk : k < 11 := by omega
      have hc := h k hk
      generalize codeNm (k : Int) = nm at *
      clear h
      go_enter Tryd.func25, Tryd.ntmps25
      go_wp2_with fail
      go_ret
      exact ⟨rfl, rfl⟩

set_option maxHeartbeats 1000000 in
theorem CodeNameS_any (n : Int) (w : World) :
    Calls Tryd.prog 24 #[.int .i64 n] w fun e w' => e = .returned (.string (codeNm n)) ∧ Below w.heap.size w w' := by
  by_cases h0 : 0 ≤ n ∧ n ≤ 10
  · have hi := inB_true.2 h0
    obtain ⟨k, rfl⟩ := Int.eq_ofNat_of_zero_le h0.1
    have hk : k < 11 := by omega
    clear h0
    match k, hk with
    | 0, _ =>
      go_enter Tryd.func24, Tryd.ntmps24
      go_wp2_with fail
      refine (l00In_any _ _ _ _).mono ?_
      rintro e w1 ⟨rfl, rfl⟩
      go_wp2_with fail
      go_ret
      exact ⟨rfl, (Below.refl _ _).alloc (Nat.le_refl _) _⟩
    | 1, _ =>
      go_enter Tryd.func24, Tryd.ntmps24
      go_wp2_with fail
      refine (l00In_any _ _ _ _).mono ?_
      rintro e w1 ⟨rfl, rfl⟩
      go_wp2_with fail
      go_ret
      exact ⟨rfl, (Below.refl _ _).alloc (Nat.le_refl _) _⟩
    | 2, _ =>
      go_enter Tryd.func24, Tryd.ntmps24
      go_wp2_with fail
      refine (l00In_any _ _ _ _).mono ?_
      rintro e w1 ⟨rfl, rfl⟩
      go_wp2_with fail
      go_ret
      exact ⟨rfl, (Below.refl _ _).alloc (Nat.le_refl _) _⟩
    | 3, _ =>
      go_enter Tryd.func24, Tryd.ntmps24
      go_wp2_with fail
      refine (l00In_any _ _ _ _).mono ?_
      rintro e w1 ⟨rfl, rfl⟩
      go_wp2_with fail
      go_ret
      exact ⟨rfl, (Below.refl _ _).alloc (Nat.le_refl _) _⟩
    | 4, _ =>
      go_enter Tryd.func24, Tryd.ntmps24
      go_wp2_with fail
      refine (l00In_any _ _ _ _).mono ?_
      rintro e w1 ⟨rfl, rfl⟩
      go_wp2_with fail
      go_ret
      exact ⟨rfl, (Below.refl _ _).alloc (Nat.le_refl _) _⟩
    | 5, _ =>
      go_enter Tryd.func24, Tryd.ntmps24
      go_wp2_with fail
      refine (l00In_any _ _ _ _).mono ?_
      rintro e w1 ⟨rfl, rfl⟩
      go_wp2_with fail
      go_ret
      exact ⟨rfl, (Below.refl _ _).alloc (Nat.le_refl _) _⟩
    | 6, _ =>
      go_enter Tryd.func24, Tryd.ntmps24
      go_wp2_with fail
      refine (l00In_any _ _ _ _).mono ?_
      rintro e w1 ⟨rfl, rfl⟩
      go_wp2_with fail
      go_ret
      exact ⟨rfl, (Below.refl _ _).alloc (Nat.le_refl _) _⟩
    | 7, _ =>
      go_enter Tryd.func24, Tryd.ntmps24
      go_wp2_with fail
      refine (l00In_any _ _ _ _).mono ?_
      rintro e w1 ⟨rfl, rfl⟩
      go_wp2_with fail
      go_ret
      exact ⟨rfl, (Below.refl _ _).alloc (Nat.le_refl _) _⟩
    | 8, _ =>
      go_enter Tryd.func24, Tryd.ntmps24
      go_wp2_with fail
      refine (l00In_any _ _ _ _).mono ?_
      rintro e w1 ⟨rfl, rfl⟩
      go_wp2_with fail
      go_ret
      exact ⟨rfl, (Below.refl _ _).alloc (Nat.le_refl _) _⟩
    | 9, _ =>
      go_enter Tryd.func24, Tryd.ntmps24
      go_wp2_with fail
      refine (l00In_any _ _ _ _).mono ?_
      rintro e w1 ⟨rfl, rfl⟩
      go_wp2_with fail
      go_ret
      exact ⟨rfl, (Below.refl _ _).alloc (Nat.le_refl _) _⟩
    | 10, _ =>
      go_enter Tryd.func24, Tryd.ntmps24
      go_wp2_with fail
      refine (l00In_any _ _ _ _).mono ?_
      rintro e w1 ⟨rfl, rfl⟩
      go_wp2_with fail
      go_ret
      exact ⟨rfl, (Below.refl _ _).alloc (Nat.le_refl _) _⟩
  · have hi := inB_false.2 h0
    have HN := Lib.hid (codeNm_out (n := n) (by omega))
    clear h0
    go_enter Tryd.func24, Tryd.ntmps24
    go_wp2_with fail
    refine (l00In_any _ _ _ _).mono ?_
    rintro e w1 ⟨rfl, rfl⟩
    go_wp2_with fail
    go_ret
    exact ⟨ret_str HN.out, (Below.refl _ _).alloc (Nat.le_refl _) _⟩

set_option maxHeartbeats 400000 in
theorem FnExactCodeName_walk (n : Int) (w : World) (h : NamesAt w) (_hn : -9223372036854775808 ≤ n ∧ n ≤ 9223372036854775807) :
    Calls Tryd.prog 4 #[.int .i64 n] w fun e w' => e = .returned (.bool true) ∧ Below w.heap.size w w' := by
  have HT := Lib.hid h
  clear h
  generalize hnm : codeNm n = nm
  have HM := Lib.hid hnm
  clear hnm
  go_enter Tryd.func4, Tryd.ntmps4
  go_wp2_with fail
  refine (CodeNameS_any _ _).mono ?_
  rintro e w1 ⟨rfl, hb1⟩
  have h1 : NamesAt w1 := fun i hi => (hb1.cell (p := ⟨0, i, none⟩) (lt_cell0 (HT.out i hi))).trans (HT.out i hi)
  have H1 := Lib.hid h1
  clear h1
  rw [HM.out]
  go_wp2_with fail
  refine (CodeNameI_any _ _ H1.out).mono ?_
  rintro e w2 ⟨rfl, rfl⟩
  rw [HM.out]
  go_wp2_with fail
  go_ret
  exact ⟨rfl, hb1⟩
end Go.Proofs.YtdjkmefkfknobaaDoor
