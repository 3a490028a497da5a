/-
  Paths as texts: the plain facts.
-/
import Derived.Test.YtcgennkddoajeaaDoorSb
import Derived.Test.YtcgennkddoajeaaDoorCfS
namespace Go.Proofs.YtcgennkddoajeaaDoor

/-- The path of a list of terms. -/
def flatR (dir : Bool) : List Int → List Bool
  | [] => []
  | t :: ts => List.replicate t.toNat dir ++ flatR (!dir) ts
/-- The last one less one. -/
def decL : List Int → List Int
  | [] => []
  | [t] => [t - 1]
  | t :: u :: ts => t :: decL (u :: ts)
theorem decL_len : ∀ ts : List Int, (decL ts).length = ts.length
  | [] => rfl
  | [_] => rfl
  | _ :: u :: ts => by simp [decL, decL_len (u :: ts)]
theorem flat_dec : ∀ (dir : Bool) (ts : List Int), flatR dir (decL ts) = runs dir ts
  | _, [] => rfl
  | dir, [t] => by simp [decL, flatR, runs]
  | dir, t :: u :: ts => by simp [decL, flatR, runs, flat_dec (!dir) (u :: ts)]
/-- The direction behind k terms. -/
def dirB (dir : Bool) (k : Nat) : Bool := if k % 2 = 0 then dir else !dir
theorem dirB_succ (dir : Bool) (k : Nat) : dirB (!dir) k = dirB dir (k + 1) := by
  unfold dirB
  rcases Nat.mod_two_eq_zero_or_one k with h | h
  · rw [if_pos h, if_neg (by omega)]
  · rw [if_neg (by omega), if_pos (by omega)]; simp
theorem flat_append : ∀ (dir : Bool) (a b : List Int), flatR dir (a ++ b) = flatR dir a ++ flatR (dirB dir a.length) b
  | dir, [], b => by simp [flatR, dirB]
  | dir, t :: a, b => by
    rw [List.cons_append, flatR, flatR, flat_append (!dir) a b, List.append_assoc, dirB_succ]; rfl
theorem flat_take {dir : Bool} {ts : List Int} {k : Nat} (h : k < ts.length) : flatR dir (ts.take (k + 1)) = flatR dir (ts.take k) ++ List.replicate (at0 ts k).toNat (dirB dir k) := by
  rw [List.take_succ_eq_append_getElem h, flat_append, List.length_take, Nat.min_eq_left (Nat.le_of_lt h)]
  unfold at0
  rw [List.getElem?_eq_getElem h]
  simp [flatR]
theorem flat_len_take {dir : Bool} (ts : List Int) (k : Nat) : (flatR dir (ts.take k)).length ≤ (flatR dir ts).length := by
  have h := congrArg List.length (flat_append dir (ts.take k) (ts.drop k))
  rw [List.take_append_drop, List.length_append] at h
  omega
theorem decL_at : ∀ (ts : List Int) (k : Nat), k < ts.length → at0 (decL ts) k = if k + 1 = ts.length then at0 ts k - 1 else at0 ts k
  | [], k, h => by simp at h
  | [t], k, h => by
    simp at h
    subst h
    simp [decL, at0]
  | t :: u :: ts, k, h => by
    cases k with
    | zero => simp [decL, at0]
    | succ k =>
      have := decL_at (u :: ts) k (by simpa using h)
      unfold at0 at this ⊢
      rw [decL, List.getElem?_cons_succ, this, List.getElem?_cons_succ]
      simp
theorem decL_set {ts : List Int} : decL ts = ts.set (ts.length - 1) (at0 ts (ts.length - 1) - 1) := by
  apply List.ext_getElem?
  intro i
  by_cases hi : i < ts.length
  · have h1 := decL_at ts i hi
    have e : (decL ts)[i]? = some (at0 (decL ts) i) := by unfold at0; rw [List.getElem?_eq_getElem (by rw [decL_len]; exact hi)]; rfl
    rw [e, h1, List.getElem?_set]
    by_cases hl : ts.length - 1 = i
    · rw [if_pos hl, if_pos (by omega), if_pos (by omega), hl]
    · rw [if_neg hl, if_neg (by omega)]
      unfold at0
      rw [List.getElem?_eq_getElem hi]; rfl
  · rw [List.getElem?_eq_none (by rw [decL_len]; omega), List.getElem?_eq_none (by simp; omega)]
/-- A step as a letter. -/
def ltr (b : Bool) : UInt8 := if b then 82 else 76
def pth (l : List Bool) : ByteArray := ⟨(l.map ltr).toArray⟩
def cellsP (l : List Bool) : List Value := l.map fun b => Value.int .u8 (if b then 82 else 76)
theorem cellsP_append (a b : List Bool) : cellsP (a ++ b) = cellsP a ++ cellsP b := by simp [cellsP]
theorem cellsP_len (a : List Bool) : (cellsP a).length = a.length := by simp [cellsP]
theorem cellsP_bytes (l : List Bool) : cellsP l = Lib.strCells (pth l) := by
  unfold cellsP pth Lib.strCells
  rw [List.toList_toArray, List.map_map]
  apply List.map_congr_left
  intro b _
  cases b <;> rfl
end Go.Proofs.YtcgennkddoajeaaDoor
