/-
  Clashes: the document's side.
-/
import Derived.Test.YtgkfelochpllgaaPlK
import Derived.Test.YtgkfelochpllgaaPr
import Derived.Test.YtgkfelochpllgaaPlQ
import Derived.Deep.RegionHeld3
namespace Go.Proofs.Ytgkfelochpllgaa
open Go.RowKit

/-- A list of clashes that a call makes for itself. -/
def CoQ (w0 w : World) (v : Value) (ps : List (Int × Int)) : Prop := w.ownsRow w0.heap.size 85 2 v ps.length (pairC ps) ∧ Below w0.heap.size w0 w
theorem CoQ.keep {w0 w w' : World} {v : Value} {ps : List (Int × Int)} (h : CoQ w0 w v ps) (hb : Below w.heap.size w w') : CoQ w0 w' v ps := ⟨own_keep h.1 hb, bT h.2 hb⟩
theorem CoQ.nil {w w' : World} (hb : Below w.heap.size w w') : CoQ w w' (.slice none 0 0) [] := ⟨World.ownsRow_nil _ _ _ _, hb⟩
theorem CoQ.low {w w1 w' : World} {v : Value} {ps : List (Int × Int)} (hb : Below w.heap.size w w1) (h : CoQ w1 w' v ps) : CoQ w w' v ps := ⟨own_lower h.1 hb.size, bT hb h.2⟩
theorem rowC0 (w : World) (t : TypeId) : (w.alloc (.cells #[] t)).ownsRow w.heap.size t 2 (.slice (some ⟨w.heap.size, 0, none⟩) 0 0) 0 [] :=
  ⟨rfl, .inr ⟨w.heap.size, 0, #[], rfl, Nat.le_refl _, (MapKept.heap_alloc w _).1, Nat.le_refl _, Nat.zero_le _, rfl, rfl⟩⟩
theorem infoClash : (Try.prog.info? 85).map (fun i => (i.zero, i.size, i.bytes)) = some (some (.agg #[.int .i64 0, .int .i64 0]), 2, 16) := by kernel_rfl
theorem srcQ2 (W : World) (a b : Value) (t : TypeId) : ∀ (j : Nat) (u : Value), [a, b][j]? = some u → (W.alloc (.cells #[a, b] t)).cell? ((⟨W.heap.size, 0, none⟩ : Addr).add j) = some u := by
  intro j u hj
  match j, hj with
  | 0, hj => simp at hj; subst hj; simp [go_sem, Addr.add]
  | 1, hj => simp at hj; subst hj; simp [go_sem, Addr.add]
  | (j + 2), hj => simp at hj
theorem app_cl {ops : Array Oper} {rest : List Oper} {o : Oper} {a : Act} {Q : Exit → Act → World → Prop} {w0 w : World} (hgd : o.guard = none) (s x : Operand)
    (ho : o.op = .call { callee := .builtin .append, args := #[s, x], argTypes := #[44, 44] }) (v : Value) (xs : List (Int × Int)) (g : Int × Int) (hs : a.eval s = v) (hr : CoQ w0 w v xs)
    (hx : a.eval x = .slice (some ⟨w.heap.size, 0, none⟩) 1 1) (hl : xs.length ≤ 1000)
    (h : ∀ v' w', CoQ w0 w' v' (xs ++ [g]) → wpList Try.prog ops Q rest (a.put o.dst v') w') : wpList Try.prog ops Q (o :: rest) a (w.alloc (.cells #[.int .i64 g.1, .int .i64 g.2] 85)) := by
  obtain ⟨i0, hi, hz0, hz1, hz2⟩ := info_parts infoClash
  refine wpList_append_own _ hgd s x 44 ho w0.heap.size 85 i0 (.agg #[.int .i64 0, .int .i64 0]) 2 16 Try.underlying44 hi hz0 hz1 hz2 rfl (by decide) v xs.length (pairC xs) hs ((hr.keep (bA (bR w) _)).1) ⟨w.heap.size, 0, none⟩ 1 1 [.int .i64 g.1, .int .i64 g.2] hx rfl (srcQ2 _ _ _ _) (by intro y hy; simp at hy; rcases hy with rfl | rfl <;> rfl) (by unfold maxLen; omega) (by omega) (by have := hr.2.size; simp; omega) ?_
  intro v' w' hown hg _
  refine h v' w' ⟨?_, bel_grownS (bA hr.2 _) hg (fun r e => (own_blk hr.1 r e).1)⟩
  rw [pairC_snoc, List.length_append]; exact hown
/-- The clashes of a plate. -/
def cjB (G : Int) (ss : List Sit) (k l : Nat) : Bool := decide (k ≠ l ∧ clS (siAt ss k) (siAt ss l) < G)
def clI (G : Int) (ss : List Sit) (k : Nat) : Nat → List (Int × Int)
  | 0 => []
  | n + 1 => clI G ss k n ++ (if cjB G ss k n then [((k : Int), (n : Int))] else [])
def clO (G : Int) (ss : List Sit) : Nat → List (Int × Int)
  | 0 => []
  | n + 1 => clO G ss n ++ clI G ss n ss.length
theorem clI_len (G : Int) (ss : List Sit) (k : Nat) : ∀ n, (clI G ss k n).length ≤ n
  | 0 => Nat.le_refl _
  | n + 1 => by
    have := clI_len G ss k n
    rw [clI, List.length_append]
    split <;> simp <;> omega
theorem clO_len (G : Int) (ss : List Sit) (h : ss.length ≤ 20) : ∀ n, (clO G ss n).length ≤ 20 * n
  | 0 => Nat.le_refl _
  | n + 1 => by
    have := clO_len G ss h n
    have h2 := clI_len G ss n ss.length
    rw [clO, List.length_append]
    omega
theorem clI_yes {G : Int} {ss : List Sit} {k l : Nat} (h : k ≠ l) (h2 : clS (siAt ss k) (siAt ss l) < G) : clI G ss k (l + 1) = clI G ss k l ++ [((k : Int), (l : Int))] := by
  rw [clI, show cjB G ss k l = true from decide_eq_true ⟨h, h2⟩]; rfl
theorem clI_no {G : Int} {ss : List Sit} {k l : Nat} (h : ¬ (k ≠ l ∧ clS (siAt ss k) (siAt ss l) < G)) : clI G ss k (l + 1) = clI G ss k l := by
  rw [clI, show cjB G ss k l = false from decide_eq_false h]; simp
def clF (W H M G : Int) (ss : List Sit) : List (Int × Int) × Int := if okPl W H M G ss then (clO G ss ss.length, 0) else ([], 1)
theorem clF_len (W H M G : Int) (ss : List Sit) : (clF W H M G ss).1.length ≤ 400 := by
  unfold clF; split
  · rename_i h
    have h20 := (okPl_parts h).2.2.2.2.1
    have := clO_len G ss h20 ss.length
    simp only; omega
  · simp
def CoPost (w : World) (x : List (Int × Int) × Int) (e : Ending) (w' : World) : Prop := ∃ v, e = .returned (.tuple #[v, .int .i64 x.2]) ∧ CoQ w w' v x.1
def CoO (w : World) (G : Int) (ss : List Sit) (v i : Value) (wr : World) : Prop := ∃ k : Nat, k ≤ ss.length ∧ i = .int .i64 k ∧ CoQ w wr v (clO G ss k)
def CoI (w : World) (G : Int) (ss : List Sit) (k : Nat) (v i : Value) (wr : World) : Prop := ∃ l : Nat, l ≤ ss.length ∧ i = .int .i64 l ∧ CoQ w wr v (clO G ss k ++ clI G ss k l)
/-- What stands in a round over two sites. -/
def ClQ (W0 : World) (bx : Nat) (W H M G : Int) (v : Value) (ss : List Sit) (w' : World) : Prop :=
  w'.cell? ⟨bx, 0, none⟩ = some (.int .i64 W) ∧ w'.cell? ⟨bx, 1, none⟩ = some (.int .i64 H) ∧ w'.cell? ⟨bx, 2, none⟩ = some (.int .i64 M) ∧ w'.cell? ⟨bx, 3, none⟩ = some (.int .i64 G) ∧ w'.cell? ⟨bx, 4, none⟩ = some v ∧ bx < w'.heap.size ∧ SlSi w' v ss ∧ Below W0.heap.size W0 w'
theorem ClQ.keep {W0 : World} {bx : Nat} {W H M G : Int} {v : Value} {ss : List Sit} {w' w2 : World} (hb : Below w'.heap.size w' w2) (h : ClQ W0 bx W H M G v ss w') : ClQ W0 bx W H M G v ss w2 := by
  obtain ⟨a0, a1, a2, a3, a4, e1, e2, e3⟩ := h
  exact ⟨(hb.cell (p := ⟨bx, 0, none⟩) e1).trans a0, (hb.cell (p := ⟨bx, 1, none⟩) e1).trans a1, (hb.cell (p := ⟨bx, 2, none⟩) e1).trans a2, (hb.cell (p := ⟨bx, 3, none⟩) e1).trans a3, (hb.cell (p := ⟨bx, 4, none⟩) e1).trans a4, Nat.lt_of_lt_of_le e1 hb.size, e2.keep hb, bT e3 hb⟩
theorem ClQ.drew {W0 : World} {bx : Nat} {W H M G : Int} {v : Value} {ss : List Sit} {w' : World} (h : ClQ W0 bx W H M G v ss w') : ClQ W0 bx W H M G v ss w'.drew := h.keep (bR _).drew
set_option maxRecDepth 100000 in
set_option maxHeartbeats 8000000 in
theorem ClashesS_any (p : Pl4) (ss : List Sit) (v : Value) (w : World) (ha : SlSi w v ss) :
    Calls Try.prog 18 #[plV p v] w (CoPost w (clF p.W p.H p.M p.G ss)) := by
  obtain ⟨W, H, M, G⟩ := p
  obtain ⟨h0, ao, cap, rfl, hcp, hc⟩ := ha
  have HV := Lib.hid (fun W' (h : SlSi W' (.slice ao ss.length cap) ss) => l09Plate_any ⟨W, H, M, G⟩ ss (.slice ao ss.length cap) W' h)
  unfold plV at HV
  simp only at HV
  unfold plV
  simp only
  have X := Lib.hid (BoxL.new w [.int .i64 W, .int .i64 H, .int .i64 M, .int .i64 G, .slice ao ss.length cap] 49)
  have L0 := Lib.hid (bA (bR w) (.cells #[.int .i64 W, .int .i64 H, .int .i64 M, .int .i64 G, .slice ao ss.length cap] 49))
  have HA := Lib.hid (SlSi.keep (show SlSi w (.slice ao ss.length cap) ss from ⟨h0, ao, cap, rfl, hcp, hc⟩) L0.out)
  clear hc hcp
  cases hok : okPl W H M G ss
  · rw [show clF W H M G ss = ([], 1) by simp [clF, hok]]
    rw [hok] at HV
    go_enter Try.func18, Try.ntmps18
    go_wp2_with fail
    refine (HV.out _ HA.out).mono ?_
    rintro e w1 ⟨rfl, hb⟩
    go_wp2_with fail
    go_ret2
    exact ⟨_, rfl, CoQ.nil (bT L0.out hb)⟩
  rw [show clF W H M G ss = (clO G ss ss.length, 0) by simp [clF, hok]]
  rw [hok] at HV
  have h20 := (okPl_parts hok).2.2.2.2.1
  have HOK := Lib.hid hok
  go_enter Try.func18, Try.ntmps18
  go_wp2_with fail
  refine (HV.out _ HA.out).mono ?_
  rintro e w1 ⟨rfl, hb⟩
  have L1 := Lib.hid (bT L0.out hb)
  have H1 := Lib.hid (HA.out.keep hb)
  have X1 := Lib.hid (X.out.keep hb)
  clear hb X L0 HA HV hok
  have RS := Lib.hid (show CoO w1 G ss (.slice (some ⟨w1.heap.size, 0, none⟩) 0 0) (.int .i64 0) (w1.alloc (.cells #[] 85)) from ⟨0, by omega, rfl, rowC0 _ _, bA (bR _) _⟩)
  go_wp2_with fail
  go_loopw [4, 5] (fun v i wr => CoO w1 G ss v i wr) (fun _ i _ => ss.length - (intOf i).toNat)
  case atStart => exact RS.out
  case round =>
    obtain ⟨k, hk, rfl, hS⟩ := hrel
    have HS := Lib.hid hS
    obtain ⟨x0, x1, x2, x3, x4, x5⟩ := (X1.out.keep hS.2).c5
    have hol := clO_len G ss h20 k
    clear RS hS
    by_cases hlt : k < ss.length
    · go_wp2_with fail
      clear x0 x1 x2 x3 x4 x5
      go_loopw [4, 6] (fun v i wr => CoI w1 G ss k v i wr) (fun _ i _ => ss.length - (intOf i).toNat)
      case atStart => exact ⟨0, by omega, rfl, by simpa [clI] using HS.out⟩
      case round =>
        obtain ⟨l, hl, rfl, hS⟩ := hrel
        have HT := Lib.hid hS
        obtain ⟨x0, x1, x2, x3, x4, x5⟩ := (X1.out.keep hS.2).c5
        have hil := clI_len G ss k l
        have H2 := Lib.hid (H1.out.keep hS.2)
        clear hS
        by_cases hlt2 : l < ss.length
        · have HC := Lib.hid (fun W' (h : SlSi W' (.slice ao ss.length cap) ss) => l09Clear_any W H M G ss (.slice ao ss.length cap) k l W' h HOK.out hlt hlt2)
          have HY := Lib.hid (clI_yes (G := G) (ss := ss) (k := k) (l := l))
          have HN := Lib.hid (clI_no (G := G) (ss := ss) (k := k) (l := l))
          generalize clS (siAt ss k) (siAt ss l) = c at *
          by_cases hkl : k = l
          · have hkl' : ((k : Int) != (l : Int)) = false := by simp [hkl]
            have HN' := Lib.hid (HN.out (fun h => h.1 hkl))
            go_wp2_with fail
            go_quiet (fail)
            go_wp2_with fail
            have HT2 := Lib.hid (HT.out.keep (bD (bR wr) nq))
            go_roundw
            case rel => exact ⟨l + 1, by omega, by go_num, by rw [HN'.out]; exact HT2.out⟩
            case measure => simp [intOf]; omega
          · have hkl' : ((k : Int) != (l : Int)) = true := by simp; omega
            have hkl2 : ¬ (k : Int) = (l : Int) := by omega
            go_wp2_with fail
            have HS0 : ClQ wr w.heap.size W H M G (.slice ao ss.length cap) ss wr := ⟨x0, x1, x2, x3, x4, x5, H2.out, bR _⟩
            clear x0 x1 x2 x3 x4 x5
            go_region_held3 (fun w' => w'.cell? ⟨w.heap.size, 0, none⟩ = some (.int .i64 W) ∧ w'.cell? ⟨w.heap.size, 1, none⟩ = some (.int .i64 H) ∧ w'.cell? ⟨w.heap.size, 2, none⟩ = some (.int .i64 M) ∧ w'.cell? ⟨w.heap.size, 3, none⟩ = some (.int .i64 G) ∧ w'.cell? ⟨w.heap.size, 4, none⟩ = some (.slice ao ss.length cap) ∧ w.heap.size < w'.heap.size ∧ SlSi w' (.slice ao ss.length cap) ss ∧ Below wr.heap.size wr w') (first | exact HS0.drew | assumption | exact ClQ.keep hb (by first | assumption | exact HS0.drew))
              ((go_at_call 53; have hS : ClQ wr w.heap.size W H M G (.slice ao ss.length cap) ss _ := (by first | assumption | exact HS0.drew); refine (HC.out _ hS.2.2.2.2.2.2.1).mono ?_; clear hS; rintro e w' ⟨rfl, hb⟩))
            have HT' : ClQ wr w.heap.size W H M G (.slice ao ss.length cap) ss w' := by assumption
            have HT2 := Lib.hid (HT.out.keep HT'.2.2.2.2.2.2.2)
            clear HT' HS0
            by_cases hc : c < G
            · have HY' := Lib.hid (HY.out hkl hc)
              go_wp2_with (at_builtin; refine app_cl rfl _ _ rfl _ _ ((k : Int), (l : Int)) rfl HT2.out rfl (by rw [List.length_append]; omega) ?_)
              intro v' w2 hR
              have R := Lib.hid hR
              clear hR
              go_wp2_with fail
              go_roundw
              case rel => exact ⟨l + 1, by omega, by go_num, by rw [HY'.out]; exact R.out⟩
              case measure => simp [intOf]; omega
            · have HN' := Lib.hid (HN.out (fun h => hc h.2))
              go_wp2_with fail
              go_roundw
              case rel => exact ⟨l + 1, by omega, by go_num, by rw [HN'.out]; exact HT2.out⟩
              case measure => simp [intOf]; omega
        · obtain rfl : l = ss.length := by omega
          go_wp2_with fail
          go_roundw
          case rel => exact ⟨k + 1, by omega, by go_num, by rw [clO]; exact HT.out⟩
          case measure => simp [intOf]; omega
    · obtain rfl : k = ss.length := by omega
      have HE := Lib.hid (HS.out.low L1.out)
      go_wp2_with fail
      go_ret2
      exact ⟨_, rfl, HE.out⟩
end Go.Proofs.Ytgkfelochpllgaa
