/-
  What is wrong with planetary gears: the contracts of the methods of impl.Epi, of impl.EpiFaults and impl.ValidEpi.
-/
import Derived.Test.YtcklcledchboiaaDoorEpF
namespace Go.Proofs.YtcklcledchboiaaDoor
open Go.RowKit

theorem hasWrongTeeth_any (s r p c : Int) (w : World) :
    Calls Tryd.prog 66 #[.agg #[.int .i64 s, .int .i64 r, .int .i64 p, .int .i64 c]] w (BoolBel (ftE s r p) w) := by
  cases h1 : inB s 6 240
  · have HE := Lib.hid (show true = ftE s r p by simp [ftE, h1])
    go_enter Tryd.func66, Tryd.ntmps66
    go_wp2_with (go_at_call 100; refine (toothValid_any _ _).mono ?_; rintro e w1 ⟨rfl, rfl⟩)
    go_ret
    exact ⟨ret_bool HE.out, bA (bR _) _⟩
  · cases h2 : inB r 6 240
    · have HE := Lib.hid (show true = ftE s r p by simp [ftE, h2])
      go_enter Tryd.func66, Tryd.ntmps66
      go_wp2_with (go_at_call 100; refine (toothValid_any _ _).mono ?_; rintro e w1 ⟨rfl, rfl⟩)
      go_ret
      exact ⟨ret_bool HE.out, bA (bR _) _⟩
    · have HE := Lib.hid (show (!inB p 6 240) = ftE s r p by simp [ftE, h1, h2])
      go_enter Tryd.func66, Tryd.ntmps66
      go_wp2_with (go_at_call 100; refine (toothValid_any _ _).mono ?_; rintro e w1 ⟨rfl, rfl⟩)
      go_ret
      exact ⟨ret_bool HE.out, bA (bR _) _⟩
theorem hasWrongCount_any (s r p c : Int) (w : World) :
    Calls Tryd.prog 67 #[.agg #[.int .i64 s, .int .i64 r, .int .i64 p, .int .i64 c]] w (BoolBel (fcE c) w) := by
  by_cases h1 : c < 1
  · have HE := Lib.hid (show true = fcE c by simp [fcE, inB]; omega)
    go_enter Tryd.func67, Tryd.ntmps67
    go_wp2_with fail
    go_ret
    exact ⟨ret_bool HE.out, bA (bR _) _⟩
  · have HE := Lib.hid (show decide (8 < c) = fcE c by rw [Bool.eq_iff_iff]; simp [fcE, inB]; omega)
    go_enter Tryd.func67, Tryd.ntmps67
    go_wp2_with fail
    go_ret
    exact ⟨ret_bool HE.out, bA (bR _) _⟩
theorem hasWrongRing_any (s r p c : Int) (w : World) (h : ftE s r p = false) :
    Calls Tryd.prog 68 #[.agg #[.int .i64 s, .int .i64 r, .int .i64 p, .int .i64 c]] w (BoolBel (frE s r p) w) := by
  obtain ⟨⟨a1, a2⟩, ⟨b1, b2⟩, c1, c2⟩ := ft_false h
  have w1 : IntKind.i64.wrap (2 * p) = 2 * p := IntWalk.i64_in _ (by omega)
  have w2 : IntKind.i64.wrap (s + 2 * p) = s + 2 * p := IntWalk.i64_in _ (by omega)
  go_enter Tryd.func68, Tryd.ntmps68
  go_wp2_with fail
  go_ret
  exact ⟨ret_bool (by simp [frE]), bA (bR _) _⟩
theorem cannotBeAssembled_any (s r p c : Int) (w : World) (h : ftE s r p = false) (h2 : fcE c = false) :
    Calls Tryd.prog 69 #[.agg #[.int .i64 s, .int .i64 r, .int .i64 p, .int .i64 c]] w (BoolBel (faE s r c) w) := by
  obtain ⟨⟨a1, a2⟩, ⟨b1, b2⟩, c1, c2⟩ := ft_false h
  obtain ⟨d1, d2⟩ := fc_false h2
  have w2 : IntKind.i64.wrap (s + r) = s + r := IntWalk.i64_in _ (by omega)
  have z : c ≠ 0 := by omega
  go_enter Tryd.func69, Tryd.ntmps69
  go_wp2_with fail
  go_ret
  exact ⟨ret_bool (by simp [faE]), bA (bR _) _⟩
theorem sin_bd (k : Nat) (h : k < 7) : 0 ≤ sinL.getD k 0 ∧ sinL.getD k 0 ≤ 1000000 := by
  match k, h with
  | 0, _ => decide
  | 1, _ => decide
  | 2, _ => decide
  | 3, _ => decide
  | 4, _ => decide
  | 5, _ => decide
  | 6, _ => decide
set_option maxHeartbeats 1000000 in
theorem lacksSpace_any (s r p c : Int) (w : World) (hs : Sines w) (h : ftE s r p = false) (h2 : fcE c = false) :
    Calls Tryd.prog 70 #[.agg #[.int .i64 s, .int .i64 r, .int .i64 p, .int .i64 c]] w (BoolBel (fsE s p c) w) := by
  obtain ⟨⟨a1, a2⟩, ⟨b1, b2⟩, c1, c2⟩ := ft_false h
  obtain ⟨d1, d2⟩ := fc_false h2
  by_cases hc : 2 ≤ c
  · obtain ⟨k, hk⟩ : ∃ k : Nat, (k : Int) = c - 2 := ⟨(c - 2).toNat, by omega⟩
    obtain rfl : c = (k : Int) + 2 := by omega
    have hk7 : k < 7 := by omega
    have ht := (hs.keep (bA (bR w) (.cells #[.int .i64 s, .int .i64 r, .int .i64 p, .int .i64 ((k : Int) + 2)] 25))).at_ k hk7
    obtain ⟨e1, e2⟩ := sin_bd k hk7
    have hE : fsE s p ((k : Int) + 2) = decide ((s + p) * sinL.getD k 0 ≤ (p + 2) * 1000000) := by
      unfold fsE sinE
      have : ((k : Int) + 2 - 2).toNat = k := by omega
      rw [this]
      simp
      omega
    rw [hE]
    generalize sinL.getD k 0 = S at *
    have m1 : (s + p) * S ≤ 480 * 1000000 := Int.mul_le_mul (by omega) e2 e1 (by omega)
    have m0 : 0 ≤ (s + p) * S := Int.mul_nonneg (by omega) e1
    have w1 : IntKind.i64.wrap (s + p) = s + p := IntWalk.i64_in _ (by omega)
    have w2 : IntKind.i64.wrap ((s + p) * S) = (s + p) * S := IntWalk.i64_in _ (by omega)
    have w3 : IntKind.i64.wrap (p + 2) = p + 2 := IntWalk.i64_in _ (by omega)
    have w4 : IntKind.i64.wrap ((p + 2) * 1000000) = (p + 2) * 1000000 := IntWalk.i64_in _ (by omega)
    have hg1 : decide ((2 : Int) ≤ (k : Int) + 2) = true := decide_eq_true (by omega)
    have hix : (k : Int) + 2 - 2 = (k : Int) := by omega
    have hiw : IntKind.i64.wrap (k : Int) = (k : Int) := IntWalk.i64_in _ (by omega)
    have hi0 : (0 : Int) ≤ (k : Int) := by omega
    have hi7 : (k : Int) < 7 := by omega
    have HM := Lib.hid (And.intro m0 m1)
    clear hE hk h h2 m0 m1 hs
    go_enter Tryd.func70, Tryd.ntmps70
    go_wp2_with fail
    go_quiet (fail)
    go_wp2_with fail
    go_ret
    exact ⟨rfl, bD (bA (bR _) _) _⟩
  · have hg1 : decide ((2 : Int) ≤ c) = false := decide_eq_false hc
    have HE := Lib.hid (show false = fsE s p c by simp [fsE]; omega)
    go_enter Tryd.func70, Tryd.ntmps70
    go_wp2_with fail
    go_quiet (fail)
    go_wp2_with fail
    go_ret
    exact ⟨ret_bool HE.out, bD (bA (bR _) _) _⟩

/-- The faults that are asked first, and those behind them. -/
def fts1 (s r p c : Int) : List Ft := [(wTeeth, 66, ftE s r p), (wCount, 67, fcE c)]
def fts2 (s r p c : Int) : List Ft := [(wRing, 68, frE s r p), (wAssembly, 69, faE s r c), (wSpace, 70, fsE s p c)]
theorem fts1_pick (s r p c : Int) : pickF (fts1 s r p c) = ep1 s r p c := by
  unfold pickF fts1 ep1 pickW pickW pickW
  cases ftE s r p <;> cases fcE c <;> rfl
theorem fts2_pick (s r p c : Int) : pickF (fts2 s r p c) = ep2 s r p c := by
  unfold pickF fts2 ep2 pickW pickW pickW pickW
  cases frE s r p <;> cases faE s r c <;> cases fsE s p c <;> rfl
theorem fts1_at (W : World) (s r p c : Int) (e : Value) (t : TypeId) : FtAt (W.alloc (.cells #[.string wTeeth, .func (.func 66) #[e] #[], .string wCount, .func (.func 67) #[e] #[]] t)) W.heap.size e (fts1 s r p c) := by
  intro i hi
  match i, hi with
  | 0, _ => exact ⟨by simp [go_sem, fat, fts1], by simp [go_sem, fat, fts1]⟩
  | 1, _ => exact ⟨by simp [go_sem, fat, fts1], by simp [go_sem, fat, fts1]⟩
theorem fts2_at (W : World) (s r p c : Int) (e : Value) (t : TypeId) : FtAt (W.alloc (.cells #[.string wRing, .func (.func 68) #[e] #[], .string wAssembly, .func (.func 69) #[e] #[], .string wSpace, .func (.func 70) #[e] #[]] t)) W.heap.size e (fts2 s r p c) := by
  intro i hi
  match i, hi with
  | 0, _ => exact ⟨by simp [go_sem, fat, fts2], by simp [go_sem, fat, fts2]⟩
  | 1, _ => exact ⟨by simp [go_sem, fat, fts2], by simp [go_sem, fat, fts2]⟩
  | 2, _ => exact ⟨by simp [go_sem, fat, fts2], by simp [go_sem, fat, fts2]⟩
def agE (s r p c : Int) : Value := .agg #[.int .i64 s, .int .i64 r, .int .i64 p, .int .i64 c]
theorem fts1_run (s r p c : Int) : ∀ i, i < (fts1 s r p c).length → ∀ W, Calls Tryd.prog (fat (fts1 s r p c) i).2.1 #[agE s r p c] W (BoolBel (fat (fts1 s r p c) i).2.2 W) := by
  intro i hi W
  match i, hi with
  | 0, _ => exact hasWrongTeeth_any s r p c W
  | 1, _ => exact hasWrongCount_any s r p c W
theorem fts1_in (s r p c : Int) : ∀ i, i < (fts1 s r p c).length → Enters Tryd.prog (fat (fts1 s r p c) i).2.1 := by
  intro i hi
  match i, hi with
  | 0, _ => exact enters_of Tryd.func66 (by kernel_rfl) rfl
  | 1, _ => exact enters_of Tryd.func67 (by kernel_rfl) rfl
theorem fts2_run (s r p c : Int) (h : ftE s r p = false) (h2 : fcE c = false) : ∀ i, i < (fts2 s r p c).length → ∀ W, Sines W → Calls Tryd.prog (fat (fts2 s r p c) i).2.1 #[agE s r p c] W (BoolBel (fat (fts2 s r p c) i).2.2 W) := by
  intro i hi W hS
  match i, hi with
  | 0, _ => exact hasWrongRing_any s r p c W h
  | 1, _ => exact cannotBeAssembled_any s r p c W h h2
  | 2, _ => exact lacksSpace_any s r p c W hS h h2
theorem fts2_in (s r p c : Int) : ∀ i, i < (fts2 s r p c).length → Enters Tryd.prog (fat (fts2 s r p c) i).2.1 := by
  intro i hi
  match i, hi with
  | 0, _ => exact enters_of Tryd.func68 (by kernel_rfl) rfl
  | 1, _ => exact enters_of Tryd.func69 (by kernel_rfl) rfl
  | 2, _ => exact enters_of Tryd.func70 (by kernel_rfl) rfl
theorem ep1_some {s r p c : Int} (h : (ftE s r p || fcE c) = true) : 0 < (ep1 s r p c).length ∧ epF s r p c = ep1 s r p c := by
  refine ⟨?_, by simp [epF, h]⟩
  unfold ep1 pickW pickW pickW
  cases h1 : ftE s r p <;> cases h2 : fcE c <;> simp_all
theorem ep1_none {s r p c : Int} (h : (ftE s r p || fcE c) = false) : ep1 s r p c = [] ∧ epF s r p c = ep2 s r p c ∧ ftE s r p = false ∧ fcE c = false := by
  have h1 : ftE s r p = false ∧ fcE c = false := by simpa using h
  refine ⟨?_, by simp [epF, h], h1.1, h1.2⟩
  unfold ep1 pickW pickW pickW
  simp [h1]
theorem WdR.slS {w0 w : World} {v : Value} {ps : List ByteArray} (h : WdR w0 w v ps) : ∃ ao cap, v = .slice ao ps.length cap := by
  obtain ⟨ao, cap, e, _⟩ := slS_of h.1
  exact ⟨ao, cap, e⟩
/-- A box of four numbers. -/
structure Box4 (w : World) (b : Nat) (x0 x1 x2 x3 : Int) : Prop where
  c0 : w.cell? ⟨b, 0, none⟩ = some (.int .i64 x0)
  c1 : w.cell? ⟨b, 1, none⟩ = some (.int .i64 x1)
  c2 : w.cell? ⟨b, 2, none⟩ = some (.int .i64 x2)
  c3 : w.cell? ⟨b, 3, none⟩ = some (.int .i64 x3)
  lt : b < w.heap.size
theorem Box4.new (w : World) (x0 x1 x2 x3 : Int) (T : TypeId) : Box4 (w.alloc (.cells #[.int .i64 x0, .int .i64 x1, .int .i64 x2, .int .i64 x3] T)) w.heap.size x0 x1 x2 x3 :=
  ⟨by simp [go_sem], by simp [go_sem], by simp [go_sem], by simp [go_sem], by simp⟩
theorem Box4.keep {w w' : World} {b : Nat} {x0 x1 x2 x3 : Int} (h : Box4 w b x0 x1 x2 x3) (hb : Below w.heap.size w w') : Box4 w' b x0 x1 x2 x3 :=
  ⟨(hb.cell (p := ⟨b, 0, none⟩) h.lt).trans h.c0, (hb.cell (p := ⟨b, 1, none⟩) h.lt).trans h.c1, (hb.cell (p := ⟨b, 2, none⟩) h.lt).trans h.c2, (hb.cell (p := ⟨b, 3, none⟩) h.lt).trans h.c3, Nat.lt_of_lt_of_le h.lt hb.size⟩
theorem Box4.drew {w : World} {b : Nat} {x0 x1 x2 x3 : Int} (h : Box4 w b x0 x1 x2 x3) : Box4 w.drew b x0 x1 x2 x3 := ⟨h.c0, h.c1, h.c2, h.c3, h.lt⟩
set_option maxRecDepth 100000 in
set_option maxHeartbeats 1000000 in
theorem EpiFaultsI_any (s r p c : Int) (w : World) (hS : Sines w) :
    Calls Tryd.prog 24 #[.agg #[.int .i64 s, .int .i64 r, .int .i64 p, .int .i64 c]] w (WoRet w (epF s r p c)) := by
  have R1 := Lib.hid (fun (W : World) g cap hg hc => wordsOf_any (agE s r p c) (fts1 s r p c) g cap W hg hc (by simp [fts1]) (fts1_in s r p c) (fun i hi W' _ => fts1_run s r p c i hi W'))
  have A1 := Lib.hid (fts1_at (w.alloc (.cells #[.int .i64 s, .int .i64 r, .int .i64 p, .int .i64 c] 25)) s r p c (agE s r p c) 71)
  have L1 := Lib.hid (bA (bA (bR w) (.cells #[.int .i64 s, .int .i64 r, .int .i64 p, .int .i64 c] 25)) (.cells #[.string wTeeth, .func (.func 66) #[agE s r p c] #[], .string wCount, .func (.func 67) #[agE s r p c] #[]] 71))
  have B0 := Lib.hid ((Box4.new w s r p c 25).keep (bA (bR _) (.cells #[.string wTeeth, .func (.func 66) #[agE s r p c] #[], .string wCount, .func (.func 67) #[agE s r p c] #[]] 71)))
  have HS := Lib.hid hS
  clear hS
  go_enter Tryd.func24, Tryd.ntmps24
  go_wp2_with fail
  refine (R1.out _ _ _ ?_ ?_).mono ?_
  · simp
  · have := A1.out
    rw [show (w.alloc (.cells #[.int .i64 s, .int .i64 r, .int .i64 p, .int .i64 c] 25)).heap.size = w.heap.size + 1 by simp] at this
    exact this
  rintro e w1 ⟨v, rfl, hr⟩
  rw [fts1_pick] at hr
  obtain ⟨ao, cap, rfl⟩ := hr.slS
  have RW := Lib.hid (hr.lower L1.out)
  have B1 := Lib.hid (B0.out.keep hr.2)
  clear hr R1 A1 L1 B0
  cases h : ftE s r p || fcE c
  · obtain ⟨e0, e1, t1, t2⟩ := ep1_none h
    have EP := Lib.hid e1
    rw [e0] at RW ⊢
    have S1 := Lib.hid (HS.out.keep RW.out.2)
    have R2 := Lib.hid (fun (W : World) g cap hg hc (hb : Below w1.heap.size w1 W) => wordsOf_any (agE s r p c) (fts2 s r p c) g cap W hg hc (by simp [fts2]) (fts2_in s r p c) (fun i hi W' hW => fts2_run s r p c t1 t2 i hi W' ((S1.out.keep hb).keep hW)))
    have A2 := Lib.hid (fts2_at w1 s r p c (agE s r p c) 71)
    obtain ⟨c0, c1, c2, c3, c4⟩ := B1.out
    clear e0 e1 t1 t2 h B1
    go_wp2_with fail
    refine (R2.out _ _ _ ?_ ?_ ?_).mono ?_
    · simp
    · exact A2.out
    · exact bA (bR _) _
    rintro e w2 ⟨v, rfl, hr⟩
    rw [fts2_pick] at hr
    have RV := Lib.hid (hr.lower (bA RW.out.2 _))
    clear hr
    go_wp2_with fail
    go_ret
    exact ⟨v, rfl, by rw [EP.out]; exact RV.out⟩
  · obtain ⟨e0, e1⟩ := ep1_some h
    have EP := Lib.hid e1
    clear e1 h
    generalize ep1 s r p c = ws at *
    have hz : (0 : Int) < (ws.length : Int) := by omega
    go_wp2_with fail
    go_ret
    exact ⟨.slice ao ws.length cap, rfl, by rw [EP.out]; exact RW.out⟩
theorem ValidEpiI_any (s r p c : Int) (w : World) (hS : Sines w) :
    Calls Tryd.prog 29 #[.agg #[.int .i64 s, .int .i64 r, .int .i64 p, .int .i64 c]] w (BoolBel (okE s r p c) w) := by
  have L1 := Lib.hid (bA (bR w) (.cells #[.int .i64 s, .int .i64 r, .int .i64 p, .int .i64 c] 25))
  have HS := Lib.hid (hS.keep L1.out)
  have HE := Lib.hid (epF_ok s r p c)
  clear hS
  go_enter Tryd.func29, Tryd.ntmps29
  go_wp2_with fail
  refine (EpiFaultsI_any s r p c _ HS.out).mono ?_
  rintro e w1 ⟨v, rfl, hr⟩
  obtain ⟨ao, cap, rfl⟩ := hr.slS
  have LB := Lib.hid (bT L1.out hr.2)
  clear hr
  go_wp2_with fail
  go_ret
  exact ⟨ret_bool (by rw [← HE.out]; first | rfl | (rw [Bool.eq_iff_iff]; simp)), LB.out⟩
end Go.Proofs.YtcklcledchboiaaDoor
