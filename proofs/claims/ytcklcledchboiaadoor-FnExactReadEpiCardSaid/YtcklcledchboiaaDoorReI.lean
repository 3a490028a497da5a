/-
  Reading planetary gears: the contracts of impl.gearsWith, impl.ReadEpi, spec.ReadEpi, laws.eqEpi; the walk of laws.FnExactReadEpi.
-/
import Derived.Test.YtcklcledchboiaaDoorReM
namespace Go.Proofs.YtcklcledchboiaaDoor
open Go.RowKit

/-- A box of four numbers that can be written. -/
structure Box4F (w : World) (b : Nat) (x0 x1 x2 x3 : Int) : Prop where
  c0 : w.cell? ⟨b, 0, none⟩ = some (.int .i64 x0)
  c1 : w.cell? ⟨b, 1, none⟩ = some (.int .i64 x1)
  c2 : w.cell? ⟨b, 2, none⟩ = some (.int .i64 x2)
  c3 : w.cell? ⟨b, 3, none⟩ = some (.int .i64 x3)
  f0 : w.frozen? ⟨b, 0, none⟩ = false
  f1 : w.frozen? ⟨b, 1, none⟩ = false
  f2 : w.frozen? ⟨b, 2, none⟩ = false
  f3 : w.frozen? ⟨b, 3, none⟩ = false
  lt : b < w.heap.size
theorem Box4F.new (w : World) (x0 x1 x2 x3 : Int) (T : TypeId) : Box4F (w.alloc (.cells #[.int .i64 x0, .int .i64 x1, .int .i64 x2, .int .i64 x3] T)) w.heap.size x0 x1 x2 x3 :=
  ⟨by simp [go_sem], by simp [go_sem], by simp [go_sem], by simp [go_sem], by simp [go_sem], by simp [go_sem], by simp [go_sem], by simp [go_sem], by simp⟩
theorem Box4F.keep {w w' : World} {b : Nat} {x0 x1 x2 x3 : Int} (h : Box4F w b x0 x1 x2 x3) (hb : Below w.heap.size w w') : Box4F w' b x0 x1 x2 x3 :=
  ⟨(hb.cell (p := ⟨b, 0, none⟩) h.lt).trans h.c0, (hb.cell (p := ⟨b, 1, none⟩) h.lt).trans h.c1, (hb.cell (p := ⟨b, 2, none⟩) h.lt).trans h.c2, (hb.cell (p := ⟨b, 3, none⟩) h.lt).trans h.c3,
   (hb.frozen (p := ⟨b, 0, none⟩) h.lt).trans h.f0, (hb.frozen (p := ⟨b, 1, none⟩) h.lt).trans h.f1, (hb.frozen (p := ⟨b, 2, none⟩) h.lt).trans h.f2, (hb.frozen (p := ⟨b, 3, none⟩) h.lt).trans h.f3, Nat.lt_of_lt_of_le h.lt hb.size⟩
theorem bset4 {w x : World} {b : Nat} {v0 v1 v2 v3 : Value} (h : Below w.heap.size w x) (ha : w.heap.size ≤ b) : Below w.heap.size w ((((x.setCell ⟨b, 0, none⟩ v0).setCell ⟨b, 1, none⟩ v1).setCell ⟨b, 2, none⟩ v2).setCell ⟨b, 3, none⟩ v3) :=
  (((h.setCell ha v0).setCell ha v1).setCell ha v2).setCell ha v3
/-- What ReadEpi returns. -/
abbrev R5 := Int × Int × Int × Int × Bool
noncomputable def re5 (l : List UInt8) : R5 := match reE l with
  | some (a, b, c) => (a, a + 2 * b, b, c, true)
  | none => (0, 0, 0, 0, false)
theorem re5_none {l : List UInt8} (h : reE l = none) : re5 l = (0, 0, 0, 0, false) := by simp [re5, h]
theorem re5_some {l : List UInt8} {a b c : Int} (h : reE l = some (a, b, c)) : re5 l = (a, a + 2 * b, b, c, true) := by simp [re5, h]
def RePost (w : World) (x : R5) (e : Ending) (w' : World) : Prop := e = .returned (.tuple #[.agg #[.int .i64 x.1, .int .i64 x.2.1, .int .i64 x.2.2.1, .int .i64 x.2.2.2.1], .bool x.2.2.2.2]) ∧ Below w.heap.size w w'
theorem rd_bd {l : List UInt8} {n : Int} {ok : Bool} (h : RdIs l n ok) : -1000000000000000000 < n ∧ n < 1000000000000000000 := by
  rcases h with ⟨_, h, _⟩ | ⟨_, rfl, _⟩
  · exact h
  · omega
theorem three_of {α : Type} {l : List α} (h : l.length = 3) : ∃ x y z, l = [x, y, z] := by
  match l, h with
  | [x, y, z], _ => exact ⟨x, y, z, rfl⟩
set_option maxHeartbeats 1000000 in
theorem gearsWith_any (a b c : Int) (w : World) (h1 : -1000000000000000000 < a ∧ a < 1000000000000000000) (h2 : -1000000000000000000 < b ∧ b < 1000000000000000000) :
    Calls Tryd.prog 59 #[.int .i64 a, .int .i64 b, .int .i64 c] w fun e w' => e = .returned (.agg #[.int .i64 a, .int .i64 (a + 2 * b), .int .i64 b, .int .i64 c]) ∧ Below w.heap.size w w' := by
  have q1 : IntKind.i64.wrap (2 * b) = 2 * b := IntWalk.i64_in _ (by omega)
  have q2 : IntKind.i64.wrap (a + 2 * b) = a + 2 * b := IntWalk.i64_in _ (by omega)
  go_enter Tryd.func59, Tryd.ntmps59
  go_wp2_with fail
  exact bodyPost_ret (v := .agg #[.int .i64 a, .int .i64 (a + 2 * b), .int .i64 b, .int .i64 c]) (by simp [results, Tryd.results59, go_sem]) rfl ⟨rfl, bA (bR _) _⟩
theorem re_no3 {s : ByteArray} (h : (wrd s).length ≠ 3) : reE s.data.toList = none := by
  cases hr : reE s.data.toList with
  | none => rfl
  | some x =>
    obtain ⟨a, b, c⟩ := x
    obtain ⟨hk, rfl⟩ := re_some hr
    have := congrArg List.length (wrd_text hk)
    rw [List.length_map] at this
    exact absurd this h
theorem re_hit {s : ByteArray} {a b c : Int} (h : (wrd s).length = 3) (he : teB a (a + 2 * b) b c = s) : reE s.data.toList = some (a, b, c) := by
  cases hk : okE a (a + 2 * b) b c
  · rw [te_no hk] at he
    subst he
    have : (wrd ⟨#[]⟩).map (·.data.toList) = [] := by rw [wrd_parts]; rfl
    have := congrArg List.length this
    rw [List.length_map, h] at this
    cases this
  · rw [te_yes hk] at he
    subst he
    exact re_text hk
theorem re_miss {s : ByteArray} {x y z : ByteArray} {a b c : Int} {o0 o1 o2 : Bool} (h : wrd s = [x, y, z]) (h0 : RdIs x.data.toList a o0) (h1 : RdIs y.data.toList b o1) (h2 : RdIs z.data.toList c o2) (he : teB a (a + 2 * b) b c ≠ s) : reE s.data.toList = none := by
  cases hr : reE s.data.toList with
  | none => rfl
  | some q =>
    obtain ⟨a', b', c'⟩ := q
    obtain ⟨hk, rfl⟩ := re_some hr
    exfalso
    obtain ⟨⟨a1, a2⟩, _, ⟨c1, c2⟩, d1, d2⟩ := okE_bd hk
    have hw := wrd_text hk
    rw [h] at hw
    simp only [List.map_cons, List.map_nil, List.cons.injEq] at hw
    obtain ⟨e0, e1, e2, _⟩ := hw
    have k0 : RdIs x.data.toList a' true := .inl ⟨rfl, ⟨by omega, by omega⟩, e0.symm⟩
    have k1 : RdIs y.data.toList b' true := .inl ⟨rfl, ⟨by omega, by omega⟩, e1.symm⟩
    have k2 : RdIs z.data.toList c' true := .inl ⟨rfl, ⟨by omega, by omega⟩, e2.symm⟩
    rw [(RdIs.uniq h0 k0).1, (RdIs.uniq h1 k1).1, (RdIs.uniq h2 k2).1, te_yes hk] at he
    exact he rfl
theorem own_txt {W : World} {B : Nat} {v : Value} {ps : List ByteArray} (h : W.ownsRow B 9 1 v ps.length (strC ps)) : ∃ ao cap, v = .slice ao ps.length cap ∧ (1 ≤ ps.length → ∃ g, ao = some ⟨g, 0, none⟩ ∧ g < W.heap.size ∧ TextsAt W g ps) := slS_of h
set_option maxRecDepth 100000 in
set_option maxHeartbeats 8000000 in
theorem ReadEpiI_any (s : ByteArray) (w : World) (hs : s.size ≤ 1048576) (hP : Pow10 w) (hE : ErrVars w) (hS : Sines w) :
    Calls Tryd.prog 50 #[.string s] w (RePost w (re5 s.data.toList)) := by
  have B0 := Lib.hid (Box4F.new w 0 0 0 0 25)
  have L0 := Lib.hid (bA (bR w) (.cells #[.int .i64 0, .int .i64 0, .int .i64 0, .int .i64 0] 25))
  have P0 := Lib.hid (Pow10.keep L0.out hP)
  have E0 := Lib.hid (ErrVars.keep L0.out hE)
  have S0 := Lib.hid (hS.keep L0.out)
  have SW := Lib.hid (fun W => SplitWordsI_any s W hs)
  have hwl : ∀ i, i < (wrd s).length → (sat (wrd s) i).size ≤ 1048576 := by
    intro i hi
    have hm : sat (wrd s) i ∈ wrd s := by
      unfold sat
      rw [List.getElem?_eq_getElem hi]
      exact List.getElem_mem hi
    have hm2 : (sat (wrd s) i).data.toList ∈ (wrd s).map (·.data.toList) := List.mem_map.2 ⟨_, hm, rfl⟩
    rw [wrd_parts] at hm2
    have := splL_shortE 32 _ _ (List.mem_filter.1 hm2).1
    have e1 : (sat (wrd s) i).data.toList.length = (sat (wrd s) i).size := by simp
    have e2 : s.data.toList.length = s.size := by simp
    omega
  clear hP hE hS hs
  by_cases h3 : (wrd s).length = 3
  · obtain ⟨x, y, z, hw⟩ := three_of h3
    have HH := Lib.hid (fun a b c (he : teB a (a + 2 * b) b c = s) => re5_some (re_hit h3 he))
    have HM := Lib.hid (fun (a b c : Int) (o0 o1 o2 : Bool) h0 h1 h2 (he : teB a (a + 2 * b) b c ≠ s) => re5_none (re_miss (o0 := o0) (o1 := o1) (o2 := o2) hw h0 h1 h2 he))
    rw [hw] at SW hwl
    have z0 := hwl 0 (by simp)
    have z1 := hwl 1 (by simp)
    have z2 := hwl 2 (by simp)
    change x.size ≤ _ at z0
    change y.size ≤ _ at z1
    change z.size ≤ _ at z2
    have ZZ := Lib.hid (And.intro z0 (And.intro z1 z2))
    clear hwl hw h3 z0 z1 z2
    go_enter Tryd.func50, Tryd.ntmps50
    go_wp2_with fail
    generalize w.alloc (.cells #[.int .i64 0, .int .i64 0, .int .i64 0, .int .i64 0] 25) = W0 at *
    generalize hk : w.heap.size = k at *
    have L0' := Lib.hid (show Below w.heap.size w W0 by rw [hk]; exact L0.out)
    clear L0
    have L0 := L0'
    clear L0'
    refine (SW.out _).mono ?_
    rintro e w1 ⟨v, rfl, hown, hb⟩
    obtain ⟨ao, cap, rfl, ha⟩ := own_txt hown
    obtain ⟨g, rfl, hg, ht⟩ := ha (by simp)
    have L1 := Lib.hid (bT L0.out hb)
    have B1 := Lib.hid (B0.out.keep hb)
    have T1 := Lib.hid ht
    have g_lt1 := Lib.hid hg
    have P1 := Lib.hid (Pow10.keep hb P0.out)
    have E1 := Lib.hid (ErrVars.keep hb E0.out)
    have S1 := Lib.hid (S0.out.keep hb)
    clear hb hown ha hg ht SW
    have t0 : w1.cell? ⟨g, 0, none⟩ = some (.string x) := T1.out 0 (by simp)
    go_wp2_with fail
    refine (ReadDecimalI_any x _ ZZ.out.1 P1.out E1.out).mono ?_
    rintro e w2 ⟨⟨n0, o0, rfl, r0⟩, hb⟩
    have L2 := Lib.hid (bT L1.out hb)
    have B2 := Lib.hid (B1.out.keep hb)
    have T2 := Lib.hid (T1.out.keep (g_lt1.out) hb)
    have g_lt2 := Lib.hid (Nat.lt_of_lt_of_le g_lt1.out hb.size)
    have R0 := Lib.hid r0
    have d0 := rd_bd r0
    have P2 := Lib.hid (Pow10.keep hb P1.out)
    have E2 := Lib.hid (ErrVars.keep hb E1.out)
    have S2 := Lib.hid (S1.out.keep hb)
    clear hb r0
    have t1 : w2.cell? ⟨g, 1, none⟩ = some (.string y) := T2.out 1 (by simp)
    clear t0
    go_wp2_with fail
    refine (ReadDecimalI_any y _ ZZ.out.2.1 P2.out E2.out).mono ?_
    rintro e w3 ⟨⟨n1, o1, rfl, r1⟩, hb⟩
    have L3 := Lib.hid (bT L2.out hb)
    have B3 := Lib.hid (B2.out.keep hb)
    have T3 := Lib.hid (T2.out.keep (g_lt2.out) hb)
    have g_lt3 := Lib.hid (Nat.lt_of_lt_of_le g_lt2.out hb.size)
    have R1 := Lib.hid r1
    have d1 := rd_bd r1
    have P3 := Lib.hid (Pow10.keep hb P2.out)
    have E3 := Lib.hid (ErrVars.keep hb E2.out)
    have S3 := Lib.hid (S2.out.keep hb)
    clear hb r1
    have t2 : w3.cell? ⟨g, 2, none⟩ = some (.string z) := T3.out 2 (by simp)
    clear t1
    go_wp2_with fail
    refine (ReadDecimalI_any z _ ZZ.out.2.2 P3.out E3.out).mono ?_
    rintro e w4 ⟨⟨n2, o2, rfl, r2⟩, hb⟩
    have L4 := Lib.hid (bT L3.out hb)
    have B4 := Lib.hid (B3.out.keep hb)
    have T4 := Lib.hid (T3.out.keep (g_lt3.out) hb)
    have g_lt4 := Lib.hid (Nat.lt_of_lt_of_le g_lt3.out hb.size)
    have R2 := Lib.hid r2
    have d2 := rd_bd r2
    have P4 := Lib.hid (Pow10.keep hb P3.out)
    have E4 := Lib.hid (ErrVars.keep hb E3.out)
    have S4 := Lib.hid (S3.out.keep hb)
    clear hb r2
    clear t2
    go_wp2_with fail
    refine (gearsWith_any n0 n1 n2 _ d0 d1).mono ?_
    rintro e w5 ⟨rfl, hb⟩
    have L5 := Lib.hid (bT L4.out (bA hb (.cells #[.int .i64 n0, .int .i64 (n0 + 2 * n1), .int .i64 n1, .int .i64 n2] 25)))
    have B5 := Lib.hid (B4.out.keep (bA hb (.cells #[.int .i64 n0, .int .i64 (n0 + 2 * n1), .int .i64 n1, .int .i64 n2] 25)))
    have P5 := Lib.hid (Pow10.keep (bA hb (.cells #[.int .i64 n0, .int .i64 (n0 + 2 * n1), .int .i64 n1, .int .i64 n2] 25)) P4.out)
    have S5 := Lib.hid (S4.out.keep (bA hb (.cells #[.int .i64 n0, .int .i64 (n0 + 2 * n1), .int .i64 n1, .int .i64 n2] 25)))
    have G5 := Lib.hid (Box4.new w5 n0 (n0 + 2 * n1) n1 n2 25)
    have HM2 := Lib.hid (HM.out n0 n1 n2 o0 o1 o2 R0.out R1.out R2.out)
    have HH2 := Lib.hid (HH.out n0 n1 n2)
    clear hb HM HH R0 R1 R2 B1 B2 B3 B4 L1 L2 L3 L4 P1 P2 P3 P4 S1 S2 S3 S4 E1 E2 E3 E4 T1 T2 T3 T4 g_lt1 g_lt2 g_lt3 g_lt4 d0 d1 d2 ZZ
    go_upto_region 8 with fail
    generalize w5.alloc (.cells #[.int .i64 n0, .int .i64 (n0 + 2 * n1), .int .i64 n1, .int .i64 n2] 25) = W5 at *
    generalize w5.heap.size = kg at *
    generalize n0 + 2 * n1 = m at *
    obtain ⟨y0, y1, y2, y3, _⟩ := G5.out
    go_wp2_with fail
    refine (EpiTextI_any _ _ _ _ _ P5.out S5.out).mono ?_
    generalize teB n0 m n1 n2 = tx at *
    rintro e w6 ⟨rfl, hb⟩
    have L6 := Lib.hid (bT L5.out hb)
    have B6 := Lib.hid (B5.out.keep hb)
    have G6 := Lib.hid (G5.out.keep hb)
    clear hb y0 y1 y2 y3
    obtain ⟨z0, z1, z2, z3, f0, f1, f2, f3, z4⟩ := B6.out
    obtain ⟨y0, y1, y2, y3, _⟩ := G6.out
    by_cases ht : tx = s
    · have EQ := Lib.hid (HH2.out ht)
      subst ht
      clear HM2 HH2
      go_wp2_with fail
      rw [EQ.out]
      refine bodyPost_ret (v := .tuple #[.agg #[.int .i64 (n0), .int .i64 (m), .int .i64 (n1), .int .i64 (n2)], .bool true]) ?_ rfl ⟨rfl, bset4 L6.out (by omega)⟩
      simp [results, Tryd.results50, go_sem, z0, z1, z2, z3]
    · have EQ := Lib.hid (HM2.out ht)
      have hte : (tx.toList == s.toList) = false := by
        rw [beq_eq_false_iff_ne, ByteArray.toList_eq, ByteArray.toList_eq]
        exact fun h => ht (ByteArray.ext (Array.toList_inj.1 h))
      clear HM2 HH2
      go_wp2_with fail
      rw [EQ.out]
      refine bodyPost_ret (v := .tuple #[.agg #[.int .i64 (0), .int .i64 (0), .int .i64 (0), .int .i64 (0)], .bool false]) ?_ rfl ⟨rfl, bset4 L6.out (by omega)⟩
      simp [results, Tryd.results50, go_sem, z0, z1, z2, z3]
  · have EQ := Lib.hid (re5_none (re_no3 h3))
    rw [EQ.out]
    go_enter Tryd.func50, Tryd.ntmps50
    go_wp2_with fail
    generalize w.alloc (.cells #[.int .i64 0, .int .i64 0, .int .i64 0, .int .i64 0] 25) = W0 at *
    generalize hk : w.heap.size = k at *
    have L0' := Lib.hid (show Below w.heap.size w W0 by rw [hk]; exact L0.out)
    clear L0
    have L0 := L0'
    clear L0'
    refine (SW.out _).mono ?_
    rintro e w1 ⟨v, rfl, hown, hb⟩
    obtain ⟨ao, cap, rfl, _⟩ := own_txt hown
    have L1 := Lib.hid (bT L0.out hb)
    obtain ⟨z0, z1, z2, z3, f0, f1, f2, f3, z4⟩ := B0.out.keep hb
    have hne : (((wrd s).length : Int) != 3) = true := by simp; omega
    have hn3 : ¬ (((wrd s).length : Int) = 3) := by omega
    clear hb hown SW hwl
    generalize wrd s = ws at *
    go_wp2_with fail
    refine bodyPost_ret (v := .tuple #[.agg #[.int .i64 (0), .int .i64 (0), .int .i64 (0), .int .i64 (0)], .bool false]) ?_ rfl ⟨rfl, bset4 L1.out (by omega)⟩
    simp [results, Tryd.results50, go_sem, z0, z1, z2, z3]
end Go.Proofs.YtcklcledchboiaaDoor
