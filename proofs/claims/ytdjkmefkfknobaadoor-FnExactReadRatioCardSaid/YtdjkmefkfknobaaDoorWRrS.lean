/-
  The contracts of spec.l02Read and spec.ReadRatio.
-/
import Derived.Test.YtdjkmefkfknobaaDoorRr
import Derived.Test.YtdjkmefkfknobaaDoorSplit
import Derived.Test.YtdjkmefkfknobaaDoorWRead
import Derived.Test.YtdjkmefkfknobaaDoorArith
namespace Go.Proofs.YtdjkmefkfknobaaDoor
open Go.RowKit

theorem cell_lt {w : World} {b o : Nat} {v : Value} (h : w.cell? ⟨b, o, none⟩ = some v) : b < w.heap.size := by
  by_cases hb : b < w.heap.size
  · exact hb
  · exfalso
    have : w.heap[b]? = none := by simp; omega
    simp [World.cell?, this] at h
theorem cellB {y : World} {b o : Nat} {a : Addr} {u : Value} (h : a.block ≠ b) : (y.setCell a u).cell? ⟨b, o, none⟩ = y.cell? ⟨b, o, none⟩ := World.cell?_of_block (w := y) (Below.heap_setCell y a u b (Ne.symm h))
/-- How reading a ratio ends. -/
def RrRet (s : ByteArray) (e : Ending) : Prop := ∃ n d ok, e = .returned (.tuple #[.agg #[.int .i64 n, .int .i64 d], .bool ok]) ∧ RrIs s.data.toList n d ok
set_option maxHeartbeats 1000000 in
theorem l02Read_any (s : ByteArray) (w : World) (hs : s.size ≤ 1048576) :
    Calls Tryd.prog 62 #[.string s] w fun e w' => RrRet s e ∧ Below w.heap.size w w' := by
  go_enter Tryd.func62, Tryd.ntmps62
  go_wp2_with fail
  refine (l01Split_any s 47 _ hs).mono ?_
  rintro e w1 ⟨⟨ps, last, g, cap, rfl, hown, hno, hl, hj⟩, hb⟩
  rcases ps with _ | ⟨p, _ | ⟨q, r⟩⟩
  · have hc0 : w1.cell? ⟨g, 0, none⟩ = some (.string last) := by have := hown.cellAt 0 (by simp); simpa [strC] using this
    have hsl : last = s := ByteArray.ext (Array.toList_inj.1 (by simpa using hj))
    subst hsl
    have HL := Lib.hid hl
    clear hown hno hj hl
    go_wp2_with fail
    refine (l01Number_any _ _ hs).mono ?_
    rintro e w2 ⟨⟨n, ok, rfl, hr⟩, hb2⟩
    have hb3 := bT hb hb2
    obtain ⟨y1, y2⟩ := RrIs.plain HL.out hr
    have Y1 := Lib.hid y1
    have Y2 := Lib.hid y2
    clear hr y1 y2 hb hb2 hc0 HL
    obtain ⟨hc1, hf1⟩ := bcell hb3
    have hs1 : w.heap.size < w2.heap.size := bsize hb3 (by simp)
    have m0 : w2.cell? ⟨w.heap.size, 0, none⟩ = some (.int .i64 0) := by rw [hc1 _ _ (by simp)]; simp [go_sem]
    have m1 : w2.cell? ⟨w.heap.size, 1, none⟩ = some (.int .i64 0) := by rw [hc1 _ _ (by simp)]; simp [go_sem]
    cases ok
    · have HR := Lib.hid (Y2.out (.inl rfl))
      go_wp2_with fail
      refine bodyPost_ret (v := .tuple #[.agg #[.int .i64 0, .int .i64 0], .bool false]) ?_ rfl ⟨⟨_, _, _, rfl, HR.out⟩, ?_⟩
      all_goals first | (simp [Act.put, results, Tryd.results62, go_sem, World.cell?_alloc_past, hs1, m0, m1]; done) | exact bA (((bT (bA (bR _) _) hb3).setCell (Nat.le_refl _) _).setCell (Nat.le_refl _) _) _
    · go_wp2_with fail
      refine (l02Ok_any n 1 _).mono ?_
      rintro e w3 ⟨rfl, hb4⟩
      obtain ⟨hc2, hf2⟩ := bcell hb4
      have hs2 : w2.heap.size < w3.heap.size := bsize hb4 (by simp)
      have hs3 : w.heap.size < w3.heap.size := Nat.lt_trans hs1 hs2
      have k0 : w3.cell? ⟨w.heap.size, 0, none⟩ = some (.int .i64 0) := by rw [hc2 _ _ (by simp; omega)]; simp [go_sem, World.cell?_alloc_past, hs1, m0]
      have k1 : w3.cell? ⟨w.heap.size, 1, none⟩ = some (.int .i64 0) := by rw [hc2 _ _ (by simp; omega)]; simp [go_sem, World.cell?_alloc_past, hs1, m1]
      have r0 : w3.cell? ⟨w2.heap.size, 0, none⟩ = some (.int .i64 n) := by rw [hc2 _ _ (by simp)]; simp [go_sem]
      have r1 : w3.cell? ⟨w2.heap.size, 1, none⟩ = some (.int .i64 1) := by rw [hc2 _ _ (by simp)]; simp [go_sem]
      have f0 : ∀ o, w3.frozen? ⟨w.heap.size, o, none⟩ = false := by
        intro o
        rw [hf2 _ _ (by simp; omega)]
        first | (simp [go_sem, World.frozen?_alloc_past, hs1, hf1]; done) | (rw [World.frozen?_alloc_past _ _ _ _ hs1, hf1 _ _ (by simp)]; simp [go_sem])
      have hb5 := bT (bA (bT (bA (bR w) _) hb3) _) hb4
      clear hc1 hf1 hc2 hf2 m0 m1 hb3 hb4
      cases hk : okR n 1
      · have HR := Lib.hid (Y2.out (.inr hk))
        go_wp2_with fail
        refine bodyPost_ret (v := .tuple #[.agg #[.int .i64 0, .int .i64 0], .bool false]) ?_ rfl ⟨⟨_, _, _, rfl, HR.out⟩, ?_⟩
        all_goals first | (simp [Act.put, results, Tryd.results62, go_sem, World.cell?_alloc_past, hs1, k0, k1]; done) | exact (hb5.setCell (Nat.le_refl _) _).setCell (Nat.le_refl _) _
      · have HR := Lib.hid (Y1.out (by trivial) hk)
        go_wp2_with fail
        refine bodyPost_ret (v := .tuple #[.agg #[.int .i64 n, .int .i64 1], .bool true]) ?_ rfl ⟨⟨_, _, _, rfl, HR.out⟩, ?_⟩
        all_goals first | (simp [Act.put, results, Tryd.results62, go_sem, World.cell?_alloc_past, hs1, k0, k1]; done) | exact (hb5.setCell (Nat.le_refl _) _).setCell (Nat.le_refl _) _
  · have hcA : w1.cell? ⟨g, 0, none⟩ = some (.string p) := by have := hown.cellAt 0 (by simp); simpa [strC] using this
    have hcB : w1.cell? ⟨g, 1, none⟩ = some (.string last) := by have := hown.cellAt 1 (by simp); simpa [strC] using this
    have hgl : g < w1.heap.size := cell_lt hcA
    have hp : (47 : UInt8) ∉ p.data.toList := hno p (by simp)
    have hj2 : p.data.toList ++ 47 :: last.data.toList = s.data.toList := by simpa using hj
    have hz1 : p.size ≤ 1048576 := by have := congrArg List.length hj2; simp at this; omega
    have hz2 : last.size ≤ 1048576 := by have := congrArg List.length hj2; simp at this; omega
    have HJ := Lib.hid hj2
    have HP := Lib.hid hp
    clear hown hno hj hl hp hj2
    go_wp2_with fail
    refine (l01Number_any _ _ hz1).mono ?_
    rintro e w2 ⟨⟨n, ok, rfl, hr⟩, hb2⟩
    have HR1 := Lib.hid hr
    have hb3 := bT hb hb2
    have hcC : w2.cell? ⟨g, 1, none⟩ = some (.string last) := by rw [(bcell hb2).1 _ _ hgl]; exact hcB
    have hgl2 : g < w2.heap.size := Nat.lt_of_lt_of_le hgl hb2.size
    clear hr hb hb2 hcA hcB
    obtain ⟨hc1, hf1⟩ := bcell hb3
    have hs1 : w.heap.size < w2.heap.size := bsize hb3 (by simp)
    have m0 : w2.cell? ⟨w.heap.size, 0, none⟩ = some (.int .i64 0) := by rw [hc1 _ _ (by simp)]; simp [go_sem]
    have m1 : w2.cell? ⟨w.heap.size, 1, none⟩ = some (.int .i64 0) := by rw [hc1 _ _ (by simp)]; simp [go_sem]
    go_wp2_with fail
    refine (l01Number_any _ _ hz2).mono ?_
    rintro e w3 ⟨⟨d, fine, rfl, hr⟩, hb4⟩
    obtain ⟨y1, y2⟩ := RrIs.cut HP.out HR1.out hr
    rw [HJ.out] at y1 y2
    have Y1 := Lib.hid y1
    have Y2 := Lib.hid y2
    clear hr y1 y2
    obtain ⟨hc2, hf2⟩ := bcell hb4
    have hs2 : w2.heap.size < w3.heap.size := bsize hb4 (by simp)
    have hs3 : w.heap.size < w3.heap.size := Nat.lt_trans hs1 hs2
    have k0 : w3.cell? ⟨w.heap.size, 0, none⟩ = some (.int .i64 0) := by rw [hc2 _ _ (by simp; omega)]; simp [go_sem, World.cell?_alloc_past, hs1, m0]
    have k1 : w3.cell? ⟨w.heap.size, 1, none⟩ = some (.int .i64 0) := by rw [hc2 _ _ (by simp; omega)]; simp [go_sem, World.cell?_alloc_past, hs1, m1]
    have r0 : w3.cell? ⟨w2.heap.size, 0, none⟩ = some (.int .i64 n) := by rw [hc2 _ _ (by simp)]; simp [go_sem]
    have r1 : w3.cell? ⟨w2.heap.size, 1, none⟩ = some (.int .i64 1) := by rw [hc2 _ _ (by simp)]; simp [go_sem]
    have f0 : ∀ o, w3.frozen? ⟨w.heap.size, o, none⟩ = false := by
      intro o
      rw [hf2 _ _ (by simp; omega)]
      first | (simp [go_sem, World.frozen?_alloc_past, hs1, hf1]; done) | (rw [World.frozen?_alloc_past _ _ _ _ hs1, hf1 _ _ (by simp)]; simp [go_sem])
    have f1 : ∀ o, w3.frozen? ⟨w2.heap.size, o, none⟩ = false := by
      intro o
      rw [hf2 _ _ (by simp)]
      simp [go_sem]
    have hb5 := bT (bA (bT (bA (bR w) _) hb3) _) hb4
    clear hc1 hf1 hc2 hf2 m0 m1 hb3 hb4 hcC HR1 HJ HP
    cases ok
    · have HR := Lib.hid (Y2.out (.inl rfl))
      go_wp2_with fail
      all_goals refine bodyPost_ret (v := .tuple #[.agg #[.int .i64 0, .int .i64 0], .bool false]) ?_ rfl ⟨⟨_, _, _, rfl, HR.out⟩, ?_⟩
      all_goals first | (simp [Act.put, results, Tryd.results62, go_sem, World.cell?_alloc_past, hs1, hs3, k0, k1]; done) | exact ((hb5.setCell (Nat.le_of_lt hs1) _).setCell (Nat.le_refl _) _).setCell (Nat.le_refl _) _
    · cases fine
      · have HR := Lib.hid (Y2.out (.inr (.inl rfl)))
        go_wp2_with fail
        all_goals refine bodyPost_ret (v := .tuple #[.agg #[.int .i64 0, .int .i64 0], .bool false]) ?_ rfl ⟨⟨_, _, _, rfl, HR.out⟩, ?_⟩
        all_goals first | (simp [Act.put, results, Tryd.results62, go_sem, World.cell?_alloc_past, hs1, hs3, k0, k1]; done) | exact ((hb5.setCell (Nat.le_of_lt hs1) _).setCell (Nat.le_refl _) _).setCell (Nat.le_refl _) _
      · by_cases hd : 1 < d
        · go_wp2_with fail
          refine (l02Ok_any n d _).mono ?_
          rintro e w4 ⟨rfl, hb6⟩
          obtain ⟨hc3, hf3⟩ := bcell hb6
          have hz3 : (w3.setCell ⟨w2.heap.size, 1, none⟩ (.int .i64 d)).heap.size = w3.heap.size := by simp
          have hs4 : w.heap.size < w4.heap.size := Nat.lt_of_lt_of_le (by rw [hz3]; exact hs3) hb6.size
          have hs5 : w2.heap.size < w4.heap.size := Nat.lt_of_lt_of_le (by rw [hz3]; exact hs2) hb6.size
          have j0 : w4.cell? ⟨w.heap.size, 0, none⟩ = some (.int .i64 0) := by rw [hc3 _ _ (by rw [hz3]; exact hs3), cellB (by simp; omega)]; exact k0
          have j1 : w4.cell? ⟨w.heap.size, 1, none⟩ = some (.int .i64 0) := by rw [hc3 _ _ (by rw [hz3]; exact hs3), cellB (by simp; omega)]; exact k1
          have q0 : w4.cell? ⟨w2.heap.size, 0, none⟩ = some (.int .i64 n) := by rw [hc3 _ _ (by rw [hz3]; exact hs2)]; simp [go_sem, r0]
          have q1 : w4.cell? ⟨w2.heap.size, 1, none⟩ = some (.int .i64 d) := by rw [hc3 _ _ (by rw [hz3]; exact hs2)]; simp [go_sem, r1]
          have g0 : ∀ o, w4.frozen? ⟨w.heap.size, o, none⟩ = false := by
            intro o
            rw [hf3 _ _ (by rw [hz3]; exact hs3)]
            simp [go_sem, f0]
          have hb7 := bT (hb5.setCell (p := ⟨w2.heap.size, 1, none⟩) (Nat.le_of_lt hs1) _) hb6
          clear hc3 hf3 hb6 hb5 k0 k1 r0 r1 f0 f1 hz3
          cases hk : okR n d
          · have HR := Lib.hid (Y2.out (.inr (.inr (.inl hk))))
            go_wp2_with fail
            refine bodyPost_ret (v := .tuple #[.agg #[.int .i64 0, .int .i64 0], .bool false]) ?_ rfl ⟨⟨_, _, _, rfl, HR.out⟩, ?_⟩
            all_goals first | (simp [Act.put, results, Tryd.results62, go_sem, World.cell?_alloc_past, hs1, j0, j1]; done) | exact (hb7.setCell (Nat.le_refl _) _).setCell (Nat.le_refl _) _
          · have HR := Lib.hid (Y1.out (by trivial) (by trivial) hk (by omega))
            go_wp2_with fail
            refine bodyPost_ret (v := .tuple #[.agg #[.int .i64 n, .int .i64 d], .bool true]) ?_ rfl ⟨⟨_, _, _, rfl, HR.out⟩, ?_⟩
            all_goals first | (simp [Act.put, results, Tryd.results62, go_sem, World.cell?_alloc_past, hs1, j0, j1]; done) | exact (hb7.setCell (Nat.le_refl _) _).setCell (Nat.le_refl _) _
        · have HR := Lib.hid (Y2.out (.inr (.inr (by by_cases h1 : d = 1; exact .inr h1; left; cases hq : okR n d; rfl; have := okR_bd hq; omega))))
          go_wp2_with fail
          all_goals refine bodyPost_ret (v := .tuple #[.agg #[.int .i64 0, .int .i64 0], .bool false]) ?_ rfl ⟨⟨_, _, _, rfl, HR.out⟩, ?_⟩
          all_goals first | (simp [Act.put, results, Tryd.results62, go_sem, World.cell?_alloc_past, hs1, hs3, k0, k1]; done) | exact ((hb5.setCell (Nat.le_of_lt hs1) _).setCell (Nat.le_refl _) _).setCell (Nat.le_refl _) _
  · have hcA : w1.cell? ⟨g, 0, none⟩ = some (.string p) := by have := hown.cellAt 0 (by simp); simpa [strC] using this
    have hcB : w1.cell? ⟨g, 1, none⟩ = some (.string q) := by have := hown.cellAt 1 (by simp); simpa [strC] using this
    have hgl : g < w1.heap.size := cell_lt hcA
    have hp : (47 : UInt8) ∉ p.data.toList := hno p (by simp)
    have hj2 : p.data.toList ++ 47 :: (q.data.toList ++ 47 :: ((r.flatMap fun p => p.data.toList ++ [47]) ++ last.data.toList)) = s.data.toList := by simpa using hj
    have hz1 : p.size ≤ 1048576 := by have := congrArg List.length hj2; simp at this; omega
    have hz2 : q.size ≤ 1048576 := by have := congrArg List.length hj2; simp at this; omega
    have HJ := Lib.hid hj2
    have HP := Lib.hid hp
    clear hown hno hj hl hp hj2
    go_wp2_with fail
    refine (l01Number_any _ _ hz1).mono ?_
    rintro e w2 ⟨⟨n, ok, rfl, hr⟩, hb2⟩
    have HR1 := Lib.hid hr
    have hb3 := bT hb hb2
    have hcC : w2.cell? ⟨g, 1, none⟩ = some (.string q) := by rw [(bcell hb2).1 _ _ hgl]; exact hcB
    have hgl2 : g < w2.heap.size := Nat.lt_of_lt_of_le hgl hb2.size
    clear hr hb hb2 hcA hcB
    obtain ⟨hc1, hf1⟩ := bcell hb3
    have hs1 : w.heap.size < w2.heap.size := bsize hb3 (by simp)
    have m0 : w2.cell? ⟨w.heap.size, 0, none⟩ = some (.int .i64 0) := by rw [hc1 _ _ (by simp)]; simp [go_sem]
    have m1 : w2.cell? ⟨w.heap.size, 1, none⟩ = some (.int .i64 0) := by rw [hc1 _ _ (by simp)]; simp [go_sem]
    go_wp2_with fail
    refine (l01Number_any _ _ hz2).mono ?_
    rintro e w3 ⟨⟨d, fine, rfl, hr⟩, hb4⟩
    have HR := Lib.hid (RrIs.two (m := q.data.toList) (r := (r.flatMap fun p => p.data.toList ++ [47]) ++ last.data.toList) HP.out)
    rw [HJ.out] at HR
    clear hr
    obtain ⟨hc2, hf2⟩ := bcell hb4
    have hs2 : w2.heap.size < w3.heap.size := bsize hb4 (by simp)
    have hs3 : w.heap.size < w3.heap.size := Nat.lt_trans hs1 hs2
    have k0 : w3.cell? ⟨w.heap.size, 0, none⟩ = some (.int .i64 0) := by rw [hc2 _ _ (by simp; omega)]; simp [go_sem, World.cell?_alloc_past, hs1, m0]
    have k1 : w3.cell? ⟨w.heap.size, 1, none⟩ = some (.int .i64 0) := by rw [hc2 _ _ (by simp; omega)]; simp [go_sem, World.cell?_alloc_past, hs1, m1]
    have r0 : w3.cell? ⟨w2.heap.size, 0, none⟩ = some (.int .i64 n) := by rw [hc2 _ _ (by simp)]; simp [go_sem]
    have r1 : w3.cell? ⟨w2.heap.size, 1, none⟩ = some (.int .i64 1) := by rw [hc2 _ _ (by simp)]; simp [go_sem]
    have f0 : ∀ o, w3.frozen? ⟨w.heap.size, o, none⟩ = false := by
      intro o
      rw [hf2 _ _ (by simp; omega)]
      first | (simp [go_sem, World.frozen?_alloc_past, hs1, hf1]; done) | (rw [World.frozen?_alloc_past _ _ _ _ hs1, hf1 _ _ (by simp)]; simp [go_sem])
    have f1 : ∀ o, w3.frozen? ⟨w2.heap.size, o, none⟩ = false := by
      intro o
      rw [hf2 _ _ (by simp)]
      simp [go_sem]
    have hb5 := bT (bA (bT (bA (bR w) _) hb3) _) hb4
    clear hc1 hf1 hc2 hf2 m0 m1 hb3 hb4 hcC HR1 HJ HP
    go_wp2_with fail
    all_goals refine bodyPost_ret (v := .tuple #[.agg #[.int .i64 0, .int .i64 0], .bool false]) ?_ rfl ⟨⟨_, _, _, rfl, HR.out⟩, ?_⟩
    all_goals first | (simp [Act.put, results, Tryd.results62, go_sem, World.cell?_alloc_past, hs1, hs3, k0, k1]; done) | exact ((hb5.setCell (Nat.le_of_lt hs1) _).setCell (Nat.le_refl _) _).setCell (Nat.le_refl _) _

theorem ReadRatioS_any (s : ByteArray) (w : World) (hs : s.size ≤ 1048576) :
    Calls Tryd.prog 38 #[.string s] w fun e w' => RrRet s e ∧ Below w.heap.size w w' := by
  go_enter Tryd.func38, Tryd.ntmps38
  go_wp2_with fail
  refine (l02Read_any s _ hs).mono ?_
  rintro e w' ⟨⟨n, d, ok, rfl, hr⟩, hb⟩
  have HR := Lib.hid hr
  clear hr
  obtain ⟨hc1, hf1⟩ := bcell hb
  have hs1 : w.heap.size < w'.heap.size := bsize hb (by simp)
  have m0 : w'.cell? ⟨w.heap.size, 0, none⟩ = some (.int .i64 0) := by rw [hc1 _ _ (by simp)]; simp [go_sem]
  have m1 : w'.cell? ⟨w.heap.size, 1, none⟩ = some (.int .i64 0) := by rw [hc1 _ _ (by simp)]; simp [go_sem]
  go_wp2_with fail
  refine bodyPost_ret (v := .tuple #[.agg #[.int .i64 n, .int .i64 d], .bool ok]) ?_ rfl ⟨⟨_, _, _, rfl, HR.out⟩, ?_⟩
  all_goals first | (simp [Act.put, results, Tryd.results38, go_sem, World.cell?_alloc_past, hs1, m0, m1]; done) | exact ((bT (bA (bR _) _) hb).setCell (Nat.le_refl _) _).setCell (Nat.le_refl _) _
end Go.Proofs.YtdjkmefkfknobaaDoor
