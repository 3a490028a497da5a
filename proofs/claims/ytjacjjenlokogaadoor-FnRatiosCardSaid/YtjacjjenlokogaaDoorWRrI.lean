/-
  The contract of impl.ReadRatio.
-/
import Derived.Test.YtjacjjenlokogaaDoorWRrS
import Derived.Test.YtjacjjenlokogaaDoorWText
namespace Go.Proofs.YtjacjjenlokogaaDoor
open Go.RowKit

/-- The library's variable internal/bytealg.MaxLen holds a number. -/
def MLen (w : World) : Prop := ∃ m, w.cell? ⟨2, 0, none⟩ = some (.int .i64 m)
theorem MLen.keep {w w' : World} (hb : Below w.heap.size w w') (h : MLen w) : MLen w' := by
  obtain ⟨m, hm⟩ := h
  exact ⟨m, (hb.cell (p := ⟨2, 0, none⟩) (cell_lt hm)).trans hm⟩
theorem txt_tl {n d : Int} (h : okR n d = true) : (txtR n d).data.toList = tl n d := by
  unfold txtR txtV tl decT
  rw [if_pos h]
  split <;> simp [ByteArray.data_append]
/-- What impl.ReadRatio makes of the two numbers. -/
theorem rr_end {s : ByteArray} {n d : Int} (hne : s.data.toList ≠ []) (h : okR n d = true → tl n d = s.data.toList → RrIs s.data.toList n d true) (k : okR n d = false ∨ tl n d ≠ s.data.toList → RrIs s.data.toList 0 0 false) :
    (txtR n d = s → RrIs s.data.toList n d true) ∧ (txtR n d ≠ s → RrIs s.data.toList 0 0 false) := by
  cases hk : okR n d
  · refine ⟨fun e => ?_, fun _ => k (.inl hk)⟩
    exfalso
    rw [← txtR_no hk] at e
    exact hne (by rw [← e])
  · have ht := txt_tl hk
    refine ⟨fun e => h hk (by rw [← ht, e]), fun e => k (.inr fun e2 => e ?_)⟩
    exact ByteArray.ext (Array.toList_inj.1 (ht.trans e2))
theorem below_drewN (w : World) (n : Nat) : Below w.heap.size w (w.drewN n) := ⟨rfl, rfl, rfl, Nat.le_refl _, fun _ _ => rfl⟩
theorem rd_one : RdIs [49] 1 true := .inl ⟨rfl, ⟨by omega, by omega⟩, by unfold Lib.itoa; rw [if_neg (by omega)]; exact Lib.decDigits_one (i := 1) (by omega)⟩
theorem rd_ne {s : List UInt8} {n : Int} (h : RdIs s n true) : s ≠ [] := by
  rcases h with ⟨_, _, e⟩ | ⟨e, _⟩
  · rw [← e]; exact itoa_ne n
  · cases e
theorem rd_itoa {s : List UInt8} {n : Int} (h : RdIs s n true) : Lib.itoa n = s := by
  rcases h with ⟨_, _, e⟩ | ⟨e, _⟩
  · exact e
  · cases e
theorem back (s : ByteArray) : (⟨s.data.toList.toArray⟩ : ByteArray) = s := by simp
set_option maxHeartbeats 1000000 in
theorem ReadRatioI_any (s : ByteArray) (w : World) (hs : s.size ≤ 1048576) (hP : Pow10 w) (hE : ErrVars w) (hM : MLen w) :
    Calls Tryd.prog 13 #[.string s] w fun e w' => RrRet s e ∧ Below w.heap.size w w' := by
  have HT := Lib.hid hP
  have HE := Lib.hid hE
  have HM := Lib.hid hM
  clear hP hE hM
  rcases slash_or s.data.toList with hsl | ⟨a, b, hsl, ha⟩
  · have HC := Lib.hid (cut_no hsl)
    have HS := Lib.hid hsl
    clear hsl
    go_enter Tryd.func13, Tryd.ntmps13
    go_wp2_with fail
    obtain ⟨m, hm⟩ := HM.out.keep (bA (bR w) _)
    refine (Tryd.strings_Cut s ⟨#[47]⟩ m _ (by omega) hm).mono ?_
    rintro e w1 ⟨rfl, k, rfl⟩
    have hb1 := below_drewN (w.alloc (.cells #[.int .i64 0, .int .i64 0] 25)) k
    have e47 : (⟨#[47]⟩ : ByteArray).data.toList = [47] := rfl
    rw [e47, HC.out]
    simp only [back]
    generalize (w.alloc (.cells #[.int .i64 0, .int .i64 0] 25)).drewN k = w1 at *
    clear hm
    go_wp2_with fail
    refine (ReadDecimalI_any s _ hs (HT.out.keep (bT (bA (bR w) _) hb1)) (HE.out.keep (bT (bA (bR w) _) hb1))).mono ?_
    rintro e w2 ⟨⟨n, ok, rfl, hr⟩, hb2⟩
    have hb3 := bT hb1 hb2
    have HR1 := Lib.hid hr
    clear hr hb1 hb2
    go_wp2_with fail
    refine (ReadDecimalI_any ⟨#[49]⟩ _ (by decide) (HT.out.keep (bT (bA (bR w) _) hb3)) (HE.out.keep (bT (bA (bR w) _) hb3))).mono ?_
    rintro e w3 ⟨⟨d, ok2, rfl, hr⟩, hb4⟩
    obtain ⟨rfl, rfl⟩ := RdIs.uniq hr rd_one
    have hb5 := bT hb3 hb4
    clear hr hb3 hb4
    obtain ⟨hc1, hf1⟩ := bcell hb5
    have hs1 : w.heap.size < w3.heap.size := bsize hb5 (by simp)
    have m0 : w3.cell? ⟨w.heap.size, 0, none⟩ = some (.int .i64 0) := by rw [hc1 _ _ (by simp)]; simp [go_sem]
    have m1 : w3.cell? ⟨w.heap.size, 1, none⟩ = some (.int .i64 0) := by rw [hc1 _ _ (by simp)]; simp [go_sem]
    cases ok
    · have HR := Lib.hid ((RrIs.plain HS.out HR1.out).2 (.inl rfl))
      go_wp2_with fail
      all_goals refine bodyPost_ret (v := .tuple #[.agg #[.int .i64 0, .int .i64 0], .bool false]) ?_ rfl ⟨⟨_, _, _, rfl, HR.out⟩, ?_⟩
      all_goals first | (simp [Act.put, results, Tryd.results13, go_sem, World.cell?_alloc_past, hs1, m0, m1]; done) | exact bA (((bT (bA (bR _) _) hb5).setCell (Nat.le_refl _) _).setCell (Nat.le_refl _) _) _
    · have hne := rd_ne HR1.out
      obtain ⟨y1, y2⟩ := RrIs.plain HS.out HR1.out
      obtain ⟨z1, z2⟩ := rr_end (s := s) (n := n) (d := 1) hne (fun h _ => y1 rfl h) (fun h => y2 (.inr (by rcases h with h | h; exact h; exact absurd (by unfold tl; rw [if_pos rfl]; exact rd_itoa HR1.out) h)))
      have Z1 := Lib.hid z1
      have Z2 := Lib.hid z2
      clear y1 y2 z1 z2 hne
      go_wp2_with fail
      refine (RatioTextI_any n 1 _ (HT.out.keep (bA (bT (bA (bR w) _) hb5) _))).mono ?_
      rintro e w4 ⟨rfl, hb6⟩
      obtain ⟨hc2, hf2⟩ := bcell hb6
      have hs2 : w3.heap.size < w4.heap.size := bsize hb6 (by simp)
      have hs3 : w.heap.size < w4.heap.size := Nat.lt_trans hs1 hs2
      have k0 : w4.cell? ⟨w.heap.size, 0, none⟩ = some (.int .i64 0) := by rw [hc2 _ _ (by simp; omega)]; simp [go_sem, World.cell?_alloc_past, hs1, m0]
      have k1 : w4.cell? ⟨w.heap.size, 1, none⟩ = some (.int .i64 0) := by rw [hc2 _ _ (by simp; omega)]; simp [go_sem, World.cell?_alloc_past, hs1, m1]
      have r0 : w4.cell? ⟨w3.heap.size, 0, none⟩ = some (.int .i64 n) := by rw [hc2 _ _ (by simp)]; simp [go_sem]
      have r1 : w4.cell? ⟨w3.heap.size, 1, none⟩ = some (.int .i64 (1)) := by rw [hc2 _ _ (by simp)]; simp [go_sem]
      have f0 : ∀ o, w4.frozen? ⟨w.heap.size, o, none⟩ = false := by
        intro o
        rw [hf2 _ _ (by simp; omega)]
        first | (simp [go_sem, World.frozen?_alloc_past, hs1, hf1]; done) | (rw [World.frozen?_alloc_past _ _ _ _ hs1, hf1 _ _ (by simp)]; simp [go_sem])
      have hb7 := bT (bA (bT (bA (bR w) _) hb5) _) hb6
      clear hc1 hf1 hc2 hf2 m0 m1 hb5 hb6
      by_cases hx : txtR n 1 = s
      · have HR := Lib.hid (Z1.out hx)
        rw [hx]
        clear hx Z1 Z2
        go_wp2_with fail
        refine bodyPost_ret (v := .tuple #[.agg #[.int .i64 n, .int .i64 1], .bool true]) ?_ rfl ⟨⟨_, _, _, rfl, HR.out⟩, ?_⟩
        all_goals first | (simp [Act.put, results, Tryd.results13, go_sem, World.cell?_alloc_past, hs1, k0, k1]; done) | exact (hb7.setCell (Nat.le_refl _) _).setCell (Nat.le_refl _) _
      · have HR := Lib.hid (Z2.out hx)
        generalize txtR n 1 = x at *
        have hx3 := str_ne hx
        clear Z1 Z2
        go_wp2_with fail
        refine bodyPost_ret (v := .tuple #[.agg #[.int .i64 0, .int .i64 0], .bool false]) ?_ rfl ⟨⟨_, _, _, rfl, HR.out⟩, ?_⟩
        all_goals first | (simp [Act.put, results, Tryd.results13, go_sem, World.cell?_alloc_past, hs1, k0, k1]; done) | exact (hb7.setCell (Nat.le_refl _) _).setCell (Nat.le_refl _) _
  · have hsz := congrArg List.length hsl
    have hz1 : (⟨a.toArray⟩ : ByteArray).size ≤ 1048576 := by simp at hsz; simp [ByteArray.size]; omega
    have hz2 : (⟨b.toArray⟩ : ByteArray).size ≤ 1048576 := by simp at hsz; simp [ByteArray.size]; omega
    have HC := Lib.hid (cut_at (b := b) ha)
    have HS := Lib.hid hsl
    have HA := Lib.hid ha
    clear hsl ha hsz
    go_enter Tryd.func13, Tryd.ntmps13
    go_wp2_with fail
    obtain ⟨m, hm⟩ := HM.out.keep (bA (bR w) _)
    refine (Tryd.strings_Cut s ⟨#[47]⟩ m _ (by omega) hm).mono ?_
    rintro e w1 ⟨rfl, k, rfl⟩
    have hb1 := below_drewN (w.alloc (.cells #[.int .i64 0, .int .i64 0] 25)) k
    have e47 : (⟨#[47]⟩ : ByteArray).data.toList = [47] := rfl
    rw [e47, HS.out, HC.out]
    simp only
    generalize (w.alloc (.cells #[.int .i64 0, .int .i64 0] 25)).drewN k = w1 at *
    have ea : (⟨a.toArray⟩ : ByteArray).data.toList = a := by simp
    have eb : (⟨b.toArray⟩ : ByteArray).data.toList = b := by simp
    generalize (⟨a.toArray⟩ : ByteArray) = la at *
    generalize (⟨b.toArray⟩ : ByteArray) = lb at *
    have EA := Lib.hid ea
    have EB := Lib.hid eb
    clear hm ea eb e47
    go_wp2_with fail
    refine (ReadDecimalI_any la _ hz1 (HT.out.keep (bT (bA (bR w) _) hb1)) (HE.out.keep (bT (bA (bR w) _) hb1))).mono ?_
    rintro e w2 ⟨⟨n, ok, rfl, hr⟩, hb2⟩
    have hb3 := bT hb1 hb2
    rw [EA.out] at hr
    have HR1 := Lib.hid hr
    clear hr hb1 hb2
    go_wp2_with fail
    refine (ReadDecimalI_any lb _ hz2 (HT.out.keep (bT (bA (bR w) _) hb3)) (HE.out.keep (bT (bA (bR w) _) hb3))).mono ?_
    rintro e w3 ⟨⟨d, ok2, rfl, hr⟩, hb4⟩
    rw [EB.out] at hr
    have HR2 := Lib.hid hr
    have hb5 := bT hb3 hb4
    clear hr hb3 hb4
    obtain ⟨hc1, hf1⟩ := bcell hb5
    have hs1 : w.heap.size < w3.heap.size := bsize hb5 (by simp)
    have m0 : w3.cell? ⟨w.heap.size, 0, none⟩ = some (.int .i64 0) := by rw [hc1 _ _ (by simp)]; simp [go_sem]
    have m1 : w3.cell? ⟨w.heap.size, 1, none⟩ = some (.int .i64 0) := by rw [hc1 _ _ (by simp)]; simp [go_sem]
    cases ok
    · have hr0 := (RrIs.cut HA.out HR1.out HR2.out).2 (.inl rfl)
      rw [← HS.out] at hr0
      have HR := Lib.hid hr0
      clear hr0
      go_wp2_with fail
      all_goals refine bodyPost_ret (v := .tuple #[.agg #[.int .i64 0, .int .i64 0], .bool false]) ?_ rfl ⟨⟨_, _, _, rfl, HR.out⟩, ?_⟩
      all_goals first | (simp [Act.put, results, Tryd.results13, go_sem, World.cell?_alloc_past, hs1, m0, m1]; done) | exact bA (((bT (bA (bR _) _) hb5).setCell (Nat.le_refl _) _).setCell (Nat.le_refl _) _) _
    · cases ok2
      · have hr0 := (RrIs.cut HA.out HR1.out HR2.out).2 (.inr (.inl rfl))
        rw [← HS.out] at hr0
        have HR := Lib.hid hr0
        clear hr0
        go_wp2_with fail
        all_goals refine bodyPost_ret (v := .tuple #[.agg #[.int .i64 0, .int .i64 0], .bool false]) ?_ rfl ⟨⟨_, _, _, rfl, HR.out⟩, ?_⟩
        all_goals first | (simp [Act.put, results, Tryd.results13, go_sem, World.cell?_alloc_past, hs1, m0, m1]; done) | exact bA (((bT (bA (bR _) _) hb5).setCell (Nat.le_refl _) _).setCell (Nat.le_refl _) _) _
      · obtain ⟨y1, y2⟩ := RrIs.cut HA.out HR1.out HR2.out
        rw [← HS.out] at y1 y2
        obtain ⟨z1, z2⟩ := rr_end (s := s) (n := n) (d := d) (by rw [HS.out]; simp) (fun h e => .inl ⟨rfl, h, e⟩) (fun h => by
          by_cases hd : d = 1
          · exact y2 (.inr (.inr (.inr hd)))
          · rcases h with h | h
            · exact y2 (.inr (.inr (.inl h)))
            · exact absurd (by unfold tl; rw [if_neg hd, rd_itoa HR1.out, rd_itoa HR2.out, HS.out]) h)
        have Z1 := Lib.hid z1
        have Z2 := Lib.hid z2
        clear y1 y2 z1 z2
        go_wp2_with fail
        refine (RatioTextI_any n d _ (HT.out.keep (bA (bT (bA (bR w) _) hb5) _))).mono ?_
        rintro e w4 ⟨rfl, hb6⟩
        obtain ⟨hc2, hf2⟩ := bcell hb6
        have hs2 : w3.heap.size < w4.heap.size := bsize hb6 (by simp)
        have hs3 : w.heap.size < w4.heap.size := Nat.lt_trans hs1 hs2
        have k0 : w4.cell? ⟨w.heap.size, 0, none⟩ = some (.int .i64 0) := by rw [hc2 _ _ (by simp; omega)]; simp [go_sem, World.cell?_alloc_past, hs1, m0]
        have k1 : w4.cell? ⟨w.heap.size, 1, none⟩ = some (.int .i64 0) := by rw [hc2 _ _ (by simp; omega)]; simp [go_sem, World.cell?_alloc_past, hs1, m1]
        have r0 : w4.cell? ⟨w3.heap.size, 0, none⟩ = some (.int .i64 n) := by rw [hc2 _ _ (by simp)]; simp [go_sem]
        have r1 : w4.cell? ⟨w3.heap.size, 1, none⟩ = some (.int .i64 (d)) := by rw [hc2 _ _ (by simp)]; simp [go_sem]
        have f0 : ∀ o, w4.frozen? ⟨w.heap.size, o, none⟩ = false := by
          intro o
          rw [hf2 _ _ (by simp; omega)]
          first | (simp [go_sem, World.frozen?_alloc_past, hs1, hf1]; done) | (rw [World.frozen?_alloc_past _ _ _ _ hs1, hf1 _ _ (by simp)]; simp [go_sem])
        have hb7 := bT (bA (bT (bA (bR w) _) hb5) _) hb6
        clear hc1 hf1 hc2 hf2 m0 m1 hb5 hb6
        by_cases hx : txtR n d = s
        · have HR := Lib.hid (Z1.out hx)
          rw [hx]
          clear hx Z1 Z2
          go_wp2_with fail
          refine bodyPost_ret (v := .tuple #[.agg #[.int .i64 n, .int .i64 d], .bool true]) ?_ rfl ⟨⟨_, _, _, rfl, HR.out⟩, ?_⟩
          all_goals first | (simp [Act.put, results, Tryd.results13, go_sem, World.cell?_alloc_past, hs1, k0, k1]; done) | exact (hb7.setCell (Nat.le_refl _) _).setCell (Nat.le_refl _) _
        · have HR := Lib.hid (Z2.out hx)
          generalize txtR n d = x at *
          have hx3 := str_ne hx
          clear Z1 Z2
          go_wp2_with fail
          refine bodyPost_ret (v := .tuple #[.agg #[.int .i64 0, .int .i64 0], .bool false]) ?_ rfl ⟨⟨_, _, _, rfl, HR.out⟩, ?_⟩
          all_goals first | (simp [Act.put, results, Tryd.results13, go_sem, World.cell?_alloc_past, hs1, k0, k1]; done) | exact (hb7.setCell (Nat.le_refl _) _).setCell (Nat.le_refl _) _
end Go.Proofs.YtjacjjenlokogaaDoor
