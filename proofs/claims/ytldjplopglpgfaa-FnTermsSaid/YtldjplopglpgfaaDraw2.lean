/-
  The contracts of spec.l00From and spec.A2Ratios.
-/
import Derived.Test.YtldjplopglpgfaaDraw
import Derived.OpenShut
import Derived.RegionTactic
import Derived.Deep.RegionWith
namespace Go.Proofs.Ytldjplopglpgfaa
open Go.RowKit

theorem u8_bd {n : Int} (h : (Lit.int .u8 n).wf = true) : 0 ≤ n ∧ n ≤ 255 := by simpa [Lit.wf, IntKind.min, IntKind.max, IntKind.signed, IntKind.bits] using h

/-- A slice of bytes that came in, as a source reads it. -/
theorem row_of {w : World} {a : Option Addr} {len cap : Nat} {zs : List Int} (h : IsRow .u8 w a len cap zs) : (len ≤ cap ∧ cap ≤ maxLen) ∧
    ∀ i, i < len → ∃ xb xo : Nat, ∃ z : Int, a = some ⟨xb, xo, none⟩ ∧ xb < w.heap.size ∧ w.cell? ⟨xb, xo + i, none⟩ = some (.int .u8 z) ∧ 0 ≤ z ∧ z ≤ 255 := by
  rcases h with ⟨rfl, rfl, rfl, rfl⟩ | ⟨x, rfl, hl, hm, hz, hcell, hwf⟩
  · exact ⟨⟨Nat.le_refl _, Nat.zero_le _⟩, fun i hi => absurd hi (Nat.not_lt_zero _)⟩
  · refine ⟨⟨hl, hm⟩, fun i hi => ?_⟩
    obtain ⟨b, off, rfl, hc⟩ := ints_at hcell (by omega)
    have hi' : i < zs.length := by omega
    have hcz := hc i hi'
    have hlt : b < w.heap.size := by
      by_cases hb' : b < w.heap.size
      · exact hb'
      · exfalso
        have : w.heap[b]? = none := by simp; omega
        simp [World.cell?, this] at hcz
    have hmem : zs.getD i 0 ∈ zs := by rw [List.getD_eq_getElem?_getD, List.getElem?_eq_getElem hi']; exact List.getElem_mem hi'
    exact ⟨b, off, zs.getD i 0, rfl, hlt, hcz, (u8_bd (hwf _ hmem)).1, (u8_bd (hwf _ hmem)).2⟩

def FromPost (w : World) (a : Option Addr) (len cap : Nat) (e : Ending) (w' : World) : Prop :=
  e = .returned (.pointer (some ⟨w.heap.size, 0, none⟩)) ∧ SrcAt w' w.heap.size a len cap 0 ∧ Below w.heap.size w w'

theorem l00From_any (w : World) (a : Option Addr) (len cap : Nat) (zs : List Int) (h : IsRow .u8 w a len cap zs) :
    Calls Try.prog 16 #[.slice a len cap] w (FromPost w a len cap) := by
  have HR := Lib.hid (row_of h)
  clear h
  go_enter Try.func16, Try.ntmps16
  go_wp2_with fail
  go_ret
  refine ⟨rfl, ⟨by simp [go_sem], ⟨0, Nat.le_refl _, by simp [go_sem]⟩, ⟨0, by simp [go_sem]⟩, by simp [go_sem], by simp [go_sem], by simp, ?_, HR.out.1⟩, bA (bR _) _⟩
  intro i hi
  obtain ⟨xb, xo, z, hx, hlt, hcz, z0, z1⟩ := HR.out.2 i hi
  exact ⟨xb, xo, z, hx, by omega, ((bA (bR w) _).cell (p := ⟨xb, xo + i, none⟩) hlt).trans hcz, z0, z1⟩

theorem lt_cell {w : World} {b o : Nat} {v : Value} (h : w.cell? ⟨b, o, none⟩ = some v) : b < w.heap.size := by
  by_cases hb : b < w.heap.size
  · exact hb
  · exfalso
    have : w.heap[b]? = none := by simp; omega
    simp [World.cell?, this] at h
/-- A cell through a step that writes block p alone. -/
theorem gkeep {x y : World} {p b o : Nat} {v : Value} (g : x.grownBy y (some p)) (hb : b ≠ p) (h : x.cell? ⟨b, o, none⟩ = some v) : y.cell? ⟨b, o, none⟩ = some v := ((gcell g).1 b o (lt_cell h) hb).trans h
theorem gfrozen {x y : World} {p b o : Nat} (g : x.grownBy y (some p)) (hb : b ≠ p) (hl : b < x.heap.size) (h : x.frozen? ⟨b, o, none⟩ = false) : y.frozen? ⟨b, o, none⟩ = false := ((gcell g).2 b o hl hb).trans h
def TwoPost (w : World) (e : Ending) (w' : World) : Prop :=
  ∃ n d p q : Int, okR n d = true ∧ okR p q = true ∧ e = .returned (.tuple #[.agg #[.int .i64 n, .int .i64 d], .agg #[.int .i64 p, .int .i64 q]]) ∧ Below w.heap.size w w'

theorem IsRow.keep {k : IntKind} {w w' : World} {a : Option Addr} {len cap : Nat} {zs : List Int} (h : IsRow k w a len cap zs) (hb : Below w.heap.size w w') : IsRow k w' a len cap zs := by
  rcases h with h | ⟨x, hx, hl, hm, hz, hcell, hwf⟩
  · exact .inl h
  · refine .inr ⟨x, hx, hl, hm, hz, fun i hi => ?_, hwf⟩
    have hcz := hcell i hi
    have hlt : (x.add i).block < w.heap.size := by
      by_cases hb' : (x.add i).block < w.heap.size
      · exact hb'
      · exfalso
        have : w.heap[(x.add i).block]? = none := by simp; omega
        simp [World.cell?, this] at hcz
    exact (hb.cell hlt).trans hcz

set_option maxHeartbeats 1000000 in
theorem A2Ratios_any (w : World) (a : Option Addr) (len cap : Nat) (zs : List Int) (h : IsRow .u8 w a len cap zs) :
    Calls Try.prog 6 #[.slice a len cap] w (TwoPost w) := by
  have HH := Lib.hid h
  clear h
  go_enter Try.func6, Try.ntmps6
  go_wp2_with fail
  refine (l00From_any _ a len cap zs (HH.out.keep (bA (bA (bR _) _) _))).mono ?_
  rintro e w1 ⟨rfl, s1, hb1⟩
  have S1 := Lib.hid (show SrcAt w1 (w.heap.size + 1 + 1) a len cap 0 by simpa using s1)
  have z1 : w.heap.size + 1 + 1 < w1.heap.size := S1.out.lt
  obtain ⟨hc1, hf1⟩ := bcell hb1
  have a0 : w1.cell? ⟨w.heap.size, 0, none⟩ = some (.int .i64 0) := by rw [hc1 _ _ (by simp <;> omega)]; simp [go_sem]
  have a1 : w1.cell? ⟨w.heap.size, 1, none⟩ = some (.int .i64 0) := by rw [hc1 _ _ (by simp <;> omega)]; simp [go_sem]
  have a2 : w1.cell? ⟨w.heap.size + 1, 0, none⟩ = some (.int .i64 0) := by rw [hc1 _ _ (by simp <;> omega)]; simp [go_sem]
  have a3 : w1.cell? ⟨w.heap.size + 1, 1, none⟩ = some (.int .i64 0) := by rw [hc1 _ _ (by simp <;> omega)]; simp [go_sem]
  have b0 : w1.frozen? ⟨w.heap.size, 0, none⟩ = false := by rw [hf1 _ _ (by simp <;> omega)]; simp [go_sem]
  have b1 : w1.frozen? ⟨w.heap.size, 1, none⟩ = false := by rw [hf1 _ _ (by simp <;> omega)]; simp [go_sem]
  have b2 : w1.frozen? ⟨w.heap.size + 1, 0, none⟩ = false := by rw [hf1 _ _ (by simp <;> omega)]; simp [go_sem]
  have b3 : w1.frozen? ⟨w.heap.size + 1, 1, none⟩ = false := by rw [hf1 _ _ (by simp <;> omega)]; simp [go_sem]
  have B1 := Lib.hid (bT (bA (bA (bR w) _) _) hb1)
  clear hc1 hf1 s1 hb1 HH
  go_wp2_with fail
  refine (l02Draw_any w1 (w.heap.size + 1 + 1) a len cap 0 S1.out (by omega)).mono ?_
  rintro e w2 ⟨n, d, k1, rfl, s2, g2⟩
  have S2 := Lib.hid s2
  have z2 : w1.heap.size ≤ w2.heap.size := g2.size
  have y0 : w.heap.size < w2.heap.size := by omega
  have y1 : w.heap.size + 1 < w2.heap.size := by omega
  have c0 := gkeep g2 (by omega) a0
  have c1 := gkeep g2 (by omega) a1
  have c2 := gkeep g2 (by omega) a2
  have c3 := gkeep g2 (by omega) a3
  have d0 := gfrozen g2 (by omega) (by omega) b0
  have d1 := gfrozen g2 (by omega) (by omega) b1
  have d2 := gfrozen g2 (by omega) (by omega) b2
  have d3 := gfrozen g2 (by omega) (by omega) b3
  have K1 := Lib.hid k1
  have G2 := Lib.hid g2
  clear s2 k1 g2 a0 a1 a2 a3 b0 b1 b2 b3
  go_wp2_with fail
  obtain ⟨wx, hwx⟩ : ∃ wx, wx = w2.alloc (.cells #[.int .i64 n, .int .i64 d] 25) := ⟨_, rfl⟩
  have hzx : wx.heap.size = w2.heap.size + 1 := by rw [hwx]; simp
  have x0 : wx.heap.size = w2.heap.size + 1 := hzx
  have e0 : wx.cell? ⟨w.heap.size, 0, none⟩ = some (.int .i64 0) := by rw [hwx]; exact ((bA (bR w2) _).cell (p := ⟨w.heap.size, 0, none⟩) y0).trans c0
  have e1 : wx.cell? ⟨w.heap.size, 1, none⟩ = some (.int .i64 0) := by rw [hwx]; exact ((bA (bR w2) _).cell (p := ⟨w.heap.size, 1, none⟩) y0).trans c1
  have e2 : wx.cell? ⟨w.heap.size + 1, 0, none⟩ = some (.int .i64 0) := by rw [hwx]; exact ((bA (bR w2) _).cell (p := ⟨w.heap.size + 1, 0, none⟩) y1).trans c2
  have e3 : wx.cell? ⟨w.heap.size + 1, 1, none⟩ = some (.int .i64 0) := by rw [hwx]; exact ((bA (bR w2) _).cell (p := ⟨w.heap.size + 1, 1, none⟩) y1).trans c3
  have f0 : wx.frozen? ⟨w.heap.size, 0, none⟩ = false := by rw [hwx]; exact ((bA (bR w2) _).frozen (p := ⟨w.heap.size, 0, none⟩) y0).trans d0
  have f1 : wx.frozen? ⟨w.heap.size, 1, none⟩ = false := by rw [hwx]; exact ((bA (bR w2) _).frozen (p := ⟨w.heap.size, 1, none⟩) y0).trans d1
  have f2 : wx.frozen? ⟨w.heap.size + 1, 0, none⟩ = false := by rw [hwx]; exact ((bA (bR w2) _).frozen (p := ⟨w.heap.size + 1, 0, none⟩) y1).trans d2
  have f3 : wx.frozen? ⟨w.heap.size + 1, 1, none⟩ = false := by rw [hwx]; exact ((bA (bR w2) _).frozen (p := ⟨w.heap.size + 1, 1, none⟩) y1).trans d3
  have g0 : wx.cell? ⟨w2.heap.size, 0, none⟩ = some (.int .i64 n) := by rw [hwx]; simp [go_sem]
  have g1 : wx.cell? ⟨w2.heap.size, 1, none⟩ = some (.int .i64 d) := by rw [hwx]; simp [go_sem]
  have SX := Lib.hid (show SrcAt wx (w.heap.size + 1 + 1) a len cap 10 by rw [hwx]; exact S2.out.keep (bA (bR _) _))
  have GX := Lib.hid (show Below w.heap.size w wx by rw [hwx]; exact bA ((B1.out.grown G2.out (by omega) (fun k e => by have := Option.some.inj e; omega))) _)
  rw [← hwx]
  clear hwx c0 c1 c2 c3 d0 d1 d2 d3
  go_region_with (go_at_call 17; refine (l02Draw_any _ (w.heap.size + 1 + 1) a len cap 10 ?_ ?_).mono ?_; exact SX.out.keep (bR _).drew; omega; rintro e w3 ⟨p, q, k2, rfl, s3, g3⟩; have K2 := Lib.hid k2; have G3 := Lib.hid g3; have h0 := gkeep g3 (by omega) e0; have h1 := gkeep g3 (by omega) e1; have h2 := gkeep g3 (by omega) e2; have h3 := gkeep g3 (by omega) e3; have i0 := gfrozen g3 (by omega) (by simp; omega) f0; have i1 := gfrozen g3 (by omega) (by simp; omega) f1; have i2 := gfrozen g3 (by omega) (by simp; omega) f2; have i3 := gfrozen g3 (by omega) (by simp; omega) f3; have j0 := gkeep g3 (by omega) g0; have j1 := gkeep g3 (by omega) g1; clear k2 g3 s3)
  all_goals go_wp2_with fail
  all_goals refine bodyPost_ret (v := .tuple #[.agg #[.int .i64 n, .int .i64 d], .agg #[.int .i64 p, .int .i64 q]]) ?_ rfl ⟨n, d, p, q, K1.out, K2.out, rfl, ?_⟩
  all_goals first | exact (((((GX.out.drew).grown G3.out (by simp; omega) (fun k e => by have := Option.some.inj e; omega)).setCell (by simp) _).setCell (by simp) _).setCell (by simp) _).setCell (by simp) _ | (simp [results, Try.results6, go_sem, h0, h1, h2, h3]; done)

theorem a2Long_yes (w : World) (a : Option Addr) (len cap : Nat) (b : Option Addr) (len2 cap2 : Nat) (h1 : len ≤ 9223372036854775807) (h2 : len2 ≤ 9223372036854775807) (h : 3000 < len ∨ 3000 < len2) :
    Calls Try.prog 5 #[.slice a len cap, .slice b len2 cap2] w fun e w' => e = .returned (.bool true) ∧ w = w' := by
  by_cases c : 3000 < len
  · go_enter Try.func5, Try.ntmps5
    go_wp2_with fail
    go_ret
    exact ⟨rfl, rfl⟩
  · have c' : 3000 < len2 := by omega
    clear h
    go_enter Try.func5, Try.ntmps5
    go_wp2_with fail
    go_ret
    exact ⟨ret_bool (by simp; omega), rfl⟩
theorem a2Long_no (w : World) (a : Option Addr) (len cap : Nat) (b : Option Addr) (len2 cap2 : Nat) (h1 : len ≤ 3000) (h2 : len2 ≤ 3000) :
    Calls Try.prog 5 #[.slice a len cap, .slice b len2 cap2] w fun e w' => e = .returned (.bool false) ∧ w = w' := by
  go_enter Try.func5, Try.ntmps5
  go_wp2_with fail
  go_ret
  exact ⟨ret_bool (by simp; omega), rfl⟩

def AtPost (w : World) (m : Int) (e : Ending) (w' : World) : Prop := ∃ v : Int, 0 ≤ v ∧ v ≤ m ∧ e = .returned (.int .i64 v) ∧ w = w'
theorem a2At_any (w : World) (a : Option Addr) (len cap : Nat) (zs : List Int) (h : IsRow .u8 w a len cap zs) (i : Nat) (n : Int) (hn : 1 ≤ n) (hn' : n ≤ 1000000000) (_hi : i ≤ 1000000000) :
    Calls Try.prog 11 #[.slice a len cap, .int .i64 i, .int .i64 n] w (AtPost w (n - 1)) := by
  obtain ⟨⟨l1, l2⟩, hr⟩ := row_of h
  unfold maxLen at l2
  have HR := Lib.hid hr
  clear h hr
  have hz : (n == 0) = false := by simp; omega
  by_cases hl : i < len
  · obtain ⟨xb, xo, z, hx, hlt, hcz, z0, z1⟩ := HR.out i hl
    subst hx
    have m0 := Int.emod_nonneg z (show n ≠ 0 by omega)
    have m1 := Int.emod_lt_of_pos z (show 0 < n by omega)
    go_enter Try.func11, Try.ntmps11
    go_wp2_with fail
    go_ret
    exact ⟨_, m0, by omega, rfl, rfl⟩
  · go_enter Try.func11, Try.ntmps11
    go_wp2_with fail
    go_ret
    exact ⟨0, by omega, by omega, rfl, rfl⟩
end Go.Proofs.Ytldjplopglpgfaa
