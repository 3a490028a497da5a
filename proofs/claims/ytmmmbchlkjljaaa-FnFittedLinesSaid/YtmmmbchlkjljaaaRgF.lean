/-
  The sums of readings, both sides.
-/
import Derived.Test.YtmmmbchlkjljaaaRgS
import Derived.Test.YtmmmbchlkjljaaaRgL
import Derived.Test.YtmmmbchlkjljaaaRgN
namespace Go.Proofs.Ytmmmbchlkjljaaa
open Go.RowKit

theorem hourI_any (x y : Int) (w : World) :
    Calls Try.prog 87 #[.agg #[.int .i64 x, .int .i64 y]] w (OneN (hrS (x, y)) w) := by
  go_enter Try.func87, Try.ntmps87
  go_wp2_with fail
  go_ret
  exact ⟨rfl, bA (bR _) _⟩
theorem offI_any (x y : Int) (w : World) :
    Calls Try.prog 88 #[.agg #[.int .i64 x, .int .i64 y]] w (OneN (ofS (x, y)) w) := by
  go_enter Try.func88, Try.ntmps88
  go_wp2_with fail
  go_ret
  exact ⟨rfl, bA (bR _) _⟩
theorem squaredHourI_any (x y : Int) (w : World) (h : 0 ≤ sqS (x, y) ∧ sqS (x, y) ≤ 100000000) :
    Calls Try.prog 89 #[.agg #[.int .i64 x, .int .i64 y]] w (OneN (sqS (x, y)) w) := by
  have h2 : 0 ≤ x * x ∧ x * x ≤ 100000000 := h
  have e1 : sqS (x, y) = x * x := rfl
  rw [e1]
  clear h e1
  go_enter Try.func89, Try.ntmps89
  go_wp2_with fail
  go_ret
  exact ⟨rfl, bA (bR _) _⟩
theorem productI_any (x y : Int) (w : World) (h : -1000000000 ≤ dgS (x, y) ∧ dgS (x, y) ≤ 1000000000) :
    Calls Try.prog 90 #[.agg #[.int .i64 x, .int .i64 y]] w (OneN (dgS (x, y)) w) := by
  have h2 : -1000000000 ≤ x * y ∧ x * y ≤ 1000000000 := h
  have e1 : dgS (x, y) = x * y := rfl
  rw [e1]
  clear h e1
  go_enter Try.func90, Try.ntmps90
  go_wp2_with fail
  go_ret
  exact ⟨rfl, bA (bR _) _⟩
set_option maxRecDepth 100000 in
set_option maxHeartbeats 2000000 in
theorem sum_hour (ps : List (Int × Int)) (v : Value) (w : World) (ha : SlQ w v ps) (h : bdR ps) (hlen : ps.length ≤ 60) :
    Calls Try.prog 86 #[v, .func (.func 87) #[] #[]] w (OneN (smF hrS ps) w) := by
  obtain ⟨ao, cap, rfl, _, ha⟩ := ha
  have HA := Lib.hid ha
  have HS := Lib.hid (hr_cut h hlen)
  have CA := Lib.hid (fun k (hk : k < ps.length) W => hourI_any (pat ps k).1 (pat ps k).2 W)
  clear ha h
  go_enter Try.func86, Try.ntmps86
  go_wp2_with fail
  go_loopw [5, 10] (fun vs vi wr => ∃ k : Nat, k ≤ ps.length ∧ vi = .int .i64 k ∧ vs = .int .i64 (smF hrS (ps.take k)) ∧ Below w.heap.size w wr) (fun _ vi _ => ps.length - (intOf vi).toNat)
  case atStart => exact ⟨0, Nat.zero_le _, rfl, by simp [smF], bR _⟩
  case round =>
    obtain ⟨k, hk, rfl, rfl, hbel⟩ := hrel
    have BL := Lib.hid hbel
    by_cases hlt : k < ps.length
    · obtain ⟨g, o, rfl, hg, hc⟩ := HA.out (by omega)
      obtain ⟨c1, c2⟩ := (hc.keep hg hbel) k hlt
      have C1 := Lib.hid (CA.out k hlt)
      have h0 := HS.out k (by omega)
      have h1 := HS.out (k + 1) (by omega)
      have HT := Lib.hid (smF_take hrS hlt)
      rw [HT.out] at h1
      have HD := Lib.hid (show hrS ((pat ps k).1, (pat ps k).2) = hrS (pat ps k) from rfl)
      rw [HD.out] at C1
      clear hc HA HS CA hbel HD
      generalize hrS (pat ps k) = d at *
      generalize (pat ps k).1 = x at *
      generalize (pat ps k).2 = y at *
      generalize smF hrS (ps.take k) = s at *
      go_wp2_with fail
      refine (C1.out _).mono ?_
      rintro en w2 ⟨rfl, hb⟩
      have BL2 := Lib.hid (bT (bA BL.out _) hb)
      clear hb c1 c2
      go_wp2_with fail
      go_roundw
      case rel => exact ⟨k + 1, by omega, by go_num, by rw [HT.out], BL2.out⟩
      case measure => simp [intOf]; omega
    · obtain rfl : k = ps.length := by omega
      rw [List.take_of_length_le (Nat.le_refl _)]
      go_wp2_with fail
      go_ret
      exact ⟨rfl, BL.out⟩
set_option maxRecDepth 100000 in
set_option maxHeartbeats 2000000 in
theorem sum_off (ps : List (Int × Int)) (v : Value) (w : World) (ha : SlQ w v ps) (h : bdR ps) (hlen : ps.length ≤ 60) :
    Calls Try.prog 86 #[v, .func (.func 88) #[] #[]] w (OneN (smF ofS ps) w) := by
  obtain ⟨ao, cap, rfl, _, ha⟩ := ha
  have HA := Lib.hid ha
  have HS := Lib.hid (of_cut h hlen)
  have CA := Lib.hid (fun k (hk : k < ps.length) W => offI_any (pat ps k).1 (pat ps k).2 W)
  clear ha h
  go_enter Try.func86, Try.ntmps86
  go_wp2_with fail
  go_loopw [5, 10] (fun vs vi wr => ∃ k : Nat, k ≤ ps.length ∧ vi = .int .i64 k ∧ vs = .int .i64 (smF ofS (ps.take k)) ∧ Below w.heap.size w wr) (fun _ vi _ => ps.length - (intOf vi).toNat)
  case atStart => exact ⟨0, Nat.zero_le _, rfl, by simp [smF], bR _⟩
  case round =>
    obtain ⟨k, hk, rfl, rfl, hbel⟩ := hrel
    have BL := Lib.hid hbel
    by_cases hlt : k < ps.length
    · obtain ⟨g, o, rfl, hg, hc⟩ := HA.out (by omega)
      obtain ⟨c1, c2⟩ := (hc.keep hg hbel) k hlt
      have C1 := Lib.hid (CA.out k hlt)
      have h0 := HS.out k (by omega)
      have h1 := HS.out (k + 1) (by omega)
      have HT := Lib.hid (smF_take ofS hlt)
      rw [HT.out] at h1
      have HD := Lib.hid (show ofS ((pat ps k).1, (pat ps k).2) = ofS (pat ps k) from rfl)
      rw [HD.out] at C1
      clear hc HA HS CA hbel HD
      generalize ofS (pat ps k) = d at *
      generalize (pat ps k).1 = x at *
      generalize (pat ps k).2 = y at *
      generalize smF ofS (ps.take k) = s at *
      go_wp2_with fail
      refine (C1.out _).mono ?_
      rintro en w2 ⟨rfl, hb⟩
      have BL2 := Lib.hid (bT (bA BL.out _) hb)
      clear hb c1 c2
      go_wp2_with fail
      go_roundw
      case rel => exact ⟨k + 1, by omega, by go_num, by rw [HT.out], BL2.out⟩
      case measure => simp [intOf]; omega
    · obtain rfl : k = ps.length := by omega
      rw [List.take_of_length_le (Nat.le_refl _)]
      go_wp2_with fail
      go_ret
      exact ⟨rfl, BL.out⟩
set_option maxRecDepth 100000 in
set_option maxHeartbeats 2000000 in
theorem sum_squaredHour (ps : List (Int × Int)) (v : Value) (w : World) (ha : SlQ w v ps) (h : bdR ps) (hlen : ps.length ≤ 60) :
    Calls Try.prog 86 #[v, .func (.func 89) #[] #[]] w (OneN (smF sqS ps) w) := by
  obtain ⟨ao, cap, rfl, _, ha⟩ := ha
  have HA := Lib.hid ha
  have HS := Lib.hid (sq_cut h hlen)
  have CA := Lib.hid (fun k (hk : k < ps.length) W => squaredHourI_any (pat ps k).1 (pat ps k).2 W (sq_b h k hk))
  clear ha h
  go_enter Try.func86, Try.ntmps86
  go_wp2_with fail
  go_loopw [5, 10] (fun vs vi wr => ∃ k : Nat, k ≤ ps.length ∧ vi = .int .i64 k ∧ vs = .int .i64 (smF sqS (ps.take k)) ∧ Below w.heap.size w wr) (fun _ vi _ => ps.length - (intOf vi).toNat)
  case atStart => exact ⟨0, Nat.zero_le _, rfl, by simp [smF], bR _⟩
  case round =>
    obtain ⟨k, hk, rfl, rfl, hbel⟩ := hrel
    have BL := Lib.hid hbel
    by_cases hlt : k < ps.length
    · obtain ⟨g, o, rfl, hg, hc⟩ := HA.out (by omega)
      obtain ⟨c1, c2⟩ := (hc.keep hg hbel) k hlt
      have C1 := Lib.hid (CA.out k hlt)
      have h0 := HS.out k (by omega)
      have h1 := HS.out (k + 1) (by omega)
      have HT := Lib.hid (smF_take sqS hlt)
      rw [HT.out] at h1
      have HD := Lib.hid (show sqS ((pat ps k).1, (pat ps k).2) = sqS (pat ps k) from rfl)
      rw [HD.out] at C1
      clear hc HA HS CA hbel HD
      generalize sqS (pat ps k) = d at *
      generalize (pat ps k).1 = x at *
      generalize (pat ps k).2 = y at *
      generalize smF sqS (ps.take k) = s at *
      go_wp2_with fail
      refine (C1.out _).mono ?_
      rintro en w2 ⟨rfl, hb⟩
      have BL2 := Lib.hid (bT (bA BL.out _) hb)
      clear hb c1 c2
      go_wp2_with fail
      go_roundw
      case rel => exact ⟨k + 1, by omega, by go_num, by rw [HT.out], BL2.out⟩
      case measure => simp [intOf]; omega
    · obtain rfl : k = ps.length := by omega
      rw [List.take_of_length_le (Nat.le_refl _)]
      go_wp2_with fail
      go_ret
      exact ⟨rfl, BL.out⟩
set_option maxRecDepth 100000 in
set_option maxHeartbeats 2000000 in
theorem sum_product (ps : List (Int × Int)) (v : Value) (w : World) (ha : SlQ w v ps) (h : bdR ps) (hlen : ps.length ≤ 60) :
    Calls Try.prog 86 #[v, .func (.func 90) #[] #[]] w (OneN (smF dgS ps) w) := by
  obtain ⟨ao, cap, rfl, _, ha⟩ := ha
  have HA := Lib.hid ha
  have HS := Lib.hid (dg_cut h hlen)
  have CA := Lib.hid (fun k (hk : k < ps.length) W => productI_any (pat ps k).1 (pat ps k).2 W (dg_b h k hk))
  clear ha h
  go_enter Try.func86, Try.ntmps86
  go_wp2_with fail
  go_loopw [5, 10] (fun vs vi wr => ∃ k : Nat, k ≤ ps.length ∧ vi = .int .i64 k ∧ vs = .int .i64 (smF dgS (ps.take k)) ∧ Below w.heap.size w wr) (fun _ vi _ => ps.length - (intOf vi).toNat)
  case atStart => exact ⟨0, Nat.zero_le _, rfl, by simp [smF], bR _⟩
  case round =>
    obtain ⟨k, hk, rfl, rfl, hbel⟩ := hrel
    have BL := Lib.hid hbel
    by_cases hlt : k < ps.length
    · obtain ⟨g, o, rfl, hg, hc⟩ := HA.out (by omega)
      obtain ⟨c1, c2⟩ := (hc.keep hg hbel) k hlt
      have C1 := Lib.hid (CA.out k hlt)
      have h0 := HS.out k (by omega)
      have h1 := HS.out (k + 1) (by omega)
      have HT := Lib.hid (smF_take dgS hlt)
      rw [HT.out] at h1
      have HD := Lib.hid (show dgS ((pat ps k).1, (pat ps k).2) = dgS (pat ps k) from rfl)
      rw [HD.out] at C1
      clear hc HA HS CA hbel HD
      generalize dgS (pat ps k) = d at *
      generalize (pat ps k).1 = x at *
      generalize (pat ps k).2 = y at *
      generalize smF dgS (ps.take k) = s at *
      go_wp2_with fail
      refine (C1.out _).mono ?_
      rintro en w2 ⟨rfl, hb⟩
      have BL2 := Lib.hid (bT (bA BL.out _) hb)
      clear hb c1 c2
      go_wp2_with fail
      go_roundw
      case rel => exact ⟨k + 1, by omega, by go_num, by rw [HT.out], BL2.out⟩
      case measure => simp [intOf]; omega
    · obtain rfl : k = ps.length := by omega
      rw [List.take_of_length_le (Nat.le_refl _)]
      go_wp2_with fail
      go_ret
      exact ⟨rfl, BL.out⟩
def Z5 : List Value := [.int .i64 0, .int .i64 0, .int .i64 0, .int .i64 0, .int .i64 0]
theorem BoxL.setR {w : World} {b i : Nat} {vs : List Value} {v u : Value} (h : BoxL w b vs) (hi : vs[i]? = some u) : BoxL (w.setCell ⟨b, i, none⟩ v) b (vs.set i v) := by
  have hl : i < vs.length := by
    by_cases hl : i < vs.length
    · exact hl
    · rw [List.getElem?_eq_none (by omega)] at hi; cases hi
  have c0 := h.c i u hi
  refine ⟨fun j y e => ?_, fun j y e => ?_, by simpa [World.setCell] using h.lt⟩
  · by_cases hj : j = i
    · subst hj
      rw [List.getElem?_set_self hl] at e
      cases e
      simp [go_sem, c0]
    · rw [List.getElem?_set_ne (Ne.symm hj)] at e
      have := h.c j y e
      simp [go_sem, this]
  · by_cases hj : j = i
    · subst hj
      have := h.f j u hi
      simp [go_sem, this]
    · rw [List.getElem?_set_ne (Ne.symm hj)] at e
      have := h.f j y e
      simp [go_sem, this]
theorem BoxL.set5R {w : World} {b : Nat} {x0 x1 x2 x3 x4 v0 v1 v2 v3 v4 : Value} (h : BoxL w b [x0, x1, x2, x3, x4]) : BoxL (((((w.setCell ⟨b, 0, none⟩ v0).setCell ⟨b, 1, none⟩ v1).setCell ⟨b, 2, none⟩ v2).setCell ⟨b, 3, none⟩ v3).setCell ⟨b, 4, none⟩ v4) b [v0, v1, v2, v3, v4] :=
  BoxL.setR (i := 4) (v := v4) (BoxL.setR (i := 3) (v := v3) (BoxL.setR (i := 2) (v := v2) (BoxL.setR (i := 1) (v := v1) (BoxL.setR (i := 0) (v := v0) h rfl) rfl) rfl) rfl) rfl
theorem BoxL.oth5R {w : World} {b b' : Nat} {vs : List Value} {v0 v1 v2 v3 v4 : Value} (h : BoxL w b vs) (hn : b ≠ b') : BoxL (((((w.setCell ⟨b', 0, none⟩ v0).setCell ⟨b', 1, none⟩ v1).setCell ⟨b', 2, none⟩ v2).setCell ⟨b', 3, none⟩ v3).setCell ⟨b', 4, none⟩ v4) b vs := ((((h.other hn).other hn).other hn).other hn).other hn
theorem bset5R {B : Nat} {w w' : World} {b : Nat} {v0 v1 v2 v3 v4 : Value} (h : Below B w w') (hn : B ≤ b) : Below B w (((((w'.setCell ⟨b, 0, none⟩ v0).setCell ⟨b, 1, none⟩ v1).setCell ⟨b, 2, none⟩ v2).setCell ⟨b, 3, none⟩ v3).setCell ⟨b, 4, none⟩ v4) :=
  ((((h.setCell (p := ⟨b, 0, none⟩) hn v0).setCell (p := ⟨b, 1, none⟩) hn v1).setCell (p := ⟨b, 2, none⟩) hn v2).setCell (p := ⟨b, 3, none⟩) hn v3).setCell (p := ⟨b, 4, none⟩) hn v4
def FtB1 (f : Ft) (w : World) (e : Ending) (w' : World) : Prop := e = .returned (.agg #[.int .i64 f.n, .int .i64 f.x, .int .i64 f.y, .int .i64 f.xx, .int .i64 f.xy]) ∧ Below w.heap.size w w'
def FtC (f : Ft) (c : Int) (w : World) (e : Ending) (w' : World) : Prop := e = .returned (.tuple #[.agg #[.int .i64 f.n, .int .i64 f.x, .int .i64 f.y, .int .i64 f.xx, .int .i64 f.xy], .int .i64 c]) ∧ Below w.heap.size w w'
set_option maxRecDepth 100000 in
set_option maxHeartbeats 2000000 in
theorem fitOf_any (ps : List (Int × Int)) (v : Value) (w : World) (ha : SlQ w v ps) (h : bdR ps) (hlen : ps.length ≤ 60) :
    Calls Try.prog 66 #[v] w (FtB1 (fitL ps) w) := by
  have C1 := Lib.hid (fun W (h2 : SlQ W v ps) => sum_hour ps v W h2 h hlen)
  have C2 := Lib.hid (fun W (h2 : SlQ W v ps) => sum_off ps v W h2 h hlen)
  have C3 := Lib.hid (fun W (h2 : SlQ W v ps) => sum_squaredHour ps v W h2 h hlen)
  have C4 := Lib.hid (fun W (h2 : SlQ W v ps) => sum_product ps v W h2 h hlen)
  have H0 := Lib.hid (show BoxL (w.alloc (.cells #[.int .i64 0, .int .i64 0, .int .i64 0, .int .i64 0, .int .i64 0] 41)) w.heap.size [.int .i64 0, .int .i64 0, .int .i64 0, .int .i64 0, .int .i64 0] ∧ Below w.heap.size w (w.alloc (.cells #[.int .i64 0, .int .i64 0, .int .i64 0, .int .i64 0, .int .i64 0] 41)) from ⟨BoxL.new w [.int .i64 0, .int .i64 0, .int .i64 0, .int .i64 0, .int .i64 0] 41, bA (bR _) _⟩)
  have A0 := Lib.hid (ha.keep (bA (bR w) (.cells #[.int .i64 0, .int .i64 0, .int .i64 0, .int .i64 0, .int .i64 0] 41)))
  have HF := Lib.hid (show fitL ps = ⟨ps.length, smF hrS ps, smF ofS ps, smF sqS ps, smF dgS ps⟩ from rfl)
  rw [HF.out]
  clear ha h
  generalize smF hrS ps = s1 at *
  generalize smF ofS ps = s2 at *
  generalize smF sqS ps = s3 at *
  generalize smF dgS ps = s4 at *
  obtain ⟨ao, cap, rfl, _, _⟩ := A0.out
  go_enter Try.func66, Try.ntmps66
  go_wp2_with fail
  refine (C1.out _ A0.out).mono ?_
  rintro e w1 ⟨rfl, hb⟩
  have A1 := Lib.hid (A0.out.keep hb)
  have H1 := Lib.hid (show BoxL w1 w.heap.size [.int .i64 0, .int .i64 0, .int .i64 0, .int .i64 0, .int .i64 0] ∧ Below w.heap.size w w1 from ⟨H0.out.1.keep hb, bT H0.out.2 hb⟩)
  clear hb A0 H0
  go_wp2_with fail
  refine (C2.out _ A1.out).mono ?_
  rintro e w2 ⟨rfl, hb⟩
  have A2 := Lib.hid (A1.out.keep hb)
  have H2 := Lib.hid (show BoxL w2 w.heap.size [.int .i64 0, .int .i64 0, .int .i64 0, .int .i64 0, .int .i64 0] ∧ Below w.heap.size w w2 from ⟨H1.out.1.keep hb, bT H1.out.2 hb⟩)
  clear hb A1 H1
  go_wp2_with fail
  refine (C3.out _ A2.out).mono ?_
  rintro e w3 ⟨rfl, hb⟩
  have A3 := Lib.hid (A2.out.keep hb)
  have H3 := Lib.hid (show BoxL w3 w.heap.size [.int .i64 0, .int .i64 0, .int .i64 0, .int .i64 0, .int .i64 0] ∧ Below w.heap.size w w3 from ⟨H2.out.1.keep hb, bT H2.out.2 hb⟩)
  clear hb A2 H2
  go_wp2_with fail
  refine (C4.out _ A3.out).mono ?_
  rintro e w4 ⟨rfl, hb⟩
  have A4 := Lib.hid (A3.out.keep hb)
  have H4 := Lib.hid (show BoxL w4 w.heap.size [.int .i64 0, .int .i64 0, .int .i64 0, .int .i64 0, .int .i64 0] ∧ Below w.heap.size w w4 from ⟨H3.out.1.keep hb, bT H3.out.2 hb⟩)
  clear hb A3 H3
  obtain ⟨r0, r1, r2, r3, r4, r5⟩ := H4.out.1.c5
  obtain ⟨f0, f1, f2, f3, f4⟩ := H4.out.1.f5
  go_wp2_with fail
  exact bodyPost_ret (v := .agg #[.int .i64 (ps.length : Int), .int .i64 s1, .int .i64 s2, .int .i64 s3, .int .i64 s4]) (by simp [results, Try.results66, go_sem, r0, r1, r2, r3, r4]) rfl ⟨rfl, bset5R H4.out.2 (Nat.le_refl _)⟩
set_option maxRecDepth 100000 in
set_option maxHeartbeats 4000000 in
theorem l14Fit_any (ps : List (Int × Int)) (v : Value) (w : World) (ha : SlQ w v ps) (h : bdR ps) (hlen : ps.length ≤ 60) :
    Calls Try.prog 67 #[v] w (FtB1 (fitL ps) w) := by
  obtain ⟨ao, cap, rfl, _, ha⟩ := ha
  have HA := Lib.hid ha
  have H1 := Lib.hid (hr_cut h hlen)
  have H2 := Lib.hid (of_cut h hlen)
  have H3 := Lib.hid (sq_cut h hlen)
  have H4 := Lib.hid (dg_cut h hlen)
  have HSQ := Lib.hid (sq_b h)
  have HDG := Lib.hid (dg_b h)
  have HR := Lib.hid h
  have HF := Lib.hid (show fitL ps = ⟨ps.length, smF hrS ps, smF ofS ps, smF sqS ps, smF dgS ps⟩ from rfl)
  rw [HF.out]
  clear ha h HF
  go_enter Try.func67, Try.ntmps67
  go_wp2_with fail
  have R0 := Lib.hid ((BoxL.new w [.int .i64 0, .int .i64 0, .int .i64 0, .int .i64 0, .int .i64 0] 41).alloc (.cells #[.int .i64 (ps.length : Int), .int .i64 0, .int .i64 0, .int .i64 0, .int .i64 0] 41))
  have B0 := Lib.hid (show BoxL ((w.alloc (.cells #[.int .i64 0, .int .i64 0, .int .i64 0, .int .i64 0, .int .i64 0] 41)).alloc (.cells #[.int .i64 (ps.length : Int), .int .i64 0, .int .i64 0, .int .i64 0, .int .i64 0] 41)) (w.heap.size + 1) [.int .i64 (ps.length : Int), .int .i64 0, .int .i64 0, .int .i64 0, .int .i64 0] from BoxL.at_ (vs := [.int .i64 (ps.length : Int), .int .i64 0, .int .i64 0, .int .i64 0, .int .i64 0]) (by simp))
  have L0 := Lib.hid (bA (bA (bR w) (.cells #[.int .i64 0, .int .i64 0, .int .i64 0, .int .i64 0, .int .i64 0] 41)) (.cells #[.int .i64 (ps.length : Int), .int .i64 0, .int .i64 0, .int .i64 0, .int .i64 0] 41))
  go_loopw [4] (fun vi wr => ∃ k : Nat, k ≤ ps.length ∧ vi = .int .i64 k ∧ BoxL wr w.heap.size [.int .i64 0, .int .i64 0, .int .i64 0, .int .i64 0, .int .i64 0] ∧ BoxL wr (w.heap.size + 1) [.int .i64 (ps.length : Int), .int .i64 (smF hrS (ps.take k)), .int .i64 (smF ofS (ps.take k)), .int .i64 (smF sqS (ps.take k)), .int .i64 (smF dgS (ps.take k))] ∧ Below w.heap.size w wr) (fun vi _ => ps.length - (intOf vi).toNat)
  case atStart => exact ⟨0, Nat.zero_le _, rfl, R0.out, B0.out, L0.out⟩
  case round =>
    obtain ⟨k, hk, rfl, hres, hbox, hbel⟩ := hrel
    have BL := Lib.hid hbel
    have RS := Lib.hid hres
    have BX := Lib.hid hbox
    clear R0 B0 L0 hres hbox
    by_cases hlt : k < ps.length
    · obtain ⟨g, o, rfl, hg, hc⟩ := HA.out (by omega)
      obtain ⟨c1, c2⟩ := (hc.keep hg hbel) k hlt
      have a1 := H1.out k (by omega)
      have a2 := H2.out k (by omega)
      have a3 := H3.out k (by omega)
      have a4 := H4.out k (by omega)
      have b1 := H1.out (k + 1) (by omega)
      have b2 := H2.out (k + 1) (by omega)
      have b3 := H3.out (k + 1) (by omega)
      have b4 := H4.out (k + 1) (by omega)
      have d3 := HSQ.out k hlt
      have d4 := HDG.out k hlt
      have T1 := Lib.hid (smF_take hrS hlt)
      have T2 := Lib.hid (smF_take ofS hlt)
      have T3 := Lib.hid (smF_take sqS hlt)
      have T4 := Lib.hid (smF_take dgS hlt)
      rw [T1.out] at b1
      rw [T2.out] at b2
      rw [T3.out] at b3
      rw [T4.out] at b4
      have q1 : hrS (pat ps k) = (pat ps k).1 := rfl
      have q2 : ofS (pat ps k) = (pat ps k).2 := rfl
      have q3 : sqS (pat ps k) = (pat ps k).1 * (pat ps k).1 := rfl
      have q4 : dgS (pat ps k) = (pat ps k).1 * (pat ps k).2 := rfl
      rw [q1] at b1 T1
      rw [q2] at b2 T2
      rw [q3] at b3 T3 d3
      rw [q4] at b4 T4 d4
      clear hc HA H1 H2 H3 H4 HSQ HDG HR hbel q1 q2 q3 q4
      generalize (pat ps k).1 = x at *
      generalize (pat ps k).2 = y at *
      generalize smF hrS (ps.take k) = s1 at *
      generalize smF ofS (ps.take k) = s2 at *
      generalize smF sqS (ps.take k) = s3 at *
      generalize smF dgS (ps.take k) = s4 at *
      obtain ⟨r0, r1, r2, r3, r4, r5⟩ := BX.out.c5
      obtain ⟨f0, f1, f2, f3, f4⟩ := BX.out.f5
      have NB := Lib.hid (BX.out.set5R (v0 := .int .i64 (ps.length : Int)) (v1 := .int .i64 (s1 + x)) (v2 := .int .i64 (s2 + y)) (v3 := .int .i64 (s3 + x * x)) (v4 := .int .i64 (s4 + x * y)))
      have NR := Lib.hid (RS.out.oth5R (b' := w.heap.size + 1) (v0 := .int .i64 (ps.length : Int)) (v1 := .int .i64 (s1 + x)) (v2 := .int .i64 (s2 + y)) (v3 := .int .i64 (s3 + x * x)) (v4 := .int .i64 (s4 + x * y)) (by omega))
      have NL := Lib.hid (bset5R (b := w.heap.size + 1) (v0 := .int .i64 (ps.length : Int)) (v1 := .int .i64 (s1 + x)) (v2 := .int .i64 (s2 + y)) (v3 := .int .i64 (s3 + x * x)) (v4 := .int .i64 (s4 + x * y)) BL.out (by omega))
      go_wp2_with fail
      go_roundw
      case rel => exact ⟨k + 1, by omega, by go_num, NR.out, by rw [T1.out, T2.out, T3.out, T4.out]; exact NB.out, NL.out⟩
      case measure => simp [intOf]; omega
    · obtain rfl : k = ps.length := by omega
      rw [List.take_of_length_le (Nat.le_refl _)] at BX
      clear HA H1 H2 H3 H4 HSQ HDG HR
      generalize smF hrS ps = s1 at *
      generalize smF ofS ps = s2 at *
      generalize smF sqS ps = s3 at *
      generalize smF dgS ps = s4 at *
      obtain ⟨r0, r1, r2, r3, r4, r5⟩ := BX.out.c5
      obtain ⟨c0, c1, c2, c3, c4, c5⟩ := RS.out.c5
      obtain ⟨f0, f1, f2, f3, f4⟩ := RS.out.f5
      go_wp2_with fail
      exact bodyPost_ret (v := .agg #[.int .i64 (ps.length : Int), .int .i64 s1, .int .i64 s2, .int .i64 s3, .int .i64 s4]) (by simp [results, Try.results67, go_sem, c0, c1, c2, c3, c4]) rfl ⟨rfl, bset5R BL.out (Nat.le_refl _)⟩
set_option maxRecDepth 100000 in
set_option maxHeartbeats 2000000 in
theorem FitOfS_any (ps : List (Int × Int)) (v : Value) (w : World) (ha : SlQ w v ps) (hmax : ps.length ≤ 1000000000000) :
    Calls Try.prog 27 #[v] w (FtC (ftE ps).1 (ftE ps).2 w) := by
  have CL := Lib.hid (fun W (h : SlQ W v ps) => l14Ok_any ps v W h hmax)
  have H0 := Lib.hid (show BoxL (w.alloc (.cells #[.int .i64 0, .int .i64 0, .int .i64 0, .int .i64 0, .int .i64 0] 41)) w.heap.size [.int .i64 0, .int .i64 0, .int .i64 0, .int .i64 0, .int .i64 0] ∧ Below w.heap.size w (w.alloc (.cells #[.int .i64 0, .int .i64 0, .int .i64 0, .int .i64 0, .int .i64 0] 41)) from ⟨BoxL.new w [.int .i64 0, .int .i64 0, .int .i64 0, .int .i64 0, .int .i64 0] 41, bA (bR _) _⟩)
  have A0 := Lib.hid (ha.keep (bA (bR w) (.cells #[.int .i64 0, .int .i64 0, .int .i64 0, .int .i64 0, .int .i64 0] 41)))
  clear ha
  obtain ⟨ao, cap, rfl, _, _⟩ := A0.out
  cases h2 : okRd ps
  · rw [ftE_1 h2]
    rw [h2] at CL
    go_enter Try.func27, Try.ntmps27
    go_wp2_with fail
    refine (CL.out _ A0.out).mono ?_
    rintro e w1 ⟨rfl, hb⟩
    have H1 := Lib.hid (show BoxL w1 w.heap.size [.int .i64 0, .int .i64 0, .int .i64 0, .int .i64 0, .int .i64 0] ∧ Below w.heap.size w w1 from ⟨H0.out.1.keep hb, bT H0.out.2 hb⟩)
    clear hb A0 H0
    obtain ⟨c0, c1, c2, c3, c4, c5⟩ := H1.out.1.c5
    obtain ⟨f0, f1, f2, f3, f4⟩ := H1.out.1.f5
    go_wp2_with fail
    exact bodyPost_ret (v := .tuple #[.agg #[.int .i64 0, .int .i64 0, .int .i64 0, .int .i64 0, .int .i64 0], .int .i64 1]) (by simp [results, Try.results27, go_sem, c0, c1, c2, c3, c4]) rfl ⟨rfl, bset5R H1.out.2 (Nat.le_refl _)⟩
  rw [h2] at CL
  rw [ftE_0 h2]
  have CF := Lib.hid (fun W (h : SlQ W (.slice ao ps.length cap) ps) => l14Fit_any ps _ W h (bdR_of h2) (okRd_len h2))
  have HF := Lib.hid (show fitL ps = ⟨(fitL ps).n, (fitL ps).x, (fitL ps).y, (fitL ps).xx, (fitL ps).xy⟩ from rfl)
  clear h2
  generalize fitL ps = f at *
  obtain ⟨n, x, y, xx, xy⟩ := f
  clear HF
  go_enter Try.func27, Try.ntmps27
  go_wp2_with fail
  refine (CL.out _ A0.out).mono ?_
  rintro e w1 ⟨rfl, hb⟩
  have A1 := Lib.hid (A0.out.keep hb)
  have H1 := Lib.hid (show BoxL w1 w.heap.size [.int .i64 0, .int .i64 0, .int .i64 0, .int .i64 0, .int .i64 0] ∧ Below w.heap.size w w1 from ⟨H0.out.1.keep hb, bT H0.out.2 hb⟩)
  clear hb A0 H0
  go_wp2_with fail
  refine (CF.out _ A1.out).mono ?_
  rintro e w2 ⟨rfl, hb⟩
  have H2 := Lib.hid (show BoxL w2 w.heap.size [.int .i64 0, .int .i64 0, .int .i64 0, .int .i64 0, .int .i64 0] ∧ Below w.heap.size w w2 from ⟨H1.out.1.keep hb, bT H1.out.2 hb⟩)
  clear hb A1 H1
  obtain ⟨c0, c1, c2, c3, c4, c5⟩ := H2.out.1.c5
  obtain ⟨f0, f1, f2, f3, f4⟩ := H2.out.1.f5
  go_wp2_with fail
  exact bodyPost_ret (v := .tuple #[.agg #[.int .i64 n, .int .i64 x, .int .i64 y, .int .i64 xx, .int .i64 xy], .int .i64 0]) (by simp [results, Try.results27, go_sem, c0, c1, c2, c3, c4]) rfl ⟨rfl, bset5R H2.out.2 (Nat.le_refl _)⟩
set_option maxRecDepth 100000 in
set_option maxHeartbeats 2000000 in
theorem FitOfI_any (ps : List (Int × Int)) (v : Value) (w : World) (ha : SlQ w v ps) (hmax : ps.length ≤ 1000000000000) :
    Calls Try.prog 26 #[v] w (FtC (ftE ps).1 (ftE ps).2 w) := by
  have CL := Lib.hid (fun W (h : SlQ W v ps) => ValidReadingsI_any ps v W h hmax)
  have H0 := Lib.hid (show BoxL (w.alloc (.cells #[.int .i64 0, .int .i64 0, .int .i64 0, .int .i64 0, .int .i64 0] 41)) w.heap.size [.int .i64 0, .int .i64 0, .int .i64 0, .int .i64 0, .int .i64 0] ∧ Below w.heap.size w (w.alloc (.cells #[.int .i64 0, .int .i64 0, .int .i64 0, .int .i64 0, .int .i64 0] 41)) from ⟨BoxL.new w [.int .i64 0, .int .i64 0, .int .i64 0, .int .i64 0, .int .i64 0] 41, bA (bR _) _⟩)
  have A0 := Lib.hid (ha.keep (bA (bR w) (.cells #[.int .i64 0, .int .i64 0, .int .i64 0, .int .i64 0, .int .i64 0] 41)))
  clear ha
  obtain ⟨ao, cap, rfl, _, _⟩ := A0.out
  cases h2 : okRd ps
  · rw [ftE_1 h2]
    rw [h2] at CL
    go_enter Try.func26, Try.ntmps26
    go_wp2_with fail
    refine (CL.out _ A0.out).mono ?_
    rintro e w1 ⟨rfl, hb⟩
    have H1 := Lib.hid (show BoxL w1 w.heap.size [.int .i64 0, .int .i64 0, .int .i64 0, .int .i64 0, .int .i64 0] ∧ Below w.heap.size w w1 from ⟨H0.out.1.keep hb, bT H0.out.2 hb⟩)
    clear hb A0 H0
    obtain ⟨c0, c1, c2, c3, c4, c5⟩ := H1.out.1.c5
    obtain ⟨f0, f1, f2, f3, f4⟩ := H1.out.1.f5
    go_wp2_with fail
    exact bodyPost_ret (v := .tuple #[.agg #[.int .i64 0, .int .i64 0, .int .i64 0, .int .i64 0, .int .i64 0], .int .i64 1]) (by simp [results, Try.results26, go_sem, c0, c1, c2, c3, c4]) rfl ⟨rfl, bset5R H1.out.2 (Nat.le_refl _)⟩
  rw [h2] at CL
  rw [ftE_0 h2]
  have CF := Lib.hid (fun W (h : SlQ W (.slice ao ps.length cap) ps) => fitOf_any ps _ W h (bdR_of h2) (okRd_len h2))
  have HF := Lib.hid (show fitL ps = ⟨(fitL ps).n, (fitL ps).x, (fitL ps).y, (fitL ps).xx, (fitL ps).xy⟩ from rfl)
  clear h2
  generalize fitL ps = f at *
  obtain ⟨n, x, y, xx, xy⟩ := f
  clear HF
  go_enter Try.func26, Try.ntmps26
  go_wp2_with fail
  refine (CL.out _ A0.out).mono ?_
  rintro e w1 ⟨rfl, hb⟩
  have A1 := Lib.hid (A0.out.keep hb)
  have H1 := Lib.hid (show BoxL w1 w.heap.size [.int .i64 0, .int .i64 0, .int .i64 0, .int .i64 0, .int .i64 0] ∧ Below w.heap.size w w1 from ⟨H0.out.1.keep hb, bT H0.out.2 hb⟩)
  clear hb A0 H0
  go_wp2_with fail
  refine (CF.out _ A1.out).mono ?_
  rintro e w2 ⟨rfl, hb⟩
  have H2 := Lib.hid (show BoxL w2 w.heap.size [.int .i64 0, .int .i64 0, .int .i64 0, .int .i64 0, .int .i64 0] ∧ Below w.heap.size w w2 from ⟨H1.out.1.keep hb, bT H1.out.2 hb⟩)
  clear hb A1 H1
  obtain ⟨c0, c1, c2, c3, c4, c5⟩ := H2.out.1.c5
  obtain ⟨f0, f1, f2, f3, f4⟩ := H2.out.1.f5
  go_wp2_with fail
  exact bodyPost_ret (v := .tuple #[.agg #[.int .i64 n, .int .i64 x, .int .i64 y, .int .i64 xx, .int .i64 xy], .int .i64 0]) (by simp [results, Try.results26, go_sem, c0, c1, c2, c3, c4]) rfl ⟨rfl, bset5R H2.out.2 (Nat.le_refl _)⟩
end Go.Proofs.Ytmmmbchlkjljaaa
