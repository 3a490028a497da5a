/-
  The contracts of impl.ReadDecimal and spec.ReadDecimal; the walk of laws.FnExactReadDecimal.
-/
import Derived.Test.YtcklcledchboiaaDoorRd
import Derived.Test.YtcklcledchboiaaDoorWDec
namespace Go.Proofs.YtcklcledchboiaaDoor
open Go.RowKit
open Go.Sort (grow)

def dgB (c : Int) : Bool := decide (48 ≤ c ∧ c ≤ 57)
theorem l01Digit_any (c : Int) (w : World) :
    Calls Tryd.prog 107 #[.int .u8 c] w fun e w' => e = .returned (.bool (dgB c)) ∧ w = w' := by
  by_cases h : 48 ≤ c
  · go_enter Tryd.func107, Tryd.ntmps107
    go_wp2
    go_ret
    exact ⟨ret_bool (by simp [dgB, h]), rfl⟩
  · go_enter Tryd.func107, Tryd.ntmps107
    go_wp2
    go_ret
    exact ⟨ret_bool (by simp [dgB]; omega), rfl⟩
theorem empty_yes {s : ByteArray} (h : s.size = 0) : s.toList.isEmpty = true := by
  rw [ByteArray.toList_eq]
  have : s.data.toList.length = 0 := h
  rw [List.isEmpty_iff]
  exact List.length_eq_zero_iff.1 this
theorem empty_no {s : ByteArray} (h : s.size ≠ 0) : s.toList.isEmpty = false := by
  rw [ByteArray.toList_eq]
  have : s.data.toList.length ≠ 0 := h
  rw [List.isEmpty_eq_false_iff]
  exact fun e => this (by rw [e]; rfl)


theorem unsig_nil {s : ByteArray} (h : s.size = 0) : (unsig s.data.toList).length < 1 := by
  have : s.data.toList.length = 0 := h
  rw [List.length_eq_zero_iff.1 this]; simp [unsig]
theorem head_at {s : ByteArray} (h : 0 < s.size) : s.data.toList.head? = some s[0] := by
  rw [List.head?_eq_getElem?, List.getElem?_eq_getElem (by simpa using h)]; rfl
theorem unsig_yes {s : ByteArray} (h : 0 < s.size) (h45 : ((s[0].toNat : Nat) : Int) = 45) : s.data.toList.head? = some 45 ∧ unsig s.data.toList = (s.extract 1 s.size).data.toList := by
  have e : s[0] = 45 := by apply UInt8.toNat_inj.1; show s[0].toNat = 45; omega
  have hh : s.data.toList.head? = some 45 := by rw [head_at h, e]
  refine ⟨hh, ?_⟩
  unfold unsig
  rw [if_pos hh]
  simp [ByteArray.data_extract]
  exact (List.take_of_length_le (by simp)).symm
theorem unsig_no {s : ByteArray} (h : 0 < s.size) (h45 : ¬ ((s[0].toNat : Nat) : Int) = 45) : s.data.toList.head? ≠ some 45 ∧ unsig s.data.toList = s.data.toList := by
  have hh : s.data.toList.head? ≠ some 45 := by
    rw [head_at h]; intro e; apply h45; rw [Option.some.inj e]; rfl
  refine ⟨hh, ?_⟩
  unfold unsig
  rw [if_neg hh]

/-- How reading ends: the number and whether there is one. -/
def RdRet (s : ByteArray) (e : Ending) : Prop := ∃ n ok, e = .returned (.tuple #[.int .i64 n, .bool ok]) ∧ RdIs s.data.toList n ok
theorem rd_step {t : ByteArray} {k m : Nat} (hk : k < t.size) (hm : m = dval 0 (t.data.toList.take k)) (h1 : 48 ≤ ((t[k].toNat : Nat) : Int)) (h2 : ((t[k].toNat : Nat) : Int) ≤ 57) (hb : m < 10 ^ k) :
    ∃ m' : Nat, 10 * (m : Int) + (((t[k].toNat : Nat) : Int) - 48) = m' ∧ m' = dval 0 (t.data.toList.take (k + 1)) ∧ m' < 10 ^ (k + 1) := by
  refine ⟨m * 10 + (t[k].toNat - 48), by omega, ?_, by rw [Nat.pow_succ]; omega⟩
  have hk' : k < t.data.toList.length := by simpa using hk
  rw [List.take_succ_eq_append_getElem hk', dval_snoc, ← hm]; rfl
theorem pow18 {m k : Nat} (h : m < 10 ^ k) (hk : k ≤ 18) : m < 1000000000000000000 := Nat.lt_of_lt_of_le h (Nat.pow_le_pow_right (n := 10) (by omega) hk)
theorem pow17 {m k : Nat} (h : m < 10 ^ k) (hk : k ≤ 17) : m < 100000000000000000 := Nat.lt_of_lt_of_le h (Nat.pow_le_pow_right (n := 10) (by omega) hk)
theorem rd_mem {t : ByteArray} {k : Nat} (hk : k < t.size) : t[k] ∈ t.data.toList := by
  have hk' : k < t.data.toList.length := by simpa using hk
  have : t[k] = t.data.toList[k] := rfl
  rw [this]; exact List.getElem_mem hk'
theorem dg_no {c : Nat} (h : dgB (c : Int) = false) : ¬ (48 ≤ c ∧ c ≤ 57) := by simp [dgB] at h; omega
theorem dg_yes {c : Int} (h : dgB c = true) : 48 ≤ c ∧ c ≤ 57 := by simpa [dgB] using h
theorem rd_end {t : ByteArray} {k m : Nat} (hk : k = t.size) (hm : m = dval 0 (t.data.toList.take k)) : m = dval 0 t.data.toList := by
  rw [hm, List.take_of_length_le (by simp [hk])]
theorem str_ne {x s : ByteArray} (h : x ≠ s) : (x.toList == s.toList) = false := by
  rw [beq_eq_false_iff_ne]; intro e; apply h
  rw [ByteArray.toList_eq, ByteArray.toList_eq] at e
  exact ByteArray.ext (Array.toList_inj.1 e)

set_option maxHeartbeats 1000000 in
theorem l01Number_any (s : ByteArray) (w : World) (hs : s.size ≤ 1048576) :
    Calls Tryd.prog 88 #[.string s] w fun e w' => RdRet s e ∧ Below w.heap.size w w' := by
  by_cases h0 : s.size = 0
  · have he := empty_yes h0
    have HR := Lib.hid (RdIs.bad_len (.inl (unsig_nil h0)))
    go_enter Tryd.func88, Tryd.ntmps88
    go_wp2_with fail
    go_ret2
    exact ⟨⟨_, _, rfl, HR.out⟩, Below.refl _ _⟩
  · have he := empty_no h0
    have hp : 0 < s.size := by omega
    by_cases h45 : ((s[0].toNat : Nat) : Int) = 45
    · obtain ⟨hh, hu⟩ := unsig_yes hp h45
      have hb45 : (((s[0].toNat : Nat) : Int) == 45) = true := by simp [h45]
      have HH := Lib.hid hh
      have HU := Lib.hid hu
      clear hh hu h45
      by_cases hl : (s.size - 1) < 1
      · have HR := Lib.hid (RdIs.bad_len (s := s.data.toList) (.inl (by rw [HU.out]; simp; omega)))
        go_enter Tryd.func88, Tryd.ntmps88
        go_wp2_with fail
        go_ret2
        exact ⟨⟨_, _, rfl, HR.out⟩, Below.refl _ _⟩
      · by_cases hl2 : 18 < (s.size - 1)
        · have HR := Lib.hid (RdIs.bad_len (s := s.data.toList) (.inr (by rw [HU.out]; simp; omega)))
          go_enter Tryd.func88, Tryd.ntmps88
          go_wp2_with fail
          go_ret2
          exact ⟨⟨_, _, rfl, HR.out⟩, Below.refl _ _⟩
        · have hts : (s.extract 1 s.size).size = (s.size - 1) := by simp
          go_enter Tryd.func88, Tryd.ntmps88
          go_wp2_with fail
          go_loop [5, 6] (fun n i => ∃ k : Nat, k ≤ (s.size - 1) ∧ i = .int .i64 k ∧ ∃ m : Nat, n = .int .i64 m ∧ m = dval 0 ((s.extract 1 s.size).data.toList.take k) ∧ m < 10 ^ k) (fun _ i => s.size - (intOf i).toNat)
          case atStart => exact ⟨0, Nat.zero_le _, rfl, 0, rfl, rfl, Nat.one_pos⟩
          case round =>
            obtain ⟨k, hk, rfl, m, rfl, hm, hm2⟩ := hrel
            have HM := Lib.hid hm
            have hm3 : m < 1000000000000000000 := pow18 hm2 (by omega)
            have HM2 := Lib.hid hm2
            clear hm hm2
            by_cases hlt : k < (s.size - 1)
            · have hlt2 : k < (s.extract 1 s.size).size := by omega
              cases c1 : dgB (((s.extract 1 s.size)[k].toNat : Nat) : Int)
              · have HR := Lib.hid (RdIs.bad_digit (s := s.data.toList) (by rw [HU.out]; exact rd_mem hlt2) (dg_no c1))
                go_wp2_with fail
                refine (l01Digit_any _ _).mono ?_
                rintro e w1 ⟨rfl, rfl⟩
                go_wp2_with fail
                go_ret2
                exact ⟨⟨_, _, rfl, HR.out⟩, Below.refl _ _⟩
              · obtain ⟨d1, d2⟩ := dg_yes c1
                have hm5 := pow17 HM2.out (by omega)
                obtain ⟨m', e1, e2, e3⟩ := rd_step hlt2 HM.out d1 d2 HM2.out
                have E := Lib.hid e1
                have E2 := Lib.hid e2
                have E3 := Lib.hid e3
                clear e1 e2 e3
                go_wp2_with fail
                refine (l01Digit_any _ _).mono ?_
                rintro e w1 ⟨rfl, rfl⟩
                go_wp2_with fail
                go_round
                case rel => exact ⟨k + 1, by omega, by go_num, m', by rw [E.out], E2.out, E3.out⟩
                case measure => simp [intOf]; omega
            · have hm4 := rd_end (t := (s.extract 1 s.size)) (by omega) HM.out
              obtain ⟨y1, y2⟩ := RdIs.of_val (s := s.data.toList) (v := (-(m : Int))) (by rw [HU.out, ← hm4]; first | rw [if_pos HH.out] | rw [if_neg HH.out]) (by omega) (by omega)
              have Y1 := Lib.hid y1
              have Y2 := Lib.hid y2
              clear y1 y2 hm4
              go_wp2_with fail
              refine (l01Dec_any (-(m : Int)) _ (by omega) (by omega)).mono ?_
              rintro e w1 ⟨rfl, hb⟩
              by_cases hx : Lib.itoa (-(m : Int)) = s.data.toList
              · have hx2 : (⟨(Lib.itoa (-(m : Int))).toArray⟩ : ByteArray) = s := by rw [hx]
                rw [hx2]
                have HR := Lib.hid (Y1.out hx)
                clear hx hx2 Y1 Y2
                go_wp2_with fail
                go_ret2
                exact ⟨⟨_, _, rfl, HR.out⟩, hb⟩
              · have HR := Lib.hid (Y2.out hx)
                have hx2 : (⟨(Lib.itoa (-(m : Int))).toArray⟩ : ByteArray) ≠ s := by rintro rfl; exact hx (by simp)
                generalize (⟨(Lib.itoa (-(m : Int))).toArray⟩ : ByteArray) = x at *
                have hx3 := str_ne hx2
                clear hx
                go_wp2_with fail
                go_ret2
                exact ⟨⟨_, _, rfl, HR.out⟩, hb⟩

    · obtain ⟨hh, hu⟩ := unsig_no hp h45
      have hb45 : (((s[0].toNat : Nat) : Int) == 45) = false := by rw [beq_eq_false_iff_ne]; exact h45
      have HH := Lib.hid hh
      have HU := Lib.hid hu
      clear hh hu h45
      by_cases hl : s.size < 1
      · exact absurd hp (by omega)
      · by_cases hl2 : 18 < s.size
        · have HR := Lib.hid (RdIs.bad_len (s := s.data.toList) (.inr (by rw [HU.out]; simp; omega)))
          go_enter Tryd.func88, Tryd.ntmps88
          go_wp2_with fail
          go_ret2
          exact ⟨⟨_, _, rfl, HR.out⟩, Below.refl _ _⟩
        · go_enter Tryd.func88, Tryd.ntmps88
          go_wp2_with fail
          go_loop [5, 6] (fun n i => ∃ k : Nat, k ≤ s.size ∧ i = .int .i64 k ∧ ∃ m : Nat, n = .int .i64 m ∧ m = dval 0 (s.data.toList.take k) ∧ m < 10 ^ k) (fun _ i => s.size - (intOf i).toNat)
          case atStart => exact ⟨0, Nat.zero_le _, rfl, 0, rfl, rfl, Nat.one_pos⟩
          case round =>
            obtain ⟨k, hk, rfl, m, rfl, hm, hm2⟩ := hrel
            have HM := Lib.hid hm
            have hm3 : m < 1000000000000000000 := pow18 hm2 (by omega)
            have HM2 := Lib.hid hm2
            clear hm hm2
            by_cases hlt : k < s.size
            · have hlt2 : k < s.size := by omega
              cases c1 : dgB ((s[k].toNat : Nat) : Int)
              · have HR := Lib.hid (RdIs.bad_digit (s := s.data.toList) (by rw [HU.out]; exact rd_mem hlt2) (dg_no c1))
                go_wp2_with fail
                refine (l01Digit_any _ _).mono ?_
                rintro e w1 ⟨rfl, rfl⟩
                go_wp2_with fail
                go_ret2
                exact ⟨⟨_, _, rfl, HR.out⟩, Below.refl _ _⟩
              · obtain ⟨d1, d2⟩ := dg_yes c1
                have hm5 := pow17 HM2.out (by omega)
                obtain ⟨m', e1, e2, e3⟩ := rd_step hlt2 HM.out d1 d2 HM2.out
                have E := Lib.hid e1
                have E2 := Lib.hid e2
                have E3 := Lib.hid e3
                clear e1 e2 e3
                go_wp2_with fail
                refine (l01Digit_any _ _).mono ?_
                rintro e w1 ⟨rfl, rfl⟩
                go_wp2_with fail
                go_round
                case rel => exact ⟨k + 1, by omega, by go_num, m', by rw [E.out], E2.out, E3.out⟩
                case measure => simp [intOf]; omega
            · have hm4 := rd_end (t := s) (by omega) HM.out
              obtain ⟨y1, y2⟩ := RdIs.of_val (s := s.data.toList) (v := (m : Int)) (by rw [HU.out, ← hm4]; first | rw [if_pos HH.out] | rw [if_neg HH.out]) (by omega) (by omega)
              have Y1 := Lib.hid y1
              have Y2 := Lib.hid y2
              clear y1 y2 hm4
              go_wp2_with fail
              refine (l01Dec_any (m : Int) _ (by omega) (by omega)).mono ?_
              rintro e w1 ⟨rfl, hb⟩
              by_cases hx : Lib.itoa (m : Int) = s.data.toList
              · have hx2 : (⟨(Lib.itoa (m : Int)).toArray⟩ : ByteArray) = s := by rw [hx]
                rw [hx2]
                have HR := Lib.hid (Y1.out hx)
                clear hx hx2 Y1 Y2
                go_wp2_with fail
                go_ret2
                exact ⟨⟨_, _, rfl, HR.out⟩, hb⟩
              · have HR := Lib.hid (Y2.out hx)
                have hx2 : (⟨(Lib.itoa (m : Int)).toArray⟩ : ByteArray) ≠ s := by rintro rfl; exact hx (by simp)
                generalize (⟨(Lib.itoa (m : Int)).toArray⟩ : ByteArray) = x at *
                have hx3 := str_ne hx2
                clear hx
                go_wp2_with fail
                go_ret2
                exact ⟨⟨_, _, rfl, HR.out⟩, hb⟩


/-- The two variables that ParseInt's errors hold. -/
def ErrVars (w : World) : Prop := (∃ t p, w.var? Tryd.prog "strconv.ErrSyntax" = some #[.iface t p]) ∧ (∃ t p, w.var? Tryd.prog "strconv.ErrRange" = some #[.iface t p])
theorem bytes_below {w w' : World} {t : TypeId} (h : w' = w ∨ ∃ l, w' = Lib.bytesWorld w t l) : Below w.heap.size w w' := by
  rcases h with rfl | ⟨l, rfl⟩
  · exact Below.refl _ _
  · exact Lib.bytesWorld_below _ _ _
set_option maxHeartbeats 1000000 in
theorem ReadDecimalI_any (s : ByteArray) (w : World) (hs : s.size ≤ 1048576) (hP : Pow10 w) (hE : ErrVars w) :
    Calls Tryd.prog 90 #[.string s] w fun e w' => RdRet s e ∧ Below w.heap.size w w' := by
  have HT := Lib.hid hP
  have HE := Lib.hid hE
  clear hP hE
  rcases hq : Lib.parseIntB 64 s.data.toList with v | _ | _
  rotate_left
  · skip
    have HR := Lib.hid (RdIs.of_bad (s := s.data.toList) (fun n => by rw [hq]; intro h; cases h))
    have HQ := Lib.hid hq
    clear hq
    go_enter Tryd.func90, Tryd.ntmps90
    go_wp2_with fail
    obtain ⟨⟨tp, p, hv⟩, _⟩ := HE.out
    refine (Tryd.strconv_ParseInt_10_at64_syntax_var s (by omega) HQ.out tp p _ hv).mono ?_
    rintro e w1 ⟨N, rfl, _, _, hb⟩
    clear hv
    go_wp2_with fail
    go_ret2
    exact ⟨⟨_, _, rfl, HR.out⟩, hb⟩
  · skip
    have HR := Lib.hid (RdIs.of_bad (s := s.data.toList) (fun n => by rw [hq]; intro h; cases h))
    have HQ := Lib.hid hq
    clear hq
    go_enter Tryd.func90, Tryd.ntmps90
    go_wp2_with fail
    obtain ⟨_, tp, p, hv⟩ := HE.out
    refine (Tryd.strconv_ParseInt_10_at64_range_var s (by omega) HQ.out tp p _ hv).mono ?_
    rintro e w1 ⟨N, rfl, _, _, hb⟩
    clear hv
    go_wp2_with fail
    go_ret2
    exact ⟨⟨_, _, rfl, HR.out⟩, hb⟩
  · skip
    obtain ⟨r1, r2⟩ := parse_range hq
    by_cases hbig : v ≤ -1000000000000000000 ∨ 1000000000000000000 ≤ v
    · have HR := Lib.hid (RdIs.of_big hq hbig)
      have HQ := Lib.hid hq
      clear hq
      by_cases hlow : v < -999999999999999999
      · go_enter Tryd.func90, Tryd.ntmps90
        go_wp2_with fail
        refine (Tryd.strconv_ParseInt_10_at64_ok s (by omega) v HQ.out _).mono ?_
        rintro e w1 ⟨rfl, hw⟩
        have hb := bytes_below hw
        clear hw
        go_wp2_with fail
        go_ret2
        exact ⟨⟨_, _, rfl, HR.out⟩, hb⟩
      · have hhi : 999999999999999999 < v := by omega
        clear hbig
        go_enter Tryd.func90, Tryd.ntmps90
        go_wp2_with fail
        refine (Tryd.strconv_ParseInt_10_at64_ok s (by omega) v HQ.out _).mono ?_
        rintro e w1 ⟨rfl, hw⟩
        have hb := bytes_below hw
        clear hw
        go_wp2_with fail
        go_ret2
        exact ⟨⟨_, _, rfl, HR.out⟩, hb⟩
    · have hlow : ¬ v < -999999999999999999 := by omega
      have hhi : ¬ 999999999999999999 < v := by omega
      obtain ⟨y1, y2⟩ := RdIs.of_ok hq (by omega) (by omega)
      have Y1 := Lib.hid y1
      have Y2 := Lib.hid y2
      have HQ := Lib.hid hq
      clear hq y1 y2 hbig
      go_enter Tryd.func90, Tryd.ntmps90
      go_wp2_with fail
      refine (Tryd.strconv_ParseInt_10_at64_ok s (by omega) v HQ.out _).mono ?_
      rintro e w1 ⟨rfl, hw⟩
      have hb := bytes_below hw
      clear hw
      go_wp2_with fail
      refine (DecimalI_any v _ (HT.out.keep hb) r1 r2).mono ?_
      rintro e w2 ⟨rfl, hb2⟩
      have hb3 := bT hb hb2
      by_cases hx : Lib.itoa v = s.data.toList
      · have hx2 : (⟨(Lib.itoa v).toArray⟩ : ByteArray) = s := by rw [hx]
        rw [hx2]
        have HR := Lib.hid (Y1.out hx)
        clear hx hx2 Y1 Y2
        go_wp2_with fail
        go_ret2
        exact ⟨⟨_, _, rfl, HR.out⟩, hb3⟩
      · have HR := Lib.hid (Y2.out hx)
        have hx2 : (⟨(Lib.itoa v).toArray⟩ : ByteArray) ≠ s := by rintro rfl; exact hx (by simp)
        generalize (⟨(Lib.itoa v).toArray⟩ : ByteArray) = x at *
        have hx3 := str_ne hx2
        clear hx
        go_wp2_with fail
        go_ret2
        exact ⟨⟨_, _, rfl, HR.out⟩, hb3⟩

theorem var_below {w w' : World} {s : String} {c : Array Value} (hb : Below w.heap.size w w') (h : w.var? Tryd.prog s = some c) : w'.var? Tryd.prog s = some c := by
  unfold World.var? at *
  cases hg : Tryd.prog.globalNamed s with
  | none => rw [hg] at h; cases h
  | some g =>
    rw [hg] at h
    simp only [Option.bind_some] at *
    have hlt : g < w.heap.size := by
      cases hh : w.heap[g]? with
      | none => rw [hh] at h; cases h
      | some o => exact (Array.getElem?_eq_some_iff.1 hh).1
    rw [hb.block _ hlt]; exact h
theorem ErrVars.keep {w w' : World} (hb : Below w.heap.size w w') (h : ErrVars w) : ErrVars w' := by
  obtain ⟨⟨t, p, h1⟩, ⟨t2, p2, h2⟩⟩ := h
  exact ⟨⟨t, p, var_below hb h1⟩, ⟨t2, p2, var_below hb h2⟩⟩
end Go.Proofs.YtcklcledchboiaaDoor
