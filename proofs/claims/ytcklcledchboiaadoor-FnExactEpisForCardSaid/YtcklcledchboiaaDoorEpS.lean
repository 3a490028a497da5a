/-
  What is wrong with planetary gears: the contracts of spec.l07Sine, spec.EpiFaults, spec.l07Ok, spec.ValidEpi.
-/
import Derived.Test.YtcklcledchboiaaDoorEpI
import Derived.Deep.DeepCutAuto
import Derived.Deep.RegionHeld3
namespace Go.Proofs.YtcklcledchboiaaDoor
open Go.RowKit

set_option maxHeartbeats 1000000 in
theorem l07Sine_any (c : Int) (w : World) (h1 : 2 ≤ c) (h2 : c ≤ 8) :
    Calls Tryd.prog 64 #[.int .i64 c] w fun e w' => e = .returned (.int .i64 (sinE c)) ∧ Below w.heap.size w w' := by
  have h : c = 2 ∨ c = 3 ∨ c = 4 ∨ c = 5 ∨ c = 6 ∨ c = 7 ∨ c = 8 := by omega
  clear h1 h2
  rcases h with rfl | rfl | rfl | rfl | rfl | rfl | rfl
  all_goals
    go_enter Tryd.func64, Tryd.ntmps64
    go_wp2_with fail
    go_ret
    exact ⟨rfl, bA (bR _) _⟩
theorem wd_start (w : World) : WdR w (w.alloc (.cells #[] 9)) (.slice (some ⟨w.heap.size, 0, none⟩) 0 0) [] :=
  ⟨⟨rfl, .inr ⟨w.heap.size, 0, #[], rfl, Nat.le_refl _, (MapKept.heap_alloc w _).1, Nat.le_refl _, Nat.zero_le _, rfl, rfl⟩⟩, bA (bR _) _⟩
def opt1 (b : Bool) (x : ByteArray) : List ByteArray := if b then [x] else []
theorem opt1_len (b : Bool) (x : ByteArray) : (opt1 b x).length ≤ 1 := by cases b <;> simp [opt1]
theorem ep1_opt (s r p c : Int) : ep1 s r p c = opt1 (ftE s r p) wTeeth ++ opt1 (fcE c) wCount := by
  unfold ep1 pickW pickW pickW opt1
  cases ftE s r p <;> cases fcE c <;> rfl
theorem ep2_opt (s r p c : Int) : ep2 s r p c = opt1 (frE s r p) wRing ++ opt1 (faE s r c) wAssembly ++ opt1 (fsE s p c) wSpace := by
  unfold ep2 pickW pickW pickW pickW opt1
  cases frE s r p <;> cases faE s r c <;> cases fsE s p c <;> rfl
/-- What stands while the space is asked. -/
def HsE (w1 : World) (bx : Nat) (s r p c : Int) (w' : World) : Prop :=
  w'.cell? ⟨bx, 0, none⟩ = some (.int .i64 s) ∧ w'.cell? ⟨bx, 1, none⟩ = some (.int .i64 r) ∧ w'.cell? ⟨bx, 2, none⟩ = some (.int .i64 p) ∧ w'.cell? ⟨bx, 3, none⟩ = some (.int .i64 c) ∧ bx < w'.heap.size ∧ Below w1.heap.size w1 w'
theorem HsE.drew {w1 : World} {bx : Nat} {s r p c : Int} {w' : World} (h : HsE w1 bx s r p c w') : HsE w1 bx s r p c w'.drew := ⟨h.1, h.2.1, h.2.2.1, h.2.2.2.1, h.2.2.2.2.1, h.2.2.2.2.2.drew⟩
theorem HsE.keep {w1 : World} {bx : Nat} {s r p c : Int} {w' w2 : World} (hb : Below w'.heap.size w' w2) (h : HsE w1 bx s r p c w') : HsE w1 bx s r p c w2 := by
  obtain ⟨h0, h1, h2, h3, h4, h5⟩ := h
  exact ⟨(hb.cell (p := ⟨bx, 0, none⟩) h4).trans h0, (hb.cell (p := ⟨bx, 1, none⟩) h4).trans h1, (hb.cell (p := ⟨bx, 2, none⟩) h4).trans h2, (hb.cell (p := ⟨bx, 3, none⟩) h4).trans h3, Nat.lt_of_lt_of_le h4 hb.size, bT h5 hb⟩
set_option maxRecDepth 100000 in
set_option maxHeartbeats 4000000 in
theorem EpiFaultsS_any (s r p c : Int) (w : World) :
    Calls Tryd.prog 22 #[.agg #[.int .i64 s, .int .i64 r, .int .i64 p, .int .i64 c]] w (WoRet w (epF s r p c)) := by
  have BN := Lib.hid (Box4.new w s r p c 25)
  have LN := Lib.hid (bA (bR w) (.cells #[.int .i64 s, .int .i64 r, .int .i64 p, .int .i64 c] 25))
  have hsz : w.heap.size < (w.alloc (.cells #[.int .i64 s, .int .i64 r, .int .i64 p, .int .i64 c] 25)).heap.size := by simp
  go_enter Tryd.func22, Tryd.ntmps22
  go_upto_region 2 with fail
  have RS := Lib.hid (wd_start (w.alloc (.cells #[.int .i64 s, .int .i64 r, .int .i64 p, .int .i64 c] 25)))
  rw [show (w.alloc (.cells #[.int .i64 s, .int .i64 r, .int .i64 p, .int .i64 c] 25)).heap.size = w.heap.size + 1 by simp] at RS
  generalize w.alloc (.cells #[.int .i64 s, .int .i64 r, .int .i64 p, .int .i64 c] 25) = w1 at *
  generalize w1.alloc (.cells #[] 9) = W1 at *
  generalize w.heap.size + 1 = g0 at *
  generalize hbx : w.heap.size = bx at *
  have HBX := Lib.hid hbx
  have LZ := Lib.hid (show Below w.heap.size w w1 by rw [hbx]; exact LN.out)
  clear hbx
  go_cut [20] (fun v wx => v = .bool (ftE s r p) ∧ wx = W1)
  case first =>
    obtain ⟨c0, c1, c2, c3, c4⟩ := BN.out.keep RS.out.2
    cases h1 : inB s 6 240
    · have HE := Lib.hid (show true = ftE s r p by simp [ftE, h1])
      go_wp2_with (go_at_call 63; refine (l05Teeth_any _ _).mono ?_; rintro e w9 ⟨rfl, rfl⟩)
      go_meet
      exact ⟨congrArg Value.bool HE.out, rfl⟩
    · cases h2 : inB r 6 240
      · have HE := Lib.hid (show true = ftE s r p by simp [ftE, h2])
        go_wp2_with (go_at_call 63; refine (l05Teeth_any _ _).mono ?_; rintro e w9 ⟨rfl, rfl⟩)
        go_meet
        exact ⟨congrArg Value.bool HE.out, rfl⟩
      · have HE := Lib.hid (show (!inB p 6 240) = ftE s r p by simp [ftE, h1, h2])
        go_wp2_with (go_at_call 63; refine (l05Teeth_any _ _).mono ?_; rintro e w9 ⟨rfl, rfl⟩)
        go_meet
        exact ⟨congrArg Value.bool HE.out, rfl⟩
  case rest =>
    obtain ⟨rfl, rfl⟩ := hcut
    go_upto_if 20 with fail
    go_cut [3] (fun v wx => WdR w1 wx v (opt1 (ftE s r p) wTeeth))
    case first =>
      cases hft : ftE s r p
      · go_wp2_with fail
        go_meet
        rw [hft]
        exact RS.out
      · go_wp2_with (at_builtin; refine app_wd rfl _ _ rfl _ _ _ rfl RS.out rfl (by decide) ?_)
        intro v' w3 hr'
        have RN := Lib.hid hr'
        clear hr'
        go_wp2_with fail
        go_meet
        rw [hft]
        exact RN.out
    case rest =>
      have RT := Lib.hid hcut
      clear hcut RS
      obtain ⟨c0, c1, c2, c3, c4⟩ := BN.out.keep RT.out.2
      go_upto_region 4 with fail
      go_cut [27] (fun v wx => v = .bool (fcE c) ∧ wx = wc)
      case first =>
        go_wp2_with fail
        refine (l00In_any _ _ _ _).mono ?_
        rintro e w9 ⟨rfl, rfl⟩
        go_wp2_with fail
        go_meet
        exact ⟨rfl, rfl⟩
      case rest =>
        obtain ⟨rfl, rfl⟩ := hcut
        go_upto_if 27 with fail
        go_cut [3] (fun v wx => WdR w1 wx v (opt1 (ftE s r p) wTeeth ++ opt1 (fcE c) wCount))
        case first =>
          have ol0 := opt1_len (ftE s r p) wTeeth
          cases hfb : fcE c
          · go_wp2_with fail
            go_meet
            rw [hfb, show opt1 false wCount = [] from rfl, List.append_nil]
            exact RT.out
          · go_wp2_with (at_builtin; refine app_wd rfl _ _ rfl _ _ _ rfl RT.out rfl (by first | omega | (simp; done) | (simp only [List.length_append, List.length_nil]; omega)) ?_)
            intro v' w3 hr'
            have RN := Lib.hid hr'
            clear hr'
            go_wp2_with fail
            go_meet
            rw [hfb]
            exact RN.out
        case rest =>
          have RU := Lib.hid hcut
          clear hcut RT
          rw [← ep1_opt] at RU
          obtain ⟨ao, cap, rfl⟩ := RU.out.slS
          cases hff : ftE s r p || fcE c
          · obtain ⟨e0, e1, t1, t2⟩ := ep1_none hff
            have EP := Lib.hid e1
            rw [e0] at RU ⊢
            obtain ⟨⟨a1, a2⟩, ⟨b1, b2⟩, d1, d2⟩ := ft_false t1
            obtain ⟨d3, d4⟩ := fc_false t2
            have q1 : IntKind.i64.wrap (2 * p) = 2 * p := IntWalk.i64_in _ (by omega)
            have q2 : IntKind.i64.wrap (s + 2 * p) = s + 2 * p := IntWalk.i64_in _ (by omega)
            have q3 : IntKind.i64.wrap (s + r) = s + r := IntWalk.i64_in _ (by omega)
            have z : c ≠ 0 := by omega
            clear e0 e1 t1 t2 hff
            obtain ⟨c0, c1, c2, c3, c4⟩ := BN.out.keep RU.out.2
            go_upto_region 8 with fail
            go_cut [43] (fun v wx => v = .bool (frE s r p) ∧ wx = wc)
            case first =>
              go_wp2_with fail
              go_meet
              exact ⟨congrArg Value.bool (by simp [frE]), rfl⟩
            case rest =>
              obtain ⟨rfl, rfl⟩ := hcut
              go_upto_if 43 with fail
              go_cut [3] (fun v wx => WdR w1 wx v ([] ++ opt1 (frE s r p) wRing))
              case first =>
                cases hfb : frE s r p
                · go_wp2_with fail
                  go_meet
                  rw [hfb, show opt1 false wRing = [] from rfl, List.append_nil]
                  exact RU.out
                · go_wp2_with (at_builtin; refine app_wd rfl _ _ rfl _ _ _ rfl RU.out rfl (by first | omega | (simp; done) | (simp only [List.length_append, List.length_nil]; omega)) ?_)
                  intro v' w3 hr'
                  have RN := Lib.hid hr'
                  clear hr'
                  go_wp2_with fail
                  go_meet
                  rw [hfb]
                  exact RN.out
              case rest =>
                have RV := Lib.hid hcut
                clear hcut RU
                clear c0 c1 c2 c3 c4
                obtain ⟨c0, c1, c2, c3, c4⟩ := BN.out.keep RV.out.2
                go_upto_region 10 with fail
                go_cut [55] (fun v wx => v = .bool (faE s r c) ∧ wx = wc)
                case first =>
                  go_wp2_with fail
                  go_meet
                  exact ⟨congrArg Value.bool (by simp [faE]), rfl⟩
                case rest =>
                  obtain ⟨rfl, rfl⟩ := hcut
                  go_upto_if 55 with fail
                  go_cut [3] (fun v wx => WdR w1 wx v (([] ++ opt1 (frE s r p) wRing) ++ opt1 (faE s r c) wAssembly))
                  case first =>
                    have ol0 := opt1_len (frE s r p) wRing
                    cases hfb : faE s r c
                    · go_wp2_with fail
                      go_meet
                      rw [hfb, show opt1 false wAssembly = [] from rfl, List.append_nil]
                      exact RV.out
                    · go_wp2_with (at_builtin; refine app_wd rfl _ _ rfl _ _ _ rfl RV.out rfl (by first | omega | (simp; done) | (simp only [List.length_append, List.length_nil]; omega)) ?_)
                      intro v' w3 hr'
                      have RN := Lib.hid hr'
                      clear hr'
                      go_wp2_with fail
                      go_meet
                      rw [hfb]
                      exact RN.out
                  case rest =>
                    have RW := Lib.hid hcut
                    clear hcut RV
                    clear c0 c1 c2 c3 c4
                    obtain ⟨c0, c1, c2, c3, c4⟩ := BN.out.keep RW.out.2
                    go_upto_region 12 with fail
                    go_cut [77] (fun v wx => v = .bool (fsE s p c) ∧ Below wc.heap.size wc wx)
                    case first =>
                      by_cases hc2 : 2 ≤ c
                      · have hg1 : decide ((2 : Int) ≤ c) = true := decide_eq_true hc2
                        have w4 : IntKind.i64.wrap (s + p) = s + p := IntWalk.i64_in _ (by omega)
                        have w5 : IntKind.i64.wrap (p + 2) = p + 2 := IntWalk.i64_in _ (by omega)
                        have w6 : IntKind.i64.wrap ((p + 2) * 1000000) = (p + 2) * 1000000 := IntWalk.i64_in _ (by omega)
                        have CS := Lib.hid (fun W => l07Sine_any c W hc2 d4)
                        have hE : fsE s p c = decide ((s + p) * sinE c ≤ (p + 2) * 1000000) := by simp [fsE, hc2]
                        have HE := Lib.hid hE
                        have eb : 0 ≤ sinE c ∧ sinE c ≤ 1000000 := sin_bd (c - 2).toNat (by omega)
                        clear hE
                        generalize sinE c = S at *
                        have m1 : (s + p) * S ≤ 480 * 1000000 := Int.mul_le_mul (by omega) eb.2 eb.1 (by omega)
                        have m0 : 0 ≤ (s + p) * S := Int.mul_nonneg (by omega) eb.1
                        have w7 : IntKind.i64.wrap ((s + p) * S) = (s + p) * S := IntWalk.i64_in _ (by omega)
                        clear eb m0 m1
                        have HS : HsE wc bx s r p c wc := ⟨c0, c1, c2, c3, c4, bR _⟩
                        go_region_held3 (fun w' => w'.cell? ⟨bx, 0, none⟩ = some (.int .i64 s) ∧ w'.cell? ⟨bx, 1, none⟩ = some (.int .i64 r) ∧ w'.cell? ⟨bx, 2, none⟩ = some (.int .i64 p) ∧ w'.cell? ⟨bx, 3, none⟩ = some (.int .i64 c) ∧ bx < w'.heap.size ∧ Below wc.heap.size wc w') (first | exact HS.drew | exact HsE.keep hb (by assumption))
                          ((go_at_call 64; refine (CS.out _).mono ?_; rintro e w' ⟨rfl, hb⟩))
                        all_goals have HT : HsE wc bx s r p c w' := by assumption
                        all_goals have HU := Lib.hid HT.2.2.2.2.2
                        all_goals go_wp2_with fail
                        all_goals go_meet
                        all_goals exact ⟨congrArg Value.bool HE.out.symm, HU.out⟩
                      · have hg1 : decide ((2 : Int) ≤ c) = false := decide_eq_false hc2
                        have HE := Lib.hid (show false = fsE s p c by simp [fsE]; omega)
                        go_quiet (fail)
                        go_wp2_with fail
                        go_meet
                        exact ⟨congrArg Value.bool HE.out, bD (bR _) _⟩
                    case rest =>
                      obtain ⟨rfl, hb⟩ := hcut
                      have RX := Lib.hid (RW.out.keep hb)
                      clear RW hb
                      go_upto_if 77 with fail
                      go_cut [3] (fun v wx => WdR w1 wx v ((([] ++ opt1 (frE s r p) wRing) ++ opt1 (faE s r c) wAssembly) ++ opt1 (fsE s p c) wSpace))
                      case first =>
                        have ol0 := opt1_len (frE s r p) wRing
                        have ol1 := opt1_len (faE s r c) wAssembly
                        cases hfb : fsE s p c
                        · go_wp2_with fail
                          go_meet
                          rw [hfb, show opt1 false wSpace = [] from rfl, List.append_nil]
                          exact RX.out
                        · go_wp2_with (at_builtin; refine app_wd rfl _ _ rfl _ _ _ rfl RX.out rfl (by first | omega | (simp; done) | (simp only [List.length_append, List.length_nil]; omega)) ?_)
                          intro v' w3 hr'
                          have RN := Lib.hid hr'
                          clear hr'
                          go_wp2_with fail
                          go_meet
                          rw [hfb]
                          first | exact RN.out | simpa [opt1, wSpace] using RN.out
                      case rest =>
                        have RY := Lib.hid hcut
                        clear hcut RX
                        rw [List.nil_append, ← ep2_opt] at RY
                        go_wp2_with fail
                        go_ret
                        exact ⟨_, rfl, by rw [EP.out]; exact RY.out.lower LZ.out⟩
          · obtain ⟨e0, e1⟩ := ep1_some hff
            have EP := Lib.hid e1
            clear e1 hff
            generalize ep1 s r p c = ws at *
            have hz : (0 : Int) < (ws.length : Int) := by omega
            go_wp2_with fail
            go_ret
            exact ⟨.slice ao ws.length cap, rfl, by rw [EP.out]; exact RU.out.lower LZ.out⟩
end Go.Proofs.YtcklcledchboiaaDoor
