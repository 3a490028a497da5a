/-
  Escapements, the document's side: least torques and energies.
-/
import Derived.Test.YtkagciekoeaijaaEsU
namespace Go.Proofs.Ytkagciekoeaijaa
open Go.RowKit

/-- What all swings say of a torque, of an energy. -/
def atQ (u i l m e : Int) (n : Nat) (x : Nat) : Bool := allF (nxS u i l m x) (tkS u l x) n e
def atE (u i l m q : Int) (n : Nat) (x : Nat) : Bool := allF (nxS u i l m q) (tkS u l q) n x
theorem atQ_mono {t u i l m e : Int} {n : Nat} (H : Esc t u i l m) {x y : Nat} (h : x ≤ y) (hx : atQ u i l m e n x = true) : atQ u i l m e n y = true :=
  allF_mono (fun a b hab ht => ⟨tkS_mono H.hl (by omega) (by omega) hab ht, nxS_mono H.hl H.hi.1 (by omega) (by omega) hab ht⟩) n e e (Int.le_refl _) hx
theorem atE_mono {t u i l m q : Int} {n : Nat} (H : Esc t u i l m) (hq : 0 ≤ q) {x y : Nat} (h : x ≤ y) (hx : atE u i l m q n x = true) : atE u i l m q n y = true :=
  allF_mono (fun a b hab ht => ⟨tkS_mono H.hl hq (Int.le_refl _) hab ht, nxS_mono H.hl H.hi.1 hq (Int.le_refl _) hab ht⟩) n _ _ (by omega) hx
theorem atQ_0 {u i l m e : Int} {n : Nat} (hn : 1 ≤ n) : atQ u i l m e n 0 = false := by
  obtain ⟨r, rfl⟩ : ∃ r, n = r + 1 := ⟨n - 1, by omega⟩
  exact allF_no tkS_0
/-- Least torque and code; least energy and code. -/
def ltE (t u i l m n e k : Int) : Int × Int := if okBt t u i l m e k = true then (if inB n 1 2000 = true then (if lstU (atQ u i l m e n.toNat) 1001 = 1001 then (0, 3) else ((lstU (atQ u i l m e n.toNat) 1001 : Int), 0)) else (0, 2)) else (0, 1)
theorem ltE_1 {t u i l m n e k : Int} (h : okBt t u i l m e k = false) : ltE t u i l m n e k = (0, 1) := by simp [ltE, h]
theorem ltE_2 {t u i l m n e k : Int} (h : okBt t u i l m e k = true) (h2 : inB n 1 2000 = false) : ltE t u i l m n e k = (0, 2) := by simp [ltE, h, h2]
theorem ltE_3 {t u i l m n e k : Int} (h : okBt t u i l m e k = true) (h2 : inB n 1 2000 = true) (h3 : lstU (atQ u i l m e n.toNat) 1001 = 1001) : ltE t u i l m n e k = (0, 3) := by simp [ltE, h, h2, h3]
theorem ltE_0 {t u i l m n e k : Int} (h : okBt t u i l m e k = true) (h2 : inB n 1 2000 = true) (h3 : ¬ lstU (atQ u i l m e n.toNat) 1001 = 1001) : ltE t u i l m n e k = ((lstU (atQ u i l m e n.toNat) 1001 : Int), 0) := by simp [ltE, h, h2, h3]
/-- What stands between two halvings. -/
def BsR (p : Nat → Bool) (M lo hi : Nat) : Prop := lo ≤ hi ∧ hi < M ∧ (∀ j, j < lo → p j = false) ∧ p hi = true
theorem BsR.up {p : Nat → Bool} {M lo hi mid : Nat} (hm : ∀ x y, x ≤ y → p x = true → p y = true) (H : BsR p M lo hi) (h : p mid = false) (h2 : mid < hi) : BsR p M (mid + 1) hi := by
  refine ⟨by omega, H.2.1, fun j hj => ?_, H.2.2.2⟩
  cases e : p j
  · rfl
  · rw [hm j mid (by omega) e] at h; cases h
theorem BsR.down {p : Nat → Bool} {M lo hi mid : Nat} (H : BsR p M lo hi) (h : p mid = true) (h1 : lo ≤ mid) (h2 : mid < hi) : BsR p M lo mid := ⟨h1, by have := H.2.1; omega, H.2.2.1, h⟩
theorem BsR.done {p : Nat → Bool} {M lo : Nat} (hm : ∀ x y, x ≤ y → p x = true → p y = true) (H : BsR p M lo lo) : lstU p M = lo :=
  lstU_only (by have := H.2.1; omega) H.2.2.1 (fun j h _ => hm lo j h H.2.2.2)
theorem lstU_none {p : Nat → Bool} {M : Nat} (hm : ∀ x y, x ≤ y → p x = true → p y = true) (h : p M = false) : lstU p (M + 1) = M + 1 := by
  refine lstU_only (Nat.le_refl _) (fun j hj => ?_) (fun j h1 h2 => by omega)
  cases e : p j
  · rfl
  · rw [hm j M (by omega) e] at h; cases h
set_option maxRecDepth 100000 in
set_option maxHeartbeats 4000000 in
theorem LeastTorqueS_any (t u i l m n e k : Int) (w : World) :
    Calls Try.prog 25 #[.agg #[.int .i64 t, .int .i64 u, .int .i64 i, .int .i64 l, .int .i64 m], .int .i64 n, .agg #[.int .i64 e, .int .i64 k]] w (TwoBl (ltE t u i l m n e k).1 (ltE t u i l m n e k).2 w) := by
  have CO := Lib.hid (fun W => l11Beat_any t u i l m e k W)
  have H0 := Lib.hid (EbH.new w t u i l m e k 25 28)
  cases h1 : okBt t u i l m e k
  · rw [ltE_1 h1]
    rw [h1] at CO
    go_enter Try.func25, Try.ntmps25
    go_wp2_with fail
    refine (CO.out _).mono ?_
    rintro en w1 ⟨rfl, hb⟩
    have L := Lib.hid (H0.out.keep hb).bel
    clear hb H0
    go_wp2_with fail
    go_ret2
    exact ⟨rfl, L.out⟩
  rw [h1] at CO
  cases h2 : inB n 1 2000
  · rw [ltE_2 h1 h2]
    go_enter Try.func25, Try.ntmps25
    go_wp2_with fail
    refine (CO.out _).mono ?_
    rintro en w1 ⟨rfl, hb⟩
    have L := Lib.hid (H0.out.keep hb).bel
    clear hb H0
    go_wp2_with (go_at_call 41; refine (l00In_any _ _ _ _).mono ?_; rintro e w1 ⟨rfl, rfl⟩)
    go_ret2
    exact ⟨rfl, L.out⟩
  obtain ⟨hE, he, hk⟩ := okBt_bd h1
  have hn := inB_true.1 h2
  have S3 := Lib.hid (ltE_3 h1 h2)
  have S0 := Lib.hid (ltE_0 h1 h2)
  obtain ⟨N, rfl⟩ := Int.eq_ofNat_of_zero_le (show 0 ≤ n by omega)
  rw [Int.toNat_natCast] at S3 S0
  have AL := Lib.hid (fun (x : Nat) W (hx : x ≤ 1000) => show Calls Try.prog 55 #[.agg #[.int .i64 t, .int .i64 u, .int .i64 i, .int .i64 l, .int .i64 m], .int .i64 x, .int .i64 N, .int .i64 e] W (BoolBel (atQ u i l m e N x) W) from l11All_any t u i l m x e N W hE he (by omega) (by omega))
  have MO := Lib.hid (fun x y => atQ_mono (e := e) (n := N) hE (x := x) (y := y))
  have Q0 := Lib.hid (atQ_0 (u := u) (i := i) (l := l) (m := m) (e := e) (n := N) (by omega))
  have A1 := AL.out 1000
  clear hE he hk h1 hn
  generalize atQ u i l m e N = p at *
  cases hp : p 1000
  · have HR := Lib.hid (S3.out (lstU_none MO.out hp))
    go_enter Try.func25, Try.ntmps25
    go_wp2_with fail
    refine (CO.out _).mono ?_
    rintro en w1 ⟨rfl, hb⟩
    have H1 := Lib.hid (H0.out.keep hb)
    clear hb H0
    obtain ⟨c0, c1, c2, c3, c4, c5, c6⟩ := H1.out.cells
    go_wp2_with (go_at_call 41; refine (l00In_any _ _ _ _).mono ?_; rintro e w1 ⟨rfl, rfl⟩)
    refine (A1 _ (Nat.le_refl _)).mono ?_
    rintro en w2 ⟨rfl, hb⟩
    rw [hp]
    have L := Lib.hid (H1.out.keep hb).bel
    clear hb
    go_wp2_with fail
    go_ret2
    exact ⟨by rw [HR.out]; rfl, L.out⟩
  · have RS := Lib.hid (show BsR p 1001 1 1000 from ⟨by omega, by omega, (fun j hj => by obtain rfl : j = 0 := (by omega); exact Q0.out), hp⟩)
    have HP := Lib.hid hp
    go_enter Try.func25, Try.ntmps25
    go_wp2_with fail
    refine (CO.out _).mono ?_
    rintro en w1 ⟨rfl, hb⟩
    have H1 := Lib.hid (H0.out.keep hb)
    clear hb H0
    obtain ⟨c0, c1, c2, c3, c4, c5, c6⟩ := H1.out.cells
    go_wp2_with (go_at_call 41; refine (l00In_any _ _ _ _).mono ?_; rintro e w1 ⟨rfl, rfl⟩)
    refine (A1 _ (Nat.le_refl _)).mono ?_
    rintro en w2 ⟨rfl, hb⟩
    rw [hp]
    have H2 := Lib.hid (H1.out.keep hb)
    clear hb hp c0 c1 c2 c3 c4 c5 c6 H1
    go_wp2_with fail
    go_loopw [8, 9] (fun v8 v9 wr => ∃ lo hi : Nat, v8 = .int .i64 lo ∧ v9 = .int .i64 hi ∧ BsR p 1001 lo hi ∧ Below w2.heap.size w2 wr) (fun v8 v9 _ => (intOf v9).toNat - (intOf v8).toNat)
    case atStart => exact ⟨1, 1000, rfl, rfl, RS.out, bR _⟩
    case round =>
      obtain ⟨lo, hi, rfl, rfl, hs, hb⟩ := hrel
      have H3 := Lib.hid (H2.out.keep hb)
      have HB := Lib.hid hb
      have HS := Lib.hid hs
      have hi1 := hs.2.1
      have hle := hs.1
      clear hb hs
      obtain ⟨c0, c1, c2, c3, c4, c5, c6⟩ := H3.out.cells
      by_cases hlt : lo < hi
      · obtain ⟨mid, hmid⟩ : ∃ mid, (lo + hi) / 2 = mid := ⟨_, rfl⟩
        have ec : ((lo : Int) + (hi : Int)) / 2 = (mid : Int) := by omega
        have hm1 : lo ≤ mid := by omega
        have hm2 : mid < hi := by omega
        have A2 := Lib.hid (fun W => AL.out mid W (by omega))
        clear hmid
        go_wp2_with fail
        rw [ec]
        refine (A2.out _).mono ?_
        rintro en w3 ⟨rfl, hb⟩
        have L := Lib.hid (bT HB.out hb)
        clear hb
        cases hp : p mid
        · have HN := Lib.hid (HS.out.up MO.out hp hm2)
          go_wp2_with fail
          go_roundw
          case rel => exact ⟨mid + 1, hi, by first | rfl | go_num, rfl, HN.out, L.out⟩
          case measure => simp [intOf]; omega
        · have HN := Lib.hid (HS.out.down hp hm1 hm2)
          go_wp2_with fail
          go_roundw
          case rel => exact ⟨lo, mid, rfl, by first | rfl | go_num, HN.out, L.out⟩
          case measure => simp [intOf]; omega
      · obtain rfl : hi = lo := by omega
        have hv := HS.out.done MO.out
        have HR := Lib.hid (S0.out (by omega))
        have HV := Lib.hid (show (hi : Int) = ((lstU p 1001 : Nat) : Int) by omega)
        clear hv
        go_wp2_with fail
        go_ret2
        exact ⟨by rw [HR.out]; exact retT HV.out rfl, H3.out.bel⟩
end Go.Proofs.Ytkagciekoeaijaa
