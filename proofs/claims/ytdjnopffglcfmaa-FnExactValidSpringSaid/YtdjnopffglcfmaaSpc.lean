/-
  Springs: validity, both sides; the conversions of the laws.
-/
import Derived.Test.YtdjnopffglcfmaaSpg
import Derived.Test.YtdjnopffglcfmaaRaS
import Derived.Test.YtdjnopffglcfmaaBdQ
namespace Go.Proofs.Ytdjnopffglcfmaa
open Go.RowKit

theorem toBd_own (a : Option Addr) (len cap : Nat) (ps : List (Int × Int)) (w : World) (h : IsPR w a len cap ps) (hlen : len ≤ 1048576) :
    Calls Try.prog 18 #[.slice a len cap] w fun en w' => ∃ v, en = .returned v ∧ w'.ownsRow w.heap.size 45 2 v ps.length (pairC ps) ∧ Below w.heap.size w w' :=
  (toBendS_any a len cap ps w h hlen).mono fun _ _ ⟨he, hr, hb⟩ => ⟨_, he, hr, hb⟩
theorem szSpring_no (a : Option Addr) (len cap : Nat) (n : Int) (w : World) (h : n < (len : Int)) (h0 : 0 ≤ n) (h1 : n ≤ 1048576) (h2 : len ≤ 9223372036854775807) :
    Calls Try.prog 6 #[.agg #[.slice a len cap], .int .i64 n] w (OneN (-1) w) := by
  have C := Lib.hid (fun W => szBendS_no a len cap n W h h0 h1 h2)
  clear h h0 h1 h2
  go_enter Try.func6, Try.ntmps6
  go_wp2_with fail
  refine (C.out _).mono ?_
  rintro e w1 ⟨rfl, rfl⟩
  go_wp2_with fail
  go_ret
  exact ⟨rfl, bA (bR _) _⟩
theorem szSpring_yes (a : Option Addr) (len cap : Nat) (n : Int) (w : World) (h : (len : Int) ≤ n) (h0 : 0 ≤ n) (h1 : n ≤ 1048576) :
    Calls Try.prog 6 #[.agg #[.slice a len cap], .int .i64 n] w (OneN (n - (len : Int)) w) := by
  have C := Lib.hid (fun W => szBendS_yes a len cap n W h h0 h1)
  have hn : ¬ n - (len : Int) < 0 := by omega
  go_enter Try.func6, Try.ntmps6
  go_wp2_with fail
  refine (C.out _).mono ?_
  rintro e w1 ⟨rfl, rfl⟩
  go_wp2_with fail
  go_ret
  exact ⟨rfl, bA (bR _) _⟩
/-- A spring that a call has made for itself. -/
def SprB (ps : List (Int × Int)) (w : World) (e : Ending) (w' : World) : Prop := ∃ v, e = .returned (.agg #[v]) ∧ w'.ownsRow w.heap.size 45 2 v ps.length (pairC ps) ∧ Below w.heap.size w w'
set_option maxHeartbeats 1000000 in
theorem toSpring_any (a : Option Addr) (len cap : Nat) (ps : List (Int × Int)) (w : World) (h : IsPR w a len cap ps) (hlen : len ≤ 1048576) :
    Calls Try.prog 8 #[.agg #[.slice a len cap]] w (SprB ps w) := by
  have C := Lib.hid (fun W (hb : Below w.heap.size w W) => toBd_own a len cap ps W (h.keep hb) hlen)
  have L0 := Lib.hid (bA (bA (bA (bR w) (.cells #[.slice a len cap] 24)) (.cells #[.slice none 0 0] 29)) (.cells #[.slice none 0 0] 29))
  have X1 := Lib.hid ((BoxL.at_ (w := w.alloc (.cells #[.slice a len cap] 24)) (b := w.heap.size + 1) (vs := [.slice none 0 0]) (T := 29) (by simp)).alloc (.cells #[.slice none 0 0] 29))
  have X2 := Lib.hid (BoxL.at_ (w := (w.alloc (.cells #[.slice a len cap] 24)).alloc (.cells #[.slice none 0 0] 29)) (b := w.heap.size + 1 + 1) (vs := [.slice none 0 0]) (T := 29) (by simp))
  have hne : ¬ w.heap.size + 1 = w.heap.size + 1 + 1 := by omega
  have hge1 : w.heap.size ≤ w.heap.size + 1 := by omega
  have hge2 : w.heap.size ≤ w.heap.size + 1 + 1 := by omega
  clear h
  go_enter Try.func8, Try.ntmps8
  go_wp2_with fail
  have CC := Lib.hid (C.out _ L0.out)
  have hsz : (((w.alloc (.cells #[.slice a len cap] 24)).alloc (.cells #[.slice none 0 0] 29)).alloc (.cells #[.slice none 0 0] 29)).heap.size = w.heap.size + 1 + 1 + 1 := by simp
  generalize ((w.alloc (.cells #[.slice a len cap] 24)).alloc (.cells #[.slice none 0 0] 29)).alloc (.cells #[.slice none 0 0] 29) = W0 at *
  refine CC.out.mono ?_
  rintro e w1 ⟨vv, rfl, hr, hb⟩
  have k1 := X1.out.lt
  have k2 := X2.out.lt
  have R1 := Lib.hid hr
  have L1 := Lib.hid (bT L0.out hb)
  have Y1 := Lib.hid (X1.out.keep hb)
  have Y2 := Lib.hid (X2.out.keep hb)
  obtain ⟨av, cv, rfl, _⟩ := slP_of hr
  have HN := Lib.hid (fun (r : Nat) (e : (Value.slice av ps.length cv).ownBlock = some r) => (own_blk hr r e).1)
  clear hr hb X1 X2 L0 CC C
  generalize w.heap.size + 1 + 1 = b2 at *
  generalize w.heap.size + 1 = b1 at *
  have c1 := Y1.out.c 0 _ rfl
  have c2 := Y2.out.c 0 _ rfl
  have f1 := Y1.out.f 0 _ rfl
  have f2 := Y2.out.f 0 _ rfl
  have hl1 := Y1.out.lt
  have hl2 := Y2.out.lt
  have RF := Lib.hid (own_lower (B' := w.heap.size) (ownsRow_setCell_other (a := ⟨b1, 0, none⟩) (ownsRow_setCell_other (a := ⟨b2, 0, none⟩) R1.out (fun e => by have := HN.out _ e; simp at this; omega) (.slice av ps.length cv)) (fun e => by have := HN.out _ e; simp at this; omega) (.slice av ps.length cv)) (by omega))
  have LF := Lib.hid ((L1.out.setCell (p := ⟨b2, 0, none⟩) hge2 (.slice av ps.length cv)).setCell (p := ⟨b1, 0, none⟩) hge1 (.slice av ps.length cv))
  go_wp2_with fail
  refine bodyPost_ret (v := .agg #[.slice av ps.length cv]) ?_ rfl ⟨_, rfl, RF.out, LF.out⟩
  simp [results, Try.results8, go_sem, c1]
theorem eqSpring_same (ps : List (Int × Int)) (va vb : Value) (w : World) (ha : SlP w va ps) (hb : SlP w vb ps) (hmax : ps.length ≤ 1000000000000) :
    Calls Try.prog 10 #[.agg #[va], .agg #[vb]] w (BoolBel true w) := by
  have C := Lib.hid (fun W h1 h2 => eqBendS_same ps va vb W h1 h2 hmax)
  have A := Lib.hid (ha.keep (bA (bA (bR w) (.cells #[va] 29)) (.cells #[vb] 29)))
  have B := Lib.hid (hb.keep (bA (bA (bR w) (.cells #[va] 29)) (.cells #[vb] 29)))
  have L := Lib.hid (bA (bA (bR w) (.cells #[va] 29)) (.cells #[vb] 29))
  obtain ⟨ao, cap, rfl, _⟩ := ha
  obtain ⟨bo, bcap, rfl, _⟩ := hb
  go_enter Try.func10, Try.ntmps10
  go_wp2_with fail
  refine (C.out _ A.out B.out).mono ?_
  rintro e w1 ⟨rfl, hb⟩
  have L2 := Lib.hid (bT L.out hb)
  clear hb
  go_wp2_with fail
  go_ret
  exact ⟨rfl, L2.out⟩
theorem follows_any (x y u v : Int) (w : World) :
    Calls Try.prog 20 #[.agg #[.int .i64 x, .int .i64 y], .agg #[.int .i64 u, .int .i64 v]] w (BoolBel (upBd (u, v) (x, y)) w) := by
  by_cases h1 : u < x
  · have HE := Lib.hid (show decide (v ≤ y) = upBd (u, v) (x, y) by simp [upBd, h1])
    go_enter Try.func20, Try.ntmps20
    go_wp2_with fail
    go_ret
    exact ⟨ret_bool HE.out, bA (bA (bR _) _) _⟩
  · have HE := Lib.hid (show false = upBd (u, v) (x, y) by simp [upBd, h1])
    go_enter Try.func20, Try.ntmps20
    go_wp2_with fail
    go_ret
    exact ⟨ret_bool HE.out, bA (bA (bR _) _) _⟩
theorem bd_pair (ps : List (Int × Int)) (k : Nat) : ((pat ps k).1, (pat ps k).2) = pat ps k := rfl
end Go.Proofs.Ytdjnopffglcfmaa
