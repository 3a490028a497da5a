/-
  The model's conversions of a found train: laws.szFound, laws.toFound, laws.eqFound.
-/
import Derived.Test.YtnndjbngcaafhaaDoorFd
import Derived.Test.YtnndjbngcaafhaaDoorEqP
import Derived.Test.YtnndjbngcaafhaaDoorEqR
import Derived.Test.YtnndjbngcaafhaaDoorTrRS
namespace Go.Proofs.YtnndjbngcaafhaaDoor
open Go.RowKit

theorem PairsAt.other {W : World} {g b o : Nat} {ps : List (Int × Int)} {u : Value} (h : PairsAt W g ps) (hn : g ≠ b) : PairsAt (W.setCell ⟨b, o, none⟩ u) g ps := fun i hi =>
  ⟨(World.cell?_of_block (Below.heap_setCell _ _ _ _ hn)).trans (h i hi).1, (World.cell?_of_block (Below.heap_setCell _ _ _ _ hn)).trans (h i hi).2⟩
theorem szFound_no (a : Option Addr) (len cap : Nat) (n d : Int) (l : Int) (w : World) (h : l < (len : Int)) (h0 : 0 ≤ l) (h1 : l ≤ 1048576) (h2 : len ≤ 9223372036854775807) :
    Calls Tryd.prog 20 #[.agg #[.slice a len cap, .int .i64 n, .int .i64 d], .int .i64 l] w fun e w' => e = .returned (.int .i64 (-1)) ∧ Below w.heap.size w w' := by
  obtain ⟨c0, c1, c2, _, _, _, c6⟩ := BoxF.new w (.slice a len cap) n d 43
  go_enter Tryd.func20, Tryd.ntmps20
  go_wp2_with fail
  refine (szPairS_no _ _ _ _ _ h h0 h1 h2).mono ?_
  rintro e w1 ⟨rfl, rfl⟩
  go_wp2_with fail
  go_ret
  exact ⟨rfl, bA (bR _) _⟩
theorem szFound_yes (a : Option Addr) (len cap : Nat) (n d : Int) (l : Int) (w : World) (h : (len : Int) ≤ l) (h0 : 0 ≤ l) (h1 : l ≤ 1048576) :
    Calls Tryd.prog 20 #[.agg #[.slice a len cap, .int .i64 n, .int .i64 d], .int .i64 l] w fun e w' => e = .returned (.int .i64 (l - (len : Int))) ∧ Below w.heap.size w w' := by
  obtain ⟨c0, c1, c2, _, _, _, c6⟩ := BoxF.new w (.slice a len cap) n d 43
  have hnn : ¬ l - (len : Int) < 0 := by omega
  go_enter Tryd.func20, Tryd.ntmps20
  go_wp2_with fail
  refine (szPairS_yes _ _ _ _ _ h h0 h1).mono ?_
  rintro e w1 ⟨rfl, rfl⟩
  go_wp2_with fail
  go_ret
  exact ⟨rfl, bA (bR _) _⟩
set_option maxRecDepth 100000 in
set_option maxHeartbeats 4000000 in
theorem toFound_any (a : Option Addr) (len cap : Nat) (ps : List (Int × Int)) (n d : Int) (w : World) (h : IsPR w a len cap ps) (hlen : len ≤ 1048576) :
    Calls Tryd.prog 22 #[.agg #[.slice a len cap, .int .i64 n, .int .i64 d]] w fun e w' => ∃ g : Nat, e = .returned (.agg #[.slice (some ⟨g, 0, none⟩) ps.length ps.length, .int .i64 n, .int .i64 d]) ∧ SlP w' (.slice (some ⟨g, 0, none⟩) ps.length ps.length) ps ∧ Below w.heap.size w w' := by
  have A1 := Lib.hid (((BoxF.new w (.slice a len cap) n d 43).alloc (.cells #[.slice none 0 0, .int .i64 0, .int .i64 0] 47)).alloc (.cells #[.slice none 0 0, .int .i64 0, .int .i64 0] 47))
  have A2 := Lib.hid ((BoxF.after (w := w) (v := .slice none 0 0) (x := 0) (y := 0) (T := 47) (o := .cells #[.slice a len cap, .int .i64 n, .int .i64 d] 43)).alloc (.cells #[.slice none 0 0, .int .i64 0, .int .i64 0] 47))
  have A3 := Lib.hid (BoxF.after2 (w := w) (v := .slice none 0 0) (x := 0) (y := 0) (T := 47) (o := .cells #[.slice a len cap, .int .i64 n, .int .i64 d] 43) (o' := .cells #[.slice none 0 0, .int .i64 0, .int .i64 0] 47))
  have L0 := Lib.hid (bA (bA (bA (bR w) (.cells #[.slice a len cap, .int .i64 n, .int .i64 d] 43)) (.cells #[.slice none 0 0, .int .i64 0, .int .i64 0] 47)) (.cells #[.slice none 0 0, .int .i64 0, .int .i64 0] 47))
  have H0 := Lib.hid (h.keep L0.out)
  have l3 := A3.out.lt
  have hle2 : w.heap.size < w.heap.size + 1 := by omega
  have hle3 : w.heap.size + 1 < w.heap.size + 1 + 1 := by omega
  clear h
  go_enter Tryd.func22, Tryd.ntmps22
  go_wp2_with fail
  generalize ((w.alloc (.cells #[.slice a len cap, .int .i64 n, .int .i64 d] 43)).alloc (.cells #[.slice none 0 0, .int .i64 0, .int .i64 0] 47)).alloc (.cells #[.slice none 0 0, .int .i64 0, .int .i64 0] 47) = W at *
  generalize w.heap.size + 1 + 1 = b3 at *
  generalize w.heap.size + 1 = b2 at *
  refine (toPairS_any a len cap ps _ H0.out hlen).mono ?_
  rintro e w1 ⟨rfl, hr, hb⟩
  have B1 := Lib.hid (A1.out.keep hb)
  have B2 := Lib.hid (A2.out.keep hb)
  have B3 := Lib.hid (A3.out.keep hb)
  have L1 := Lib.hid (bT L0.out hb)
  have P1 := Lib.hid (own_pairs hr)
  have g1 : W.heap.size < w1.heap.size := (own_blk hr _ rfl).2
  clear hb hr A1 A2 A3 H0 L0
  generalize W.heap.size = g at *
  have C1 := Lib.hid (B1.out.other (b' := b3) (o := 0) (u := .slice (some ⟨g, 0, none⟩) ps.length ps.length) (by omega))
  have C2 := Lib.hid (B2.out.other (b' := b3) (o := 0) (u := .slice (some ⟨g, 0, none⟩) ps.length ps.length) (by omega))
  have C3 := Lib.hid (B3.out.set0 (.slice (some ⟨g, 0, none⟩) ps.length ps.length))
  have P2 := Lib.hid (P1.out.other (b := b3) (o := 0) (u := .slice (some ⟨g, 0, none⟩) ps.length ps.length) (by omega))
  have L2 := Lib.hid (bset (b := b3) (o := 0) (v := .slice (some ⟨g, 0, none⟩) ps.length ps.length) L1.out (by omega))
  have g2 : g < (w1.setCell ⟨b3, 0, none⟩ (.slice (some ⟨g, 0, none⟩) ps.length ps.length)).heap.size := by simpa [World.setCell] using g1
  obtain ⟨x0, x1, x2, x3, x4, x5, x6⟩ := B3.out
  obtain ⟨y0, y1, y2, y3, y4, y5, y6⟩ := C1.out
  go_wp2_with fail
  clear x0 x1 x2 x3 x4 x5 x6 y0 y1 y2 y3 y4 y5 y6 B1 B2 B3 P1 L1 C1
  generalize w1.setCell ⟨b3, 0, none⟩ (.slice (some ⟨g, 0, none⟩) ps.length ps.length) = W2 at *
  refine (toRatio_any n d _).mono ?_
  rintro e w3 ⟨rfl, hb⟩
  have D2 := Lib.hid (C2.out.keep hb)
  have D3 := Lib.hid (C3.out.keep hb)
  have P3 := Lib.hid (P2.out.keep g2 hb)
  have L3 := Lib.hid (bT L2.out hb)
  have g3 : g < w3.heap.size := Nat.lt_of_lt_of_le g2 hb.size
  clear hb C2 C3 P2 L2 g2
  have E3 := Lib.hid ((D3.out.set1 n).set2 d)
  have E2 := Lib.hid ((D2.out.other (b' := b3) (o := 1) (u := .int .i64 n) (by omega)).other (b' := b3) (o := 2) (u := .int .i64 d) (by omega))
  have P4 := Lib.hid ((P3.out.other (b := b3) (o := 1) (u := .int .i64 n) (by omega)).other (b := b3) (o := 2) (u := .int .i64 d) (by omega))
  have L4 := Lib.hid (bset (b := b3) (o := 2) (v := .int .i64 d) (bset (b := b3) (o := 1) (v := .int .i64 n) L3.out (by omega)) (by omega))
  have F2 := Lib.hid (((E2.out.set0 (.slice (some ⟨g, 0, none⟩) ps.length ps.length)).set1 n).set2 d)
  have P5 := Lib.hid (((P4.out.other (b := b2) (o := 0) (u := .slice (some ⟨g, 0, none⟩) ps.length ps.length) (by omega)).other (b := b2) (o := 1) (u := .int .i64 n) (by omega)).other (b := b2) (o := 2) (u := .int .i64 d) (by omega))
  have L5 := Lib.hid (bset (b := b2) (o := 2) (v := .int .i64 d) (bset (b := b2) (o := 1) (v := .int .i64 n) (bset (b := b2) (o := 0) (v := .slice (some ⟨g, 0, none⟩) ps.length ps.length) L4.out (by omega)) (by omega)) (by omega))
  obtain ⟨x0, x1, x2, x3, x4, x5, x6⟩ := D3.out
  obtain ⟨y0, y1, y2, y3, y4, y5, y6⟩ := E3.out
  obtain ⟨v0, v1, v2, v3, v4, v5, v6⟩ := E2.out
  obtain ⟨z0, z1, z2, z3, z4, z5, z6⟩ := F2.out
  go_wp2_with fail
  refine bodyPost_ret (v := .agg #[.slice (some ⟨g, 0, none⟩) ps.length ps.length, .int .i64 n, .int .i64 d]) ?_ rfl ⟨_, rfl, ⟨_, _, rfl, fun _ => ⟨g, rfl, by simpa [World.setCell] using g3, P5.out⟩⟩, L5.out⟩
  simp [results, Tryd.results22, go_sem, z0, z1, z2]
set_option maxRecDepth 100000 in
set_option maxHeartbeats 4000000 in
theorem eqFound_same (ps : List (Int × Int)) (n d : Int) (va vb : Value) (w : World) (ha : SlP w va ps) (hb : SlP w vb ps) (hmax : ps.length ≤ 1000000000000) :
    Calls Tryd.prog 24 #[.agg #[va, .int .i64 n, .int .i64 d], .agg #[vb, .int .i64 n, .int .i64 d]] w (BoolBel true w) := by
  have A1 := Lib.hid ((BoxF.new w va n d 47).alloc (.cells #[vb, .int .i64 n, .int .i64 d] 47))
  have A2 := Lib.hid (BoxF.after (w := w) (v := vb) (x := n) (y := d) (T := 47) (o := .cells #[va, .int .i64 n, .int .i64 d] 47))
  have L0 := Lib.hid (bA (bA (bR w) (.cells #[va, .int .i64 n, .int .i64 d] 47)) (.cells #[vb, .int .i64 n, .int .i64 d] 47))
  have HA := Lib.hid (ha.keep L0.out)
  have HB := Lib.hid (hb.keep L0.out)
  clear ha hb
  go_enter Tryd.func24, Tryd.ntmps24
  go_wp2_with fail
  generalize (w.alloc (.cells #[va, .int .i64 n, .int .i64 d] 47)).alloc (.cells #[vb, .int .i64 n, .int .i64 d] 47) = W at *
  refine (eqPairS_same ps _ _ _ HA.out HB.out hmax).mono ?_
  rintro e w1 ⟨rfl, hb⟩
  have L1 := Lib.hid (bT L0.out hb)
  obtain ⟨x0, x1, x2, _, _, _, x6⟩ := A1.out.keep hb
  obtain ⟨y0, y1, y2, _, _, _, y6⟩ := A2.out.keep hb
  clear hb
  go_wp2_with fail
  refine (eqRatio_same _ _ _).mono ?_
  rintro e w2 ⟨rfl, hb⟩
  have L2 := Lib.hid (bT L1.out hb)
  clear hb
  go_wp2_with fail
  go_ret
  exact ⟨rfl, L2.out⟩
end Go.Proofs.YtnndjbngcaafhaaDoor
