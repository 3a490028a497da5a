/-
  Escapements: validity, both sides; the conversions of the laws; a swing, the document's side.
-/
import Derived.Test.YtkagciekoeaijaaDoorEs
import Derived.Test.YtkagciekoeaijaaDoorBl
import Derived.Test.YtkagciekoeaijaaDoorTrI
namespace Go.Proofs.YtkagciekoeaijaaDoor
open Go.RowKit

theorem l11Ok_any (t u i l m : Int) (w : World) :
    Calls Tryd.prog 46 #[.agg #[.int .i64 t, .int .i64 u, .int .i64 i, .int .i64 l, .int .i64 m]] w (BoolBel (okEs t u i l m) w) := by
  cases e1 : inB t 6 120
  · rw [okEs_n1 e1]
    go_enter Tryd.func46, Tryd.ntmps46
    go_wp2_with (go_at_call 29; refine (l00In_any _ _ _ _).mono ?_; rintro e w1 ⟨rfl, rfl⟩)
    go_ret
    exact ⟨rfl, bA (bR _) _⟩
  cases e2 : inB u 1 100000
  · rw [okEs_n2 e2]
    go_enter Tryd.func46, Tryd.ntmps46
    go_wp2_with (go_at_call 29; refine (l00In_any _ _ _ _).mono ?_; rintro e w1 ⟨rfl, rfl⟩)
    go_ret
    exact ⟨rfl, bA (bR _) _⟩
  cases e3 : inB i 0 100000
  · rw [okEs_n3 e3]
    go_enter Tryd.func46, Tryd.ntmps46
    go_wp2_with (go_at_call 29; refine (l00In_any _ _ _ _).mono ?_; rintro e w1 ⟨rfl, rfl⟩)
    go_ret
    exact ⟨rfl, bA (bR _) _⟩
  cases e4 : inB l 0 1000
  · rw [okEs_n4 e4]
    go_enter Tryd.func46, Tryd.ntmps46
    go_wp2_with (go_at_call 29; refine (l00In_any _ _ _ _).mono ?_; rintro e w1 ⟨rfl, rfl⟩)
    go_ret
    exact ⟨rfl, bA (bR _) _⟩
  rw [okEs_go e1 e2 e3 e4]
  go_enter Tryd.func46, Tryd.ntmps46
  go_wp2_with (go_at_call 29; refine (l00In_any _ _ _ _).mono ?_; rintro e w1 ⟨rfl, rfl⟩)
  go_ret
  exact ⟨rfl, bA (bR _) _⟩
theorem ValidEscapementI_any (t u i l m : Int) (w : World) :
    Calls Tryd.prog 31 #[.agg #[.int .i64 t, .int .i64 u, .int .i64 i, .int .i64 l, .int .i64 m]] w (BoolBel (okEs t u i l m) w) := by
  cases e1 : inB t 6 120
  · rw [okEs_n1 e1]
    go_enter Tryd.func31, Tryd.ntmps31
    go_wp2_with (go_at_call 26; refine (isBetween_any _ _ _ _).mono ?_; rintro e w1 ⟨rfl, rfl⟩)
    go_ret
    exact ⟨rfl, bA (bR _) _⟩
  cases e2 : inB u 1 100000
  · rw [okEs_n2 e2]
    go_enter Tryd.func31, Tryd.ntmps31
    go_wp2_with (go_at_call 26; refine (isBetween_any _ _ _ _).mono ?_; rintro e w1 ⟨rfl, rfl⟩)
    go_ret
    exact ⟨rfl, bA (bR _) _⟩
  cases e3 : inB i 0 100000
  · rw [okEs_n3 e3]
    go_enter Tryd.func31, Tryd.ntmps31
    go_wp2_with (go_at_call 26; refine (isBetween_any _ _ _ _).mono ?_; rintro e w1 ⟨rfl, rfl⟩)
    go_ret
    exact ⟨rfl, bA (bR _) _⟩
  cases e4 : inB l 0 1000
  · rw [okEs_n4 e4]
    go_enter Tryd.func31, Tryd.ntmps31
    go_wp2_with (go_at_call 26; refine (isBetween_any _ _ _ _).mono ?_; rintro e w1 ⟨rfl, rfl⟩)
    go_ret
    exact ⟨rfl, bA (bR _) _⟩
  rw [okEs_go e1 e2 e3 e4]
  go_enter Tryd.func31, Tryd.ntmps31
  go_wp2_with (go_at_call 26; refine (isBetween_any _ _ _ _).mono ?_; rintro e w1 ⟨rfl, rfl⟩)
  go_ret
  exact ⟨rfl, bA (bR _) _⟩
/-- The boxes of an escapement and a state. -/
def EbH (w : World) (b c : Nat) (t u i l m e k : Int) (w' : World) : Prop := BoxL w' b [.int .i64 t, .int .i64 u, .int .i64 i, .int .i64 l, .int .i64 m] ∧ BoxL w' c [.int .i64 e, .int .i64 k] ∧ Below w.heap.size w w'
theorem EbH.keep {w : World} {b c : Nat} {t u i l m e k : Int} {w' w2 : World} (hb : Below w'.heap.size w' w2) (H : EbH w b c t u i l m e k w') : EbH w b c t u i l m e k w2 := ⟨H.1.keep hb, H.2.1.keep hb, bT H.2.2 hb⟩
theorem EbH.bel {w : World} {b c : Nat} {t u i l m e k : Int} {w' : World} (H : EbH w b c t u i l m e k w') : Below w.heap.size w w' := H.2.2
theorem EbH.new (w : World) (t u i l m e k : Int) (T T2 : TypeId) : EbH w w.heap.size (w.heap.size + 1) t u i l m e k ((w.alloc (.cells #[.int .i64 t, .int .i64 u, .int .i64 i, .int .i64 l, .int .i64 m] T)).alloc (.cells #[.int .i64 e, .int .i64 k] T2)) :=
  ⟨(BoxL.new w [.int .i64 t, .int .i64 u, .int .i64 i, .int .i64 l, .int .i64 m] T).alloc _, BoxL.at_ (by simp), bA (bA (bR _) _) _⟩
theorem EbH.cells {w : World} {b c : Nat} {t u i l m e k : Int} {w' : World} (H : EbH w b c t u i l m e k w') :
    w'.cell? ⟨b, 0, none⟩ = some (.int .i64 t) ∧ w'.cell? ⟨b, 1, none⟩ = some (.int .i64 u) ∧ w'.cell? ⟨b, 2, none⟩ = some (.int .i64 i) ∧ w'.cell? ⟨b, 3, none⟩ = some (.int .i64 l) ∧ w'.cell? ⟨b, 4, none⟩ = some (.int .i64 m) ∧
    w'.cell? ⟨c, 0, none⟩ = some (.int .i64 e) ∧ w'.cell? ⟨c, 1, none⟩ = some (.int .i64 k) := ⟨H.1.c 0 _ rfl, H.1.c 1 _ rfl, H.1.c 2 _ rfl, H.1.c 3 _ rfl, H.1.c 4 _ rfl, H.2.1.c 0 _ rfl, H.2.1.c 1 _ rfl⟩
set_option maxHeartbeats 1000000 in
theorem l11Beat_any (t u i l m e k : Int) (w : World) :
    Calls Tryd.prog 32 #[.agg #[.int .i64 t, .int .i64 u, .int .i64 i, .int .i64 l, .int .i64 m], .agg #[.int .i64 e, .int .i64 k]] w (BoolBel (okBt t u i l m e k) w) := by
  have H0 := Lib.hid (EbH.new w t u i l m e k 25 27)
  have CO := Lib.hid (fun W => l11Ok_any t u i l m W)
  cases e1 : okEs t u i l m
  · rw [okBt_n1 e1]
    rw [e1] at CO
    go_enter Tryd.func32, Tryd.ntmps32
    go_wp2_with fail
    refine (CO.out _).mono ?_
    rintro e w1 ⟨rfl, hb⟩
    have L := Lib.hid (bT H0.out.bel hb)
    clear hb H0
    go_wp2_with fail
    go_ret
    exact ⟨rfl, L.out⟩
  rw [e1] at CO
  cases e2 : inB e 0 m
  · rw [okBt_n2 e2]
    go_enter Tryd.func32, Tryd.ntmps32
    go_wp2_with fail
    refine (CO.out _).mono ?_
    rintro e w1 ⟨rfl, hb⟩
    have H1 := Lib.hid (H0.out.keep hb)
    clear hb H0
    obtain ⟨c0, c1, c2, c3, c4, c5, c6⟩ := H1.out.cells
    go_wp2_with (go_at_call 29; refine (l00In_any _ _ _ _).mono ?_; rintro e w1 ⟨rfl, rfl⟩)
    go_ret
    exact ⟨rfl, H1.out.bel⟩
  rw [okBt_go e1 e2]
  go_enter Tryd.func32, Tryd.ntmps32
  go_wp2_with fail
  refine (CO.out _).mono ?_
  rintro e w1 ⟨rfl, hb⟩
  have H1 := Lib.hid (H0.out.keep hb)
  clear hb H0
  obtain ⟨c0, c1, c2, c3, c4, c5, c6⟩ := H1.out.cells
  go_wp2_with (go_at_call 29; refine (l00In_any _ _ _ _).mono ?_; rintro e w1 ⟨rfl, rfl⟩)
  go_ret
  exact ⟨rfl, H1.out.bel⟩
theorem ValidBeatS_any (t u i l m e k : Int) (w : World) :
    Calls Tryd.prog 10 #[.agg #[.int .i64 t, .int .i64 u, .int .i64 i, .int .i64 l, .int .i64 m], .agg #[.int .i64 e, .int .i64 k]] w (BoolBel (okBt t u i l m e k) w) := by
  go_enter Tryd.func10, Tryd.ntmps10
  go_wp2_with fail
  refine (l11Beat_any _ _ _ _ _ _ _ _).mono ?_
  rintro e w1 ⟨rfl, hb⟩
  go_wp2_with fail
  go_ret
  exact ⟨rfl, bT (bA (bA (bR _) _) _) hb⟩
set_option maxHeartbeats 1000000 in
theorem ValidBeatI_any (t u i l m e k : Int) (w : World) :
    Calls Tryd.prog 9 #[.agg #[.int .i64 t, .int .i64 u, .int .i64 i, .int .i64 l, .int .i64 m], .agg #[.int .i64 e, .int .i64 k]] w (BoolBel (okBt t u i l m e k) w) := by
  have H0 := Lib.hid (EbH.new w t u i l m e k 25 27)
  have CO := Lib.hid (fun W => ValidEscapementI_any t u i l m W)
  cases e1 : okEs t u i l m
  · rw [okBt_n1 e1]
    rw [e1] at CO
    go_enter Tryd.func9, Tryd.ntmps9
    go_wp2_with fail
    refine (CO.out _).mono ?_
    rintro e w1 ⟨rfl, hb⟩
    have L := Lib.hid (bT H0.out.bel hb)
    clear hb H0
    go_wp2_with fail
    go_ret
    exact ⟨rfl, L.out⟩
  rw [e1] at CO
  cases e2 : inB e 0 m
  · rw [okBt_n2 e2]
    go_enter Tryd.func9, Tryd.ntmps9
    go_wp2_with fail
    refine (CO.out _).mono ?_
    rintro e w1 ⟨rfl, hb⟩
    have H1 := Lib.hid (H0.out.keep hb)
    clear hb H0
    obtain ⟨c0, c1, c2, c3, c4, c5, c6⟩ := H1.out.cells
    go_wp2_with (go_at_call 26; refine (isBetween_any _ _ _ _).mono ?_; rintro e w1 ⟨rfl, rfl⟩)
    go_ret
    exact ⟨rfl, H1.out.bel⟩
  rw [okBt_go e1 e2]
  go_enter Tryd.func9, Tryd.ntmps9
  go_wp2_with fail
  refine (CO.out _).mono ?_
  rintro e w1 ⟨rfl, hb⟩
  have H1 := Lib.hid (H0.out.keep hb)
  clear hb H0
  obtain ⟨c0, c1, c2, c3, c4, c5, c6⟩ := H1.out.cells
  go_wp2_with (go_at_call 26; refine (isBetween_any _ _ _ _).mono ?_; rintro e w1 ⟨rfl, rfl⟩)
  go_ret
  exact ⟨rfl, H1.out.bel⟩
def EsB (t u i l m : Int) (w : World) (e : Ending) (w' : World) : Prop := e = .returned (.agg #[.int .i64 t, .int .i64 u, .int .i64 i, .int .i64 l, .int .i64 m]) ∧ Below w.heap.size w w'
def BtB (e k : Int) (w : World) (en : Ending) (w' : World) : Prop := en = .returned (.agg #[.int .i64 e, .int .i64 k]) ∧ Below w.heap.size w w'
theorem toEscapement_any (t u i l m : Int) (w : World) :
    Calls Tryd.prog 17 #[.agg #[.int .i64 t, .int .i64 u, .int .i64 i, .int .i64 l, .int .i64 m]] w (EsB t u i l m w) := by
  go_enter Tryd.func17, Tryd.ntmps17
  go_wp2
  exact bodyPost_ret (v := .agg #[.int .i64 t, .int .i64 u, .int .i64 i, .int .i64 l, .int .i64 m]) (by simp [results, Tryd.results17, go_sem]) rfl ⟨rfl, by first | exact bA (bA (bR _) _) _ | exact bA (bA (bA (bR _) _) _) _⟩
theorem toBeat_any (e k : Int) (w : World) :
    Calls Tryd.prog 18 #[.agg #[.int .i64 e, .int .i64 k]] w (BtB e k w) := by
  go_enter Tryd.func18, Tryd.ntmps18
  go_wp2
  exact bodyPost_ret (v := .agg #[.int .i64 e, .int .i64 k]) (by simp [results, Tryd.results18, go_sem]) rfl ⟨rfl, by first | exact bA (bA (bR _) _) _ | exact bA (bA (bA (bR _) _) _) _⟩
end Go.Proofs.YtkagciekoeaijaaDoor
