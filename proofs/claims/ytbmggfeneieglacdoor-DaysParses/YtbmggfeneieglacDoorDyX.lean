/- The statement DaysDates of package accountinglaw04. -/
import Derived.Test.YtbmggfeneieglacDoorDyW
namespace Go.Proofs.YtbmggfeneieglacDoor
open Go.RowKit Go.Sort
set_option linter.unusedVariables false

theorem Cell3.lt {w : World} {B : Nat} {a b c : Value} (h : Cell3 w B a b c) : B < w.heap.size := by
  rcases Nat.lt_or_ge B w.heap.size with k | k
  · exact k
  · exact absurd h.c0 (by simp [World.cell?, Array.getElem?_eq_none k])

set_option maxHeartbeats 4000000 in
theorem daysDates_walk (y m d : Int) (w : World) (ht : Tab w) (wy : (Lit.int .i64 y).wf = true) (wm : (Lit.int .i64 m).wf = true) (wd : (Lit.int .i64 d).wf = true) :
    Calls Tryd.prog 3 #[.agg #[.int .i64 y, .int .i64 m, .int .i64 d]] w fun e w' => e = .returned (.bool true) ∧ Below w.heap.size w w' := by
  obtain ⟨y1, y2⟩ := i64_bd wy
  obtain ⟨m1, m2⟩ := i64_bd wm
  obtain ⟨d1, d2⟩ := i64_bd wd
  have H1 := Lib.hid (fun w ht => of_any y m d w ht y1 y2 m1 m2 d1 d2)
  have H2 := Lib.hid (fun w => rOf_any y m d w y1 y2 m1 m2 d1 d2)
  have H3 := Lib.hid (fun w ht => lives_any w ht)
  have hq := eqSame y m d
  by_cases hv : Valid y m d
  · have H4 := Lib.hid (fun w ht => date_any (ofN y m d) y m d w ht ⟨hv, rfl⟩)
    rw [ofV_of hv, ofE_of hv] at H1 H2
    generalize ofN y m d = R at *
    clear hv
    go_enter Tryd.func3, Tryd.ntmps3
    go_wp2_with fail
    refine (H1.out _ (ht.alloc _)).mono ?_
    rintro e w1 ⟨rfl, hb1⟩
    have HB1 := Lib.hid (((Below.refl w.heap.size w).alloc (Nat.le_refl _) (Obj.cells #[.int .i64 y, .int .i64 m, .int .i64 d] 23)).trans (hb1.mono (by simp)))
    have HC1 := Lib.hid ((Cell3.alloc w (.int .i64 y) (.int .i64 m) (.int .i64 d) 23).below hb1 (by simp))
    clear hb1
    have c0 := HC1.out.c0
    have c1 := HC1.out.c1
    have c2 := HC1.out.c2
    go_wp2_with fail
    clear c0 c1 c2
    refine (H2.out _).mono ?_
    rintro e w2 ⟨rfl, hb2⟩
    have HB2 := Lib.hid (HB1.out.trans (hb2.mono HB1.out.size))
    have HC2 := Lib.hid (HC1.out.below hb2 HC1.out.lt)
    clear hb2
    go_wp2_with fail
    refine (H3.out _ (ht.below HB2.out)).mono ?_
    rintro e w3 ⟨rfl, hb3⟩
    have HB3 := Lib.hid (HB2.out.trans (hb3.mono HB2.out.size))
    have HC3 := Lib.hid (HC2.out.below hb3 HC2.out.lt)
    clear hb3
    go_wp2_with fail
    refine (H4.out _ (ht.below HB3.out)).mono ?_
    rintro e w4 ⟨rfl, hb4⟩
    have HB4 := Lib.hid (HB3.out.trans (hb4.mono HB3.out.size))
    have HC4 := Lib.hid (HC3.out.below hb4 HC3.out.lt)
    clear hb4
    have c0 := HC4.out.c0
    have c1 := HC4.out.c1
    have c2 := HC4.out.c2
    have hlt := HC4.out.lt
    go_wp2
    go_ret
    exact ⟨rfl, HB4.out.alloc HB4.out.size _⟩
  · have e1 : ofV y m d = 0 := if_neg hv
    have e2 : ofE y m d = 11 := if_neg hv
    rw [e1, e2] at H1 H2
    clear e1 e2 hv
    go_enter Tryd.func3, Tryd.ntmps3
    go_wp2_with fail
    refine (H1.out _ (ht.alloc _)).mono ?_
    rintro e w1 ⟨rfl, hb1⟩
    have HB1 := Lib.hid (((Below.refl w.heap.size w).alloc (Nat.le_refl _) (Obj.cells #[.int .i64 y, .int .i64 m, .int .i64 d] 23)).trans (hb1.mono (by simp)))
    have HC1 := Lib.hid ((Cell3.alloc w (.int .i64 y) (.int .i64 m) (.int .i64 d) 23).below hb1 (by simp))
    clear hb1
    have c0 := HC1.out.c0
    have c1 := HC1.out.c1
    have c2 := HC1.out.c2
    go_wp2_with fail
    clear c0 c1 c2
    refine (H2.out _).mono ?_
    rintro e w2 ⟨rfl, hb2⟩
    have HB2 := Lib.hid (HB1.out.trans (hb2.mono HB1.out.size))
    have HC2 := Lib.hid (HC1.out.below hb2 HC1.out.lt)
    clear hb2
    go_wp2_with fail
    refine (H3.out _ (ht.below HB2.out)).mono ?_
    rintro e w3 ⟨rfl, hb3⟩
    have HB3 := Lib.hid (HB2.out.trans (hb3.mono HB2.out.size))
    have HC3 := Lib.hid (HC2.out.below hb3 HC2.out.lt)
    clear hb3
    go_wp2
    go_ret
    exact ⟨rfl, HB3.out⟩
end Go.Proofs.YtbmggfeneieglacDoor
