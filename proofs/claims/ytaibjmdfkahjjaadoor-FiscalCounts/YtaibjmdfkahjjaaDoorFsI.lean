/- What Span, step, Next, Prev, Cmp and Count of package accountingref05 return. -/
import Derived.Test.YtaibjmdfkahjjaaDoorFsG
namespace Go.Proofs.YtaibjmdfkahjjaaDoor
open Go.RowKit Go.Sort
set_option linter.unusedVariables false

set_option maxHeartbeats 400000 in
theorem rSpan_any (f y n : Int) (w : World) (y1 : -9223372036854775808 ≤ y) (y2 : y ≤ 9223372036854775807) :
    Calls Tryd.prog 12 #[.agg #[.int .i64 f], .agg #[.int .i64 y, .int .i64 n]] w fun e w' => e = .returned (.tuple #[.int .i64 (spaF f y n), .int .i64 (spaL f y n), .int .i64 (spaE f y n)]) ∧ Below w.heap.size w w' := by
  have HR := Lib.hid (fun w => rfRight_any f w)
  by_cases hf : calO f
  · rw [decide_eq_true hf] at HR
    have HE := Lib.hid (fun w => rExists_any f y n w hf y1 y2)
    by_cases hp : perO f y n
    · rw [decide_eq_true hp] at HE
      obtain ⟨e1, e2, e3⟩ := spa_yes hf hp
      rw [e1, e2, e3]
      clear e1 e2 e3
      obtain ⟨p1, p2, p3⟩ := hp
      by_cases h13 : n = 13
      · subst h13
        rw [sp_13.1, sp_13.2]
        have HM := Lib.hid (fun w => rMonth_any f y 11 w hf y1 y2 (by omega) (by omega))
        have e : rmL f y 11 = fdM f y 12 - 1 := by unfold rmL; rw [if_pos ((rm_yr hf).2 p3)]; rfl
        rw [e] at HM
        clear e p3 hf p1 p2
        generalize fdM f y 12 - 1 = R at *
        generalize rmF f y 11 = R1 at *
        generalize decide (rmO f y 11) = R2 at *
        go_enter Tryd.func12, Tryd.ntmps12
        go_wp2_with fail
        have P0_1 := Lib.hid (show Cell1 ((w.alloc (Obj.cells #[(.int .i64 f)] 23)).alloc (Obj.cells #[(.int .i64 y), (.int .i64 13)] 25)) (w.heap.size) (.int .i64 f) from by have q := Cell1.alloc w (.int .i64 f) 23; exact q.below (N := w.heap.size + 1) ((Below.refl _ _).alloc (by simp <;> omega) (Obj.cells #[(.int .i64 y), (.int .i64 13)] 25)) (by omega))
        have P1_1 := Lib.hid (show Cell2 ((w.alloc (Obj.cells #[(.int .i64 f)] 23)).alloc (Obj.cells #[(.int .i64 y), (.int .i64 13)] 25)) (w.heap.size + 1) (.int .i64 y) (.int .i64 13) from by simpa using Cell2.alloc (w.alloc (Obj.cells #[(.int .i64 f)] 23)) (.int .i64 y) (.int .i64 13) 25)
        have HB1 := Lib.hid (((Below.refl w.heap.size w).alloc (Nat.le_refl _) (Obj.cells #[(.int .i64 f)] 23)).alloc (by simp) (Obj.cells #[(.int .i64 y), (.int .i64 13)] 25))
        generalize ((w.alloc (Obj.cells #[(.int .i64 f)] 23)).alloc (Obj.cells #[(.int .i64 y), (.int .i64 13)] 25)) = W1 at *
        refine (HR.out _).mono ?_
        rintro e W2 ⟨rfl, hb2⟩
        have HB2 := Lib.hid (HB1.out.trans ((hb2).mono HB1.out.size))
        have P0_2 := Lib.hid (P0_1.out.below (hb2) P0_1.out.lt)
        have P1_2 := Lib.hid (P1_1.out.below (hb2) P1_1.out.lt)
        clear HB1 P0_1 P1_1 hb2
        have lP0_2 := P0_2.out.lt
        have cP0_2_0 := P0_2.out.c0
        have lP1_2 := P1_2.out.lt
        have cP1_2_0 := P1_2.out.c0
        have cP1_2_1 := P1_2.out.c1
        go_wp2_with fail
        clear lP0_2 cP0_2_0 lP1_2 cP1_2_0 cP1_2_1
        refine (HE.out _).mono ?_
        rintro e W3 ⟨rfl, hb3⟩
        have HB3 := Lib.hid (HB2.out.trans ((hb3).mono HB2.out.size))
        have P0_3 := Lib.hid (P0_2.out.below (hb3) P0_2.out.lt)
        have P1_3 := Lib.hid (P1_2.out.below (hb3) P1_2.out.lt)
        clear HB2 P0_2 P1_2 hb3
        have lP0_3 := P0_3.out.lt
        have cP0_3_0 := P0_3.out.c0
        have lP1_3 := P1_3.out.lt
        have cP1_3_0 := P1_3.out.c0
        have cP1_3_1 := P1_3.out.c1
        go_wp2_with fail
        clear lP0_3 cP0_3_0 lP1_3 cP1_3_0 cP1_3_1
        refine (HM.out _).mono ?_
        rintro e W4 ⟨rfl, hb4⟩
        have HB4 := Lib.hid (HB3.out.trans ((hb4).mono HB3.out.size))
        have P0_4 := Lib.hid (P0_3.out.below (hb4) P0_3.out.lt)
        have P1_4 := Lib.hid (P1_3.out.below (hb4) P1_3.out.lt)
        clear HB3 P0_3 P1_3 hb4
        go_wp2
        go_ret3
        exact ⟨rfl, HB4.out⟩
      · rw [(sp_n h13).1, (sp_n h13).2]
        have HM := Lib.hid (fun w => rMonth_any f y (n - 1) w hf y1 y2 (by omega) (by omega))
        have hr : rmO f y (n - 1) := by unfold rmO; unfold yrO calO at *; omega
        have e1 : rmF f y (n - 1) = fdM f y (n - 1) := by unfold rmF; rw [if_pos hr]
        have e2 : rmL f y (n - 1) = fdM f y n - 1 := by unfold rmL; rw [if_pos hr, show n - 1 + 1 = n by omega]
        rw [e1, e2] at HM
        clear e1 e2 hr p3 hf
        generalize fdM f y n - 1 = R at *
        generalize fdM f y (n - 1) = R1 at *
        generalize decide (rmO f y (n - 1)) = R2 at *
        go_enter Tryd.func12, Tryd.ntmps12
        go_wp2_with fail
        have P0_5 := Lib.hid (show Cell1 ((w.alloc (Obj.cells #[(.int .i64 f)] 23)).alloc (Obj.cells #[(.int .i64 y), (.int .i64 n)] 25)) (w.heap.size) (.int .i64 f) from by have q := Cell1.alloc w (.int .i64 f) 23; exact q.below (N := w.heap.size + 1) ((Below.refl _ _).alloc (by simp <;> omega) (Obj.cells #[(.int .i64 y), (.int .i64 n)] 25)) (by omega))
        have P1_5 := Lib.hid (show Cell2 ((w.alloc (Obj.cells #[(.int .i64 f)] 23)).alloc (Obj.cells #[(.int .i64 y), (.int .i64 n)] 25)) (w.heap.size + 1) (.int .i64 y) (.int .i64 n) from by simpa using Cell2.alloc (w.alloc (Obj.cells #[(.int .i64 f)] 23)) (.int .i64 y) (.int .i64 n) 25)
        have HB5 := Lib.hid (((Below.refl w.heap.size w).alloc (Nat.le_refl _) (Obj.cells #[(.int .i64 f)] 23)).alloc (by simp) (Obj.cells #[(.int .i64 y), (.int .i64 n)] 25))
        generalize ((w.alloc (Obj.cells #[(.int .i64 f)] 23)).alloc (Obj.cells #[(.int .i64 y), (.int .i64 n)] 25)) = W5 at *
        refine (HR.out _).mono ?_
        rintro e W6 ⟨rfl, hb6⟩
        have HB6 := Lib.hid (HB5.out.trans ((hb6).mono HB5.out.size))
        have P0_6 := Lib.hid (P0_5.out.below (hb6) P0_5.out.lt)
        have P1_6 := Lib.hid (P1_5.out.below (hb6) P1_5.out.lt)
        clear HB5 P0_5 P1_5 hb6
        have lP0_6 := P0_6.out.lt
        have cP0_6_0 := P0_6.out.c0
        have lP1_6 := P1_6.out.lt
        have cP1_6_0 := P1_6.out.c0
        have cP1_6_1 := P1_6.out.c1
        go_wp2_with fail
        clear lP0_6 cP0_6_0 lP1_6 cP1_6_0 cP1_6_1
        refine (HE.out _).mono ?_
        rintro e W7 ⟨rfl, hb7⟩
        have HB7 := Lib.hid (HB6.out.trans ((hb7).mono HB6.out.size))
        have P0_7 := Lib.hid (P0_6.out.below (hb7) P0_6.out.lt)
        have P1_7 := Lib.hid (P1_6.out.below (hb7) P1_6.out.lt)
        clear HB6 P0_6 P1_6 hb7
        have lP0_7 := P0_7.out.lt
        have cP0_7_0 := P0_7.out.c0
        have lP1_7 := P1_7.out.lt
        have cP1_7_0 := P1_7.out.c0
        have cP1_7_1 := P1_7.out.c1
        go_wp2_with fail
        clear lP0_7 cP0_7_0 lP1_7 cP1_7_0 cP1_7_1
        refine (HM.out _).mono ?_
        rintro e W8 ⟨rfl, hb8⟩
        have HB8 := Lib.hid (HB7.out.trans ((hb8).mono HB7.out.size))
        have P0_8 := Lib.hid (P0_7.out.below (hb8) P0_7.out.lt)
        have P1_8 := Lib.hid (P1_7.out.below (hb8) P1_7.out.lt)
        clear HB7 P0_7 P1_7 hb8
        go_wp2
        go_ret3
        exact ⟨rfl, HB8.out⟩
    · rw [decide_eq_false hp] at HE
      obtain ⟨e1, e2, e3⟩ := spa_no hf hp
      rw [e1, e2, e3]
      clear e1 e2 e3 hp hf
      go_enter Tryd.func12, Tryd.ntmps12
      go_wp2_with fail
      have P0_9 := Lib.hid (show Cell1 ((w.alloc (Obj.cells #[(.int .i64 f)] 23)).alloc (Obj.cells #[(.int .i64 y), (.int .i64 n)] 25)) (w.heap.size) (.int .i64 f) from by have q := Cell1.alloc w (.int .i64 f) 23; exact q.below (N := w.heap.size + 1) ((Below.refl _ _).alloc (by simp <;> omega) (Obj.cells #[(.int .i64 y), (.int .i64 n)] 25)) (by omega))
      have P1_9 := Lib.hid (show Cell2 ((w.alloc (Obj.cells #[(.int .i64 f)] 23)).alloc (Obj.cells #[(.int .i64 y), (.int .i64 n)] 25)) (w.heap.size + 1) (.int .i64 y) (.int .i64 n) from by simpa using Cell2.alloc (w.alloc (Obj.cells #[(.int .i64 f)] 23)) (.int .i64 y) (.int .i64 n) 25)
      have HB9 := Lib.hid (((Below.refl w.heap.size w).alloc (Nat.le_refl _) (Obj.cells #[(.int .i64 f)] 23)).alloc (by simp) (Obj.cells #[(.int .i64 y), (.int .i64 n)] 25))
      generalize ((w.alloc (Obj.cells #[(.int .i64 f)] 23)).alloc (Obj.cells #[(.int .i64 y), (.int .i64 n)] 25)) = W9 at *
      refine (HR.out _).mono ?_
      rintro e W10 ⟨rfl, hb10⟩
      have HB10 := Lib.hid (HB9.out.trans ((hb10).mono HB9.out.size))
      have P0_10 := Lib.hid (P0_9.out.below (hb10) P0_9.out.lt)
      have P1_10 := Lib.hid (P1_9.out.below (hb10) P1_9.out.lt)
      clear HB9 P0_9 P1_9 hb10
      have lP0_10 := P0_10.out.lt
      have cP0_10_0 := P0_10.out.c0
      have lP1_10 := P1_10.out.lt
      have cP1_10_0 := P1_10.out.c0
      have cP1_10_1 := P1_10.out.c1
      go_wp2_with fail
      clear lP0_10 cP0_10_0 lP1_10 cP1_10_0 cP1_10_1
      refine (HE.out _).mono ?_
      rintro e W11 ⟨rfl, hb11⟩
      have HB11 := Lib.hid (HB10.out.trans ((hb11).mono HB10.out.size))
      have P0_11 := Lib.hid (P0_10.out.below (hb11) P0_10.out.lt)
      have P1_11 := Lib.hid (P1_10.out.below (hb11) P1_10.out.lt)
      clear HB10 P0_10 P1_10 hb11
      go_wp2
      go_ret3
      exact ⟨rfl, HB11.out⟩
  · rw [decide_eq_false hf] at HR
    obtain ⟨e1, e2, e3⟩ := spa_cal (y := y) (n := n) hf
    rw [e1, e2, e3]
    clear e1 e2 e3 hf
    go_enter Tryd.func12, Tryd.ntmps12
    go_wp2_with fail
    have P0_12 := Lib.hid (show Cell1 ((w.alloc (Obj.cells #[(.int .i64 f)] 23)).alloc (Obj.cells #[(.int .i64 y), (.int .i64 n)] 25)) (w.heap.size) (.int .i64 f) from by have q := Cell1.alloc w (.int .i64 f) 23; exact q.below (N := w.heap.size + 1) ((Below.refl _ _).alloc (by simp <;> omega) (Obj.cells #[(.int .i64 y), (.int .i64 n)] 25)) (by omega))
    have P1_12 := Lib.hid (show Cell2 ((w.alloc (Obj.cells #[(.int .i64 f)] 23)).alloc (Obj.cells #[(.int .i64 y), (.int .i64 n)] 25)) (w.heap.size + 1) (.int .i64 y) (.int .i64 n) from by simpa using Cell2.alloc (w.alloc (Obj.cells #[(.int .i64 f)] 23)) (.int .i64 y) (.int .i64 n) 25)
    have HB12 := Lib.hid (((Below.refl w.heap.size w).alloc (Nat.le_refl _) (Obj.cells #[(.int .i64 f)] 23)).alloc (by simp) (Obj.cells #[(.int .i64 y), (.int .i64 n)] 25))
    generalize ((w.alloc (Obj.cells #[(.int .i64 f)] 23)).alloc (Obj.cells #[(.int .i64 y), (.int .i64 n)] 25)) = W12 at *
    refine (HR.out _).mono ?_
    rintro e W13 ⟨rfl, hb13⟩
    have HB13 := Lib.hid (HB12.out.trans ((hb13).mono HB12.out.size))
    have P0_13 := Lib.hid (P0_12.out.below (hb13) P0_12.out.lt)
    have P1_13 := Lib.hid (P1_12.out.below (hb13) P1_12.out.lt)
    clear HB12 P0_12 P1_12 hb13
    go_wp2
    go_ret3
    exact ⟨rfl, HB13.out⟩

set_option maxHeartbeats 400000 in
theorem rStep_any (f y n y' n' : Int) (w : World) (y1 : -9223372036854775808 ≤ y) (y2 : y ≤ 9223372036854775807) (z1 : -9223372036854775808 ≤ y') (z2 : y' ≤ 9223372036854775807) :
    Calls Tryd.prog 41 #[.agg #[.int .i64 f], .agg #[.int .i64 y, .int .i64 n], .agg #[.int .i64 y', .int .i64 n']] w fun e w' => e = .returned (.tuple #[.agg #[.int .i64 (ifOk (twoE f y n y' n') y'), .int .i64 (ifOk (twoE f y n y' n') n')], .int .i64 (twoE f y n y' n')]) ∧ Below w.heap.size w w' := by
  have HR := Lib.hid (fun w => rfRight_any f w)
  by_cases hf : calO f
  · rw [decide_eq_true hf] at HR
    have HE := Lib.hid (fun w => rExists_any f y n w hf y1 y2)
    have HF := Lib.hid (fun w => rExists_any f y' n' w hf z1 z2)
    by_cases hp : perO f y n
    · rw [decide_eq_true hp] at HE
      by_cases hq : perO f y' n'
      · rw [decide_eq_true hq] at HF
        rw [twoE_yes hf hp hq]
        unfold ifOk
        simp only [if_true]
        clear hf hp hq
        go_enter Tryd.func41, Tryd.ntmps41
        go_wp2_with fail
        have P0_14 := Lib.hid (show Cell1 ((((w.alloc (Obj.cells #[(.int .i64 f)] 23)).alloc (Obj.cells #[(.int .i64 y), (.int .i64 n)] 25)).alloc (Obj.cells #[(.int .i64 y'), (.int .i64 n')] 25)).alloc (Obj.cells #[(.int .i64 0), (.int .i64 0)] 25)) (w.heap.size) (.int .i64 f) from by have q := Cell1.alloc w (.int .i64 f) 23; exact q.below (N := w.heap.size + 1) ((((Below.refl _ _).alloc (by simp <;> omega) (Obj.cells #[(.int .i64 y), (.int .i64 n)] 25)).alloc (by simp <;> omega) (Obj.cells #[(.int .i64 y'), (.int .i64 n')] 25)).alloc (by simp <;> omega) (Obj.cells #[(.int .i64 0), (.int .i64 0)] 25)) (by omega))
        have P1_14 := Lib.hid (show Cell2 ((((w.alloc (Obj.cells #[(.int .i64 f)] 23)).alloc (Obj.cells #[(.int .i64 y), (.int .i64 n)] 25)).alloc (Obj.cells #[(.int .i64 y'), (.int .i64 n')] 25)).alloc (Obj.cells #[(.int .i64 0), (.int .i64 0)] 25)) (w.heap.size + 1) (.int .i64 y) (.int .i64 n) from by have q := Cell2.alloc (w.alloc (Obj.cells #[(.int .i64 f)] 23)) (.int .i64 y) (.int .i64 n) 25; try simp only [World.size_alloc] at q; exact q.below (N := w.heap.size + 1 + 1) (((Below.refl _ _).alloc (by simp <;> omega) (Obj.cells #[(.int .i64 y'), (.int .i64 n')] 25)).alloc (by simp <;> omega) (Obj.cells #[(.int .i64 0), (.int .i64 0)] 25)) (by omega))
        have P2_14 := Lib.hid (show Cell2 ((((w.alloc (Obj.cells #[(.int .i64 f)] 23)).alloc (Obj.cells #[(.int .i64 y), (.int .i64 n)] 25)).alloc (Obj.cells #[(.int .i64 y'), (.int .i64 n')] 25)).alloc (Obj.cells #[(.int .i64 0), (.int .i64 0)] 25)) (w.heap.size + 2) (.int .i64 y') (.int .i64 n') from by have q := Cell2.alloc ((w.alloc (Obj.cells #[(.int .i64 f)] 23)).alloc (Obj.cells #[(.int .i64 y), (.int .i64 n)] 25)) (.int .i64 y') (.int .i64 n') 25; try simp only [World.size_alloc] at q; exact q.below (N := w.heap.size + 2 + 1) ((Below.refl _ _).alloc (by simp <;> omega) (Obj.cells #[(.int .i64 0), (.int .i64 0)] 25)) (by omega))
        have P3_14 := Lib.hid (show Cell2 ((((w.alloc (Obj.cells #[(.int .i64 f)] 23)).alloc (Obj.cells #[(.int .i64 y), (.int .i64 n)] 25)).alloc (Obj.cells #[(.int .i64 y'), (.int .i64 n')] 25)).alloc (Obj.cells #[(.int .i64 0), (.int .i64 0)] 25)) (w.heap.size + 3) (.int .i64 0) (.int .i64 0) from by simpa using Cell2.alloc (((w.alloc (Obj.cells #[(.int .i64 f)] 23)).alloc (Obj.cells #[(.int .i64 y), (.int .i64 n)] 25)).alloc (Obj.cells #[(.int .i64 y'), (.int .i64 n')] 25)) (.int .i64 0) (.int .i64 0) 25)
        have HB14 := Lib.hid (((((Below.refl w.heap.size w).alloc (Nat.le_refl _) (Obj.cells #[(.int .i64 f)] 23)).alloc (by simp) (Obj.cells #[(.int .i64 y), (.int .i64 n)] 25)).alloc (by simp; omega) (Obj.cells #[(.int .i64 y'), (.int .i64 n')] 25)).alloc (by simp; omega) (Obj.cells #[(.int .i64 0), (.int .i64 0)] 25))
        generalize ((((w.alloc (Obj.cells #[(.int .i64 f)] 23)).alloc (Obj.cells #[(.int .i64 y), (.int .i64 n)] 25)).alloc (Obj.cells #[(.int .i64 y'), (.int .i64 n')] 25)).alloc (Obj.cells #[(.int .i64 0), (.int .i64 0)] 25)) = W14 at *
        refine (HR.out _).mono ?_
        rintro e W15 ⟨rfl, hb15⟩
        have HB15 := Lib.hid (HB14.out.trans ((hb15).mono HB14.out.size))
        have P0_15 := Lib.hid (P0_14.out.below (hb15) P0_14.out.lt)
        have P1_15 := Lib.hid (P1_14.out.below (hb15) P1_14.out.lt)
        have P2_15 := Lib.hid (P2_14.out.below (hb15) P2_14.out.lt)
        have P3_15 := Lib.hid (P3_14.out.below (hb15) P3_14.out.lt)
        clear HB14 P0_14 P1_14 P2_14 P3_14 hb15
        have lP0_15 := P0_15.out.lt
        have cP0_15_0 := P0_15.out.c0
        have lP1_15 := P1_15.out.lt
        have cP1_15_0 := P1_15.out.c0
        have cP1_15_1 := P1_15.out.c1
        have lP2_15 := P2_15.out.lt
        have cP2_15_0 := P2_15.out.c0
        have cP2_15_1 := P2_15.out.c1
        have lP3_15 := P3_15.out.lt
        have cP3_15_0 := P3_15.out.c0
        have cP3_15_1 := P3_15.out.c1
        go_wp2_with fail
        clear lP0_15 cP0_15_0 lP1_15 cP1_15_0 cP1_15_1 lP2_15 cP2_15_0 cP2_15_1 lP3_15 cP3_15_0 cP3_15_1
        refine (HE.out _).mono ?_
        rintro e W16 ⟨rfl, hb16⟩
        have HB16 := Lib.hid (HB15.out.trans ((hb16).mono HB15.out.size))
        have P0_16 := Lib.hid (P0_15.out.below (hb16) P0_15.out.lt)
        have P1_16 := Lib.hid (P1_15.out.below (hb16) P1_15.out.lt)
        have P2_16 := Lib.hid (P2_15.out.below (hb16) P2_15.out.lt)
        have P3_16 := Lib.hid (P3_15.out.below (hb16) P3_15.out.lt)
        clear HB15 P0_15 P1_15 P2_15 P3_15 hb16
        have lP0_16 := P0_16.out.lt
        have cP0_16_0 := P0_16.out.c0
        have lP1_16 := P1_16.out.lt
        have cP1_16_0 := P1_16.out.c0
        have cP1_16_1 := P1_16.out.c1
        have lP2_16 := P2_16.out.lt
        have cP2_16_0 := P2_16.out.c0
        have cP2_16_1 := P2_16.out.c1
        have lP3_16 := P3_16.out.lt
        have cP3_16_0 := P3_16.out.c0
        have cP3_16_1 := P3_16.out.c1
        go_wp2_with fail
        clear lP0_16 cP0_16_0 lP1_16 cP1_16_0 cP1_16_1 lP2_16 cP2_16_0 cP2_16_1 lP3_16 cP3_16_0 cP3_16_1
        refine (HF.out _).mono ?_
        rintro e W17 ⟨rfl, hb17⟩
        have HB17 := Lib.hid (HB16.out.trans ((hb17).mono HB16.out.size))
        have P0_17 := Lib.hid (P0_16.out.below (hb17) P0_16.out.lt)
        have P1_17 := Lib.hid (P1_16.out.below (hb17) P1_16.out.lt)
        have P2_17 := Lib.hid (P2_16.out.below (hb17) P2_16.out.lt)
        have P3_17 := Lib.hid (P3_16.out.below (hb17) P3_16.out.lt)
        clear HB16 P0_16 P1_16 P2_16 P3_16 hb17
        have lP0_17 := P0_17.out.lt
        have cP0_17_0 := P0_17.out.c0
        have lP1_17 := P1_17.out.lt
        have cP1_17_0 := P1_17.out.c0
        have cP1_17_1 := P1_17.out.c1
        have lP2_17 := P2_17.out.lt
        have cP2_17_0 := P2_17.out.c0
        have cP2_17_1 := P2_17.out.c1
        have lP3_17 := P3_17.out.lt
        have cP3_17_0 := P3_17.out.c0
        have cP3_17_1 := P3_17.out.c1
        have fP3_17_0 := P3_17.out.f0
        have fP3_17_1 := P3_17.out.f1
        go_wp2
        refine bodyPost_ret (v := .tuple #[.agg #[(.int .i64 y'), (.int .i64 n')], .int .i64 0]) ?_ rfl ⟨rfl, ((HB17.out.setCell (p := ⟨w.heap.size + 3, 0, none⟩) (by simp) (.int .i64 y')).setCell (p := ⟨w.heap.size + 3, 1, none⟩) (by simp) (.int .i64 n'))⟩
        have u0 := ((P3_17.out.set0 (.int .i64 y')).set1 (.int .i64 n')).c0
        have u1 := ((P3_17.out.set0 (.int .i64 y')).set1 (.int .i64 n')).c1
        rw [results_cell_tmp rfl]
        go_simp
      · rw [decide_eq_false hq] at HF
        rw [twoE_no2 hf hq]
        unfold ifOk
        simp only [show ((16 : Int) = 0) = False by decide, if_false]
        clear hf hp hq
        go_enter Tryd.func41, Tryd.ntmps41
        go_wp2_with fail
        have P0_18 := Lib.hid (show Cell1 ((((w.alloc (Obj.cells #[(.int .i64 f)] 23)).alloc (Obj.cells #[(.int .i64 y), (.int .i64 n)] 25)).alloc (Obj.cells #[(.int .i64 y'), (.int .i64 n')] 25)).alloc (Obj.cells #[(.int .i64 0), (.int .i64 0)] 25)) (w.heap.size) (.int .i64 f) from by have q := Cell1.alloc w (.int .i64 f) 23; exact q.below (N := w.heap.size + 1) ((((Below.refl _ _).alloc (by simp <;> omega) (Obj.cells #[(.int .i64 y), (.int .i64 n)] 25)).alloc (by simp <;> omega) (Obj.cells #[(.int .i64 y'), (.int .i64 n')] 25)).alloc (by simp <;> omega) (Obj.cells #[(.int .i64 0), (.int .i64 0)] 25)) (by omega))
        have P1_18 := Lib.hid (show Cell2 ((((w.alloc (Obj.cells #[(.int .i64 f)] 23)).alloc (Obj.cells #[(.int .i64 y), (.int .i64 n)] 25)).alloc (Obj.cells #[(.int .i64 y'), (.int .i64 n')] 25)).alloc (Obj.cells #[(.int .i64 0), (.int .i64 0)] 25)) (w.heap.size + 1) (.int .i64 y) (.int .i64 n) from by have q := Cell2.alloc (w.alloc (Obj.cells #[(.int .i64 f)] 23)) (.int .i64 y) (.int .i64 n) 25; try simp only [World.size_alloc] at q; exact q.below (N := w.heap.size + 1 + 1) (((Below.refl _ _).alloc (by simp <;> omega) (Obj.cells #[(.int .i64 y'), (.int .i64 n')] 25)).alloc (by simp <;> omega) (Obj.cells #[(.int .i64 0), (.int .i64 0)] 25)) (by omega))
        have P2_18 := Lib.hid (show Cell2 ((((w.alloc (Obj.cells #[(.int .i64 f)] 23)).alloc (Obj.cells #[(.int .i64 y), (.int .i64 n)] 25)).alloc (Obj.cells #[(.int .i64 y'), (.int .i64 n')] 25)).alloc (Obj.cells #[(.int .i64 0), (.int .i64 0)] 25)) (w.heap.size + 2) (.int .i64 y') (.int .i64 n') from by have q := Cell2.alloc ((w.alloc (Obj.cells #[(.int .i64 f)] 23)).alloc (Obj.cells #[(.int .i64 y), (.int .i64 n)] 25)) (.int .i64 y') (.int .i64 n') 25; try simp only [World.size_alloc] at q; exact q.below (N := w.heap.size + 2 + 1) ((Below.refl _ _).alloc (by simp <;> omega) (Obj.cells #[(.int .i64 0), (.int .i64 0)] 25)) (by omega))
        have P3_18 := Lib.hid (show Cell2 ((((w.alloc (Obj.cells #[(.int .i64 f)] 23)).alloc (Obj.cells #[(.int .i64 y), (.int .i64 n)] 25)).alloc (Obj.cells #[(.int .i64 y'), (.int .i64 n')] 25)).alloc (Obj.cells #[(.int .i64 0), (.int .i64 0)] 25)) (w.heap.size + 3) (.int .i64 0) (.int .i64 0) from by simpa using Cell2.alloc (((w.alloc (Obj.cells #[(.int .i64 f)] 23)).alloc (Obj.cells #[(.int .i64 y), (.int .i64 n)] 25)).alloc (Obj.cells #[(.int .i64 y'), (.int .i64 n')] 25)) (.int .i64 0) (.int .i64 0) 25)
        have HB18 := Lib.hid (((((Below.refl w.heap.size w).alloc (Nat.le_refl _) (Obj.cells #[(.int .i64 f)] 23)).alloc (by simp) (Obj.cells #[(.int .i64 y), (.int .i64 n)] 25)).alloc (by simp; omega) (Obj.cells #[(.int .i64 y'), (.int .i64 n')] 25)).alloc (by simp; omega) (Obj.cells #[(.int .i64 0), (.int .i64 0)] 25))
        generalize ((((w.alloc (Obj.cells #[(.int .i64 f)] 23)).alloc (Obj.cells #[(.int .i64 y), (.int .i64 n)] 25)).alloc (Obj.cells #[(.int .i64 y'), (.int .i64 n')] 25)).alloc (Obj.cells #[(.int .i64 0), (.int .i64 0)] 25)) = W18 at *
        refine (HR.out _).mono ?_
        rintro e W19 ⟨rfl, hb19⟩
        have HB19 := Lib.hid (HB18.out.trans ((hb19).mono HB18.out.size))
        have P0_19 := Lib.hid (P0_18.out.below (hb19) P0_18.out.lt)
        have P1_19 := Lib.hid (P1_18.out.below (hb19) P1_18.out.lt)
        have P2_19 := Lib.hid (P2_18.out.below (hb19) P2_18.out.lt)
        have P3_19 := Lib.hid (P3_18.out.below (hb19) P3_18.out.lt)
        clear HB18 P0_18 P1_18 P2_18 P3_18 hb19
        have lP0_19 := P0_19.out.lt
        have cP0_19_0 := P0_19.out.c0
        have lP1_19 := P1_19.out.lt
        have cP1_19_0 := P1_19.out.c0
        have cP1_19_1 := P1_19.out.c1
        have lP2_19 := P2_19.out.lt
        have cP2_19_0 := P2_19.out.c0
        have cP2_19_1 := P2_19.out.c1
        have lP3_19 := P3_19.out.lt
        have cP3_19_0 := P3_19.out.c0
        have cP3_19_1 := P3_19.out.c1
        go_wp2_with fail
        clear lP0_19 cP0_19_0 lP1_19 cP1_19_0 cP1_19_1 lP2_19 cP2_19_0 cP2_19_1 lP3_19 cP3_19_0 cP3_19_1
        refine (HE.out _).mono ?_
        rintro e W20 ⟨rfl, hb20⟩
        have HB20 := Lib.hid (HB19.out.trans ((hb20).mono HB19.out.size))
        have P0_20 := Lib.hid (P0_19.out.below (hb20) P0_19.out.lt)
        have P1_20 := Lib.hid (P1_19.out.below (hb20) P1_19.out.lt)
        have P2_20 := Lib.hid (P2_19.out.below (hb20) P2_19.out.lt)
        have P3_20 := Lib.hid (P3_19.out.below (hb20) P3_19.out.lt)
        clear HB19 P0_19 P1_19 P2_19 P3_19 hb20
        have lP0_20 := P0_20.out.lt
        have cP0_20_0 := P0_20.out.c0
        have lP1_20 := P1_20.out.lt
        have cP1_20_0 := P1_20.out.c0
        have cP1_20_1 := P1_20.out.c1
        have lP2_20 := P2_20.out.lt
        have cP2_20_0 := P2_20.out.c0
        have cP2_20_1 := P2_20.out.c1
        have lP3_20 := P3_20.out.lt
        have cP3_20_0 := P3_20.out.c0
        have cP3_20_1 := P3_20.out.c1
        go_wp2_with fail
        clear lP0_20 cP0_20_0 lP1_20 cP1_20_0 cP1_20_1 lP2_20 cP2_20_0 cP2_20_1 lP3_20 cP3_20_0 cP3_20_1
        refine (HF.out _).mono ?_
        rintro e W21 ⟨rfl, hb21⟩
        have HB21 := Lib.hid (HB20.out.trans ((hb21).mono HB20.out.size))
        have P0_21 := Lib.hid (P0_20.out.below (hb21) P0_20.out.lt)
        have P1_21 := Lib.hid (P1_20.out.below (hb21) P1_20.out.lt)
        have P2_21 := Lib.hid (P2_20.out.below (hb21) P2_20.out.lt)
        have P3_21 := Lib.hid (P3_20.out.below (hb21) P3_20.out.lt)
        clear HB20 P0_20 P1_20 P2_20 P3_20 hb21
        have lP0_21 := P0_21.out.lt
        have cP0_21_0 := P0_21.out.c0
        have lP1_21 := P1_21.out.lt
        have cP1_21_0 := P1_21.out.c0
        have cP1_21_1 := P1_21.out.c1
        have lP2_21 := P2_21.out.lt
        have cP2_21_0 := P2_21.out.c0
        have cP2_21_1 := P2_21.out.c1
        have lP3_21 := P3_21.out.lt
        have cP3_21_0 := P3_21.out.c0
        have cP3_21_1 := P3_21.out.c1
        have fP3_21_0 := P3_21.out.f0
        have fP3_21_1 := P3_21.out.f1
        go_wp2
        refine bodyPost_ret (v := .tuple #[.agg #[(.int .i64 0), (.int .i64 0)], .int .i64 16]) ?_ rfl ⟨rfl, ((HB21.out.setCell (p := ⟨w.heap.size + 3, 0, none⟩) (by simp) (.int .i64 0)).setCell (p := ⟨w.heap.size + 3, 1, none⟩) (by simp) (.int .i64 0))⟩
        have u0 := ((P3_21.out.set0 (.int .i64 0)).set1 (.int .i64 0)).c0
        have u1 := ((P3_21.out.set0 (.int .i64 0)).set1 (.int .i64 0)).c1
        rw [results_cell_tmp rfl]
        go_simp
    · rw [decide_eq_false hp] at HE
      rw [twoE_no1 hf hp]
      unfold ifOk
      simp only [show ((16 : Int) = 0) = False by decide, if_false]
      clear hf hp HF
      go_enter Tryd.func41, Tryd.ntmps41
      go_wp2_with fail
      have P0_22 := Lib.hid (show Cell1 ((((w.alloc (Obj.cells #[(.int .i64 f)] 23)).alloc (Obj.cells #[(.int .i64 y), (.int .i64 n)] 25)).alloc (Obj.cells #[(.int .i64 y'), (.int .i64 n')] 25)).alloc (Obj.cells #[(.int .i64 0), (.int .i64 0)] 25)) (w.heap.size) (.int .i64 f) from by have q := Cell1.alloc w (.int .i64 f) 23; exact q.below (N := w.heap.size + 1) ((((Below.refl _ _).alloc (by simp <;> omega) (Obj.cells #[(.int .i64 y), (.int .i64 n)] 25)).alloc (by simp <;> omega) (Obj.cells #[(.int .i64 y'), (.int .i64 n')] 25)).alloc (by simp <;> omega) (Obj.cells #[(.int .i64 0), (.int .i64 0)] 25)) (by omega))
      have P1_22 := Lib.hid (show Cell2 ((((w.alloc (Obj.cells #[(.int .i64 f)] 23)).alloc (Obj.cells #[(.int .i64 y), (.int .i64 n)] 25)).alloc (Obj.cells #[(.int .i64 y'), (.int .i64 n')] 25)).alloc (Obj.cells #[(.int .i64 0), (.int .i64 0)] 25)) (w.heap.size + 1) (.int .i64 y) (.int .i64 n) from by have q := Cell2.alloc (w.alloc (Obj.cells #[(.int .i64 f)] 23)) (.int .i64 y) (.int .i64 n) 25; try simp only [World.size_alloc] at q; exact q.below (N := w.heap.size + 1 + 1) (((Below.refl _ _).alloc (by simp <;> omega) (Obj.cells #[(.int .i64 y'), (.int .i64 n')] 25)).alloc (by simp <;> omega) (Obj.cells #[(.int .i64 0), (.int .i64 0)] 25)) (by omega))
      have P2_22 := Lib.hid (show Cell2 ((((w.alloc (Obj.cells #[(.int .i64 f)] 23)).alloc (Obj.cells #[(.int .i64 y), (.int .i64 n)] 25)).alloc (Obj.cells #[(.int .i64 y'), (.int .i64 n')] 25)).alloc (Obj.cells #[(.int .i64 0), (.int .i64 0)] 25)) (w.heap.size + 2) (.int .i64 y') (.int .i64 n') from by have q := Cell2.alloc ((w.alloc (Obj.cells #[(.int .i64 f)] 23)).alloc (Obj.cells #[(.int .i64 y), (.int .i64 n)] 25)) (.int .i64 y') (.int .i64 n') 25; try simp only [World.size_alloc] at q; exact q.below (N := w.heap.size + 2 + 1) ((Below.refl _ _).alloc (by simp <;> omega) (Obj.cells #[(.int .i64 0), (.int .i64 0)] 25)) (by omega))
      have P3_22 := Lib.hid (show Cell2 ((((w.alloc (Obj.cells #[(.int .i64 f)] 23)).alloc (Obj.cells #[(.int .i64 y), (.int .i64 n)] 25)).alloc (Obj.cells #[(.int .i64 y'), (.int .i64 n')] 25)).alloc (Obj.cells #[(.int .i64 0), (.int .i64 0)] 25)) (w.heap.size + 3) (.int .i64 0) (.int .i64 0) from by simpa using Cell2.alloc (((w.alloc (Obj.cells #[(.int .i64 f)] 23)).alloc (Obj.cells #[(.int .i64 y), (.int .i64 n)] 25)).alloc (Obj.cells #[(.int .i64 y'), (.int .i64 n')] 25)) (.int .i64 0) (.int .i64 0) 25)
      have HB22 := Lib.hid (((((Below.refl w.heap.size w).alloc (Nat.le_refl _) (Obj.cells #[(.int .i64 f)] 23)).alloc (by simp) (Obj.cells #[(.int .i64 y), (.int .i64 n)] 25)).alloc (by simp; omega) (Obj.cells #[(.int .i64 y'), (.int .i64 n')] 25)).alloc (by simp; omega) (Obj.cells #[(.int .i64 0), (.int .i64 0)] 25))
      generalize ((((w.alloc (Obj.cells #[(.int .i64 f)] 23)).alloc (Obj.cells #[(.int .i64 y), (.int .i64 n)] 25)).alloc (Obj.cells #[(.int .i64 y'), (.int .i64 n')] 25)).alloc (Obj.cells #[(.int .i64 0), (.int .i64 0)] 25)) = W22 at *
      refine (HR.out _).mono ?_
      rintro e W23 ⟨rfl, hb23⟩
      have HB23 := Lib.hid (HB22.out.trans ((hb23).mono HB22.out.size))
      have P0_23 := Lib.hid (P0_22.out.below (hb23) P0_22.out.lt)
      have P1_23 := Lib.hid (P1_22.out.below (hb23) P1_22.out.lt)
      have P2_23 := Lib.hid (P2_22.out.below (hb23) P2_22.out.lt)
      have P3_23 := Lib.hid (P3_22.out.below (hb23) P3_22.out.lt)
      clear HB22 P0_22 P1_22 P2_22 P3_22 hb23
      have lP0_23 := P0_23.out.lt
      have cP0_23_0 := P0_23.out.c0
      have lP1_23 := P1_23.out.lt
      have cP1_23_0 := P1_23.out.c0
      have cP1_23_1 := P1_23.out.c1
      have lP2_23 := P2_23.out.lt
      have cP2_23_0 := P2_23.out.c0
      have cP2_23_1 := P2_23.out.c1
      have lP3_23 := P3_23.out.lt
      have cP3_23_0 := P3_23.out.c0
      have cP3_23_1 := P3_23.out.c1
      go_wp2_with fail
      clear lP0_23 cP0_23_0 lP1_23 cP1_23_0 cP1_23_1 lP2_23 cP2_23_0 cP2_23_1 lP3_23 cP3_23_0 cP3_23_1
      refine (HE.out _).mono ?_
      rintro e W24 ⟨rfl, hb24⟩
      have HB24 := Lib.hid (HB23.out.trans ((hb24).mono HB23.out.size))
      have P0_24 := Lib.hid (P0_23.out.below (hb24) P0_23.out.lt)
      have P1_24 := Lib.hid (P1_23.out.below (hb24) P1_23.out.lt)
      have P2_24 := Lib.hid (P2_23.out.below (hb24) P2_23.out.lt)
      have P3_24 := Lib.hid (P3_23.out.below (hb24) P3_23.out.lt)
      clear HB23 P0_23 P1_23 P2_23 P3_23 hb24
      have lP0_24 := P0_24.out.lt
      have cP0_24_0 := P0_24.out.c0
      have lP1_24 := P1_24.out.lt
      have cP1_24_0 := P1_24.out.c0
      have cP1_24_1 := P1_24.out.c1
      have lP2_24 := P2_24.out.lt
      have cP2_24_0 := P2_24.out.c0
      have cP2_24_1 := P2_24.out.c1
      have lP3_24 := P3_24.out.lt
      have cP3_24_0 := P3_24.out.c0
      have cP3_24_1 := P3_24.out.c1
      have fP3_24_0 := P3_24.out.f0
      have fP3_24_1 := P3_24.out.f1
      go_wp2
      refine bodyPost_ret (v := .tuple #[.agg #[(.int .i64 0), (.int .i64 0)], .int .i64 16]) ?_ rfl ⟨rfl, ((HB24.out.setCell (p := ⟨w.heap.size + 3, 0, none⟩) (by simp) (.int .i64 0)).setCell (p := ⟨w.heap.size + 3, 1, none⟩) (by simp) (.int .i64 0))⟩
      have u0 := ((P3_24.out.set0 (.int .i64 0)).set1 (.int .i64 0)).c0
      have u1 := ((P3_24.out.set0 (.int .i64 0)).set1 (.int .i64 0)).c1
      rw [results_cell_tmp rfl]
      go_simp
  · rw [decide_eq_false hf] at HR
    rw [twoE_cal hf]
    unfold ifOk
    simp only [show ((2 : Int) = 0) = False by decide, if_false]
    clear hf
    go_enter Tryd.func41, Tryd.ntmps41
    go_wp2_with fail
    have P0_25 := Lib.hid (show Cell1 ((((w.alloc (Obj.cells #[(.int .i64 f)] 23)).alloc (Obj.cells #[(.int .i64 y), (.int .i64 n)] 25)).alloc (Obj.cells #[(.int .i64 y'), (.int .i64 n')] 25)).alloc (Obj.cells #[(.int .i64 0), (.int .i64 0)] 25)) (w.heap.size) (.int .i64 f) from by have q := Cell1.alloc w (.int .i64 f) 23; exact q.below (N := w.heap.size + 1) ((((Below.refl _ _).alloc (by simp <;> omega) (Obj.cells #[(.int .i64 y), (.int .i64 n)] 25)).alloc (by simp <;> omega) (Obj.cells #[(.int .i64 y'), (.int .i64 n')] 25)).alloc (by simp <;> omega) (Obj.cells #[(.int .i64 0), (.int .i64 0)] 25)) (by omega))
    have P1_25 := Lib.hid (show Cell2 ((((w.alloc (Obj.cells #[(.int .i64 f)] 23)).alloc (Obj.cells #[(.int .i64 y), (.int .i64 n)] 25)).alloc (Obj.cells #[(.int .i64 y'), (.int .i64 n')] 25)).alloc (Obj.cells #[(.int .i64 0), (.int .i64 0)] 25)) (w.heap.size + 1) (.int .i64 y) (.int .i64 n) from by have q := Cell2.alloc (w.alloc (Obj.cells #[(.int .i64 f)] 23)) (.int .i64 y) (.int .i64 n) 25; try simp only [World.size_alloc] at q; exact q.below (N := w.heap.size + 1 + 1) (((Below.refl _ _).alloc (by simp <;> omega) (Obj.cells #[(.int .i64 y'), (.int .i64 n')] 25)).alloc (by simp <;> omega) (Obj.cells #[(.int .i64 0), (.int .i64 0)] 25)) (by omega))
    have P2_25 := Lib.hid (show Cell2 ((((w.alloc (Obj.cells #[(.int .i64 f)] 23)).alloc (Obj.cells #[(.int .i64 y), (.int .i64 n)] 25)).alloc (Obj.cells #[(.int .i64 y'), (.int .i64 n')] 25)).alloc (Obj.cells #[(.int .i64 0), (.int .i64 0)] 25)) (w.heap.size + 2) (.int .i64 y') (.int .i64 n') from by have q := Cell2.alloc ((w.alloc (Obj.cells #[(.int .i64 f)] 23)).alloc (Obj.cells #[(.int .i64 y), (.int .i64 n)] 25)) (.int .i64 y') (.int .i64 n') 25; try simp only [World.size_alloc] at q; exact q.below (N := w.heap.size + 2 + 1) ((Below.refl _ _).alloc (by simp <;> omega) (Obj.cells #[(.int .i64 0), (.int .i64 0)] 25)) (by omega))
    have P3_25 := Lib.hid (show Cell2 ((((w.alloc (Obj.cells #[(.int .i64 f)] 23)).alloc (Obj.cells #[(.int .i64 y), (.int .i64 n)] 25)).alloc (Obj.cells #[(.int .i64 y'), (.int .i64 n')] 25)).alloc (Obj.cells #[(.int .i64 0), (.int .i64 0)] 25)) (w.heap.size + 3) (.int .i64 0) (.int .i64 0) from by simpa using Cell2.alloc (((w.alloc (Obj.cells #[(.int .i64 f)] 23)).alloc (Obj.cells #[(.int .i64 y), (.int .i64 n)] 25)).alloc (Obj.cells #[(.int .i64 y'), (.int .i64 n')] 25)) (.int .i64 0) (.int .i64 0) 25)
    have HB25 := Lib.hid (((((Below.refl w.heap.size w).alloc (Nat.le_refl _) (Obj.cells #[(.int .i64 f)] 23)).alloc (by simp) (Obj.cells #[(.int .i64 y), (.int .i64 n)] 25)).alloc (by simp; omega) (Obj.cells #[(.int .i64 y'), (.int .i64 n')] 25)).alloc (by simp; omega) (Obj.cells #[(.int .i64 0), (.int .i64 0)] 25))
    generalize ((((w.alloc (Obj.cells #[(.int .i64 f)] 23)).alloc (Obj.cells #[(.int .i64 y), (.int .i64 n)] 25)).alloc (Obj.cells #[(.int .i64 y'), (.int .i64 n')] 25)).alloc (Obj.cells #[(.int .i64 0), (.int .i64 0)] 25)) = W25 at *
    refine (HR.out _).mono ?_
    rintro e W26 ⟨rfl, hb26⟩
    have HB26 := Lib.hid (HB25.out.trans ((hb26).mono HB25.out.size))
    have P0_26 := Lib.hid (P0_25.out.below (hb26) P0_25.out.lt)
    have P1_26 := Lib.hid (P1_25.out.below (hb26) P1_25.out.lt)
    have P2_26 := Lib.hid (P2_25.out.below (hb26) P2_25.out.lt)
    have P3_26 := Lib.hid (P3_25.out.below (hb26) P3_25.out.lt)
    clear HB25 P0_25 P1_25 P2_25 P3_25 hb26
    have lP0_26 := P0_26.out.lt
    have cP0_26_0 := P0_26.out.c0
    have lP1_26 := P1_26.out.lt
    have cP1_26_0 := P1_26.out.c0
    have cP1_26_1 := P1_26.out.c1
    have lP2_26 := P2_26.out.lt
    have cP2_26_0 := P2_26.out.c0
    have cP2_26_1 := P2_26.out.c1
    have lP3_26 := P3_26.out.lt
    have cP3_26_0 := P3_26.out.c0
    have cP3_26_1 := P3_26.out.c1
    have fP3_26_0 := P3_26.out.f0
    have fP3_26_1 := P3_26.out.f1
    go_wp2
    refine bodyPost_ret (v := .tuple #[.agg #[(.int .i64 0), (.int .i64 0)], .int .i64 2]) ?_ rfl ⟨rfl, ((HB26.out.setCell (p := ⟨w.heap.size + 3, 0, none⟩) (by simp) (.int .i64 0)).setCell (p := ⟨w.heap.size + 3, 1, none⟩) (by simp) (.int .i64 0))⟩
    have u0 := ((P3_26.out.set0 (.int .i64 0)).set1 (.int .i64 0)).c0
    have u1 := ((P3_26.out.set0 (.int .i64 0)).set1 (.int .i64 0)).c1
    rw [results_cell_tmp rfl]
    go_simp
end Go.Proofs.YtaibjmdfkahjjaaDoor
