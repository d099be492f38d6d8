/- What check of package fiscal returns for one period and for two. -/
import Derived.Test.YtaibjmdfkahjjaaDoorFsA
namespace Go.Proofs.YtaibjmdfkahjjaaDoor
open Go.RowKit Go.Sort
set_option linter.unusedVariables false

theorem per_dec {f y n : Int} (h : calO f) : perO f y n ↔ yrO f y ∧ 1 ≤ n ∧ n ≤ 13 := by
  unfold perO; constructor
  · rintro ⟨h1, h2, h3⟩; exact ⟨h3, h1, h2⟩
  · rintro ⟨h3, h1, h2⟩; exact ⟨h1, h2, h3⟩

set_option maxHeartbeats 1000000 in
theorem check1_any (f y n : Int) (A : Nat) (w : World) (ht : Tab w) (hA : Cell2 w A (.int .i64 y) (.int .i64 n)) (y1 : -9223372036854775808 ≤ y) (y2 : y ≤ 9223372036854775807) :
    Calls Tryd.prog 32 #[.agg #[.int .i64 f], .slice (some ⟨A, 0, none⟩) 1 1] w fun e w' => e = .returned (.int .i64 (spaE f y n)) ∧ Below w.heap.size w w' := by
  have HR := Lib.hid (fun w => fRight_any f w)
  have L := Lib.hid hA
  clear hA
  by_cases hf : calO f
  · rw [decide_eq_true hf] at HR
    have HY := Lib.hid (fun w ht => fYearStart_any f y w ht hf y1 y2)
    have HN := Lib.hid (fun w => isNumber_any n w)
    by_cases hy : yrO f y
    · rw [decide_eq_true hy] at HY
      by_cases hn : 1 ≤ n ∧ n ≤ 13
      · rw [decide_eq_true hn] at HN
        rw [(spa_yes hf ((per_dec hf).2 ⟨hy, hn⟩)).2.2]
        clear hf hy hn
        generalize ysV f y = Y at *
        go_enter Tryd.func32, Tryd.ntmps32
        go_wp2_with fail
        have P0_1 := Lib.hid (show Cell1 (w.alloc (Obj.cells #[(.int .i64 f)] 23)) (w.heap.size) (.int .i64 f) from by simpa using Cell1.alloc w (.int .i64 f) 23)
        have HB1 := Lib.hid ((Below.refl w.heap.size w).alloc (Nat.le_refl _) (Obj.cells #[(.int .i64 f)] 23))
        have L_1 := Lib.hid (L.out.below HB1.out L.out.lt)
        generalize (w.alloc (Obj.cells #[(.int .i64 f)] 23)) = W1 at *
        refine (HR.out _).mono ?_
        rintro e W2 ⟨rfl, hb2⟩
        have HB2 := Lib.hid (HB1.out.trans ((hb2).mono HB1.out.size))
        have L_2 := Lib.hid (L_1.out.below (hb2) L_1.out.lt)
        have P0_2 := Lib.hid (P0_1.out.below (hb2) P0_1.out.lt)
        clear HB1 L_1 P0_1 hb2
        have lL_2 := L_2.out.lt
        have cL_2_0 := L_2.out.c0
        have cL_2_1 := L_2.out.c1
        have lP0_2 := P0_2.out.lt
        have cP0_2_0 := P0_2.out.c0
        go_wp2_with fail
        refine wp_loop_rounds 2 ?_
        rw [rounds_succ]
        go_wp2_with fail
        clear lL_2 cL_2_0 cL_2_1 lP0_2 cP0_2_0
        have E_3 := Lib.hid (Cell2.alloc W2 (.int .i64 y) (.int .i64 n) 25)
        have HB3 := Lib.hid (HB2.out.trans (((Below.refl W2.heap.size W2).alloc (Nat.le_refl _) (Obj.cells #[(.int .i64 y), (.int .i64 n)] 25)).mono HB2.out.size))
        have L_3 := Lib.hid (L_2.out.below ((Below.refl W2.heap.size W2).alloc (Nat.le_refl _) (Obj.cells #[(.int .i64 y), (.int .i64 n)] 25)) L_2.out.lt)
        have P0_3 := Lib.hid (P0_2.out.below ((Below.refl W2.heap.size W2).alloc (Nat.le_refl _) (Obj.cells #[(.int .i64 y), (.int .i64 n)] 25)) P0_2.out.lt)
        clear HB2 L_2 P0_2
        generalize W2.alloc (Obj.cells #[(.int .i64 y), (.int .i64 n)] 25) = W3 at *
        refine (HY.out _ (ht.below HB3.out)).mono ?_
        rintro e W4 ⟨rfl, hb4⟩
        have HB4 := Lib.hid (HB3.out.trans ((hb4).mono HB3.out.size))
        have L_4 := Lib.hid (L_3.out.below (hb4) L_3.out.lt)
        have P0_4 := Lib.hid (P0_3.out.below (hb4) P0_3.out.lt)
        have E_4 := Lib.hid (E_3.out.below (hb4) E_3.out.lt)
        clear HB3 L_3 P0_3 E_3 hb4
        have lL_4 := L_4.out.lt
        have cL_4_0 := L_4.out.c0
        have cL_4_1 := L_4.out.c1
        have lP0_4 := P0_4.out.lt
        have cP0_4_0 := P0_4.out.c0
        have lE_4 := E_4.out.lt
        have cE_4_0 := E_4.out.c0
        have cE_4_1 := E_4.out.c1
        go_wp2_with fail
        clear lL_4 cL_4_0 cL_4_1 lP0_4 cP0_4_0 lE_4 cE_4_0 cE_4_1
        refine (HN.out _).mono ?_
        rintro e w_ ⟨rfl, rfl⟩
        go_wp2
        rw [rounds_succ]
        go_wp2
        go_ret
        exact ⟨rfl, HB4.out⟩
      · rw [decide_eq_false hn] at HN
        rw [(spa_no hf (fun x => hn ((per_dec hf).1 x).2)).2.2]
        clear hf hy hn
        generalize ysV f y = Y at *
        go_enter Tryd.func32, Tryd.ntmps32
        go_wp2_with fail
        have P0_5 := Lib.hid (show Cell1 (w.alloc (Obj.cells #[(.int .i64 f)] 23)) (w.heap.size) (.int .i64 f) from by simpa using Cell1.alloc w (.int .i64 f) 23)
        have HB5 := Lib.hid ((Below.refl w.heap.size w).alloc (Nat.le_refl _) (Obj.cells #[(.int .i64 f)] 23))
        have L_5 := Lib.hid (L.out.below HB5.out L.out.lt)
        generalize (w.alloc (Obj.cells #[(.int .i64 f)] 23)) = W5 at *
        refine (HR.out _).mono ?_
        rintro e W6 ⟨rfl, hb6⟩
        have HB6 := Lib.hid (HB5.out.trans ((hb6).mono HB5.out.size))
        have L_6 := Lib.hid (L_5.out.below (hb6) L_5.out.lt)
        have P0_6 := Lib.hid (P0_5.out.below (hb6) P0_5.out.lt)
        clear HB5 L_5 P0_5 hb6
        have lL_6 := L_6.out.lt
        have cL_6_0 := L_6.out.c0
        have cL_6_1 := L_6.out.c1
        have lP0_6 := P0_6.out.lt
        have cP0_6_0 := P0_6.out.c0
        go_wp2_with fail
        refine wp_loop_rounds 2 ?_
        rw [rounds_succ]
        go_wp2_with fail
        clear lL_6 cL_6_0 cL_6_1 lP0_6 cP0_6_0
        have E_7 := Lib.hid (Cell2.alloc W6 (.int .i64 y) (.int .i64 n) 25)
        have HB7 := Lib.hid (HB6.out.trans (((Below.refl W6.heap.size W6).alloc (Nat.le_refl _) (Obj.cells #[(.int .i64 y), (.int .i64 n)] 25)).mono HB6.out.size))
        have L_7 := Lib.hid (L_6.out.below ((Below.refl W6.heap.size W6).alloc (Nat.le_refl _) (Obj.cells #[(.int .i64 y), (.int .i64 n)] 25)) L_6.out.lt)
        have P0_7 := Lib.hid (P0_6.out.below ((Below.refl W6.heap.size W6).alloc (Nat.le_refl _) (Obj.cells #[(.int .i64 y), (.int .i64 n)] 25)) P0_6.out.lt)
        clear HB6 L_6 P0_6
        generalize W6.alloc (Obj.cells #[(.int .i64 y), (.int .i64 n)] 25) = W7 at *
        refine (HY.out _ (ht.below HB7.out)).mono ?_
        rintro e W8 ⟨rfl, hb8⟩
        have HB8 := Lib.hid (HB7.out.trans ((hb8).mono HB7.out.size))
        have L_8 := Lib.hid (L_7.out.below (hb8) L_7.out.lt)
        have P0_8 := Lib.hid (P0_7.out.below (hb8) P0_7.out.lt)
        have E_8 := Lib.hid (E_7.out.below (hb8) E_7.out.lt)
        clear HB7 L_7 P0_7 E_7 hb8
        have lL_8 := L_8.out.lt
        have cL_8_0 := L_8.out.c0
        have cL_8_1 := L_8.out.c1
        have lP0_8 := P0_8.out.lt
        have cP0_8_0 := P0_8.out.c0
        have lE_8 := E_8.out.lt
        have cE_8_0 := E_8.out.c0
        have cE_8_1 := E_8.out.c1
        go_wp2_with fail
        clear lL_8 cL_8_0 cL_8_1 lP0_8 cP0_8_0 lE_8 cE_8_0 cE_8_1
        refine (HN.out _).mono ?_
        rintro e w_ ⟨rfl, rfl⟩
        go_wp2
        go_ret
        exact ⟨rfl, HB8.out⟩
    · rw [decide_eq_false hy] at HY
      rw [(spa_no hf (fun x => hy ((per_dec hf).1 x).1)).2.2]
      clear hf hy
      generalize ysV f y = Y at *
      go_enter Tryd.func32, Tryd.ntmps32
      go_wp2_with fail
      have P0_9 := Lib.hid (show Cell1 (w.alloc (Obj.cells #[(.int .i64 f)] 23)) (w.heap.size) (.int .i64 f) from by simpa using Cell1.alloc w (.int .i64 f) 23)
      have HB9 := Lib.hid ((Below.refl w.heap.size w).alloc (Nat.le_refl _) (Obj.cells #[(.int .i64 f)] 23))
      have L_9 := Lib.hid (L.out.below HB9.out L.out.lt)
      generalize (w.alloc (Obj.cells #[(.int .i64 f)] 23)) = W9 at *
      refine (HR.out _).mono ?_
      rintro e W10 ⟨rfl, hb10⟩
      have HB10 := Lib.hid (HB9.out.trans ((hb10).mono HB9.out.size))
      have L_10 := Lib.hid (L_9.out.below (hb10) L_9.out.lt)
      have P0_10 := Lib.hid (P0_9.out.below (hb10) P0_9.out.lt)
      clear HB9 L_9 P0_9 hb10
      have lL_10 := L_10.out.lt
      have cL_10_0 := L_10.out.c0
      have cL_10_1 := L_10.out.c1
      have lP0_10 := P0_10.out.lt
      have cP0_10_0 := P0_10.out.c0
      go_wp2_with fail
      refine wp_loop_rounds 2 ?_
      rw [rounds_succ]
      go_wp2_with fail
      clear lL_10 cL_10_0 cL_10_1 lP0_10 cP0_10_0
      have E_11 := Lib.hid (Cell2.alloc W10 (.int .i64 y) (.int .i64 n) 25)
      have HB11 := Lib.hid (HB10.out.trans (((Below.refl W10.heap.size W10).alloc (Nat.le_refl _) (Obj.cells #[(.int .i64 y), (.int .i64 n)] 25)).mono HB10.out.size))
      have L_11 := Lib.hid (L_10.out.below ((Below.refl W10.heap.size W10).alloc (Nat.le_refl _) (Obj.cells #[(.int .i64 y), (.int .i64 n)] 25)) L_10.out.lt)
      have P0_11 := Lib.hid (P0_10.out.below ((Below.refl W10.heap.size W10).alloc (Nat.le_refl _) (Obj.cells #[(.int .i64 y), (.int .i64 n)] 25)) P0_10.out.lt)
      clear HB10 L_10 P0_10
      generalize W10.alloc (Obj.cells #[(.int .i64 y), (.int .i64 n)] 25) = W11 at *
      refine (HY.out _ (ht.below HB11.out)).mono ?_
      rintro e W12 ⟨rfl, hb12⟩
      have HB12 := Lib.hid (HB11.out.trans ((hb12).mono HB11.out.size))
      have L_12 := Lib.hid (L_11.out.below (hb12) L_11.out.lt)
      have P0_12 := Lib.hid (P0_11.out.below (hb12) P0_11.out.lt)
      have E_12 := Lib.hid (E_11.out.below (hb12) E_11.out.lt)
      clear HB11 L_11 P0_11 E_11 hb12
      have lL_12 := L_12.out.lt
      have cL_12_0 := L_12.out.c0
      have cL_12_1 := L_12.out.c1
      have lP0_12 := P0_12.out.lt
      have cP0_12_0 := P0_12.out.c0
      have lE_12 := E_12.out.lt
      have cE_12_0 := E_12.out.c0
      have cE_12_1 := E_12.out.c1
      go_wp2
      go_ret
      exact ⟨rfl, HB12.out⟩
  · rw [decide_eq_false hf] at HR
    rw [(spa_cal hf).2.2]
    clear hf
    go_enter Tryd.func32, Tryd.ntmps32
    go_wp2_with fail
    have P0_13 := Lib.hid (show Cell1 (w.alloc (Obj.cells #[(.int .i64 f)] 23)) (w.heap.size) (.int .i64 f) from by simpa using Cell1.alloc w (.int .i64 f) 23)
    have HB13 := Lib.hid ((Below.refl w.heap.size w).alloc (Nat.le_refl _) (Obj.cells #[(.int .i64 f)] 23))
    generalize (w.alloc (Obj.cells #[(.int .i64 f)] 23)) = W13 at *
    refine (HR.out _).mono ?_
    rintro e W14 ⟨rfl, hb14⟩
    have HB14 := Lib.hid (HB13.out.trans ((hb14).mono HB13.out.size))
    have P0_14 := Lib.hid (P0_13.out.below (hb14) P0_13.out.lt)
    clear HB13 P0_13 hb14
    go_wp2
    go_ret
    exact ⟨rfl, HB14.out⟩

set_option maxHeartbeats 2000000 in
theorem check2_any (f y n y' n' : Int) (A : Nat) (w : World) (ht : Tab w) (hA : Cell4 w A (.int .i64 y) (.int .i64 n) (.int .i64 y') (.int .i64 n')) (y1 : -9223372036854775808 ≤ y) (y2 : y ≤ 9223372036854775807) (z1 : -9223372036854775808 ≤ y') (z2 : y' ≤ 9223372036854775807) :
    Calls Tryd.prog 32 #[.agg #[.int .i64 f], .slice (some ⟨A, 0, none⟩) 2 2] w fun e w' => e = .returned (.int .i64 (twoE f y n y' n')) ∧ Below w.heap.size w w' := by
  have HR := Lib.hid (fun w => fRight_any f w)
  have L := Lib.hid hA
  clear hA
  by_cases hf : calO f
  · rw [decide_eq_true hf] at HR
    have HY := Lib.hid (fun w ht => fYearStart_any f y w ht hf y1 y2)
    have HN := Lib.hid (fun w => isNumber_any n w)
    have GY := Lib.hid (fun w ht => fYearStart_any f y' w ht hf z1 z2)
    have GN := Lib.hid (fun w => isNumber_any n' w)
    by_cases hy : yrO f y
    · rw [decide_eq_true hy] at HY
      by_cases hn : 1 ≤ n ∧ n ≤ 13
      · rw [decide_eq_true hn] at HN
        have hp := (per_dec hf).2 ⟨hy, hn⟩
        by_cases hy' : yrO f y'
        · rw [decide_eq_true hy'] at GY
          by_cases hn' : 1 ≤ n' ∧ n' ≤ 13
          · rw [decide_eq_true hn'] at GN
            rw [twoE_yes hf hp ((per_dec hf).2 ⟨hy', hn'⟩)]
            clear hf hy hn hy' hn' hp
            generalize ysV f y = Y at *
            generalize ysV f y' = Y' at *
            go_enter Tryd.func32, Tryd.ntmps32
            go_wp2_with fail
            have P0_15 := Lib.hid (show Cell1 (w.alloc (Obj.cells #[(.int .i64 f)] 23)) (w.heap.size) (.int .i64 f) from by simpa using Cell1.alloc w (.int .i64 f) 23)
            have HB15 := Lib.hid ((Below.refl w.heap.size w).alloc (Nat.le_refl _) (Obj.cells #[(.int .i64 f)] 23))
            have L_15 := Lib.hid (L.out.below HB15.out L.out.lt)
            generalize (w.alloc (Obj.cells #[(.int .i64 f)] 23)) = W15 at *
            refine (HR.out _).mono ?_
            rintro e W16 ⟨rfl, hb16⟩
            have HB16 := Lib.hid (HB15.out.trans ((hb16).mono HB15.out.size))
            have L_16 := Lib.hid (L_15.out.below (hb16) L_15.out.lt)
            have P0_16 := Lib.hid (P0_15.out.below (hb16) P0_15.out.lt)
            clear HB15 L_15 P0_15 hb16
            have lL_16 := L_16.out.lt
            have cL_16_0 := L_16.out.c0
            have cL_16_1 := L_16.out.c1
            have cL_16_2 := L_16.out.c2
            have cL_16_3 := L_16.out.c3
            have lP0_16 := P0_16.out.lt
            have cP0_16_0 := P0_16.out.c0
            go_wp2_with fail
            refine wp_loop_rounds 3 ?_
            rw [rounds_succ]
            go_wp2_with fail
            clear lL_16 cL_16_0 cL_16_1 cL_16_2 cL_16_3 lP0_16 cP0_16_0
            have E0_17 := Lib.hid (Cell2.alloc W16 (.int .i64 y) (.int .i64 n) 25)
            have HB17 := Lib.hid (HB16.out.trans (((Below.refl W16.heap.size W16).alloc (Nat.le_refl _) (Obj.cells #[(.int .i64 y), (.int .i64 n)] 25)).mono HB16.out.size))
            have L_17 := Lib.hid (L_16.out.below ((Below.refl W16.heap.size W16).alloc (Nat.le_refl _) (Obj.cells #[(.int .i64 y), (.int .i64 n)] 25)) L_16.out.lt)
            have P0_17 := Lib.hid (P0_16.out.below ((Below.refl W16.heap.size W16).alloc (Nat.le_refl _) (Obj.cells #[(.int .i64 y), (.int .i64 n)] 25)) P0_16.out.lt)
            clear HB16 L_16 P0_16
            generalize W16.alloc (Obj.cells #[(.int .i64 y), (.int .i64 n)] 25) = W17 at *
            refine (HY.out _ (ht.below HB17.out)).mono ?_
            rintro e W18 ⟨rfl, hb18⟩
            have HB18 := Lib.hid (HB17.out.trans ((hb18).mono HB17.out.size))
            have L_18 := Lib.hid (L_17.out.below (hb18) L_17.out.lt)
            have P0_18 := Lib.hid (P0_17.out.below (hb18) P0_17.out.lt)
            have E0_18 := Lib.hid (E0_17.out.below (hb18) E0_17.out.lt)
            clear HB17 L_17 P0_17 E0_17 hb18
            have lL_18 := L_18.out.lt
            have cL_18_0 := L_18.out.c0
            have cL_18_1 := L_18.out.c1
            have cL_18_2 := L_18.out.c2
            have cL_18_3 := L_18.out.c3
            have lP0_18 := P0_18.out.lt
            have cP0_18_0 := P0_18.out.c0
            have lE0_18 := E0_18.out.lt
            have cE0_18_0 := E0_18.out.c0
            have cE0_18_1 := E0_18.out.c1
            go_wp2_with fail
            clear lL_18 cL_18_0 cL_18_1 cL_18_2 cL_18_3 lP0_18 cP0_18_0 lE0_18 cE0_18_0 cE0_18_1
            refine (HN.out _).mono ?_
            rintro e w_ ⟨rfl, rfl⟩
            have lL_18 := L_18.out.lt
            have cL_18_0 := L_18.out.c0
            have cL_18_1 := L_18.out.c1
            have cL_18_2 := L_18.out.c2
            have cL_18_3 := L_18.out.c3
            have lP0_18 := P0_18.out.lt
            have cP0_18_0 := P0_18.out.c0
            have lE0_18 := E0_18.out.lt
            have cE0_18_0 := E0_18.out.c0
            have cE0_18_1 := E0_18.out.c1
            go_wp2_with fail
            rw [rounds_succ]
            go_wp2_with fail
            clear lL_18 cL_18_0 cL_18_1 cL_18_2 cL_18_3 lP0_18 cP0_18_0 lE0_18 cE0_18_0 cE0_18_1
            have E1_19 := Lib.hid (Cell2.alloc W18 (.int .i64 y') (.int .i64 n') 25)
            have HB19 := Lib.hid (HB18.out.trans (((Below.refl W18.heap.size W18).alloc (Nat.le_refl _) (Obj.cells #[(.int .i64 y'), (.int .i64 n')] 25)).mono HB18.out.size))
            have L_19 := Lib.hid (L_18.out.below ((Below.refl W18.heap.size W18).alloc (Nat.le_refl _) (Obj.cells #[(.int .i64 y'), (.int .i64 n')] 25)) L_18.out.lt)
            have P0_19 := Lib.hid (P0_18.out.below ((Below.refl W18.heap.size W18).alloc (Nat.le_refl _) (Obj.cells #[(.int .i64 y'), (.int .i64 n')] 25)) P0_18.out.lt)
            have E0_19 := Lib.hid (E0_18.out.below ((Below.refl W18.heap.size W18).alloc (Nat.le_refl _) (Obj.cells #[(.int .i64 y'), (.int .i64 n')] 25)) E0_18.out.lt)
            clear HB18 L_18 P0_18 E0_18
            generalize W18.alloc (Obj.cells #[(.int .i64 y'), (.int .i64 n')] 25) = W19 at *
            refine (GY.out _ (ht.below HB19.out)).mono ?_
            rintro e W20 ⟨rfl, hb20⟩
            have HB20 := Lib.hid (HB19.out.trans ((hb20).mono HB19.out.size))
            have L_20 := Lib.hid (L_19.out.below (hb20) L_19.out.lt)
            have P0_20 := Lib.hid (P0_19.out.below (hb20) P0_19.out.lt)
            have E0_20 := Lib.hid (E0_19.out.below (hb20) E0_19.out.lt)
            have E1_20 := Lib.hid (E1_19.out.below (hb20) E1_19.out.lt)
            clear HB19 L_19 P0_19 E0_19 E1_19 hb20
            have lL_20 := L_20.out.lt
            have cL_20_0 := L_20.out.c0
            have cL_20_1 := L_20.out.c1
            have cL_20_2 := L_20.out.c2
            have cL_20_3 := L_20.out.c3
            have lP0_20 := P0_20.out.lt
            have cP0_20_0 := P0_20.out.c0
            have lE0_20 := E0_20.out.lt
            have cE0_20_0 := E0_20.out.c0
            have cE0_20_1 := E0_20.out.c1
            have lE1_20 := E1_20.out.lt
            have cE1_20_0 := E1_20.out.c0
            have cE1_20_1 := E1_20.out.c1
            go_wp2_with fail
            clear lL_20 cL_20_0 cL_20_1 cL_20_2 cL_20_3 lP0_20 cP0_20_0 lE0_20 cE0_20_0 cE0_20_1 lE1_20 cE1_20_0 cE1_20_1
            refine (GN.out _).mono ?_
            rintro e w_ ⟨rfl, rfl⟩
            have lL_20 := L_20.out.lt
            have cL_20_0 := L_20.out.c0
            have cL_20_1 := L_20.out.c1
            have cL_20_2 := L_20.out.c2
            have cL_20_3 := L_20.out.c3
            have lP0_20 := P0_20.out.lt
            have cP0_20_0 := P0_20.out.c0
            have lE0_20 := E0_20.out.lt
            have cE0_20_0 := E0_20.out.c0
            have cE0_20_1 := E0_20.out.c1
            have lE1_20 := E1_20.out.lt
            have cE1_20_0 := E1_20.out.c0
            have cE1_20_1 := E1_20.out.c1
            go_wp2
            rw [rounds_succ]
            go_wp2
            go_ret
            exact ⟨rfl, HB20.out⟩
          · rw [decide_eq_false hn'] at GN
            rw [twoE_no2 hf (fun x => hn' ((per_dec hf).1 x).2)]
            clear hf hy hn hy' hn' hp
            generalize ysV f y = Y at *
            generalize ysV f y' = Y' at *
            go_enter Tryd.func32, Tryd.ntmps32
            go_wp2_with fail
            have P0_21 := Lib.hid (show Cell1 (w.alloc (Obj.cells #[(.int .i64 f)] 23)) (w.heap.size) (.int .i64 f) from by simpa using Cell1.alloc w (.int .i64 f) 23)
            have HB21 := Lib.hid ((Below.refl w.heap.size w).alloc (Nat.le_refl _) (Obj.cells #[(.int .i64 f)] 23))
            have L_21 := Lib.hid (L.out.below HB21.out L.out.lt)
            generalize (w.alloc (Obj.cells #[(.int .i64 f)] 23)) = W21 at *
            refine (HR.out _).mono ?_
            rintro e W22 ⟨rfl, hb22⟩
            have HB22 := Lib.hid (HB21.out.trans ((hb22).mono HB21.out.size))
            have L_22 := Lib.hid (L_21.out.below (hb22) L_21.out.lt)
            have P0_22 := Lib.hid (P0_21.out.below (hb22) P0_21.out.lt)
            clear HB21 L_21 P0_21 hb22
            have lL_22 := L_22.out.lt
            have cL_22_0 := L_22.out.c0
            have cL_22_1 := L_22.out.c1
            have cL_22_2 := L_22.out.c2
            have cL_22_3 := L_22.out.c3
            have lP0_22 := P0_22.out.lt
            have cP0_22_0 := P0_22.out.c0
            go_wp2_with fail
            refine wp_loop_rounds 3 ?_
            rw [rounds_succ]
            go_wp2_with fail
            clear lL_22 cL_22_0 cL_22_1 cL_22_2 cL_22_3 lP0_22 cP0_22_0
            have E0_23 := Lib.hid (Cell2.alloc W22 (.int .i64 y) (.int .i64 n) 25)
            have HB23 := Lib.hid (HB22.out.trans (((Below.refl W22.heap.size W22).alloc (Nat.le_refl _) (Obj.cells #[(.int .i64 y), (.int .i64 n)] 25)).mono HB22.out.size))
            have L_23 := Lib.hid (L_22.out.below ((Below.refl W22.heap.size W22).alloc (Nat.le_refl _) (Obj.cells #[(.int .i64 y), (.int .i64 n)] 25)) L_22.out.lt)
            have P0_23 := Lib.hid (P0_22.out.below ((Below.refl W22.heap.size W22).alloc (Nat.le_refl _) (Obj.cells #[(.int .i64 y), (.int .i64 n)] 25)) P0_22.out.lt)
            clear HB22 L_22 P0_22
            generalize W22.alloc (Obj.cells #[(.int .i64 y), (.int .i64 n)] 25) = W23 at *
            refine (HY.out _ (ht.below HB23.out)).mono ?_
            rintro e W24 ⟨rfl, hb24⟩
            have HB24 := Lib.hid (HB23.out.trans ((hb24).mono HB23.out.size))
            have L_24 := Lib.hid (L_23.out.below (hb24) L_23.out.lt)
            have P0_24 := Lib.hid (P0_23.out.below (hb24) P0_23.out.lt)
            have E0_24 := Lib.hid (E0_23.out.below (hb24) E0_23.out.lt)
            clear HB23 L_23 P0_23 E0_23 hb24
            have lL_24 := L_24.out.lt
            have cL_24_0 := L_24.out.c0
            have cL_24_1 := L_24.out.c1
            have cL_24_2 := L_24.out.c2
            have cL_24_3 := L_24.out.c3
            have lP0_24 := P0_24.out.lt
            have cP0_24_0 := P0_24.out.c0
            have lE0_24 := E0_24.out.lt
            have cE0_24_0 := E0_24.out.c0
            have cE0_24_1 := E0_24.out.c1
            go_wp2_with fail
            clear lL_24 cL_24_0 cL_24_1 cL_24_2 cL_24_3 lP0_24 cP0_24_0 lE0_24 cE0_24_0 cE0_24_1
            refine (HN.out _).mono ?_
            rintro e w_ ⟨rfl, rfl⟩
            have lL_24 := L_24.out.lt
            have cL_24_0 := L_24.out.c0
            have cL_24_1 := L_24.out.c1
            have cL_24_2 := L_24.out.c2
            have cL_24_3 := L_24.out.c3
            have lP0_24 := P0_24.out.lt
            have cP0_24_0 := P0_24.out.c0
            have lE0_24 := E0_24.out.lt
            have cE0_24_0 := E0_24.out.c0
            have cE0_24_1 := E0_24.out.c1
            go_wp2_with fail
            rw [rounds_succ]
            go_wp2_with fail
            clear lL_24 cL_24_0 cL_24_1 cL_24_2 cL_24_3 lP0_24 cP0_24_0 lE0_24 cE0_24_0 cE0_24_1
            have E1_25 := Lib.hid (Cell2.alloc W24 (.int .i64 y') (.int .i64 n') 25)
            have HB25 := Lib.hid (HB24.out.trans (((Below.refl W24.heap.size W24).alloc (Nat.le_refl _) (Obj.cells #[(.int .i64 y'), (.int .i64 n')] 25)).mono HB24.out.size))
            have L_25 := Lib.hid (L_24.out.below ((Below.refl W24.heap.size W24).alloc (Nat.le_refl _) (Obj.cells #[(.int .i64 y'), (.int .i64 n')] 25)) L_24.out.lt)
            have P0_25 := Lib.hid (P0_24.out.below ((Below.refl W24.heap.size W24).alloc (Nat.le_refl _) (Obj.cells #[(.int .i64 y'), (.int .i64 n')] 25)) P0_24.out.lt)
            have E0_25 := Lib.hid (E0_24.out.below ((Below.refl W24.heap.size W24).alloc (Nat.le_refl _) (Obj.cells #[(.int .i64 y'), (.int .i64 n')] 25)) E0_24.out.lt)
            clear HB24 L_24 P0_24 E0_24
            generalize W24.alloc (Obj.cells #[(.int .i64 y'), (.int .i64 n')] 25) = W25 at *
            refine (GY.out _ (ht.below HB25.out)).mono ?_
            rintro e W26 ⟨rfl, hb26⟩
            have HB26 := Lib.hid (HB25.out.trans ((hb26).mono HB25.out.size))
            have L_26 := Lib.hid (L_25.out.below (hb26) L_25.out.lt)
            have P0_26 := Lib.hid (P0_25.out.below (hb26) P0_25.out.lt)
            have E0_26 := Lib.hid (E0_25.out.below (hb26) E0_25.out.lt)
            have E1_26 := Lib.hid (E1_25.out.below (hb26) E1_25.out.lt)
            clear HB25 L_25 P0_25 E0_25 E1_25 hb26
            have lL_26 := L_26.out.lt
            have cL_26_0 := L_26.out.c0
            have cL_26_1 := L_26.out.c1
            have cL_26_2 := L_26.out.c2
            have cL_26_3 := L_26.out.c3
            have lP0_26 := P0_26.out.lt
            have cP0_26_0 := P0_26.out.c0
            have lE0_26 := E0_26.out.lt
            have cE0_26_0 := E0_26.out.c0
            have cE0_26_1 := E0_26.out.c1
            have lE1_26 := E1_26.out.lt
            have cE1_26_0 := E1_26.out.c0
            have cE1_26_1 := E1_26.out.c1
            go_wp2_with fail
            clear lL_26 cL_26_0 cL_26_1 cL_26_2 cL_26_3 lP0_26 cP0_26_0 lE0_26 cE0_26_0 cE0_26_1 lE1_26 cE1_26_0 cE1_26_1
            refine (GN.out _).mono ?_
            rintro e w_ ⟨rfl, rfl⟩
            have lL_26 := L_26.out.lt
            have cL_26_0 := L_26.out.c0
            have cL_26_1 := L_26.out.c1
            have cL_26_2 := L_26.out.c2
            have cL_26_3 := L_26.out.c3
            have lP0_26 := P0_26.out.lt
            have cP0_26_0 := P0_26.out.c0
            have lE0_26 := E0_26.out.lt
            have cE0_26_0 := E0_26.out.c0
            have cE0_26_1 := E0_26.out.c1
            have lE1_26 := E1_26.out.lt
            have cE1_26_0 := E1_26.out.c0
            have cE1_26_1 := E1_26.out.c1
            go_wp2
            go_ret
            exact ⟨rfl, HB26.out⟩
        · rw [decide_eq_false hy'] at GY
          rw [twoE_no2 hf (fun x => hy' ((per_dec hf).1 x).1)]
          clear hf hy hn hy' hp
          generalize ysV f y = Y at *
          generalize ysV f y' = Y' at *
          go_enter Tryd.func32, Tryd.ntmps32
          go_wp2_with fail
          have P0_27 := Lib.hid (show Cell1 (w.alloc (Obj.cells #[(.int .i64 f)] 23)) (w.heap.size) (.int .i64 f) from by simpa using Cell1.alloc w (.int .i64 f) 23)
          have HB27 := Lib.hid ((Below.refl w.heap.size w).alloc (Nat.le_refl _) (Obj.cells #[(.int .i64 f)] 23))
          have L_27 := Lib.hid (L.out.below HB27.out L.out.lt)
          generalize (w.alloc (Obj.cells #[(.int .i64 f)] 23)) = W27 at *
          refine (HR.out _).mono ?_
          rintro e W28 ⟨rfl, hb28⟩
          have HB28 := Lib.hid (HB27.out.trans ((hb28).mono HB27.out.size))
          have L_28 := Lib.hid (L_27.out.below (hb28) L_27.out.lt)
          have P0_28 := Lib.hid (P0_27.out.below (hb28) P0_27.out.lt)
          clear HB27 L_27 P0_27 hb28
          have lL_28 := L_28.out.lt
          have cL_28_0 := L_28.out.c0
          have cL_28_1 := L_28.out.c1
          have cL_28_2 := L_28.out.c2
          have cL_28_3 := L_28.out.c3
          have lP0_28 := P0_28.out.lt
          have cP0_28_0 := P0_28.out.c0
          go_wp2_with fail
          refine wp_loop_rounds 3 ?_
          rw [rounds_succ]
          go_wp2_with fail
          clear lL_28 cL_28_0 cL_28_1 cL_28_2 cL_28_3 lP0_28 cP0_28_0
          have E0_29 := Lib.hid (Cell2.alloc W28 (.int .i64 y) (.int .i64 n) 25)
          have HB29 := Lib.hid (HB28.out.trans (((Below.refl W28.heap.size W28).alloc (Nat.le_refl _) (Obj.cells #[(.int .i64 y), (.int .i64 n)] 25)).mono HB28.out.size))
          have L_29 := Lib.hid (L_28.out.below ((Below.refl W28.heap.size W28).alloc (Nat.le_refl _) (Obj.cells #[(.int .i64 y), (.int .i64 n)] 25)) L_28.out.lt)
          have P0_29 := Lib.hid (P0_28.out.below ((Below.refl W28.heap.size W28).alloc (Nat.le_refl _) (Obj.cells #[(.int .i64 y), (.int .i64 n)] 25)) P0_28.out.lt)
          clear HB28 L_28 P0_28
          generalize W28.alloc (Obj.cells #[(.int .i64 y), (.int .i64 n)] 25) = W29 at *
          refine (HY.out _ (ht.below HB29.out)).mono ?_
          rintro e W30 ⟨rfl, hb30⟩
          have HB30 := Lib.hid (HB29.out.trans ((hb30).mono HB29.out.size))
          have L_30 := Lib.hid (L_29.out.below (hb30) L_29.out.lt)
          have P0_30 := Lib.hid (P0_29.out.below (hb30) P0_29.out.lt)
          have E0_30 := Lib.hid (E0_29.out.below (hb30) E0_29.out.lt)
          clear HB29 L_29 P0_29 E0_29 hb30
          have lL_30 := L_30.out.lt
          have cL_30_0 := L_30.out.c0
          have cL_30_1 := L_30.out.c1
          have cL_30_2 := L_30.out.c2
          have cL_30_3 := L_30.out.c3
          have lP0_30 := P0_30.out.lt
          have cP0_30_0 := P0_30.out.c0
          have lE0_30 := E0_30.out.lt
          have cE0_30_0 := E0_30.out.c0
          have cE0_30_1 := E0_30.out.c1
          go_wp2_with fail
          clear lL_30 cL_30_0 cL_30_1 cL_30_2 cL_30_3 lP0_30 cP0_30_0 lE0_30 cE0_30_0 cE0_30_1
          refine (HN.out _).mono ?_
          rintro e w_ ⟨rfl, rfl⟩
          have lL_30 := L_30.out.lt
          have cL_30_0 := L_30.out.c0
          have cL_30_1 := L_30.out.c1
          have cL_30_2 := L_30.out.c2
          have cL_30_3 := L_30.out.c3
          have lP0_30 := P0_30.out.lt
          have cP0_30_0 := P0_30.out.c0
          have lE0_30 := E0_30.out.lt
          have cE0_30_0 := E0_30.out.c0
          have cE0_30_1 := E0_30.out.c1
          go_wp2_with fail
          rw [rounds_succ]
          go_wp2_with fail
          clear lL_30 cL_30_0 cL_30_1 cL_30_2 cL_30_3 lP0_30 cP0_30_0 lE0_30 cE0_30_0 cE0_30_1
          have E1_31 := Lib.hid (Cell2.alloc W30 (.int .i64 y') (.int .i64 n') 25)
          have HB31 := Lib.hid (HB30.out.trans (((Below.refl W30.heap.size W30).alloc (Nat.le_refl _) (Obj.cells #[(.int .i64 y'), (.int .i64 n')] 25)).mono HB30.out.size))
          have L_31 := Lib.hid (L_30.out.below ((Below.refl W30.heap.size W30).alloc (Nat.le_refl _) (Obj.cells #[(.int .i64 y'), (.int .i64 n')] 25)) L_30.out.lt)
          have P0_31 := Lib.hid (P0_30.out.below ((Below.refl W30.heap.size W30).alloc (Nat.le_refl _) (Obj.cells #[(.int .i64 y'), (.int .i64 n')] 25)) P0_30.out.lt)
          have E0_31 := Lib.hid (E0_30.out.below ((Below.refl W30.heap.size W30).alloc (Nat.le_refl _) (Obj.cells #[(.int .i64 y'), (.int .i64 n')] 25)) E0_30.out.lt)
          clear HB30 L_30 P0_30 E0_30
          generalize W30.alloc (Obj.cells #[(.int .i64 y'), (.int .i64 n')] 25) = W31 at *
          refine (GY.out _ (ht.below HB31.out)).mono ?_
          rintro e W32 ⟨rfl, hb32⟩
          have HB32 := Lib.hid (HB31.out.trans ((hb32).mono HB31.out.size))
          have L_32 := Lib.hid (L_31.out.below (hb32) L_31.out.lt)
          have P0_32 := Lib.hid (P0_31.out.below (hb32) P0_31.out.lt)
          have E0_32 := Lib.hid (E0_31.out.below (hb32) E0_31.out.lt)
          have E1_32 := Lib.hid (E1_31.out.below (hb32) E1_31.out.lt)
          clear HB31 L_31 P0_31 E0_31 E1_31 hb32
          have lL_32 := L_32.out.lt
          have cL_32_0 := L_32.out.c0
          have cL_32_1 := L_32.out.c1
          have cL_32_2 := L_32.out.c2
          have cL_32_3 := L_32.out.c3
          have lP0_32 := P0_32.out.lt
          have cP0_32_0 := P0_32.out.c0
          have lE0_32 := E0_32.out.lt
          have cE0_32_0 := E0_32.out.c0
          have cE0_32_1 := E0_32.out.c1
          have lE1_32 := E1_32.out.lt
          have cE1_32_0 := E1_32.out.c0
          have cE1_32_1 := E1_32.out.c1
          go_wp2
          go_ret
          exact ⟨rfl, HB32.out⟩
      · rw [decide_eq_false hn] at HN
        rw [twoE_no1 hf (fun x => hn ((per_dec hf).1 x).2)]
        clear hf hy hn
        generalize ysV f y = Y at *
        go_enter Tryd.func32, Tryd.ntmps32
        go_wp2_with fail
        have P0_33 := Lib.hid (show Cell1 (w.alloc (Obj.cells #[(.int .i64 f)] 23)) (w.heap.size) (.int .i64 f) from by simpa using Cell1.alloc w (.int .i64 f) 23)
        have HB33 := Lib.hid ((Below.refl w.heap.size w).alloc (Nat.le_refl _) (Obj.cells #[(.int .i64 f)] 23))
        have L_33 := Lib.hid (L.out.below HB33.out L.out.lt)
        generalize (w.alloc (Obj.cells #[(.int .i64 f)] 23)) = W33 at *
        refine (HR.out _).mono ?_
        rintro e W34 ⟨rfl, hb34⟩
        have HB34 := Lib.hid (HB33.out.trans ((hb34).mono HB33.out.size))
        have L_34 := Lib.hid (L_33.out.below (hb34) L_33.out.lt)
        have P0_34 := Lib.hid (P0_33.out.below (hb34) P0_33.out.lt)
        clear HB33 L_33 P0_33 hb34
        have lL_34 := L_34.out.lt
        have cL_34_0 := L_34.out.c0
        have cL_34_1 := L_34.out.c1
        have cL_34_2 := L_34.out.c2
        have cL_34_3 := L_34.out.c3
        have lP0_34 := P0_34.out.lt
        have cP0_34_0 := P0_34.out.c0
        go_wp2_with fail
        refine wp_loop_rounds 3 ?_
        rw [rounds_succ]
        go_wp2_with fail
        clear lL_34 cL_34_0 cL_34_1 cL_34_2 cL_34_3 lP0_34 cP0_34_0
        have E0_35 := Lib.hid (Cell2.alloc W34 (.int .i64 y) (.int .i64 n) 25)
        have HB35 := Lib.hid (HB34.out.trans (((Below.refl W34.heap.size W34).alloc (Nat.le_refl _) (Obj.cells #[(.int .i64 y), (.int .i64 n)] 25)).mono HB34.out.size))
        have L_35 := Lib.hid (L_34.out.below ((Below.refl W34.heap.size W34).alloc (Nat.le_refl _) (Obj.cells #[(.int .i64 y), (.int .i64 n)] 25)) L_34.out.lt)
        have P0_35 := Lib.hid (P0_34.out.below ((Below.refl W34.heap.size W34).alloc (Nat.le_refl _) (Obj.cells #[(.int .i64 y), (.int .i64 n)] 25)) P0_34.out.lt)
        clear HB34 L_34 P0_34
        generalize W34.alloc (Obj.cells #[(.int .i64 y), (.int .i64 n)] 25) = W35 at *
        refine (HY.out _ (ht.below HB35.out)).mono ?_
        rintro e W36 ⟨rfl, hb36⟩
        have HB36 := Lib.hid (HB35.out.trans ((hb36).mono HB35.out.size))
        have L_36 := Lib.hid (L_35.out.below (hb36) L_35.out.lt)
        have P0_36 := Lib.hid (P0_35.out.below (hb36) P0_35.out.lt)
        have E0_36 := Lib.hid (E0_35.out.below (hb36) E0_35.out.lt)
        clear HB35 L_35 P0_35 E0_35 hb36
        have lL_36 := L_36.out.lt
        have cL_36_0 := L_36.out.c0
        have cL_36_1 := L_36.out.c1
        have cL_36_2 := L_36.out.c2
        have cL_36_3 := L_36.out.c3
        have lP0_36 := P0_36.out.lt
        have cP0_36_0 := P0_36.out.c0
        have lE0_36 := E0_36.out.lt
        have cE0_36_0 := E0_36.out.c0
        have cE0_36_1 := E0_36.out.c1
        go_wp2_with fail
        clear lL_36 cL_36_0 cL_36_1 cL_36_2 cL_36_3 lP0_36 cP0_36_0 lE0_36 cE0_36_0 cE0_36_1
        refine (HN.out _).mono ?_
        rintro e w_ ⟨rfl, rfl⟩
        have lL_36 := L_36.out.lt
        have cL_36_0 := L_36.out.c0
        have cL_36_1 := L_36.out.c1
        have cL_36_2 := L_36.out.c2
        have cL_36_3 := L_36.out.c3
        have lP0_36 := P0_36.out.lt
        have cP0_36_0 := P0_36.out.c0
        have lE0_36 := E0_36.out.lt
        have cE0_36_0 := E0_36.out.c0
        have cE0_36_1 := E0_36.out.c1
        go_wp2
        go_ret
        exact ⟨rfl, HB36.out⟩
    · rw [decide_eq_false hy] at HY
      rw [twoE_no1 hf (fun x => hy ((per_dec hf).1 x).1)]
      clear hf hy
      generalize ysV f y = Y at *
      go_enter Tryd.func32, Tryd.ntmps32
      go_wp2_with fail
      have P0_37 := Lib.hid (show Cell1 (w.alloc (Obj.cells #[(.int .i64 f)] 23)) (w.heap.size) (.int .i64 f) from by simpa using Cell1.alloc w (.int .i64 f) 23)
      have HB37 := Lib.hid ((Below.refl w.heap.size w).alloc (Nat.le_refl _) (Obj.cells #[(.int .i64 f)] 23))
      have L_37 := Lib.hid (L.out.below HB37.out L.out.lt)
      generalize (w.alloc (Obj.cells #[(.int .i64 f)] 23)) = W37 at *
      refine (HR.out _).mono ?_
      rintro e W38 ⟨rfl, hb38⟩
      have HB38 := Lib.hid (HB37.out.trans ((hb38).mono HB37.out.size))
      have L_38 := Lib.hid (L_37.out.below (hb38) L_37.out.lt)
      have P0_38 := Lib.hid (P0_37.out.below (hb38) P0_37.out.lt)
      clear HB37 L_37 P0_37 hb38
      have lL_38 := L_38.out.lt
      have cL_38_0 := L_38.out.c0
      have cL_38_1 := L_38.out.c1
      have cL_38_2 := L_38.out.c2
      have cL_38_3 := L_38.out.c3
      have lP0_38 := P0_38.out.lt
      have cP0_38_0 := P0_38.out.c0
      go_wp2_with fail
      refine wp_loop_rounds 3 ?_
      rw [rounds_succ]
      go_wp2_with fail
      clear lL_38 cL_38_0 cL_38_1 cL_38_2 cL_38_3 lP0_38 cP0_38_0
      have E0_39 := Lib.hid (Cell2.alloc W38 (.int .i64 y) (.int .i64 n) 25)
      have HB39 := Lib.hid (HB38.out.trans (((Below.refl W38.heap.size W38).alloc (Nat.le_refl _) (Obj.cells #[(.int .i64 y), (.int .i64 n)] 25)).mono HB38.out.size))
      have L_39 := Lib.hid (L_38.out.below ((Below.refl W38.heap.size W38).alloc (Nat.le_refl _) (Obj.cells #[(.int .i64 y), (.int .i64 n)] 25)) L_38.out.lt)
      have P0_39 := Lib.hid (P0_38.out.below ((Below.refl W38.heap.size W38).alloc (Nat.le_refl _) (Obj.cells #[(.int .i64 y), (.int .i64 n)] 25)) P0_38.out.lt)
      clear HB38 L_38 P0_38
      generalize W38.alloc (Obj.cells #[(.int .i64 y), (.int .i64 n)] 25) = W39 at *
      refine (HY.out _ (ht.below HB39.out)).mono ?_
      rintro e W40 ⟨rfl, hb40⟩
      have HB40 := Lib.hid (HB39.out.trans ((hb40).mono HB39.out.size))
      have L_40 := Lib.hid (L_39.out.below (hb40) L_39.out.lt)
      have P0_40 := Lib.hid (P0_39.out.below (hb40) P0_39.out.lt)
      have E0_40 := Lib.hid (E0_39.out.below (hb40) E0_39.out.lt)
      clear HB39 L_39 P0_39 E0_39 hb40
      have lL_40 := L_40.out.lt
      have cL_40_0 := L_40.out.c0
      have cL_40_1 := L_40.out.c1
      have cL_40_2 := L_40.out.c2
      have cL_40_3 := L_40.out.c3
      have lP0_40 := P0_40.out.lt
      have cP0_40_0 := P0_40.out.c0
      have lE0_40 := E0_40.out.lt
      have cE0_40_0 := E0_40.out.c0
      have cE0_40_1 := E0_40.out.c1
      go_wp2
      go_ret
      exact ⟨rfl, HB40.out⟩
  · rw [decide_eq_false hf] at HR
    rw [twoE_cal hf]
    clear hf
    go_enter Tryd.func32, Tryd.ntmps32
    go_wp2_with fail
    have P0_41 := Lib.hid (show Cell1 (w.alloc (Obj.cells #[(.int .i64 f)] 23)) (w.heap.size) (.int .i64 f) from by simpa using Cell1.alloc w (.int .i64 f) 23)
    have HB41 := Lib.hid ((Below.refl w.heap.size w).alloc (Nat.le_refl _) (Obj.cells #[(.int .i64 f)] 23))
    generalize (w.alloc (Obj.cells #[(.int .i64 f)] 23)) = W41 at *
    refine (HR.out _).mono ?_
    rintro e W42 ⟨rfl, hb42⟩
    have HB42 := Lib.hid (HB41.out.trans ((hb42).mono HB41.out.size))
    have P0_42 := Lib.hid (P0_41.out.below (hb42) P0_41.out.lt)
    clear HB41 P0_41 hb42
    go_wp2
    go_ret
    exact ⟨rfl, HB42.out⟩
end Go.Proofs.YtaibjmdfkahjjaaDoor
