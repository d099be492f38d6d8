/- The statements FiscalStepsReference, FiscalNextPrev and FiscalTiles of package accountinglaw05. -/
import Derived.Test.YtaibjmdfkahjjaaDoorFsW
namespace Go.Proofs.YtaibjmdfkahjjaaDoor
open Go.RowKit Go.Sort
set_option linter.unusedVariables false

set_option maxHeartbeats 4000000 in
theorem fiscalStepsReference_walk (f y n y' n' : Int) (w : World) (ht : Tab w) (wf : (Lit.int .i64 f).wf = true) (wy : (Lit.int .i64 y).wf = true) (wn : (Lit.int .i64 n).wf = true) (wy' : (Lit.int .i64 y').wf = true) (wn' : (Lit.int .i64 n').wf = true) :
    Calls Tryd.prog 5 #[.agg #[.int .i64 f], .agg #[.int .i64 y, .int .i64 n], .agg #[.int .i64 y', .int .i64 n']] w fun e w' => e = .returned (.bool true) ∧ Below w.heap.size w w' := by
  obtain ⟨y1, y2⟩ := i64_bd wy
  obtain ⟨n1, n2⟩ := i64_bd wn
  obtain ⟨z1, z2⟩ := i64_bd wy'
  have H1 := Lib.hid (fun w ht => fNext_any f y n w ht y1 y2 n1 n2)
  have H2 := Lib.hid (fun w => rNext_any f y n w y1 y2 n1 n2)
  have H3 := Lib.hid (fun w ht => fPrev_any f y n w ht y1 y2 n1 n2)
  have H4 := Lib.hid (fun w => rPrev_any f y n w y1 y2 n1 n2)
  have H5 := Lib.hid (fun w ht => fCount_any f y n y' n' w ht y1 y2 z1 z2)
  have H6 := Lib.hid (fun w => rCount_any f y n y' n' w y1 y2 z1 z2)
  have H7 := Lib.hid (fun w => fCmp_any y n y' n' w)
  have H8 := Lib.hid (fun w => rCmp_any y n y' n' w)
  have H9 := Lib.hid (fun w ht => lives_any w ht)
  generalize ifOk (twoE f y n (nxY y n) (nxN n)) (nxY y n) = a0 at *
  generalize ifOk (twoE f y n (nxY y n) (nxN n)) (nxN n) = a1 at *
  generalize twoE f y n (nxY y n) (nxN n) = e1 at *
  generalize ifOk (twoE f y n (pvY y n) (pvN n)) (pvY y n) = x0 at *
  generalize ifOk (twoE f y n (pvY y n) (pvN n)) (pvN n) = x1 at *
  generalize twoE f y n (pvY y n) (pvN n) = e2 at *
  generalize cntV f y n y' n' = c at *
  generalize twoE f y n y' n' = e3 at *
  generalize cmpV y n y' n' = k at *
  have q1 := eqPerYes a0 a1
  have q2 := eqPerYes x0 x1
  go_enter Tryd.func5, Tryd.ntmps5
  go_wp2_with fail
  have P0_1 := Lib.hid (show Cell1 (((w.alloc (Obj.cells #[(.int .i64 f)] 23)).alloc (Obj.cells #[(.int .i64 y), (.int .i64 n)] 25)).alloc (Obj.cells #[(.int .i64 y'), (.int .i64 n')] 25)) (w.heap.size) (.int .i64 f) from by have q := Cell1.alloc w (.int .i64 f) 23; exact q.below (N := w.heap.size + 1) (((Below.refl _ _).alloc (by simp <;> omega) (Obj.cells #[(.int .i64 y), (.int .i64 n)] 25)).alloc (by simp <;> omega) (Obj.cells #[(.int .i64 y'), (.int .i64 n')] 25)) (by omega))
  have P1_1 := Lib.hid (show Cell2 (((w.alloc (Obj.cells #[(.int .i64 f)] 23)).alloc (Obj.cells #[(.int .i64 y), (.int .i64 n)] 25)).alloc (Obj.cells #[(.int .i64 y'), (.int .i64 n')] 25)) (w.heap.size + 1) (.int .i64 y) (.int .i64 n) from by have q := Cell2.alloc (w.alloc (Obj.cells #[(.int .i64 f)] 23)) (.int .i64 y) (.int .i64 n) 25; try simp only [World.size_alloc] at q; exact q.below (N := w.heap.size + 1 + 1) ((Below.refl _ _).alloc (by simp <;> omega) (Obj.cells #[(.int .i64 y'), (.int .i64 n')] 25)) (by omega))
  have P2_1 := Lib.hid (show Cell2 (((w.alloc (Obj.cells #[(.int .i64 f)] 23)).alloc (Obj.cells #[(.int .i64 y), (.int .i64 n)] 25)).alloc (Obj.cells #[(.int .i64 y'), (.int .i64 n')] 25)) (w.heap.size + 2) (.int .i64 y') (.int .i64 n') from by simpa using Cell2.alloc ((w.alloc (Obj.cells #[(.int .i64 f)] 23)).alloc (Obj.cells #[(.int .i64 y), (.int .i64 n)] 25)) (.int .i64 y') (.int .i64 n') 25)
  have HB1 := Lib.hid ((((Below.refl w.heap.size w).alloc (Nat.le_refl _) (Obj.cells #[(.int .i64 f)] 23)).alloc (by simp) (Obj.cells #[(.int .i64 y), (.int .i64 n)] 25)).alloc (by simp; omega) (Obj.cells #[(.int .i64 y'), (.int .i64 n')] 25))
  generalize (((w.alloc (Obj.cells #[(.int .i64 f)] 23)).alloc (Obj.cells #[(.int .i64 y), (.int .i64 n)] 25)).alloc (Obj.cells #[(.int .i64 y'), (.int .i64 n')] 25)) = W1 at *
  refine (H1.out _ (ht.below HB1.out)).mono ?_
  rintro e W2 ⟨rfl, hb2⟩
  have HB2 := Lib.hid (HB1.out.trans ((hb2).mono HB1.out.size))
  have P0_2 := Lib.hid (P0_1.out.below (hb2) P0_1.out.lt)
  have P1_2 := Lib.hid (P1_1.out.below (hb2) P1_1.out.lt)
  have P2_2 := Lib.hid (P2_1.out.below (hb2) P2_1.out.lt)
  clear HB1 P0_1 P1_1 P2_1 hb2
  have lP0_2 := P0_2.out.lt
  have cP0_2_0 := P0_2.out.c0
  have lP1_2 := P1_2.out.lt
  have cP1_2_0 := P1_2.out.c0
  have cP1_2_1 := P1_2.out.c1
  have lP2_2 := P2_2.out.lt
  have cP2_2_0 := P2_2.out.c0
  have cP2_2_1 := P2_2.out.c1
  go_wp2_with fail
  have oa_P0_2 := P0_2.out.lt
  have oa_P1_2 := P1_2.out.lt
  have oa_P2_2 := P2_2.out.lt
  have a_3 := Lib.hid (show Cell2 (W2.alloc (Obj.cells #[(.int .i64 a0), (.int .i64 a1)] 25)) (W2.heap.size) (.int .i64 a0) (.int .i64 a1) from by exact Cell2.alloc W2 (.int .i64 a0) (.int .i64 a1) 25)
  have HB3 := Lib.hid (HB2.out.trans (((Below.refl W2.heap.size W2).alloc (Nat.le_refl _) (Obj.cells #[(.int .i64 a0), (.int .i64 a1)] 25)).mono HB2.out.size))
  have P0_3 := Lib.hid (P0_2.out.below ((Below.refl W2.heap.size W2).alloc (Nat.le_refl _) (Obj.cells #[(.int .i64 a0), (.int .i64 a1)] 25)) P0_2.out.lt)
  have P1_3 := Lib.hid (P1_2.out.below ((Below.refl W2.heap.size W2).alloc (Nat.le_refl _) (Obj.cells #[(.int .i64 a0), (.int .i64 a1)] 25)) P1_2.out.lt)
  have P2_3 := Lib.hid (P2_2.out.below ((Below.refl W2.heap.size W2).alloc (Nat.le_refl _) (Obj.cells #[(.int .i64 a0), (.int .i64 a1)] 25)) P2_2.out.lt)
  clear lP0_2 cP0_2_0 lP1_2 cP1_2_0 cP1_2_1 lP2_2 cP2_2_0 cP2_2_1
  clear HB2 P0_2 P1_2 P2_2
  generalize W2.alloc (Obj.cells #[(.int .i64 a0), (.int .i64 a1)] 25) = W4 at *
  refine (H2.out _).mono ?_
  rintro e W5 ⟨rfl, hb5⟩
  have HB5 := Lib.hid (HB3.out.trans ((hb5).mono HB3.out.size))
  have P0_5 := Lib.hid (P0_3.out.below (hb5) P0_3.out.lt)
  have P1_5 := Lib.hid (P1_3.out.below (hb5) P1_3.out.lt)
  have P2_5 := Lib.hid (P2_3.out.below (hb5) P2_3.out.lt)
  have a_5 := Lib.hid (a_3.out.below (hb5) a_3.out.lt)
  clear HB3 P0_3 P1_3 P2_3 a_3 hb5
  have lP0_5 := P0_5.out.lt
  have cP0_5_0 := P0_5.out.c0
  have lP1_5 := P1_5.out.lt
  have cP1_5_0 := P1_5.out.c0
  have cP1_5_1 := P1_5.out.c1
  have lP2_5 := P2_5.out.lt
  have cP2_5_0 := P2_5.out.c0
  have cP2_5_1 := P2_5.out.c1
  have la_5 := a_5.out.lt
  have ca_5_0 := a_5.out.c0
  have ca_5_1 := a_5.out.c1
  go_wp2_with fail
  have ob_P0_5 := P0_5.out.lt
  have ob_P1_5 := P1_5.out.lt
  have ob_P2_5 := P2_5.out.lt
  have ob_a_5 := a_5.out.lt
  have b_6 := Lib.hid (show Cell2 (W5.alloc (Obj.cells #[(.int .i64 a0), (.int .i64 a1)] 25)) (W5.heap.size) (.int .i64 a0) (.int .i64 a1) from by exact Cell2.alloc W5 (.int .i64 a0) (.int .i64 a1) 25)
  have HB6 := Lib.hid (HB5.out.trans (((Below.refl W5.heap.size W5).alloc (Nat.le_refl _) (Obj.cells #[(.int .i64 a0), (.int .i64 a1)] 25)).mono HB5.out.size))
  have P0_6 := Lib.hid (P0_5.out.below ((Below.refl W5.heap.size W5).alloc (Nat.le_refl _) (Obj.cells #[(.int .i64 a0), (.int .i64 a1)] 25)) P0_5.out.lt)
  have P1_6 := Lib.hid (P1_5.out.below ((Below.refl W5.heap.size W5).alloc (Nat.le_refl _) (Obj.cells #[(.int .i64 a0), (.int .i64 a1)] 25)) P1_5.out.lt)
  have P2_6 := Lib.hid (P2_5.out.below ((Below.refl W5.heap.size W5).alloc (Nat.le_refl _) (Obj.cells #[(.int .i64 a0), (.int .i64 a1)] 25)) P2_5.out.lt)
  have a_6 := Lib.hid (a_5.out.below ((Below.refl W5.heap.size W5).alloc (Nat.le_refl _) (Obj.cells #[(.int .i64 a0), (.int .i64 a1)] 25)) a_5.out.lt)
  clear lP0_5 cP0_5_0 lP1_5 cP1_5_0 cP1_5_1 lP2_5 cP2_5_0 cP2_5_1 la_5 ca_5_0 ca_5_1
  clear HB5 P0_5 P1_5 P2_5 a_5
  generalize W5.alloc (Obj.cells #[(.int .i64 a0), (.int .i64 a1)] 25) = W7 at *
  refine (H3.out _ (ht.below HB6.out)).mono ?_
  rintro e W8 ⟨rfl, hb8⟩
  have HB8 := Lib.hid (HB6.out.trans ((hb8).mono HB6.out.size))
  have P0_8 := Lib.hid (P0_6.out.below (hb8) P0_6.out.lt)
  have P1_8 := Lib.hid (P1_6.out.below (hb8) P1_6.out.lt)
  have P2_8 := Lib.hid (P2_6.out.below (hb8) P2_6.out.lt)
  have a_8 := Lib.hid (a_6.out.below (hb8) a_6.out.lt)
  have b_8 := Lib.hid (b_6.out.below (hb8) b_6.out.lt)
  clear HB6 P0_6 P1_6 P2_6 a_6 b_6 hb8
  have lP0_8 := P0_8.out.lt
  have cP0_8_0 := P0_8.out.c0
  have lP1_8 := P1_8.out.lt
  have cP1_8_0 := P1_8.out.c0
  have cP1_8_1 := P1_8.out.c1
  have lP2_8 := P2_8.out.lt
  have cP2_8_0 := P2_8.out.c0
  have cP2_8_1 := P2_8.out.c1
  have la_8 := a_8.out.lt
  have ca_8_0 := a_8.out.c0
  have ca_8_1 := a_8.out.c1
  have lb_8 := b_8.out.lt
  have cb_8_0 := b_8.out.c0
  have cb_8_1 := b_8.out.c1
  go_wp2_with fail
  have ox_P0_8 := P0_8.out.lt
  have ox_P1_8 := P1_8.out.lt
  have ox_P2_8 := P2_8.out.lt
  have ox_a_8 := a_8.out.lt
  have ox_b_8 := b_8.out.lt
  have x_9 := Lib.hid (show Cell2 (W8.alloc (Obj.cells #[(.int .i64 x0), (.int .i64 x1)] 25)) (W8.heap.size) (.int .i64 x0) (.int .i64 x1) from by exact Cell2.alloc W8 (.int .i64 x0) (.int .i64 x1) 25)
  have HB9 := Lib.hid (HB8.out.trans (((Below.refl W8.heap.size W8).alloc (Nat.le_refl _) (Obj.cells #[(.int .i64 x0), (.int .i64 x1)] 25)).mono HB8.out.size))
  have P0_9 := Lib.hid (P0_8.out.below ((Below.refl W8.heap.size W8).alloc (Nat.le_refl _) (Obj.cells #[(.int .i64 x0), (.int .i64 x1)] 25)) P0_8.out.lt)
  have P1_9 := Lib.hid (P1_8.out.below ((Below.refl W8.heap.size W8).alloc (Nat.le_refl _) (Obj.cells #[(.int .i64 x0), (.int .i64 x1)] 25)) P1_8.out.lt)
  have P2_9 := Lib.hid (P2_8.out.below ((Below.refl W8.heap.size W8).alloc (Nat.le_refl _) (Obj.cells #[(.int .i64 x0), (.int .i64 x1)] 25)) P2_8.out.lt)
  have a_9 := Lib.hid (a_8.out.below ((Below.refl W8.heap.size W8).alloc (Nat.le_refl _) (Obj.cells #[(.int .i64 x0), (.int .i64 x1)] 25)) a_8.out.lt)
  have b_9 := Lib.hid (b_8.out.below ((Below.refl W8.heap.size W8).alloc (Nat.le_refl _) (Obj.cells #[(.int .i64 x0), (.int .i64 x1)] 25)) b_8.out.lt)
  clear lP0_8 cP0_8_0 lP1_8 cP1_8_0 cP1_8_1 lP2_8 cP2_8_0 cP2_8_1 la_8 ca_8_0 ca_8_1 lb_8 cb_8_0 cb_8_1
  clear HB8 P0_8 P1_8 P2_8 a_8 b_8
  generalize W8.alloc (Obj.cells #[(.int .i64 x0), (.int .i64 x1)] 25) = W10 at *
  refine (H4.out _).mono ?_
  rintro e W11 ⟨rfl, hb11⟩
  have HB11 := Lib.hid (HB9.out.trans ((hb11).mono HB9.out.size))
  have P0_11 := Lib.hid (P0_9.out.below (hb11) P0_9.out.lt)
  have P1_11 := Lib.hid (P1_9.out.below (hb11) P1_9.out.lt)
  have P2_11 := Lib.hid (P2_9.out.below (hb11) P2_9.out.lt)
  have a_11 := Lib.hid (a_9.out.below (hb11) a_9.out.lt)
  have b_11 := Lib.hid (b_9.out.below (hb11) b_9.out.lt)
  have x_11 := Lib.hid (x_9.out.below (hb11) x_9.out.lt)
  clear HB9 P0_9 P1_9 P2_9 a_9 b_9 x_9 hb11
  have lP0_11 := P0_11.out.lt
  have cP0_11_0 := P0_11.out.c0
  have lP1_11 := P1_11.out.lt
  have cP1_11_0 := P1_11.out.c0
  have cP1_11_1 := P1_11.out.c1
  have lP2_11 := P2_11.out.lt
  have cP2_11_0 := P2_11.out.c0
  have cP2_11_1 := P2_11.out.c1
  have la_11 := a_11.out.lt
  have ca_11_0 := a_11.out.c0
  have ca_11_1 := a_11.out.c1
  have lb_11 := b_11.out.lt
  have cb_11_0 := b_11.out.c0
  have cb_11_1 := b_11.out.c1
  have lx_11 := x_11.out.lt
  have cx_11_0 := x_11.out.c0
  have cx_11_1 := x_11.out.c1
  go_wp2_with fail
  have oy_P0_11 := P0_11.out.lt
  have oy_P1_11 := P1_11.out.lt
  have oy_P2_11 := P2_11.out.lt
  have oy_a_11 := a_11.out.lt
  have oy_b_11 := b_11.out.lt
  have oy_x_11 := x_11.out.lt
  have y_12 := Lib.hid (show Cell2 (W11.alloc (Obj.cells #[(.int .i64 x0), (.int .i64 x1)] 25)) (W11.heap.size) (.int .i64 x0) (.int .i64 x1) from by exact Cell2.alloc W11 (.int .i64 x0) (.int .i64 x1) 25)
  have HB12 := Lib.hid (HB11.out.trans (((Below.refl W11.heap.size W11).alloc (Nat.le_refl _) (Obj.cells #[(.int .i64 x0), (.int .i64 x1)] 25)).mono HB11.out.size))
  have P0_12 := Lib.hid (P0_11.out.below ((Below.refl W11.heap.size W11).alloc (Nat.le_refl _) (Obj.cells #[(.int .i64 x0), (.int .i64 x1)] 25)) P0_11.out.lt)
  have P1_12 := Lib.hid (P1_11.out.below ((Below.refl W11.heap.size W11).alloc (Nat.le_refl _) (Obj.cells #[(.int .i64 x0), (.int .i64 x1)] 25)) P1_11.out.lt)
  have P2_12 := Lib.hid (P2_11.out.below ((Below.refl W11.heap.size W11).alloc (Nat.le_refl _) (Obj.cells #[(.int .i64 x0), (.int .i64 x1)] 25)) P2_11.out.lt)
  have a_12 := Lib.hid (a_11.out.below ((Below.refl W11.heap.size W11).alloc (Nat.le_refl _) (Obj.cells #[(.int .i64 x0), (.int .i64 x1)] 25)) a_11.out.lt)
  have b_12 := Lib.hid (b_11.out.below ((Below.refl W11.heap.size W11).alloc (Nat.le_refl _) (Obj.cells #[(.int .i64 x0), (.int .i64 x1)] 25)) b_11.out.lt)
  have x_12 := Lib.hid (x_11.out.below ((Below.refl W11.heap.size W11).alloc (Nat.le_refl _) (Obj.cells #[(.int .i64 x0), (.int .i64 x1)] 25)) x_11.out.lt)
  clear lP0_11 cP0_11_0 lP1_11 cP1_11_0 cP1_11_1 lP2_11 cP2_11_0 cP2_11_1 la_11 ca_11_0 ca_11_1 lb_11 cb_11_0 cb_11_1 lx_11 cx_11_0 cx_11_1
  clear HB11 P0_11 P1_11 P2_11 a_11 b_11 x_11
  generalize W11.alloc (Obj.cells #[(.int .i64 x0), (.int .i64 x1)] 25) = W13 at *
  refine (H5.out _ (ht.below HB12.out)).mono ?_
  rintro e W14 ⟨rfl, hb14⟩
  have HB14 := Lib.hid (HB12.out.trans ((hb14).mono HB12.out.size))
  have P0_14 := Lib.hid (P0_12.out.below (hb14) P0_12.out.lt)
  have P1_14 := Lib.hid (P1_12.out.below (hb14) P1_12.out.lt)
  have P2_14 := Lib.hid (P2_12.out.below (hb14) P2_12.out.lt)
  have a_14 := Lib.hid (a_12.out.below (hb14) a_12.out.lt)
  have b_14 := Lib.hid (b_12.out.below (hb14) b_12.out.lt)
  have x_14 := Lib.hid (x_12.out.below (hb14) x_12.out.lt)
  have y_14 := Lib.hid (y_12.out.below (hb14) y_12.out.lt)
  clear HB12 P0_12 P1_12 P2_12 a_12 b_12 x_12 y_12 hb14
  have lP0_14 := P0_14.out.lt
  have cP0_14_0 := P0_14.out.c0
  have lP1_14 := P1_14.out.lt
  have cP1_14_0 := P1_14.out.c0
  have cP1_14_1 := P1_14.out.c1
  have lP2_14 := P2_14.out.lt
  have cP2_14_0 := P2_14.out.c0
  have cP2_14_1 := P2_14.out.c1
  have la_14 := a_14.out.lt
  have ca_14_0 := a_14.out.c0
  have ca_14_1 := a_14.out.c1
  have lb_14 := b_14.out.lt
  have cb_14_0 := b_14.out.c0
  have cb_14_1 := b_14.out.c1
  have lx_14 := x_14.out.lt
  have cx_14_0 := x_14.out.c0
  have cx_14_1 := x_14.out.c1
  have ly_14 := y_14.out.lt
  have cy_14_0 := y_14.out.c0
  have cy_14_1 := y_14.out.c1
  go_wp2_with fail
  clear lP0_14 cP0_14_0 lP1_14 cP1_14_0 cP1_14_1 lP2_14 cP2_14_0 cP2_14_1 la_14 ca_14_0 ca_14_1 lb_14 cb_14_0 cb_14_1 lx_14 cx_14_0 cx_14_1 ly_14 cy_14_0 cy_14_1
  refine (H6.out _).mono ?_
  rintro e W15 ⟨rfl, hb15⟩
  have HB15 := Lib.hid (HB14.out.trans ((hb15).mono HB14.out.size))
  have P0_15 := Lib.hid (P0_14.out.below (hb15) P0_14.out.lt)
  have P1_15 := Lib.hid (P1_14.out.below (hb15) P1_14.out.lt)
  have P2_15 := Lib.hid (P2_14.out.below (hb15) P2_14.out.lt)
  have a_15 := Lib.hid (a_14.out.below (hb15) a_14.out.lt)
  have b_15 := Lib.hid (b_14.out.below (hb15) b_14.out.lt)
  have x_15 := Lib.hid (x_14.out.below (hb15) x_14.out.lt)
  have y_15 := Lib.hid (y_14.out.below (hb15) y_14.out.lt)
  clear HB14 P0_14 P1_14 P2_14 a_14 b_14 x_14 y_14 hb15
  have lP0_15 := P0_15.out.lt
  have cP0_15_0 := P0_15.out.c0
  have lP1_15 := P1_15.out.lt
  have cP1_15_0 := P1_15.out.c0
  have cP1_15_1 := P1_15.out.c1
  have lP2_15 := P2_15.out.lt
  have cP2_15_0 := P2_15.out.c0
  have cP2_15_1 := P2_15.out.c1
  have la_15 := a_15.out.lt
  have ca_15_0 := a_15.out.c0
  have ca_15_1 := a_15.out.c1
  have lb_15 := b_15.out.lt
  have cb_15_0 := b_15.out.c0
  have cb_15_1 := b_15.out.c1
  have lx_15 := x_15.out.lt
  have cx_15_0 := x_15.out.c0
  have cx_15_1 := x_15.out.c1
  have ly_15 := y_15.out.lt
  have cy_15_0 := y_15.out.c0
  have cy_15_1 := y_15.out.c1
  go_wp2_with fail
  clear lP0_15 cP0_15_0 lP1_15 cP1_15_0 cP1_15_1 lP2_15 cP2_15_0 cP2_15_1 la_15 ca_15_0 ca_15_1 lb_15 cb_15_0 cb_15_1 lx_15 cx_15_0 cx_15_1 ly_15 cy_15_0 cy_15_1
  have l0 := cell_regrown P1_15.out.c0
  have l1 := cell_regrown P1_15.out.c1
  have l2 := cell_regrown P2_15.out.c0
  have l3 := cell_regrown P2_15.out.c1
  have HTb := Lib.hid (ht.below HB15.out)
  have c7 : ∀ dd os, Calls Tryd.prog 26 #[.agg #[.int .i64 y, .int .i64 n], .agg #[.int .i64 y', .int .i64 n']] (grow (redrawn W15 dd) os) fun e w'' => e = .returned (.int .i64 k) ∧ ∃ p : Regrown, w'' = grow (redrawn W15 p.d) p.os := fun dd os => Calls.regrown_of (H7.out _)
  have c8 : ∀ dd os, Calls Tryd.prog 27 #[.agg #[.int .i64 y, .int .i64 n], .agg #[.int .i64 y', .int .i64 n']] (grow (redrawn W15 dd) os) fun e w'' => e = .returned (.int .i64 k) ∧ ∃ p : Regrown, w'' = grow (redrawn W15 p.d) p.os := fun dd os => Calls.regrown_of (H8.out _)
  have c9 : ∀ dd os, Calls Tryd.prog 15 #[] (grow (redrawn W15 dd) os) fun e w'' => e = .returned (.bool true) ∧ ∃ p : Regrown, w'' = grow (redrawn W15 p.d) p.os := fun dd os => Calls.regrown_of (H9.out _ (HTb.out.below (below_regrown _ dd os)))
  refine wp_region_quiet_below (l := _) (by kernel_rfl) (by kernel_rfl) ?_
  repeat (first | go_big_quiet_step (first | (go_at_call 26; exact c7 _ _) | (go_at_call 27; exact c8 _ _) | (go_at_call 15; exact c9 _ _)))
  refine wpQuiet_nil ?_
  intro w2 hw'
  obtain ⟨⟨dq2, osq2⟩, hw''⟩ := hw'
  have hb2 := below_regrown W15 dq2 osq2
  rw [← hw''] at hb2
  clear hw''
  go_wp2
  go_ret
  exact ⟨rfl, HB15.out.trans (hb2.mono HB15.out.size)⟩

/-- the next period, where it and the one before it exist. -/
theorem nx_facts {f y n : Int} (h : twoE f y n (nxY y n) (nxN n) = 0) : calO f ∧ perO f y n ∧ perO f (nxY y n) (nxN n) ∧ ((n = 13 ∧ nxY y n = y + 1 ∧ nxN n = 1) ∨ (n < 13 ∧ nxY y n = y ∧ nxN n = n + 1)) := by
  obtain ⟨h1, h2, h3⟩ := twoE_0.1 h
  have b := h2.b h1
  refine ⟨h1, h2, h3, ?_⟩
  unfold nxY nxN
  by_cases k : n = 13
  · left; simp only [k, if_true]; exact ⟨trivial, wrap_in (by omega) (by omega), trivial⟩
  · right; simp only [k, if_false]; exact ⟨by omega, trivial, wrap_in (by omega) (by omega)⟩
theorem nx_back {f y n y' n' : Int} (h1 : calO f) (h2 : perO f y n) (h3 : perO f y' n') (h : (n = 13 ∧ y' = y + 1 ∧ n' = 1) ∨ (n < 13 ∧ y' = y ∧ n' = n + 1)) :
    pvY y' n' = y ∧ pvN n' = n ∧ twoE f y' n' y n = 0 ∧ twoE f y n y' n' = 0 ∧ cntV f y n y' n' = 1 ∧ cntV f y' n' y n = -1 ∧ cmpV y n y' n' = -1 ∧ cmpV y' n' y n = 1 ∧ cmpV y n y n = 0 := by
  have b := h2.b h1
  have e1 := twoE_yes h1 h3 h2
  have e2 := twoE_yes h1 h2 h3
  unfold cntV
  rw [e1, e2]
  unfold ifOk pvY pvN cmpV
  simp only [if_true]
  rcases h with ⟨rfl, rfl, rfl⟩ | ⟨k, rfl, rfl⟩
  · rw [if_pos rfl, if_pos rfl, wrap_in (by omega) (by omega), if_neg (by omega), if_pos (by omega), if_neg (by omega), if_neg (by omega), if_pos (by simp)]
    refine ⟨?_, ?_, ?_, ?_, ?_, ?_, ?_, ?_, ?_⟩ <;> first | trivial | rfl | omega
  · rw [if_neg (by omega), if_neg (by omega), wrap_in (by omega) (by omega), if_neg (by omega), if_pos (by omega), if_neg (by omega), if_neg (by omega), if_pos (by simp)]
    refine ⟨?_, ?_, ?_, ?_, ?_, ?_, ?_, ?_, ?_⟩ <;> first | trivial | rfl | omega

set_option maxHeartbeats 4000000 in
theorem fiscalNextPrev_walk (f y n : Int) (w : World) (ht : Tab w) (wf : (Lit.int .i64 f).wf = true) (wy : (Lit.int .i64 y).wf = true) (wn : (Lit.int .i64 n).wf = true) :
    Calls Tryd.prog 9 #[.agg #[.int .i64 f], .agg #[.int .i64 y, .int .i64 n]] w fun e w' => e = .returned (.bool true) ∧ Below w.heap.size w w' := by
  obtain ⟨y1, y2⟩ := i64_bd wy
  obtain ⟨n1, n2⟩ := i64_bd wn
  have H1 := Lib.hid (fun w ht => fNext_any f y n w ht y1 y2 n1 n2)
  have H9 := Lib.hid (fun w ht => lives_any w ht)
  by_cases hE : twoE f y n (nxY y n) (nxN n) = 0
  · obtain ⟨h1, h2, h3, h4⟩ := nx_facts hE
    rw [hE] at H1
    have i1 : ifOk 0 (nxY y n) = nxY y n := rfl
    have i2 : ifOk 0 (nxN n) = nxN n := rfl
    rw [i1, i2] at H1
    clear hE i1 i2
    obtain ⟨p1, p2, p3, p3', p4, p5, p6, p7, p8⟩ := nx_back h1 h2 h3 h4
    have b := h2.b h1
    have b' := h3.b h1
    generalize nxY y n = y' at *
    generalize nxN n = n' at *
    have H2 := Lib.hid (fun w ht => fPrev_any f y' n' w ht (by omega) (by omega) (by omega) (by omega))
    rw [p1, p2, p3] at H2
    have i1 : ifOk 0 y = y := rfl
    have i2 : ifOk 0 n = n := rfl
    rw [i1, i2] at H2
    have H3 := Lib.hid (fun w ht => fCount_any f y n y' n' w ht (by omega) (by omega) (by omega) (by omega))
    rw [p3', p4] at H3
    have H4 := Lib.hid (fun w ht => fCount_any f y' n' y n w ht (by omega) (by omega) (by omega) (by omega))
    rw [p3, p5] at H4
    have H6 := Lib.hid (fun w => fCmp_any y n y' n' w)
    have H7 := Lib.hid (fun w => fCmp_any y' n' y n w)
    have H8 := Lib.hid (fun w => fCmp_any y n y n w)
    rw [p6] at H6
    rw [p7] at H7
    rw [p8] at H8
    clear p1 p2 p3 p3' p4 p5 p6 p7 p8 i1 i2 h1 h2 h3 h4 b b'
    have q1 := eqPerYes y n
    go_enter Tryd.func9, Tryd.ntmps9
    go_wp2_with fail
    have P0_16 := Lib.hid (show Cell1 ((w.alloc (Obj.cells #[(.int .i64 f)] 23)).alloc (Obj.cells #[(.int .i64 y), (.int .i64 n)] 25)) (w.heap.size) (.int .i64 f) from by have q := Cell1.alloc w (.int .i64 f) 23; exact q.below (N := w.heap.size + 1) ((Below.refl _ _).alloc (by simp <;> omega) (Obj.cells #[(.int .i64 y), (.int .i64 n)] 25)) (by omega))
    have P1_16 := Lib.hid (show Cell2 ((w.alloc (Obj.cells #[(.int .i64 f)] 23)).alloc (Obj.cells #[(.int .i64 y), (.int .i64 n)] 25)) (w.heap.size + 1) (.int .i64 y) (.int .i64 n) from by simpa using Cell2.alloc (w.alloc (Obj.cells #[(.int .i64 f)] 23)) (.int .i64 y) (.int .i64 n) 25)
    have HB16 := Lib.hid (((Below.refl w.heap.size w).alloc (Nat.le_refl _) (Obj.cells #[(.int .i64 f)] 23)).alloc (by simp) (Obj.cells #[(.int .i64 y), (.int .i64 n)] 25))
    generalize ((w.alloc (Obj.cells #[(.int .i64 f)] 23)).alloc (Obj.cells #[(.int .i64 y), (.int .i64 n)] 25)) = W16 at *
    refine (H1.out _ (ht.below HB16.out)).mono ?_
    rintro e W17 ⟨rfl, hb17⟩
    have HB17 := Lib.hid (HB16.out.trans ((hb17).mono HB16.out.size))
    have P0_17 := Lib.hid (P0_16.out.below (hb17) P0_16.out.lt)
    have P1_17 := Lib.hid (P1_16.out.below (hb17) P1_16.out.lt)
    clear HB16 P0_16 P1_16 hb17
    have lP0_17 := P0_17.out.lt
    have cP0_17_0 := P0_17.out.c0
    have lP1_17 := P1_17.out.lt
    have cP1_17_0 := P1_17.out.c0
    have cP1_17_1 := P1_17.out.c1
    go_wp2_with fail
    have oq_P0_17 := P0_17.out.lt
    have oq_P1_17 := P1_17.out.lt
    have q_18 := Lib.hid (show Cell2 (W17.alloc (Obj.cells #[(.int .i64 y'), (.int .i64 n')] 25)) (W17.heap.size) (.int .i64 y') (.int .i64 n') from by exact Cell2.alloc W17 (.int .i64 y') (.int .i64 n') 25)
    have HB18 := Lib.hid (HB17.out.trans (((Below.refl W17.heap.size W17).alloc (Nat.le_refl _) (Obj.cells #[(.int .i64 y'), (.int .i64 n')] 25)).mono HB17.out.size))
    have P0_18 := Lib.hid (P0_17.out.below ((Below.refl W17.heap.size W17).alloc (Nat.le_refl _) (Obj.cells #[(.int .i64 y'), (.int .i64 n')] 25)) P0_17.out.lt)
    have P1_18 := Lib.hid (P1_17.out.below ((Below.refl W17.heap.size W17).alloc (Nat.le_refl _) (Obj.cells #[(.int .i64 y'), (.int .i64 n')] 25)) P1_17.out.lt)
    clear lP0_17 cP0_17_0 lP1_17 cP1_17_0 cP1_17_1
    clear HB17 P0_17 P1_17
    generalize W17.alloc (Obj.cells #[(.int .i64 y'), (.int .i64 n')] 25) = W19 at *
    refine (H2.out _ (ht.below HB18.out)).mono ?_
    rintro e W20 ⟨rfl, hb20⟩
    have HB20 := Lib.hid (HB18.out.trans ((hb20).mono HB18.out.size))
    have P0_20 := Lib.hid (P0_18.out.below (hb20) P0_18.out.lt)
    have P1_20 := Lib.hid (P1_18.out.below (hb20) P1_18.out.lt)
    have q_20 := Lib.hid (q_18.out.below (hb20) q_18.out.lt)
    clear HB18 P0_18 P1_18 q_18 hb20
    have lP0_20 := P0_20.out.lt
    have cP0_20_0 := P0_20.out.c0
    have lP1_20 := P1_20.out.lt
    have cP1_20_0 := P1_20.out.c0
    have cP1_20_1 := P1_20.out.c1
    have lq_20 := q_20.out.lt
    have cq_20_0 := q_20.out.c0
    have cq_20_1 := q_20.out.c1
    go_wp2_with fail
    have or_P0_20 := P0_20.out.lt
    have or_P1_20 := P1_20.out.lt
    have or_q_20 := q_20.out.lt
    have r_21 := Lib.hid (show Cell2 (W20.alloc (Obj.cells #[(.int .i64 y), (.int .i64 n)] 25)) (W20.heap.size) (.int .i64 y) (.int .i64 n) from by exact Cell2.alloc W20 (.int .i64 y) (.int .i64 n) 25)
    have HB21 := Lib.hid (HB20.out.trans (((Below.refl W20.heap.size W20).alloc (Nat.le_refl _) (Obj.cells #[(.int .i64 y), (.int .i64 n)] 25)).mono HB20.out.size))
    have P0_21 := Lib.hid (P0_20.out.below ((Below.refl W20.heap.size W20).alloc (Nat.le_refl _) (Obj.cells #[(.int .i64 y), (.int .i64 n)] 25)) P0_20.out.lt)
    have P1_21 := Lib.hid (P1_20.out.below ((Below.refl W20.heap.size W20).alloc (Nat.le_refl _) (Obj.cells #[(.int .i64 y), (.int .i64 n)] 25)) P1_20.out.lt)
    have q_21 := Lib.hid (q_20.out.below ((Below.refl W20.heap.size W20).alloc (Nat.le_refl _) (Obj.cells #[(.int .i64 y), (.int .i64 n)] 25)) q_20.out.lt)
    clear lP0_20 cP0_20_0 lP1_20 cP1_20_0 cP1_20_1 lq_20 cq_20_0 cq_20_1
    clear HB20 P0_20 P1_20 q_20
    generalize W20.alloc (Obj.cells #[(.int .i64 y), (.int .i64 n)] 25) = W22 at *
    refine (H3.out _ (ht.below HB21.out)).mono ?_
    rintro e W23 ⟨rfl, hb23⟩
    have HB23 := Lib.hid (HB21.out.trans ((hb23).mono HB21.out.size))
    have P0_23 := Lib.hid (P0_21.out.below (hb23) P0_21.out.lt)
    have P1_23 := Lib.hid (P1_21.out.below (hb23) P1_21.out.lt)
    have q_23 := Lib.hid (q_21.out.below (hb23) q_21.out.lt)
    have r_23 := Lib.hid (r_21.out.below (hb23) r_21.out.lt)
    clear HB21 P0_21 P1_21 q_21 r_21 hb23
    have lP0_23 := P0_23.out.lt
    have cP0_23_0 := P0_23.out.c0
    have lP1_23 := P1_23.out.lt
    have cP1_23_0 := P1_23.out.c0
    have cP1_23_1 := P1_23.out.c1
    have lq_23 := q_23.out.lt
    have cq_23_0 := q_23.out.c0
    have cq_23_1 := q_23.out.c1
    have lr_23 := r_23.out.lt
    have cr_23_0 := r_23.out.c0
    have cr_23_1 := r_23.out.c1
    go_wp2_with fail
    clear lP0_23 cP0_23_0 lP1_23 cP1_23_0 cP1_23_1 lq_23 cq_23_0 cq_23_1 lr_23 cr_23_0 cr_23_1
    refine (H4.out _ (ht.below HB23.out)).mono ?_
    rintro e W24 ⟨rfl, hb24⟩
    have HB24 := Lib.hid (HB23.out.trans ((hb24).mono HB23.out.size))
    have P0_24 := Lib.hid (P0_23.out.below (hb24) P0_23.out.lt)
    have P1_24 := Lib.hid (P1_23.out.below (hb24) P1_23.out.lt)
    have q_24 := Lib.hid (q_23.out.below (hb24) q_23.out.lt)
    have r_24 := Lib.hid (r_23.out.below (hb24) r_23.out.lt)
    clear HB23 P0_23 P1_23 q_23 r_23 hb24
    have lP0_24 := P0_24.out.lt
    have cP0_24_0 := P0_24.out.c0
    have lP1_24 := P1_24.out.lt
    have cP1_24_0 := P1_24.out.c0
    have cP1_24_1 := P1_24.out.c1
    have lq_24 := q_24.out.lt
    have cq_24_0 := q_24.out.c0
    have cq_24_1 := q_24.out.c1
    have lr_24 := r_24.out.lt
    have cr_24_0 := r_24.out.c0
    have cr_24_1 := r_24.out.c1
    go_wp2_with fail
    clear lP0_24 cP0_24_0 lP1_24 cP1_24_0 cP1_24_1 lq_24 cq_24_0 cq_24_1 lr_24 cr_24_0 cr_24_1
    refine (H6.out _).mono ?_
    rintro e W25 ⟨rfl, hb25⟩
    have HB25 := Lib.hid (HB24.out.trans ((hb25).mono HB24.out.size))
    have P0_25 := Lib.hid (P0_24.out.below (hb25) P0_24.out.lt)
    have P1_25 := Lib.hid (P1_24.out.below (hb25) P1_24.out.lt)
    have q_25 := Lib.hid (q_24.out.below (hb25) q_24.out.lt)
    have r_25 := Lib.hid (r_24.out.below (hb25) r_24.out.lt)
    clear HB24 P0_24 P1_24 q_24 r_24 hb25
    have lP0_25 := P0_25.out.lt
    have cP0_25_0 := P0_25.out.c0
    have lP1_25 := P1_25.out.lt
    have cP1_25_0 := P1_25.out.c0
    have cP1_25_1 := P1_25.out.c1
    have lq_25 := q_25.out.lt
    have cq_25_0 := q_25.out.c0
    have cq_25_1 := q_25.out.c1
    have lr_25 := r_25.out.lt
    have cr_25_0 := r_25.out.c0
    have cr_25_1 := r_25.out.c1
    go_wp2_with fail
    clear lP0_25 cP0_25_0 lP1_25 cP1_25_0 cP1_25_1 lq_25 cq_25_0 cq_25_1 lr_25 cr_25_0 cr_25_1
    refine (H7.out _).mono ?_
    rintro e W26 ⟨rfl, hb26⟩
    have HB26 := Lib.hid (HB25.out.trans ((hb26).mono HB25.out.size))
    have P0_26 := Lib.hid (P0_25.out.below (hb26) P0_25.out.lt)
    have P1_26 := Lib.hid (P1_25.out.below (hb26) P1_25.out.lt)
    have q_26 := Lib.hid (q_25.out.below (hb26) q_25.out.lt)
    have r_26 := Lib.hid (r_25.out.below (hb26) r_25.out.lt)
    clear HB25 P0_25 P1_25 q_25 r_25 hb26
    have lP0_26 := P0_26.out.lt
    have cP0_26_0 := P0_26.out.c0
    have lP1_26 := P1_26.out.lt
    have cP1_26_0 := P1_26.out.c0
    have cP1_26_1 := P1_26.out.c1
    have lq_26 := q_26.out.lt
    have cq_26_0 := q_26.out.c0
    have cq_26_1 := q_26.out.c1
    have lr_26 := r_26.out.lt
    have cr_26_0 := r_26.out.c0
    have cr_26_1 := r_26.out.c1
    go_wp2_with fail
    clear lP0_26 cP0_26_0 lP1_26 cP1_26_0 cP1_26_1 lq_26 cq_26_0 cq_26_1 lr_26 cr_26_0 cr_26_1
    refine (H8.out _).mono ?_
    rintro e W27 ⟨rfl, hb27⟩
    have HB27 := Lib.hid (HB26.out.trans ((hb27).mono HB26.out.size))
    have P0_27 := Lib.hid (P0_26.out.below (hb27) P0_26.out.lt)
    have P1_27 := Lib.hid (P1_26.out.below (hb27) P1_26.out.lt)
    have q_27 := Lib.hid (q_26.out.below (hb27) q_26.out.lt)
    have r_27 := Lib.hid (r_26.out.below (hb27) r_26.out.lt)
    clear HB26 P0_26 P1_26 q_26 r_26 hb27
    go_wp2_with fail
    refine (H9.out _ (ht.below HB27.out)).mono ?_
    rintro e W28 ⟨rfl, hb28⟩
    have HB28 := Lib.hid (HB27.out.trans ((hb28).mono HB27.out.size))
    have P0_28 := Lib.hid (P0_27.out.below (hb28) P0_27.out.lt)
    have P1_28 := Lib.hid (P1_27.out.below (hb28) P1_27.out.lt)
    have q_28 := Lib.hid (q_27.out.below (hb28) q_27.out.lt)
    have r_28 := Lib.hid (r_27.out.below (hb28) r_27.out.lt)
    clear HB27 P0_27 P1_27 q_27 r_27 hb28
    go_wp2
    go_ret
    exact ⟨rfl, HB28.out⟩
  · have i1 : ifOk (twoE f y n (nxY y n) (nxN n)) (nxY y n) = 0 := if_neg hE
    have i2 : ifOk (twoE f y n (nxY y n) (nxN n)) (nxN n) = 0 := if_neg hE
    rw [i1, i2] at H1
    have hE2 : (twoE f y n (nxY y n) (nxN n) != 0) = true := by simpa using hE
    clear i1 i2 hE
    generalize twoE f y n (nxY y n) (nxN n) = E at *
    have q1 := eqPerYes 0 0
    go_enter Tryd.func9, Tryd.ntmps9
    go_wp2_with fail
    have P0_29 := Lib.hid (show Cell1 ((w.alloc (Obj.cells #[(.int .i64 f)] 23)).alloc (Obj.cells #[(.int .i64 y), (.int .i64 n)] 25)) (w.heap.size) (.int .i64 f) from by have q := Cell1.alloc w (.int .i64 f) 23; exact q.below (N := w.heap.size + 1) ((Below.refl _ _).alloc (by simp <;> omega) (Obj.cells #[(.int .i64 y), (.int .i64 n)] 25)) (by omega))
    have P1_29 := Lib.hid (show Cell2 ((w.alloc (Obj.cells #[(.int .i64 f)] 23)).alloc (Obj.cells #[(.int .i64 y), (.int .i64 n)] 25)) (w.heap.size + 1) (.int .i64 y) (.int .i64 n) from by simpa using Cell2.alloc (w.alloc (Obj.cells #[(.int .i64 f)] 23)) (.int .i64 y) (.int .i64 n) 25)
    have HB29 := Lib.hid (((Below.refl w.heap.size w).alloc (Nat.le_refl _) (Obj.cells #[(.int .i64 f)] 23)).alloc (by simp) (Obj.cells #[(.int .i64 y), (.int .i64 n)] 25))
    generalize ((w.alloc (Obj.cells #[(.int .i64 f)] 23)).alloc (Obj.cells #[(.int .i64 y), (.int .i64 n)] 25)) = W29 at *
    refine (H1.out _ (ht.below HB29.out)).mono ?_
    rintro e W30 ⟨rfl, hb30⟩
    have HB30 := Lib.hid (HB29.out.trans ((hb30).mono HB29.out.size))
    have P0_30 := Lib.hid (P0_29.out.below (hb30) P0_29.out.lt)
    have P1_30 := Lib.hid (P1_29.out.below (hb30) P1_29.out.lt)
    clear HB29 P0_29 P1_29 hb30
    have lP0_30 := P0_30.out.lt
    have cP0_30_0 := P0_30.out.c0
    have lP1_30 := P1_30.out.lt
    have cP1_30_0 := P1_30.out.c0
    have cP1_30_1 := P1_30.out.c1
    go_wp2_with fail
    have oq_P0_30 := P0_30.out.lt
    have oq_P1_30 := P1_30.out.lt
    have q_31 := Lib.hid (show Cell2 (W30.alloc (Obj.cells #[(.int .i64 0), (.int .i64 0)] 25)) (W30.heap.size) (.int .i64 0) (.int .i64 0) from by exact Cell2.alloc W30 (.int .i64 0) (.int .i64 0) 25)
    have HB31 := Lib.hid (HB30.out.trans (((Below.refl W30.heap.size W30).alloc (Nat.le_refl _) (Obj.cells #[(.int .i64 0), (.int .i64 0)] 25)).mono HB30.out.size))
    have P0_31 := Lib.hid (P0_30.out.below ((Below.refl W30.heap.size W30).alloc (Nat.le_refl _) (Obj.cells #[(.int .i64 0), (.int .i64 0)] 25)) P0_30.out.lt)
    have P1_31 := Lib.hid (P1_30.out.below ((Below.refl W30.heap.size W30).alloc (Nat.le_refl _) (Obj.cells #[(.int .i64 0), (.int .i64 0)] 25)) P1_30.out.lt)
    clear lP0_30 cP0_30_0 lP1_30 cP1_30_0 cP1_30_1
    clear HB30 P0_30 P1_30
    generalize W30.alloc (Obj.cells #[(.int .i64 0), (.int .i64 0)] 25) = W32 at *
    refine (H9.out _ (ht.below HB31.out)).mono ?_
    rintro e W33 ⟨rfl, hb33⟩
    have HB33 := Lib.hid (HB31.out.trans ((hb33).mono HB31.out.size))
    have P0_33 := Lib.hid (P0_31.out.below (hb33) P0_31.out.lt)
    have P1_33 := Lib.hid (P1_31.out.below (hb33) P1_31.out.lt)
    have q_33 := Lib.hid (q_31.out.below (hb33) q_31.out.lt)
    clear HB31 P0_31 P1_31 q_31 hb33
    go_wp2
    go_ret
    exact ⟨rfl, HB33.out⟩

/-- the spans of a period and of the next one. -/
theorem tiles {f y n y' n' : Int} (h1 : calO f) (h2 : perO f y n) (h3 : perO f y' n') (h : (n = 13 ∧ y' = y + 1 ∧ n' = 1) ∨ (n < 13 ∧ y' = y ∧ n' = n + 1)) :
    (∀ x, x = spF f y n ∨ x = spL f y n ∨ x = spF f y' n' ∨ x = spL f y' n' → -1 ≤ x ∧ x ≤ 200000) ∧ spF f y n ≤ spL f y n ∧ spF f y' n' ≤ spL f y' n' ∧ ((n' = 13 ∧ spF f y' n' = spL f y n ∧ spL f y' n' = spL f y n) ∨ (n' ≠ 13 ∧ spF f y' n' = spL f y n + 1 ∧ 27 ≤ spL f y' n' - spF f y' n' ∧ spL f y' n' - spF f y' n' ≤ 30)) := by
  have b := h2.b h1
  have b' := h3.b h1
  rcases h with ⟨rfl, rfl, rfl⟩ | ⟨k, rfl, rfl⟩
  · rw [sp_13.1, sp_13.2, (sp_n (by decide)).1, (sp_n (by decide)).2]
    have e := fdM_year (f := f) (y := y) h1 b.1
    have s := fdM_step (f := f) (y := y + 1) (j := 0) h1 (by omega) (by omega) (by omega)
    have u := fdM_b (f := f) (y := y) (j := 12) h1 (by omega) (by omega) (by omega) (by omega)
    rw [show (0 : Int) + 1 = 1 from rfl] at s
    rw [show (1 : Int) - 1 = 0 from rfl, e] at *
    refine ⟨?_, by omega, by omega, .inr ⟨by decide, by omega, by omega, by omega⟩⟩
    rintro x (rfl | rfl | rfl | rfl) <;> omega
  · have u := fdM_b (f := f) (y := y') (j := n) h1 (by omega) (by omega) (by omega) (by omega)
    have u2 := fdM_b (f := f) (y := y') (j := n - 1) h1 (by omega) (by omega) (by omega) (by omega)
    have s := fdM_step (f := f) (y := y') (j := n - 1) h1 (by omega) (by omega) (by omega)
    rw [show n - 1 + 1 = n by omega] at s
    have s2 := fdM_step (f := f) (y := y') (j := n) h1 (by omega) (by omega) (by omega)
    rw [(sp_n (f := f) (y := y') (n := n) (by omega)).1, (sp_n (f := f) (y := y') (n := n) (by omega)).2]
    by_cases k12 : n = 12
    · subst k12
      rw [show (12 : Int) + 1 = 13 from rfl, sp_13.1, sp_13.2]
      refine ⟨?_, by omega, by omega, .inl ⟨rfl, rfl, rfl⟩⟩
      rintro x (rfl | rfl | rfl | rfl) <;> omega
    · rw [(sp_n (f := f) (y := y') (n := n + 1) (by omega)).1, (sp_n (f := f) (y := y') (n := n + 1) (by omega)).2, show n + 1 - 1 = n by omega]
      refine ⟨?_, by omega, by omega, .inr ⟨by omega, by omega, by omega, by omega⟩⟩
      rintro x (rfl | rfl | rfl | rfl) <;> omega

set_option maxHeartbeats 4000000 in
theorem fiscalTiles_walk (f y n : Int) (w : World) (ht : Tab w) (wf : (Lit.int .i64 f).wf = true) (wy : (Lit.int .i64 y).wf = true) (wn : (Lit.int .i64 n).wf = true) :
    Calls Tryd.prog 8 #[.agg #[.int .i64 f], .agg #[.int .i64 y, .int .i64 n]] w fun e w' => e = .returned (.bool true) ∧ Below w.heap.size w w' := by
  obtain ⟨y1, y2⟩ := i64_bd wy
  obtain ⟨n1, n2⟩ := i64_bd wn
  have H1 := Lib.hid (fun w ht => fNext_any f y n w ht y1 y2 n1 n2)
  have H9 := Lib.hid (fun w ht => lives_any w ht)
  by_cases hE : twoE f y n (nxY y n) (nxN n) = 0
  · obtain ⟨h1, h2, h3, h4⟩ := nx_facts hE
    rw [hE] at H1
    have i1 : ifOk 0 (nxY y n) = nxY y n := rfl
    have i2 : ifOk 0 (nxN n) = nxN n := rfl
    rw [i1, i2] at H1
    clear hE i1 i2
    obtain ⟨t0, t1, t2, t3⟩ := tiles h1 h2 h3 h4
    have b' := h3.b h1
    generalize nxY y n = y' at *
    generalize nxN n = n' at *
    have H2 := Lib.hid (fun w ht => fSpan_any f y n w ht y1 y2)
    have H3 := Lib.hid (fun w ht => fSpan_any f y' n' w ht (by omega) (by omega))
    have s1 := spa_yes h1 h2
    have s2 := spa_yes h1 h3
    rw [s1.1, s1.2.1, s1.2.2] at H2
    rw [s2.1, s2.2.1, s2.2.2] at H3
    have u1 := t0 _ (.inl rfl)
    have u2 := t0 _ (.inr (.inl rfl))
    have u3 := t0 _ (.inr (.inr (.inl rfl)))
    have u4 := t0 _ (.inr (.inr (.inr rfl)))
    clear t0 s1 s2 h1 h2 h3 h4 b'
    generalize spF f y n = a at *
    generalize spL f y n = b at *
    generalize spF f y' n' = c at *
    generalize spL f y' n' = d at *
    obtain ⟨u11, u12⟩ := u1
    obtain ⟨u21, u22⟩ := u2
    obtain ⟨u31, u32⟩ := u3
    obtain ⟨u41, u42⟩ := u4
    have HT := Lib.hid t3
    clear t3
    go_enter Tryd.func8, Tryd.ntmps8
    go_wp2_with fail
    have P0_34 := Lib.hid (show Cell1 ((w.alloc (Obj.cells #[(.int .i64 f)] 23)).alloc (Obj.cells #[(.int .i64 y), (.int .i64 n)] 25)) (w.heap.size) (.int .i64 f) from by have q := Cell1.alloc w (.int .i64 f) 23; exact q.below (N := w.heap.size + 1) ((Below.refl _ _).alloc (by simp <;> omega) (Obj.cells #[(.int .i64 y), (.int .i64 n)] 25)) (by omega))
    have P1_34 := Lib.hid (show Cell2 ((w.alloc (Obj.cells #[(.int .i64 f)] 23)).alloc (Obj.cells #[(.int .i64 y), (.int .i64 n)] 25)) (w.heap.size + 1) (.int .i64 y) (.int .i64 n) from by simpa using Cell2.alloc (w.alloc (Obj.cells #[(.int .i64 f)] 23)) (.int .i64 y) (.int .i64 n) 25)
    have HB34 := Lib.hid (((Below.refl w.heap.size w).alloc (Nat.le_refl _) (Obj.cells #[(.int .i64 f)] 23)).alloc (by simp) (Obj.cells #[(.int .i64 y), (.int .i64 n)] 25))
    generalize ((w.alloc (Obj.cells #[(.int .i64 f)] 23)).alloc (Obj.cells #[(.int .i64 y), (.int .i64 n)] 25)) = W34 at *
    refine (H1.out _ (ht.below HB34.out)).mono ?_
    rintro e W35 ⟨rfl, hb35⟩
    have HB35 := Lib.hid (HB34.out.trans ((hb35).mono HB34.out.size))
    have P0_35 := Lib.hid (P0_34.out.below (hb35) P0_34.out.lt)
    have P1_35 := Lib.hid (P1_34.out.below (hb35) P1_34.out.lt)
    clear HB34 P0_34 P1_34 hb35
    have lP0_35 := P0_35.out.lt
    have cP0_35_0 := P0_35.out.c0
    have lP1_35 := P1_35.out.lt
    have cP1_35_0 := P1_35.out.c0
    have cP1_35_1 := P1_35.out.c1
    go_wp2_with fail
    have oq_P0_35 := P0_35.out.lt
    have oq_P1_35 := P1_35.out.lt
    have q_36 := Lib.hid (show Cell2 (W35.alloc (Obj.cells #[(.int .i64 y'), (.int .i64 n')] 25)) (W35.heap.size) (.int .i64 y') (.int .i64 n') from by exact Cell2.alloc W35 (.int .i64 y') (.int .i64 n') 25)
    have HB36 := Lib.hid (HB35.out.trans (((Below.refl W35.heap.size W35).alloc (Nat.le_refl _) (Obj.cells #[(.int .i64 y'), (.int .i64 n')] 25)).mono HB35.out.size))
    have P0_36 := Lib.hid (P0_35.out.below ((Below.refl W35.heap.size W35).alloc (Nat.le_refl _) (Obj.cells #[(.int .i64 y'), (.int .i64 n')] 25)) P0_35.out.lt)
    have P1_36 := Lib.hid (P1_35.out.below ((Below.refl W35.heap.size W35).alloc (Nat.le_refl _) (Obj.cells #[(.int .i64 y'), (.int .i64 n')] 25)) P1_35.out.lt)
    clear lP0_35 cP0_35_0 lP1_35 cP1_35_0 cP1_35_1
    clear HB35 P0_35 P1_35
    generalize W35.alloc (Obj.cells #[(.int .i64 y'), (.int .i64 n')] 25) = W37 at *
    refine (H2.out _ (ht.below HB36.out)).mono ?_
    rintro e W38 ⟨rfl, hb38⟩
    have HB38 := Lib.hid (HB36.out.trans ((hb38).mono HB36.out.size))
    have P0_38 := Lib.hid (P0_36.out.below (hb38) P0_36.out.lt)
    have P1_38 := Lib.hid (P1_36.out.below (hb38) P1_36.out.lt)
    have q_38 := Lib.hid (q_36.out.below (hb38) q_36.out.lt)
    clear HB36 P0_36 P1_36 q_36 hb38
    have lP0_38 := P0_38.out.lt
    have cP0_38_0 := P0_38.out.c0
    have lP1_38 := P1_38.out.lt
    have cP1_38_0 := P1_38.out.c0
    have cP1_38_1 := P1_38.out.c1
    have lq_38 := q_38.out.lt
    have cq_38_0 := q_38.out.c0
    have cq_38_1 := q_38.out.c1
    go_wp2_with fail
    clear lP0_38 cP0_38_0 lP1_38 cP1_38_0 cP1_38_1 lq_38 cq_38_0 cq_38_1
    refine (H3.out _ (ht.below HB38.out)).mono ?_
    rintro e W39 ⟨rfl, hb39⟩
    have HB39 := Lib.hid (HB38.out.trans ((hb39).mono HB38.out.size))
    have P0_39 := Lib.hid (P0_38.out.below (hb39) P0_38.out.lt)
    have P1_39 := Lib.hid (P1_38.out.below (hb39) P1_38.out.lt)
    have q_39 := Lib.hid (q_38.out.below (hb39) q_38.out.lt)
    clear HB38 P0_38 P1_38 q_38 hb39
    have lP0_39 := P0_39.out.lt
    have cP0_39_0 := P0_39.out.c0
    have lP1_39 := P1_39.out.lt
    have cP1_39_0 := P1_39.out.c0
    have cP1_39_1 := P1_39.out.c1
    have lq_39 := q_39.out.lt
    have cq_39_0 := q_39.out.c0
    have cq_39_1 := q_39.out.c1
    rcases HT.out with ⟨rfl, rfl, rfl⟩ | ⟨g1, rfl, g2, g3⟩
    · clear HT
      go_wp2_with fail
      clear lP0_39 cP0_39_0 lP1_39 cP1_39_0 cP1_39_1 lq_39 cq_39_0 cq_39_1
      refine (H9.out _ (ht.below HB39.out)).mono ?_
      rintro e W40 ⟨rfl, hb40⟩
      have HB40 := Lib.hid (HB39.out.trans ((hb40).mono HB39.out.size))
      have P0_40 := Lib.hid (P0_39.out.below (hb40) P0_39.out.lt)
      have P1_40 := Lib.hid (P1_39.out.below (hb40) P1_39.out.lt)
      have q_40 := Lib.hid (q_39.out.below (hb40) q_39.out.lt)
      clear HB39 P0_39 P1_39 q_39 hb40
      go_wp2
      go_ret
      exact ⟨rfl, HB40.out⟩
    · clear HT
      have g4 : (n' == 13) = false := by simpa using g1
      clear g1
      go_wp2_with fail
      clear lP0_39 cP0_39_0 lP1_39 cP1_39_0 cP1_39_1 lq_39 cq_39_0 cq_39_1
      refine (H9.out _ (ht.below HB39.out)).mono ?_
      rintro e W41 ⟨rfl, hb41⟩
      have HB41 := Lib.hid (HB39.out.trans ((hb41).mono HB39.out.size))
      have P0_41 := Lib.hid (P0_39.out.below (hb41) P0_39.out.lt)
      have P1_41 := Lib.hid (P1_39.out.below (hb41) P1_39.out.lt)
      have q_41 := Lib.hid (q_39.out.below (hb41) q_39.out.lt)
      clear HB39 P0_39 P1_39 q_39 hb41
      go_wp2
      go_ret
      exact ⟨rfl, HB41.out⟩
  · have i1 : ifOk (twoE f y n (nxY y n) (nxN n)) (nxY y n) = 0 := if_neg hE
    have i2 : ifOk (twoE f y n (nxY y n) (nxN n)) (nxN n) = 0 := if_neg hE
    rw [i1, i2] at H1
    have hE2 : (twoE f y n (nxY y n) (nxN n) != 0) = true := by simpa using hE
    clear i1 i2 hE
    generalize twoE f y n (nxY y n) (nxN n) = E at *
    have q1 := eqPerYes 0 0
    go_enter Tryd.func8, Tryd.ntmps8
    go_wp2_with fail
    have P0_42 := Lib.hid (show Cell1 ((w.alloc (Obj.cells #[(.int .i64 f)] 23)).alloc (Obj.cells #[(.int .i64 y), (.int .i64 n)] 25)) (w.heap.size) (.int .i64 f) from by have q := Cell1.alloc w (.int .i64 f) 23; exact q.below (N := w.heap.size + 1) ((Below.refl _ _).alloc (by simp <;> omega) (Obj.cells #[(.int .i64 y), (.int .i64 n)] 25)) (by omega))
    have P1_42 := Lib.hid (show Cell2 ((w.alloc (Obj.cells #[(.int .i64 f)] 23)).alloc (Obj.cells #[(.int .i64 y), (.int .i64 n)] 25)) (w.heap.size + 1) (.int .i64 y) (.int .i64 n) from by simpa using Cell2.alloc (w.alloc (Obj.cells #[(.int .i64 f)] 23)) (.int .i64 y) (.int .i64 n) 25)
    have HB42 := Lib.hid (((Below.refl w.heap.size w).alloc (Nat.le_refl _) (Obj.cells #[(.int .i64 f)] 23)).alloc (by simp) (Obj.cells #[(.int .i64 y), (.int .i64 n)] 25))
    generalize ((w.alloc (Obj.cells #[(.int .i64 f)] 23)).alloc (Obj.cells #[(.int .i64 y), (.int .i64 n)] 25)) = W42 at *
    refine (H1.out _ (ht.below HB42.out)).mono ?_
    rintro e W43 ⟨rfl, hb43⟩
    have HB43 := Lib.hid (HB42.out.trans ((hb43).mono HB42.out.size))
    have P0_43 := Lib.hid (P0_42.out.below (hb43) P0_42.out.lt)
    have P1_43 := Lib.hid (P1_42.out.below (hb43) P1_42.out.lt)
    clear HB42 P0_42 P1_42 hb43
    have lP0_43 := P0_43.out.lt
    have cP0_43_0 := P0_43.out.c0
    have lP1_43 := P1_43.out.lt
    have cP1_43_0 := P1_43.out.c0
    have cP1_43_1 := P1_43.out.c1
    go_wp2_with fail
    have oq_P0_43 := P0_43.out.lt
    have oq_P1_43 := P1_43.out.lt
    have q_44 := Lib.hid (show Cell2 (W43.alloc (Obj.cells #[(.int .i64 0), (.int .i64 0)] 25)) (W43.heap.size) (.int .i64 0) (.int .i64 0) from by exact Cell2.alloc W43 (.int .i64 0) (.int .i64 0) 25)
    have HB44 := Lib.hid (HB43.out.trans (((Below.refl W43.heap.size W43).alloc (Nat.le_refl _) (Obj.cells #[(.int .i64 0), (.int .i64 0)] 25)).mono HB43.out.size))
    have P0_44 := Lib.hid (P0_43.out.below ((Below.refl W43.heap.size W43).alloc (Nat.le_refl _) (Obj.cells #[(.int .i64 0), (.int .i64 0)] 25)) P0_43.out.lt)
    have P1_44 := Lib.hid (P1_43.out.below ((Below.refl W43.heap.size W43).alloc (Nat.le_refl _) (Obj.cells #[(.int .i64 0), (.int .i64 0)] 25)) P1_43.out.lt)
    clear lP0_43 cP0_43_0 lP1_43 cP1_43_0 cP1_43_1
    clear HB43 P0_43 P1_43
    generalize W43.alloc (Obj.cells #[(.int .i64 0), (.int .i64 0)] 25) = W45 at *
    refine (H9.out _ (ht.below HB44.out)).mono ?_
    rintro e W46 ⟨rfl, hb46⟩
    have HB46 := Lib.hid (HB44.out.trans ((hb46).mono HB44.out.size))
    have P0_46 := Lib.hid (P0_44.out.below (hb46) P0_44.out.lt)
    have P1_46 := Lib.hid (P1_44.out.below (hb46) P1_44.out.lt)
    have q_46 := Lib.hid (q_44.out.below (hb46) q_44.out.lt)
    clear HB44 P0_44 P1_44 q_44 hb46
    go_wp2
    go_ret
    exact ⟨rfl, HB46.out⟩
end Go.Proofs.YtaibjmdfkahjjaaDoor
