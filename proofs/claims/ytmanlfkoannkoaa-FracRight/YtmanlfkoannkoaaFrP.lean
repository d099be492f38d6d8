/- The laws FracRight, FracMake, FracApply, FracText, FracOrder, FracInverse and FracArith return true. -/
import Derived.Test.YtmanlfkoannkoaaFrO
namespace Go.Proofs.Ytmanlfkoannkoaa
open Go.RowKit Go.Sort
set_option linter.unusedVariables false
set_option linter.unusedSimpArgs false

set_option maxRecDepth 100000 in
set_option maxHeartbeats 4000000 in
theorem fracRight_walk (a b : Int) (w : World) (wa : (Lit.int .i64 a).wf = true) (wb : (Lit.int .i64 b).wf = true) :
    Calls Try.prog 3 #[.agg #[.int .i64 a, .int .i64 b]] w fun e w' => e = .returned (.bool true) ∧ Below w.heap.size w w' := by
  obtain ⟨a1, a2⟩ := i64_rng wa
  obtain ⟨b1, b2⟩ := i64_rng wb
  clear wa wb
  have H1 := Lib.hid (fun W => right_any a b W a1 a2 b1 b2)
  have H2 := Lib.hid (fun W => rRight_any a b W a1 a2 b1 b2)
  have H3 := Lib.hid lives3_any
  generalize rightB a b = r at *
  cases r
  all_goals
    go_enter Try.func3, Try.ntmps3
    go_wp2_with fail
  · skip
    have P0_1 := Lib.hid (show Cell2 (w.alloc (Obj.cells #[(.int .i64 a), (.int .i64 b)] 23)) (w.heap.size) (.int .i64 a) (.int .i64 b) from by simpa using Cell2.alloc w (.int .i64 a) (.int .i64 b) 23)
    have HB1 := Lib.hid ((Below.refl w.heap.size w).alloc (Nat.le_refl _) (Obj.cells #[(.int .i64 a), (.int .i64 b)] 23))
    generalize (w.alloc (Obj.cells #[(.int .i64 a), (.int .i64 b)] 23)) = W1 at *
    have l0 := cell_regrown P0_1.out.c0
    have l1 := cell_regrown P0_1.out.c1
    have c1 : ∀ dd os, Calls Try.prog 12 #[.agg #[.int .i64 a, .int .i64 b]] (grow (redrawn W1 dd) os) fun e w'' => e = .returned (.bool false) ∧ ∃ p : Regrown, w'' = grow (redrawn W1 p.d) p.os := fun dd os => Calls.regrown_of (H1.out _)
    have c2 : ∀ dd os, Calls Try.prog 13 #[.agg #[.int .i64 a, .int .i64 b]] (grow (redrawn W1 dd) os) fun e w'' => e = .returned (.bool false) ∧ ∃ p : Regrown, w'' = grow (redrawn W1 p.d) p.os := fun dd os => Calls.regrown_of (H2.out _)
    have c3 : ∀ dd os, Calls Try.prog 14 #[] (grow (redrawn W1 dd) os) fun e w'' => e = .returned (.bool true) ∧ ∃ p : Regrown, w'' = grow (redrawn W1 p.d) p.os := fun dd os => Calls.regrown_of (H3.out _)
    refine wp_region_quiet_below (l := _) (by kernel_rfl) (by kernel_rfl) ?_
    repeat (first | go_big_quiet_step (first | (go_at_call 12; exact c1 _ _) | (go_at_call 13; exact c2 _ _) | (go_at_call 14; exact c3 _ _)))
    refine wpQuiet_nil ?_
    intro w2 hw'
    obtain ⟨⟨dq2, osq2⟩, hw''⟩ := hw'
    have hb2 := below_regrown W1 dq2 osq2
    rw [← hw''] at hb2
    clear hw'' c1 c2 c3 l0 l1
    have HB2 := Lib.hid (HB1.out.trans ((hb2).mono HB1.out.size))
    have P0_2 := Lib.hid (P0_1.out.below (hb2) P0_1.out.lt)
    clear HB1 P0_1 hb2
    go_wp2
    go_ret
    exact ⟨rfl, HB2.out⟩
  · skip
    have P0_3 := Lib.hid (show Cell2 (w.alloc (Obj.cells #[(.int .i64 a), (.int .i64 b)] 23)) (w.heap.size) (.int .i64 a) (.int .i64 b) from by simpa using Cell2.alloc w (.int .i64 a) (.int .i64 b) 23)
    have HB3 := Lib.hid ((Below.refl w.heap.size w).alloc (Nat.le_refl _) (Obj.cells #[(.int .i64 a), (.int .i64 b)] 23))
    generalize (w.alloc (Obj.cells #[(.int .i64 a), (.int .i64 b)] 23)) = W3 at *
    have l0 := cell_regrown P0_3.out.c0
    have l1 := cell_regrown P0_3.out.c1
    have c1 : ∀ dd os, Calls Try.prog 12 #[.agg #[.int .i64 a, .int .i64 b]] (grow (redrawn W3 dd) os) fun e w'' => e = .returned (.bool true) ∧ ∃ p : Regrown, w'' = grow (redrawn W3 p.d) p.os := fun dd os => Calls.regrown_of (H1.out _)
    have c2 : ∀ dd os, Calls Try.prog 13 #[.agg #[.int .i64 a, .int .i64 b]] (grow (redrawn W3 dd) os) fun e w'' => e = .returned (.bool true) ∧ ∃ p : Regrown, w'' = grow (redrawn W3 p.d) p.os := fun dd os => Calls.regrown_of (H2.out _)
    have c3 : ∀ dd os, Calls Try.prog 14 #[] (grow (redrawn W3 dd) os) fun e w'' => e = .returned (.bool true) ∧ ∃ p : Regrown, w'' = grow (redrawn W3 p.d) p.os := fun dd os => Calls.regrown_of (H3.out _)
    refine wp_region_quiet_below (l := _) (by kernel_rfl) (by kernel_rfl) ?_
    repeat (first | go_big_quiet_step (first | (go_at_call 12; exact c1 _ _) | (go_at_call 13; exact c2 _ _) | (go_at_call 14; exact c3 _ _)))
    refine wpQuiet_nil ?_
    intro w2 hw'
    obtain ⟨⟨dq2, osq2⟩, hw''⟩ := hw'
    have hb2 := below_regrown W3 dq2 osq2
    rw [← hw''] at hb2
    clear hw'' c1 c2 c3 l0 l1
    have HB4 := Lib.hid (HB3.out.trans ((hb2).mono HB3.out.size))
    have P0_4 := Lib.hid (P0_3.out.below (hb2) P0_3.out.lt)
    clear HB3 P0_3 hb2
    go_wp2
    go_ret
    exact ⟨rfl, HB4.out⟩
set_option maxRecDepth 100000 in
set_option maxHeartbeats 4000000 in
theorem fracMake_walk (n d : Int) (w : World) (wa : (Lit.int .i64 n).wf = true) (wb : (Lit.int .i64 d).wf = true) :
    Calls Try.prog 4 #[.int .i64 n, .int .i64 d] w fun e w' => e = .returned (.bool true) ∧ Below w.heap.size w w' := by
  obtain ⟨a1, a2⟩ := i64_rng wa
  obtain ⟨b1, b2⟩ := i64_rng wb
  clear wa wb
  have H1 := Lib.hid (fun W => make_any n d W a1 a2 b1 b2)
  have H2 := Lib.hid (fun W => rMake_any n d W a1 a2 b1 b2)
  have H3 := Lib.hid lives3_any
  generalize mkN n d = x at *
  generalize mkD n d = y at *
  generalize mkE n d = z at *
  go_enter Try.func4, Try.ntmps4
  go_wp2_with fail
  refine (H1.out _).mono ?_
  rintro e W5 ⟨rfl, hb5⟩
  have HB5 := Lib.hid (hb5)
  clear hb5
  go_wp2_with fail
  have P0_6 := Lib.hid (Cell2.alloc W5 (.int .i64 x) (.int .i64 y) 23)
  have HB6 := Lib.hid (HB5.out.trans (((Below.refl W5.heap.size W5).alloc (Nat.le_refl _) (Obj.cells #[(.int .i64 x), (.int .i64 y)] 23)).mono HB5.out.size))
  clear HB5
  generalize W5.alloc (Obj.cells #[(.int .i64 x), (.int .i64 y)] 23) = W6 at *
  refine (H2.out _).mono ?_
  rintro e W7 ⟨rfl, hb7⟩
  have HB7 := Lib.hid (HB6.out.trans ((hb7).mono HB6.out.size))
  have P0_7 := Lib.hid (P0_6.out.below (hb7) P0_6.out.lt)
  clear HB6 P0_6 hb7
  have lP0_7 := P0_7.out.lt
  have cP0_7_0 := P0_7.out.c0
  have cP0_7_1 := P0_7.out.c1
  go_wp2_with fail
  clear lP0_7 cP0_7_0 cP0_7_1
  have P1_8 := Lib.hid (Cell2.alloc W7 (.int .i64 x) (.int .i64 y) 23)
  have HB8 := Lib.hid (HB7.out.trans (((Below.refl W7.heap.size W7).alloc (Nat.le_refl _) (Obj.cells #[(.int .i64 x), (.int .i64 y)] 23)).mono HB7.out.size))
  have P0_8 := Lib.hid (P0_7.out.below ((Below.refl W7.heap.size W7).alloc (Nat.le_refl _) (Obj.cells #[(.int .i64 x), (.int .i64 y)] 23)) P0_7.out.lt)
  clear HB7 P0_7
  generalize W7.alloc (Obj.cells #[(.int .i64 x), (.int .i64 y)] 23) = W8 at *
  refine (H3.out _).mono ?_
  rintro e W9 ⟨rfl, hb9⟩
  have HB9 := Lib.hid (HB8.out.trans ((hb9).mono HB8.out.size))
  have P0_9 := Lib.hid (P0_8.out.below (hb9) P0_8.out.lt)
  have P1_9 := Lib.hid (P1_8.out.below (hb9) P1_8.out.lt)
  clear HB8 P0_8 P1_8 hb9
  go_wp2
  go_ret
  exact ⟨rfl, HB9.out⟩
set_option maxRecDepth 100000 in
set_option maxHeartbeats 4000000 in
theorem fracApply_walk (a b n m : Int) (w : World) (wa : (Lit.int .i64 a).wf = true) (wb : (Lit.int .i64 b).wf = true) (wn : (Lit.int .i64 n).wf = true) (wm : (Lit.int .i64 m).wf = true) :
    Calls Try.prog 6 #[.agg #[.int .i64 a, .int .i64 b], .int .i64 n, .int .i64 m] w fun e w' => e = .returned (.bool true) ∧ Below w.heap.size w w' := by
  obtain ⟨a1, a2⟩ := i64_rng wa
  obtain ⟨b1, b2⟩ := i64_rng wb
  obtain ⟨n1, n2⟩ := i64_rng wn
  clear wa wb wn wm
  have H1 := Lib.hid (fun W => applyF_any a b n m W a1 a2 b1 b2 n1 n2)
  have H2 := Lib.hid (fun W => rApplyF_any a b n m W a1 a2 b1 b2 n1 n2)
  have H3 := Lib.hid lives3_any
  generalize (apV a b n m).1 = x at *
  generalize (apV a b n m).2 = y at *
  go_enter Try.func6, Try.ntmps6
  go_wp2_with fail
  have P0_10 := Lib.hid (show Cell2 (w.alloc (Obj.cells #[(.int .i64 a), (.int .i64 b)] 23)) (w.heap.size) (.int .i64 a) (.int .i64 b) from by simpa using Cell2.alloc w (.int .i64 a) (.int .i64 b) 23)
  have HB10 := Lib.hid ((Below.refl w.heap.size w).alloc (Nat.le_refl _) (Obj.cells #[(.int .i64 a), (.int .i64 b)] 23))
  generalize (w.alloc (Obj.cells #[(.int .i64 a), (.int .i64 b)] 23)) = W10 at *
  refine (H1.out _).mono ?_
  rintro e W11 ⟨rfl, hb11⟩
  have HB11 := Lib.hid (HB10.out.trans ((hb11).mono HB10.out.size))
  have P0_11 := Lib.hid (P0_10.out.below (hb11) P0_10.out.lt)
  clear HB10 P0_10 hb11
  have lP0_11 := P0_11.out.lt
  have cP0_11_0 := P0_11.out.c0
  have cP0_11_1 := P0_11.out.c1
  go_wp2_with fail
  clear lP0_11 cP0_11_0 cP0_11_1
  refine (H2.out _).mono ?_
  rintro e W12 ⟨rfl, hb12⟩
  have HB12 := Lib.hid (HB11.out.trans ((hb12).mono HB11.out.size))
  have P0_12 := Lib.hid (P0_11.out.below (hb12) P0_11.out.lt)
  clear HB11 P0_11 hb12
  have lP0_12 := P0_12.out.lt
  have cP0_12_0 := P0_12.out.c0
  have cP0_12_1 := P0_12.out.c1
  go_wp2_with fail
  clear lP0_12 cP0_12_0 cP0_12_1
  refine (H3.out _).mono ?_
  rintro e W13 ⟨rfl, hb13⟩
  have HB13 := Lib.hid (HB12.out.trans ((hb13).mono HB12.out.size))
  have P0_13 := Lib.hid (P0_12.out.below (hb13) P0_12.out.lt)
  clear HB12 P0_12 hb13
  go_wp2
  go_ret
  exact ⟨rfl, HB13.out⟩
set_option maxRecDepth 100000 in
set_option maxHeartbeats 4000000 in
theorem fracText_walk (a b : Int) (w : World) (wa : (Lit.int .i64 a).wf = true) (wb : (Lit.int .i64 b).wf = true) :
    Calls Try.prog 7 #[.agg #[.int .i64 a, .int .i64 b]] w fun e w' => e = .returned (.bool true) ∧ Below w.heap.size w w' := by
  obtain ⟨a1, a2⟩ := i64_rng wa
  obtain ⟨b1, b2⟩ := i64_rng wb
  clear wa wb
  have H1 := Lib.hid (fun W => textF_any a b W a1 a2 b1 b2)
  have H2 := Lib.hid (fun W => rTextF_any a b W a1 a2 b1 b2)
  have H3 := Lib.hid lives3_any
  generalize txS a b = x at *
  generalize txE a b = y at *
  go_enter Try.func7, Try.ntmps7
  go_wp2_with fail
  have P0_14 := Lib.hid (show Cell2 (w.alloc (Obj.cells #[(.int .i64 a), (.int .i64 b)] 23)) (w.heap.size) (.int .i64 a) (.int .i64 b) from by simpa using Cell2.alloc w (.int .i64 a) (.int .i64 b) 23)
  have HB14 := Lib.hid ((Below.refl w.heap.size w).alloc (Nat.le_refl _) (Obj.cells #[(.int .i64 a), (.int .i64 b)] 23))
  generalize (w.alloc (Obj.cells #[(.int .i64 a), (.int .i64 b)] 23)) = W14 at *
  refine (H1.out _).mono ?_
  rintro e W15 ⟨rfl, hb15⟩
  have HB15 := Lib.hid (HB14.out.trans ((hb15).mono HB14.out.size))
  have P0_15 := Lib.hid (P0_14.out.below (hb15) P0_14.out.lt)
  clear HB14 P0_14 hb15
  have lP0_15 := P0_15.out.lt
  have cP0_15_0 := P0_15.out.c0
  have cP0_15_1 := P0_15.out.c1
  go_wp2_with fail
  clear lP0_15 cP0_15_0 cP0_15_1
  refine (H2.out _).mono ?_
  rintro e W16 ⟨rfl, hb16⟩
  have HB16 := Lib.hid (HB15.out.trans ((hb16).mono HB15.out.size))
  have P0_16 := Lib.hid (P0_15.out.below (hb16) P0_15.out.lt)
  clear HB15 P0_15 hb16
  have lP0_16 := P0_16.out.lt
  have cP0_16_0 := P0_16.out.c0
  have cP0_16_1 := P0_16.out.c1
  go_wp2_with fail
  clear lP0_16 cP0_16_0 cP0_16_1
  refine (H3.out _).mono ?_
  rintro e W17 ⟨rfl, hb17⟩
  have HB17 := Lib.hid (HB16.out.trans ((hb17).mono HB16.out.size))
  have P0_17 := Lib.hid (P0_16.out.below (hb17) P0_16.out.lt)
  clear HB16 P0_16 hb17
  go_wp2
  go_ret
  exact ⟨rfl, HB17.out⟩
end Go.Proofs.Ytmanlfkoannkoaa
