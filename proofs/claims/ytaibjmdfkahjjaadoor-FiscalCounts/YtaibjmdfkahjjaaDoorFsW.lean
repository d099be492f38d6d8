/- The statements FiscalSpanReference and FiscalOfReference of package accountinglaw05. -/
import Derived.Test.YtaibjmdfkahjjaaDoorFsL
import Derived.Test.YtaibjmdfkahjjaaDoorFsJ
namespace Go.Proofs.YtaibjmdfkahjjaaDoor
open Go.RowKit Go.Sort
set_option linter.unusedVariables false

theorem i64_bd {a : Int} (h : (Lit.int .i64 a).wf = true) : -9223372036854775808 ≤ a ∧ a ≤ 9223372036854775807 := by
  simp [Lit.wf, IntKind.min, IntKind.max, IntKind.signed, IntKind.bits] at h; omega

set_option maxHeartbeats 4000000 in
theorem fiscalSpanReference_walk (f y n : Int) (w : World) (ht : Tab w) (wf : (Lit.int .i64 f).wf = true) (wy : (Lit.int .i64 y).wf = true) (wn : (Lit.int .i64 n).wf = true) :
    Calls Tryd.prog 3 #[.agg #[.int .i64 f], .agg #[.int .i64 y, .int .i64 n]] w fun e w' => e = .returned (.bool true) ∧ Below w.heap.size w w' := by
  obtain ⟨y1, y2⟩ := i64_bd wy
  have H1 := Lib.hid (fun w ht => fSpan_any f y n w ht y1 y2)
  have H2 := Lib.hid (fun w => rSpan_any f y n w y1 y2)
  have H3 := Lib.hid (fun w => fRight_any f w)
  have H4 := Lib.hid (fun w => rfRight_any f w)
  have H5 := Lib.hid (fun w ht => lives_any w ht)
  generalize spaF f y n = a at *
  generalize spaL f y n = b at *
  generalize spaE f y n = e at *
  generalize decide (calO f) = r at *
  go_enter Tryd.func3, Tryd.ntmps3
  go_wp2_with fail
  have P0_1 := Lib.hid (show Cell1 ((w.alloc (Obj.cells #[(.int .i64 f)] 23)).alloc (Obj.cells #[(.int .i64 y), (.int .i64 n)] 25)) (w.heap.size) (.int .i64 f) from by have q := Cell1.alloc w (.int .i64 f) 23; exact q.below (N := w.heap.size + 1) ((Below.refl _ _).alloc (by simp <;> omega) (Obj.cells #[(.int .i64 y), (.int .i64 n)] 25)) (by omega))
  have P1_1 := Lib.hid (show Cell2 ((w.alloc (Obj.cells #[(.int .i64 f)] 23)).alloc (Obj.cells #[(.int .i64 y), (.int .i64 n)] 25)) (w.heap.size + 1) (.int .i64 y) (.int .i64 n) from by simpa using Cell2.alloc (w.alloc (Obj.cells #[(.int .i64 f)] 23)) (.int .i64 y) (.int .i64 n) 25)
  have HB1 := Lib.hid (((Below.refl w.heap.size w).alloc (Nat.le_refl _) (Obj.cells #[(.int .i64 f)] 23)).alloc (by simp) (Obj.cells #[(.int .i64 y), (.int .i64 n)] 25))
  generalize ((w.alloc (Obj.cells #[(.int .i64 f)] 23)).alloc (Obj.cells #[(.int .i64 y), (.int .i64 n)] 25)) = W1 at *
  refine (H1.out _ (ht.below HB1.out)).mono ?_
  rintro e W2 ⟨rfl, hb2⟩
  have HB2 := Lib.hid (HB1.out.trans ((hb2).mono HB1.out.size))
  have P0_2 := Lib.hid (P0_1.out.below (hb2) P0_1.out.lt)
  have P1_2 := Lib.hid (P1_1.out.below (hb2) P1_1.out.lt)
  clear HB1 P0_1 P1_1 hb2
  have lP0_2 := P0_2.out.lt
  have cP0_2_0 := P0_2.out.c0
  have lP1_2 := P1_2.out.lt
  have cP1_2_0 := P1_2.out.c0
  have cP1_2_1 := P1_2.out.c1
  go_wp2_with fail
  clear lP0_2 cP0_2_0 lP1_2 cP1_2_0 cP1_2_1
  refine (H2.out _).mono ?_
  rintro e W3 ⟨rfl, hb3⟩
  have HB3 := Lib.hid (HB2.out.trans ((hb3).mono HB2.out.size))
  have P0_3 := Lib.hid (P0_2.out.below (hb3) P0_2.out.lt)
  have P1_3 := Lib.hid (P1_2.out.below (hb3) P1_2.out.lt)
  clear HB2 P0_2 P1_2 hb3
  go_wp2_with fail
  have l0 := cell_regrown P0_3.out.c0
  have HTb := Lib.hid (ht.below HB3.out)
  have c3 : ∀ dd os, Calls Tryd.prog 13 #[.agg #[.int .i64 f]] (grow (redrawn W3 dd) os) fun e w'' => e = .returned (.bool r) ∧ ∃ p : Regrown, w'' = grow (redrawn W3 p.d) p.os := fun dd os => Calls.regrown_of (H3.out _)
  have c4 : ∀ dd os, Calls Tryd.prog 14 #[.agg #[.int .i64 f]] (grow (redrawn W3 dd) os) fun e w'' => e = .returned (.bool r) ∧ ∃ p : Regrown, w'' = grow (redrawn W3 p.d) p.os := fun dd os => Calls.regrown_of (H4.out _)
  have c5 : ∀ dd os, Calls Tryd.prog 15 #[] (grow (redrawn W3 dd) os) fun e w'' => e = .returned (.bool true) ∧ ∃ p : Regrown, w'' = grow (redrawn W3 p.d) p.os := fun dd os => Calls.regrown_of (H5.out _ (HTb.out.below (below_regrown _ dd os)))
  refine wp_region_quiet_below (l := _) (by kernel_rfl) (by kernel_rfl) ?_
  repeat (first | go_big_quiet_step (first | (go_at_call 13; exact c3 _ _) | (go_at_call 14; exact c4 _ _) | (go_at_call 15; exact c5 _ _)))
  refine wpQuiet_nil ?_
  intro w2 hw'
  obtain ⟨⟨dq2, osq2⟩, hw''⟩ := hw'
  have hb2 := below_regrown W3 dq2 osq2
  rw [← hw''] at hb2
  clear hw''
  go_wp2
  go_ret
  exact ⟨rfl, HB3.out.trans (hb2.mono HB3.out.size)⟩
set_option maxHeartbeats 4000000 in
theorem fiscalOfReference_walk (f n k : Int) (w : World) (ht : Tab w) (wf : (Lit.int .i64 f).wf = true) (wn : (Lit.int .i64 n).wf = true) (wk : (Lit.int .i64 k).wf = true) :
    Calls Tryd.prog 4 #[.agg #[.int .i64 f], .int .i64 n, .int .i64 k] w fun e w' => e = .returned (.bool true) ∧ Below w.heap.size w w' := by
  obtain ⟨n1, n2⟩ := i64_bd wn
  obtain ⟨a, b, e, b', _, h1, h2, h3, h4⟩ := fof_ex f n k n1 n2
  have H1 := Lib.hid h1
  have H2 := Lib.hid h2
  have H3 := Lib.hid h3
  have H4 := Lib.hid h4
  have H5 := Lib.hid (fun w ht => lives_any w ht)
  clear h1 h2 h3 h4
  have q1 := eqPerYes a b
  have q2 := eqPerYes a b'
  go_enter Tryd.func4, Tryd.ntmps4
  go_wp2_with fail
  have P0_4 := Lib.hid (show Cell1 (w.alloc (Obj.cells #[(.int .i64 f)] 23)) (w.heap.size) (.int .i64 f) from by simpa using Cell1.alloc w (.int .i64 f) 23)
  have HB4 := Lib.hid ((Below.refl w.heap.size w).alloc (Nat.le_refl _) (Obj.cells #[(.int .i64 f)] 23))
  generalize (w.alloc (Obj.cells #[(.int .i64 f)] 23)) = W4 at *
  refine (H1.out _ (ht.below HB4.out)).mono ?_
  rintro e W5 ⟨rfl, hb5⟩
  have HB5 := Lib.hid (HB4.out.trans ((hb5).mono HB4.out.size))
  have P0_5 := Lib.hid (P0_4.out.below (hb5) P0_4.out.lt)
  clear HB4 P0_4 hb5
  have lP0_5 := P0_5.out.lt
  have cP0_5_0 := P0_5.out.c0
  go_wp2_with fail
  have op_P0_5 := P0_5.out.lt
  have p_6 := Lib.hid (show Cell2 (W5.alloc (Obj.cells #[(.int .i64 a), (.int .i64 b)] 25)) (W5.heap.size) (.int .i64 a) (.int .i64 b) from by exact Cell2.alloc W5 (.int .i64 a) (.int .i64 b) 25)
  have HB6 := Lib.hid (HB5.out.trans (((Below.refl W5.heap.size W5).alloc (Nat.le_refl _) (Obj.cells #[(.int .i64 a), (.int .i64 b)] 25)).mono HB5.out.size))
  have P0_6 := Lib.hid (P0_5.out.below ((Below.refl W5.heap.size W5).alloc (Nat.le_refl _) (Obj.cells #[(.int .i64 a), (.int .i64 b)] 25)) P0_5.out.lt)
  clear lP0_5 cP0_5_0
  clear HB5 P0_5
  generalize W5.alloc (Obj.cells #[(.int .i64 a), (.int .i64 b)] 25) = W7 at *
  refine (H2.out _).mono ?_
  rintro e W8 ⟨rfl, hb8⟩
  have HB8 := Lib.hid (HB6.out.trans ((hb8).mono HB6.out.size))
  have P0_8 := Lib.hid (P0_6.out.below (hb8) P0_6.out.lt)
  have p_8 := Lib.hid (p_6.out.below (hb8) p_6.out.lt)
  clear HB6 P0_6 p_6 hb8
  have lP0_8 := P0_8.out.lt
  have cP0_8_0 := P0_8.out.c0
  have lp_8 := p_8.out.lt
  have cp_8_0 := p_8.out.c0
  have cp_8_1 := p_8.out.c1
  go_wp2_with fail
  have oq_P0_8 := P0_8.out.lt
  have oq_p_8 := p_8.out.lt
  have q_9 := Lib.hid (show Cell2 (W8.alloc (Obj.cells #[(.int .i64 a), (.int .i64 b)] 25)) (W8.heap.size) (.int .i64 a) (.int .i64 b) from by exact Cell2.alloc W8 (.int .i64 a) (.int .i64 b) 25)
  have HB9 := Lib.hid (HB8.out.trans (((Below.refl W8.heap.size W8).alloc (Nat.le_refl _) (Obj.cells #[(.int .i64 a), (.int .i64 b)] 25)).mono HB8.out.size))
  have P0_9 := Lib.hid (P0_8.out.below ((Below.refl W8.heap.size W8).alloc (Nat.le_refl _) (Obj.cells #[(.int .i64 a), (.int .i64 b)] 25)) P0_8.out.lt)
  have p_9 := Lib.hid (p_8.out.below ((Below.refl W8.heap.size W8).alloc (Nat.le_refl _) (Obj.cells #[(.int .i64 a), (.int .i64 b)] 25)) p_8.out.lt)
  clear lP0_8 cP0_8_0 lp_8 cp_8_0 cp_8_1
  clear HB8 P0_8 p_8
  generalize W8.alloc (Obj.cells #[(.int .i64 a), (.int .i64 b)] 25) = W10 at *
  refine (H3.out _ (ht.below HB9.out)).mono ?_
  rintro e W11 ⟨rfl, hb11⟩
  have HB11 := Lib.hid (HB9.out.trans ((hb11).mono HB9.out.size))
  have P0_11 := Lib.hid (P0_9.out.below (hb11) P0_9.out.lt)
  have p_11 := Lib.hid (p_9.out.below (hb11) p_9.out.lt)
  have q_11 := Lib.hid (q_9.out.below (hb11) q_9.out.lt)
  clear HB9 P0_9 p_9 q_9 hb11
  have lP0_11 := P0_11.out.lt
  have cP0_11_0 := P0_11.out.c0
  have lp_11 := p_11.out.lt
  have cp_11_0 := p_11.out.c0
  have cp_11_1 := p_11.out.c1
  have lq_11 := q_11.out.lt
  have cq_11_0 := q_11.out.c0
  have cq_11_1 := q_11.out.c1
  go_wp2_with fail
  have or_P0_11 := P0_11.out.lt
  have or_p_11 := p_11.out.lt
  have or_q_11 := q_11.out.lt
  have r_12 := Lib.hid (show Cell2 (W11.alloc (Obj.cells #[(.int .i64 a), (.int .i64 b')] 25)) (W11.heap.size) (.int .i64 a) (.int .i64 b') from by exact Cell2.alloc W11 (.int .i64 a) (.int .i64 b') 25)
  have HB12 := Lib.hid (HB11.out.trans (((Below.refl W11.heap.size W11).alloc (Nat.le_refl _) (Obj.cells #[(.int .i64 a), (.int .i64 b')] 25)).mono HB11.out.size))
  have P0_12 := Lib.hid (P0_11.out.below ((Below.refl W11.heap.size W11).alloc (Nat.le_refl _) (Obj.cells #[(.int .i64 a), (.int .i64 b')] 25)) P0_11.out.lt)
  have p_12 := Lib.hid (p_11.out.below ((Below.refl W11.heap.size W11).alloc (Nat.le_refl _) (Obj.cells #[(.int .i64 a), (.int .i64 b')] 25)) p_11.out.lt)
  have q_12 := Lib.hid (q_11.out.below ((Below.refl W11.heap.size W11).alloc (Nat.le_refl _) (Obj.cells #[(.int .i64 a), (.int .i64 b')] 25)) q_11.out.lt)
  clear lP0_11 cP0_11_0 lp_11 cp_11_0 cp_11_1 lq_11 cq_11_0 cq_11_1
  clear HB11 P0_11 p_11 q_11
  generalize W11.alloc (Obj.cells #[(.int .i64 a), (.int .i64 b')] 25) = W13 at *
  refine (H4.out _).mono ?_
  rintro e W14 ⟨rfl, hb14⟩
  have HB14 := Lib.hid (HB12.out.trans ((hb14).mono HB12.out.size))
  have P0_14 := Lib.hid (P0_12.out.below (hb14) P0_12.out.lt)
  have p_14 := Lib.hid (p_12.out.below (hb14) p_12.out.lt)
  have q_14 := Lib.hid (q_12.out.below (hb14) q_12.out.lt)
  have r_14 := Lib.hid (r_12.out.below (hb14) r_12.out.lt)
  clear HB12 P0_12 p_12 q_12 r_12 hb14
  have lP0_14 := P0_14.out.lt
  have cP0_14_0 := P0_14.out.c0
  have lp_14 := p_14.out.lt
  have cp_14_0 := p_14.out.c0
  have cp_14_1 := p_14.out.c1
  have lq_14 := q_14.out.lt
  have cq_14_0 := q_14.out.c0
  have cq_14_1 := q_14.out.c1
  have lr_14 := r_14.out.lt
  have cr_14_0 := r_14.out.c0
  have cr_14_1 := r_14.out.c1
  go_wp2_with fail
  have ot_P0_14 := P0_14.out.lt
  have ot_p_14 := p_14.out.lt
  have ot_q_14 := q_14.out.lt
  have ot_r_14 := r_14.out.lt
  have t_15 := Lib.hid (show Cell2 (W14.alloc (Obj.cells #[(.int .i64 a), (.int .i64 b')] 25)) (W14.heap.size) (.int .i64 a) (.int .i64 b') from by exact Cell2.alloc W14 (.int .i64 a) (.int .i64 b') 25)
  have HB15 := Lib.hid (HB14.out.trans (((Below.refl W14.heap.size W14).alloc (Nat.le_refl _) (Obj.cells #[(.int .i64 a), (.int .i64 b')] 25)).mono HB14.out.size))
  have P0_15 := Lib.hid (P0_14.out.below ((Below.refl W14.heap.size W14).alloc (Nat.le_refl _) (Obj.cells #[(.int .i64 a), (.int .i64 b')] 25)) P0_14.out.lt)
  have p_15 := Lib.hid (p_14.out.below ((Below.refl W14.heap.size W14).alloc (Nat.le_refl _) (Obj.cells #[(.int .i64 a), (.int .i64 b')] 25)) p_14.out.lt)
  have q_15 := Lib.hid (q_14.out.below ((Below.refl W14.heap.size W14).alloc (Nat.le_refl _) (Obj.cells #[(.int .i64 a), (.int .i64 b')] 25)) q_14.out.lt)
  have r_15 := Lib.hid (r_14.out.below ((Below.refl W14.heap.size W14).alloc (Nat.le_refl _) (Obj.cells #[(.int .i64 a), (.int .i64 b')] 25)) r_14.out.lt)
  clear lP0_14 cP0_14_0 lp_14 cp_14_0 cp_14_1 lq_14 cq_14_0 cq_14_1 lr_14 cr_14_0 cr_14_1
  clear HB14 P0_14 p_14 q_14 r_14
  generalize W14.alloc (Obj.cells #[(.int .i64 a), (.int .i64 b')] 25) = W16 at *
  refine (H5.out _ (ht.below HB15.out)).mono ?_
  rintro e W17 ⟨rfl, hb17⟩
  have HB17 := Lib.hid (HB15.out.trans ((hb17).mono HB15.out.size))
  have P0_17 := Lib.hid (P0_15.out.below (hb17) P0_15.out.lt)
  have p_17 := Lib.hid (p_15.out.below (hb17) p_15.out.lt)
  have q_17 := Lib.hid (q_15.out.below (hb17) q_15.out.lt)
  have r_17 := Lib.hid (r_15.out.below (hb17) r_15.out.lt)
  have t_17 := Lib.hid (t_15.out.below (hb17) t_15.out.lt)
  clear HB15 P0_15 p_15 q_15 r_15 t_15 hb17
  go_wp2
  go_ret
  exact ⟨rfl, HB17.out⟩
end Go.Proofs.YtaibjmdfkahjjaaDoor
