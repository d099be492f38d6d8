/- The examples of layer 3's chapter hold. -/
import Derived.Test.YtlndomnampcnfaaFrG
import Derived.Test.YtlndomnampcnfaaFrH
import Derived.Test.YtlndomnampcnfaaFuI
namespace Go.Proofs.Ytlndomnampcnfaa
open Go.RowKit Go.Sort
set_option linter.unusedVariables false
set_option linter.unusedSimpArgs false

theorem i64_rng {a : Int} (h : (Lit.int .i64 a).wf = true) : -9223372036854775808 ≤ a ∧ a ≤ 9223372036854775807 := by
  simp [Lit.wf, IntKind.min, IntKind.max, IntKind.signed, IntKind.bits] at h; omega
theorem lv1 (w : World) : Calls Try.prog 10 #[.int .i64 6, .int .i64 (-4)] w fun e w' => e = .returned (.tuple #[.agg #[.int .i64 (-3), .int .i64 2], .int .i64 0]) ∧ Below w.heap.size w w' := by
  have q := make_any 6 (-4) w (by omega) (by omega) (by omega) (by omega)
  rw [show mkN 6 (-4) = -3 by decide +kernel, show mkD 6 (-4) = 2 by decide +kernel, show mkE 6 (-4) = 0 by decide +kernel] at q
  exact q
theorem lv2 (w : World) : Calls Try.prog 11 #[.agg #[.int .i64 1, .int .i64 2], .agg #[.int .i64 1, .int .i64 3]] w fun e w' => e = .returned (.tuple #[.agg #[.int .i64 5, .int .i64 6], .int .i64 0]) ∧ Below w.heap.size w w' := by
  have q := fAdd_any 1 2 1 3 w (by omega) (by omega) (by omega) (by omega) (by omega) (by omega) (by omega) (by omega)
  rw [show opN (okB 1 2 1 3) (1 * 3 + 1 * 2) (2 * 3) = 5 by decide +kernel, show opD (okB 1 2 1 3) (1 * 3 + 1 * 2) (2 * 3) = 6 by decide +kernel, show opE (okB 1 2 1 3) (1 * 3 + 1 * 2) (2 * 3) = 0 by decide +kernel] at q
  exact q
theorem lv3 (w : World) : Calls Try.prog 12 #[.agg #[.int .i64 1, .int .i64 3], .int .i64 100, .int .i64 2] w fun e w' => e = .returned (.tuple #[.int .i64 34, .int .i64 0]) ∧ Below w.heap.size w w' := by
  have q := applyF_any 1 3 100 2 w (by omega) (by omega) (by omega) (by omega) (by omega) (by omega)
  rw [show apV 1 3 100 2 = (34, 0) by decide +kernel] at q
  exact q
theorem lv4 (w : World) : Calls Try.prog 8 #[.agg #[.int .i64 (-3), .int .i64 2]] w fun e w' => e = .returned (.tuple #[.string ⟨#[45, 51, 47, 50]⟩, .int .i64 0]) ∧ Below w.heap.size w w' := by
  have q := textF_any (-3) 2 w (by omega) (by omega) (by omega) (by omega)
  rw [show txS (-3) 2 = ⟨#[45, 51, 47, 50]⟩ by decide +kernel, show txE (-3) 2 = 0 by decide +kernel] at q
  exact q
theorem lv7 (w : World) : Calls Try.prog 10 #[.int .i64 1, .int .i64 1000001] w fun e w' => e = .returned (.tuple #[.agg #[.int .i64 0, .int .i64 0], .int .i64 4]) ∧ Below w.heap.size w w' := by
  have q := make_any 1 1000001 w (by omega) (by omega) (by omega) (by omega)
  rw [show mkN 1 1000001 = 0 by decide +kernel, show mkD 1 1000001 = 0 by decide +kernel, show mkE 1 1000001 = 4 by decide +kernel] at q
  exact q
theorem lv8 (w : World) : Calls Try.prog 9 #[.agg #[.int .i64 1, .int .i64 2]] w fun e w' => e = .returned (.bool true) ∧ Below w.heap.size w w' :=
  right_val 1 2 true (by decide +kernel) w (by omega) (by omega) (by omega) (by omega)
theorem lv9 (w : World) : Calls Try.prog 13 #[.agg #[.int .i64 1, .int .i64 2], .agg #[.int .i64 1, .int .i64 3]] w fun e w' => e = .returned (.int .i64 1) ∧ Below w.heap.size w w' := by
  have q := cmpF_any 1 2 1 3 w (by omega) (by omega) (by omega) (by omega) (by omega) (by omega) (by omega) (by omega)
  rw [show cpV 1 2 1 3 = 1 by decide +kernel] at q
  exact q
set_option maxRecDepth 100000 in
set_option maxHeartbeats 8000000 in
theorem lives3_any (w : World) : Calls Try.prog 5 #[] w fun e w' => e = .returned (.bool true) ∧ Below w.heap.size w w' := by
  have H1 := Lib.hid lv1
  have H2 := Lib.hid lv2
  have H3 := Lib.hid lv3
  have H4 := Lib.hid lv4
  have H5 := Lib.hid parse_a
  have H6 := Lib.hid parse_b
  have H7 := Lib.hid lv7
  have H8 := Lib.hid lv8
  have H9 := Lib.hid lv9
  go_enter Try.func5, Try.ntmps5
  go_wp2_with fail
  have P0_1 := Lib.hid (show Cell2 ((w.alloc (Obj.cells #[(.int .i64 1), (.int .i64 2)] 24)).alloc (Obj.cells #[(.int .i64 1), (.int .i64 3)] 24)) (w.heap.size) (.int .i64 1) (.int .i64 2) from by have q := Cell2.alloc w (.int .i64 1) (.int .i64 2) 24; exact q.below (N := w.heap.size + 1) ((Below.refl _ _).alloc (by simp <;> omega) (Obj.cells #[(.int .i64 1), (.int .i64 3)] 24)) (by omega))
  have P1_1 := Lib.hid (show Cell2 ((w.alloc (Obj.cells #[(.int .i64 1), (.int .i64 2)] 24)).alloc (Obj.cells #[(.int .i64 1), (.int .i64 3)] 24)) (w.heap.size + 1) (.int .i64 1) (.int .i64 3) from by simpa using Cell2.alloc (w.alloc (Obj.cells #[(.int .i64 1), (.int .i64 2)] 24)) (.int .i64 1) (.int .i64 3) 24)
  have HB1 := Lib.hid (((Below.refl w.heap.size w).alloc (Nat.le_refl _) (Obj.cells #[(.int .i64 1), (.int .i64 2)] 24)).alloc (by simp) (Obj.cells #[(.int .i64 1), (.int .i64 3)] 24))
  generalize ((w.alloc (Obj.cells #[(.int .i64 1), (.int .i64 2)] 24)).alloc (Obj.cells #[(.int .i64 1), (.int .i64 3)] 24)) = W1 at *
  refine (H1.out _).mono ?_
  rintro e W2 ⟨rfl, hb2⟩
  have HB2 := Lib.hid (HB1.out.trans ((hb2).mono HB1.out.size))
  have P0_2 := Lib.hid (P0_1.out.below (hb2) P0_1.out.lt)
  have P1_2 := Lib.hid (P1_1.out.below (hb2) P1_1.out.lt)
  clear HB1 P0_1 P1_1 hb2
  have lP0_2 := P0_2.out.lt
  have cP0_2_0 := P0_2.out.c0
  have cP0_2_1 := P0_2.out.c1
  have lP1_2 := P1_2.out.lt
  have cP1_2_0 := P1_2.out.c0
  have cP1_2_1 := P1_2.out.c1
  go_wp2_with fail
  clear lP0_2 cP0_2_0 cP0_2_1 lP1_2 cP1_2_0 cP1_2_1
  have P2_3 := Lib.hid (Cell2.alloc W2 (.int .i64 (-3)) (.int .i64 2) 24)
  have HB3 := Lib.hid (HB2.out.trans (((Below.refl W2.heap.size W2).alloc (Nat.le_refl _) (Obj.cells #[(.int .i64 (-3)), (.int .i64 2)] 24)).mono HB2.out.size))
  have P0_3 := Lib.hid (P0_2.out.below ((Below.refl W2.heap.size W2).alloc (Nat.le_refl _) (Obj.cells #[(.int .i64 (-3)), (.int .i64 2)] 24)) P0_2.out.lt)
  have P1_3 := Lib.hid (P1_2.out.below ((Below.refl W2.heap.size W2).alloc (Nat.le_refl _) (Obj.cells #[(.int .i64 (-3)), (.int .i64 2)] 24)) P1_2.out.lt)
  clear HB2 P0_2 P1_2
  generalize W2.alloc (Obj.cells #[(.int .i64 (-3)), (.int .i64 2)] 24) = W3 at *
  refine (H2.out _).mono ?_
  rintro e W4 ⟨rfl, hb4⟩
  have HB4 := Lib.hid (HB3.out.trans ((hb4).mono HB3.out.size))
  have P0_4 := Lib.hid (P0_3.out.below (hb4) P0_3.out.lt)
  have P1_4 := Lib.hid (P1_3.out.below (hb4) P1_3.out.lt)
  have P2_4 := Lib.hid (P2_3.out.below (hb4) P2_3.out.lt)
  clear HB3 P0_3 P1_3 P2_3 hb4
  have lP0_4 := P0_4.out.lt
  have cP0_4_0 := P0_4.out.c0
  have cP0_4_1 := P0_4.out.c1
  have lP1_4 := P1_4.out.lt
  have cP1_4_0 := P1_4.out.c0
  have cP1_4_1 := P1_4.out.c1
  have lP2_4 := P2_4.out.lt
  have cP2_4_0 := P2_4.out.c0
  have cP2_4_1 := P2_4.out.c1
  go_wp2_with fail
  clear lP0_4 cP0_4_0 cP0_4_1 lP1_4 cP1_4_0 cP1_4_1 lP2_4 cP2_4_0 cP2_4_1
  have P3_5 := Lib.hid (Cell2.alloc W4 (.int .i64 5) (.int .i64 6) 24)
  have HB5 := Lib.hid (HB4.out.trans (((Below.refl W4.heap.size W4).alloc (Nat.le_refl _) (Obj.cells #[(.int .i64 5), (.int .i64 6)] 24)).mono HB4.out.size))
  have P0_5 := Lib.hid (P0_4.out.below ((Below.refl W4.heap.size W4).alloc (Nat.le_refl _) (Obj.cells #[(.int .i64 5), (.int .i64 6)] 24)) P0_4.out.lt)
  have P1_5 := Lib.hid (P1_4.out.below ((Below.refl W4.heap.size W4).alloc (Nat.le_refl _) (Obj.cells #[(.int .i64 5), (.int .i64 6)] 24)) P1_4.out.lt)
  have P2_5 := Lib.hid (P2_4.out.below ((Below.refl W4.heap.size W4).alloc (Nat.le_refl _) (Obj.cells #[(.int .i64 5), (.int .i64 6)] 24)) P2_4.out.lt)
  clear HB4 P0_4 P1_4 P2_4
  generalize W4.alloc (Obj.cells #[(.int .i64 5), (.int .i64 6)] 24) = W5 at *
  refine (H3.out _).mono ?_
  rintro e W6 ⟨rfl, hb6⟩
  have HB6 := Lib.hid (HB5.out.trans ((hb6).mono HB5.out.size))
  have P0_6 := Lib.hid (P0_5.out.below (hb6) P0_5.out.lt)
  have P1_6 := Lib.hid (P1_5.out.below (hb6) P1_5.out.lt)
  have P2_6 := Lib.hid (P2_5.out.below (hb6) P2_5.out.lt)
  have P3_6 := Lib.hid (P3_5.out.below (hb6) P3_5.out.lt)
  clear HB5 P0_5 P1_5 P2_5 P3_5 hb6
  have lP0_6 := P0_6.out.lt
  have cP0_6_0 := P0_6.out.c0
  have cP0_6_1 := P0_6.out.c1
  have lP1_6 := P1_6.out.lt
  have cP1_6_0 := P1_6.out.c0
  have cP1_6_1 := P1_6.out.c1
  have lP2_6 := P2_6.out.lt
  have cP2_6_0 := P2_6.out.c0
  have cP2_6_1 := P2_6.out.c1
  have lP3_6 := P3_6.out.lt
  have cP3_6_0 := P3_6.out.c0
  have cP3_6_1 := P3_6.out.c1
  go_wp2_with fail
  clear lP0_6 cP0_6_0 cP0_6_1 lP1_6 cP1_6_0 cP1_6_1 lP2_6 cP2_6_0 cP2_6_1 lP3_6 cP3_6_0 cP3_6_1
  refine (H4.out _).mono ?_
  rintro e W7 ⟨rfl, hb7⟩
  have HB7 := Lib.hid (HB6.out.trans ((hb7).mono HB6.out.size))
  have P0_7 := Lib.hid (P0_6.out.below (hb7) P0_6.out.lt)
  have P1_7 := Lib.hid (P1_6.out.below (hb7) P1_6.out.lt)
  have P2_7 := Lib.hid (P2_6.out.below (hb7) P2_6.out.lt)
  have P3_7 := Lib.hid (P3_6.out.below (hb7) P3_6.out.lt)
  clear HB6 P0_6 P1_6 P2_6 P3_6 hb7
  have lP0_7 := P0_7.out.lt
  have cP0_7_0 := P0_7.out.c0
  have cP0_7_1 := P0_7.out.c1
  have lP1_7 := P1_7.out.lt
  have cP1_7_0 := P1_7.out.c0
  have cP1_7_1 := P1_7.out.c1
  have lP2_7 := P2_7.out.lt
  have cP2_7_0 := P2_7.out.c0
  have cP2_7_1 := P2_7.out.c1
  have lP3_7 := P3_7.out.lt
  have cP3_7_0 := P3_7.out.c0
  have cP3_7_1 := P3_7.out.c1
  go_wp2_with fail
  clear lP0_7 cP0_7_0 cP0_7_1 lP1_7 cP1_7_0 cP1_7_1 lP2_7 cP2_7_0 cP2_7_1 lP3_7 cP3_7_0 cP3_7_1
  refine (H5.out _).mono ?_
  rintro e W8 ⟨rfl, hb8⟩
  have HB8 := Lib.hid (HB7.out.trans ((hb8).mono HB7.out.size))
  have P0_8 := Lib.hid (P0_7.out.below (hb8) P0_7.out.lt)
  have P1_8 := Lib.hid (P1_7.out.below (hb8) P1_7.out.lt)
  have P2_8 := Lib.hid (P2_7.out.below (hb8) P2_7.out.lt)
  have P3_8 := Lib.hid (P3_7.out.below (hb8) P3_7.out.lt)
  clear HB7 P0_7 P1_7 P2_7 P3_7 hb8
  have lP0_8 := P0_8.out.lt
  have cP0_8_0 := P0_8.out.c0
  have cP0_8_1 := P0_8.out.c1
  have lP1_8 := P1_8.out.lt
  have cP1_8_0 := P1_8.out.c0
  have cP1_8_1 := P1_8.out.c1
  have lP2_8 := P2_8.out.lt
  have cP2_8_0 := P2_8.out.c0
  have cP2_8_1 := P2_8.out.c1
  have lP3_8 := P3_8.out.lt
  have cP3_8_0 := P3_8.out.c0
  have cP3_8_1 := P3_8.out.c1
  go_wp2_with fail
  clear lP0_8 cP0_8_0 cP0_8_1 lP1_8 cP1_8_0 cP1_8_1 lP2_8 cP2_8_0 cP2_8_1 lP3_8 cP3_8_0 cP3_8_1
  have P4_9 := Lib.hid (Cell2.alloc W8 (.int .i64 1) (.int .i64 4) 24)
  have HB9 := Lib.hid (HB8.out.trans (((Below.refl W8.heap.size W8).alloc (Nat.le_refl _) (Obj.cells #[(.int .i64 1), (.int .i64 4)] 24)).mono HB8.out.size))
  have P0_9 := Lib.hid (P0_8.out.below ((Below.refl W8.heap.size W8).alloc (Nat.le_refl _) (Obj.cells #[(.int .i64 1), (.int .i64 4)] 24)) P0_8.out.lt)
  have P1_9 := Lib.hid (P1_8.out.below ((Below.refl W8.heap.size W8).alloc (Nat.le_refl _) (Obj.cells #[(.int .i64 1), (.int .i64 4)] 24)) P1_8.out.lt)
  have P2_9 := Lib.hid (P2_8.out.below ((Below.refl W8.heap.size W8).alloc (Nat.le_refl _) (Obj.cells #[(.int .i64 1), (.int .i64 4)] 24)) P2_8.out.lt)
  have P3_9 := Lib.hid (P3_8.out.below ((Below.refl W8.heap.size W8).alloc (Nat.le_refl _) (Obj.cells #[(.int .i64 1), (.int .i64 4)] 24)) P3_8.out.lt)
  clear HB8 P0_8 P1_8 P2_8 P3_8
  generalize W8.alloc (Obj.cells #[(.int .i64 1), (.int .i64 4)] 24) = W9 at *
  refine (H6.out _).mono ?_
  rintro e W10 ⟨rfl, hb10⟩
  have HB10 := Lib.hid (HB9.out.trans ((hb10).mono HB9.out.size))
  have P0_10 := Lib.hid (P0_9.out.below (hb10) P0_9.out.lt)
  have P1_10 := Lib.hid (P1_9.out.below (hb10) P1_9.out.lt)
  have P2_10 := Lib.hid (P2_9.out.below (hb10) P2_9.out.lt)
  have P3_10 := Lib.hid (P3_9.out.below (hb10) P3_9.out.lt)
  have P4_10 := Lib.hid (P4_9.out.below (hb10) P4_9.out.lt)
  clear HB9 P0_9 P1_9 P2_9 P3_9 P4_9 hb10
  have lP0_10 := P0_10.out.lt
  have cP0_10_0 := P0_10.out.c0
  have cP0_10_1 := P0_10.out.c1
  have lP1_10 := P1_10.out.lt
  have cP1_10_0 := P1_10.out.c0
  have cP1_10_1 := P1_10.out.c1
  have lP2_10 := P2_10.out.lt
  have cP2_10_0 := P2_10.out.c0
  have cP2_10_1 := P2_10.out.c1
  have lP3_10 := P3_10.out.lt
  have cP3_10_0 := P3_10.out.c0
  have cP3_10_1 := P3_10.out.c1
  have lP4_10 := P4_10.out.lt
  have cP4_10_0 := P4_10.out.c0
  have cP4_10_1 := P4_10.out.c1
  go_wp2_with fail
  clear lP0_10 cP0_10_0 cP0_10_1 lP1_10 cP1_10_0 cP1_10_1 lP2_10 cP2_10_0 cP2_10_1 lP3_10 cP3_10_0 cP3_10_1 lP4_10 cP4_10_0 cP4_10_1
  have P5_11 := Lib.hid (Cell2.alloc W10 (.int .i64 0) (.int .i64 0) 24)
  have HB11 := Lib.hid (HB10.out.trans (((Below.refl W10.heap.size W10).alloc (Nat.le_refl _) (Obj.cells #[(.int .i64 0), (.int .i64 0)] 24)).mono HB10.out.size))
  have P0_11 := Lib.hid (P0_10.out.below ((Below.refl W10.heap.size W10).alloc (Nat.le_refl _) (Obj.cells #[(.int .i64 0), (.int .i64 0)] 24)) P0_10.out.lt)
  have P1_11 := Lib.hid (P1_10.out.below ((Below.refl W10.heap.size W10).alloc (Nat.le_refl _) (Obj.cells #[(.int .i64 0), (.int .i64 0)] 24)) P1_10.out.lt)
  have P2_11 := Lib.hid (P2_10.out.below ((Below.refl W10.heap.size W10).alloc (Nat.le_refl _) (Obj.cells #[(.int .i64 0), (.int .i64 0)] 24)) P2_10.out.lt)
  have P3_11 := Lib.hid (P3_10.out.below ((Below.refl W10.heap.size W10).alloc (Nat.le_refl _) (Obj.cells #[(.int .i64 0), (.int .i64 0)] 24)) P3_10.out.lt)
  have P4_11 := Lib.hid (P4_10.out.below ((Below.refl W10.heap.size W10).alloc (Nat.le_refl _) (Obj.cells #[(.int .i64 0), (.int .i64 0)] 24)) P4_10.out.lt)
  clear HB10 P0_10 P1_10 P2_10 P3_10 P4_10
  generalize W10.alloc (Obj.cells #[(.int .i64 0), (.int .i64 0)] 24) = W11 at *
  refine (H7.out _).mono ?_
  rintro e W12 ⟨rfl, hb12⟩
  have HB12 := Lib.hid (HB11.out.trans ((hb12).mono HB11.out.size))
  have P0_12 := Lib.hid (P0_11.out.below (hb12) P0_11.out.lt)
  have P1_12 := Lib.hid (P1_11.out.below (hb12) P1_11.out.lt)
  have P2_12 := Lib.hid (P2_11.out.below (hb12) P2_11.out.lt)
  have P3_12 := Lib.hid (P3_11.out.below (hb12) P3_11.out.lt)
  have P4_12 := Lib.hid (P4_11.out.below (hb12) P4_11.out.lt)
  have P5_12 := Lib.hid (P5_11.out.below (hb12) P5_11.out.lt)
  clear HB11 P0_11 P1_11 P2_11 P3_11 P4_11 P5_11 hb12
  have lP0_12 := P0_12.out.lt
  have cP0_12_0 := P0_12.out.c0
  have cP0_12_1 := P0_12.out.c1
  have lP1_12 := P1_12.out.lt
  have cP1_12_0 := P1_12.out.c0
  have cP1_12_1 := P1_12.out.c1
  have lP2_12 := P2_12.out.lt
  have cP2_12_0 := P2_12.out.c0
  have cP2_12_1 := P2_12.out.c1
  have lP3_12 := P3_12.out.lt
  have cP3_12_0 := P3_12.out.c0
  have cP3_12_1 := P3_12.out.c1
  have lP4_12 := P4_12.out.lt
  have cP4_12_0 := P4_12.out.c0
  have cP4_12_1 := P4_12.out.c1
  have lP5_12 := P5_12.out.lt
  have cP5_12_0 := P5_12.out.c0
  have cP5_12_1 := P5_12.out.c1
  go_wp2_with fail
  clear lP0_12 cP0_12_0 cP0_12_1 lP1_12 cP1_12_0 cP1_12_1 lP2_12 cP2_12_0 cP2_12_1 lP3_12 cP3_12_0 cP3_12_1 lP4_12 cP4_12_0 cP4_12_1 lP5_12 cP5_12_0 cP5_12_1
  have P6_13 := Lib.hid (Cell2.alloc W12 (.int .i64 0) (.int .i64 0) 24)
  have HB13 := Lib.hid (HB12.out.trans (((Below.refl W12.heap.size W12).alloc (Nat.le_refl _) (Obj.cells #[(.int .i64 0), (.int .i64 0)] 24)).mono HB12.out.size))
  have P0_13 := Lib.hid (P0_12.out.below ((Below.refl W12.heap.size W12).alloc (Nat.le_refl _) (Obj.cells #[(.int .i64 0), (.int .i64 0)] 24)) P0_12.out.lt)
  have P1_13 := Lib.hid (P1_12.out.below ((Below.refl W12.heap.size W12).alloc (Nat.le_refl _) (Obj.cells #[(.int .i64 0), (.int .i64 0)] 24)) P1_12.out.lt)
  have P2_13 := Lib.hid (P2_12.out.below ((Below.refl W12.heap.size W12).alloc (Nat.le_refl _) (Obj.cells #[(.int .i64 0), (.int .i64 0)] 24)) P2_12.out.lt)
  have P3_13 := Lib.hid (P3_12.out.below ((Below.refl W12.heap.size W12).alloc (Nat.le_refl _) (Obj.cells #[(.int .i64 0), (.int .i64 0)] 24)) P3_12.out.lt)
  have P4_13 := Lib.hid (P4_12.out.below ((Below.refl W12.heap.size W12).alloc (Nat.le_refl _) (Obj.cells #[(.int .i64 0), (.int .i64 0)] 24)) P4_12.out.lt)
  have P5_13 := Lib.hid (P5_12.out.below ((Below.refl W12.heap.size W12).alloc (Nat.le_refl _) (Obj.cells #[(.int .i64 0), (.int .i64 0)] 24)) P5_12.out.lt)
  clear HB12 P0_12 P1_12 P2_12 P3_12 P4_12 P5_12
  generalize W12.alloc (Obj.cells #[(.int .i64 0), (.int .i64 0)] 24) = W13 at *
  refine (H8.out _).mono ?_
  rintro e W14 ⟨rfl, hb14⟩
  have HB14 := Lib.hid (HB13.out.trans ((hb14).mono HB13.out.size))
  have P0_14 := Lib.hid (P0_13.out.below (hb14) P0_13.out.lt)
  have P1_14 := Lib.hid (P1_13.out.below (hb14) P1_13.out.lt)
  have P2_14 := Lib.hid (P2_13.out.below (hb14) P2_13.out.lt)
  have P3_14 := Lib.hid (P3_13.out.below (hb14) P3_13.out.lt)
  have P4_14 := Lib.hid (P4_13.out.below (hb14) P4_13.out.lt)
  have P5_14 := Lib.hid (P5_13.out.below (hb14) P5_13.out.lt)
  have P6_14 := Lib.hid (P6_13.out.below (hb14) P6_13.out.lt)
  clear HB13 P0_13 P1_13 P2_13 P3_13 P4_13 P5_13 P6_13 hb14
  have lP0_14 := P0_14.out.lt
  have cP0_14_0 := P0_14.out.c0
  have cP0_14_1 := P0_14.out.c1
  have lP1_14 := P1_14.out.lt
  have cP1_14_0 := P1_14.out.c0
  have cP1_14_1 := P1_14.out.c1
  have lP2_14 := P2_14.out.lt
  have cP2_14_0 := P2_14.out.c0
  have cP2_14_1 := P2_14.out.c1
  have lP3_14 := P3_14.out.lt
  have cP3_14_0 := P3_14.out.c0
  have cP3_14_1 := P3_14.out.c1
  have lP4_14 := P4_14.out.lt
  have cP4_14_0 := P4_14.out.c0
  have cP4_14_1 := P4_14.out.c1
  have lP5_14 := P5_14.out.lt
  have cP5_14_0 := P5_14.out.c0
  have cP5_14_1 := P5_14.out.c1
  have lP6_14 := P6_14.out.lt
  have cP6_14_0 := P6_14.out.c0
  have cP6_14_1 := P6_14.out.c1
  go_wp2_with fail
  clear lP0_14 cP0_14_0 cP0_14_1 lP1_14 cP1_14_0 cP1_14_1 lP2_14 cP2_14_0 cP2_14_1 lP3_14 cP3_14_0 cP3_14_1 lP4_14 cP4_14_0 cP4_14_1 lP5_14 cP5_14_0 cP5_14_1 lP6_14 cP6_14_0 cP6_14_1
  refine (H9.out _).mono ?_
  rintro e W15 ⟨rfl, hb15⟩
  have HB15 := Lib.hid (HB14.out.trans ((hb15).mono HB14.out.size))
  have P0_15 := Lib.hid (P0_14.out.below (hb15) P0_14.out.lt)
  have P1_15 := Lib.hid (P1_14.out.below (hb15) P1_14.out.lt)
  have P2_15 := Lib.hid (P2_14.out.below (hb15) P2_14.out.lt)
  have P3_15 := Lib.hid (P3_14.out.below (hb15) P3_14.out.lt)
  have P4_15 := Lib.hid (P4_14.out.below (hb15) P4_14.out.lt)
  have P5_15 := Lib.hid (P5_14.out.below (hb15) P5_14.out.lt)
  have P6_15 := Lib.hid (P6_14.out.below (hb15) P6_14.out.lt)
  clear HB14 P0_14 P1_14 P2_14 P3_14 P4_14 P5_14 P6_14 hb15
  have lP0_15 := P0_15.out.lt
  have cP0_15_0 := P0_15.out.c0
  have cP0_15_1 := P0_15.out.c1
  have lP1_15 := P1_15.out.lt
  have cP1_15_0 := P1_15.out.c0
  have cP1_15_1 := P1_15.out.c1
  have lP2_15 := P2_15.out.lt
  have cP2_15_0 := P2_15.out.c0
  have cP2_15_1 := P2_15.out.c1
  have lP3_15 := P3_15.out.lt
  have cP3_15_0 := P3_15.out.c0
  have cP3_15_1 := P3_15.out.c1
  have lP4_15 := P4_15.out.lt
  have cP4_15_0 := P4_15.out.c0
  have cP4_15_1 := P4_15.out.c1
  have lP5_15 := P5_15.out.lt
  have cP5_15_0 := P5_15.out.c0
  have cP5_15_1 := P5_15.out.c1
  have lP6_15 := P6_15.out.lt
  have cP6_15_0 := P6_15.out.c0
  have cP6_15_1 := P6_15.out.c1
  go_wp2
  go_ret
  exact ⟨rfl, HB15.out⟩
end Go.Proofs.Ytlndomnampcnfaa
