/- What Parse of package frac returns for 0.25 and -0. -/
import Derived.Test.YtmanlfkoannkoaaFrL
namespace Go.Proofs.Ytmanlfkoannkoaa
open Go.RowKit Go.Sort
set_option linter.unusedVariables false
set_option linter.unusedSimpArgs false

theorem cut_a (w : World) : Calls Try.prog 48 #[.string ⟨#[48, 46, 50, 53]⟩, .string ⟨#[45]⟩] w fun e w' => e = .returned (.tuple #[.string ⟨#[48, 46, 50, 53]⟩, .bool false]) ∧ w = w' := by
  have q := cut_any ⟨#[48, 46, 50, 53]⟩ w (by decide)
  rw [show restOf ⟨#[48, 46, 50, 53]⟩ = ⟨#[48, 46, 50, 53]⟩ by decide +kernel, show isNeg (⟨#[48, 46, 50, 53]⟩ : ByteArray).toList = false by decide +kernel] at q
  exact q
theorem cut_b (w : World) : Calls Try.prog 48 #[.string ⟨#[45, 48]⟩, .string ⟨#[45]⟩] w fun e w' => e = .returned (.tuple #[.string ⟨#[48]⟩, .bool true]) ∧ w = w' := by
  have q := cut_any ⟨#[45, 48]⟩ w (by decide)
  rw [show restOf ⟨#[45, 48]⟩ = ⟨#[48]⟩ by decide +kernel, show isNeg (⟨#[45, 48]⟩ : ByteArray).toList = true by decide +kernel] at q
  exact q
set_option maxRecDepth 100000 in
set_option maxHeartbeats 4000000 in
theorem parse_a (w : World) : Calls Try.prog 31 #[.string ⟨#[48, 46, 50, 53]⟩] w fun e w' => e = .returned (.tuple #[.agg #[.int .i64 1, .int .i64 4], .int .i64 0]) ∧ Below w.heap.size w w' := by
  have H1 := Lib.hid cut_a
  have H2 := Lib.hid quotient_a
  have H3 := Lib.hid (fun w => readNat_any ⟨#[48, 50, 53]⟩ 25 w (by decide +kernel) (by decide) (by decide) (by decide +kernel))
  have H4 := Lib.hid (fun w => readNat_any ⟨#[49, 48, 48]⟩ 100 w (by decide +kernel) (by decide) (by decide) (by decide +kernel))
  have H5 := Lib.hid reduce_a
  go_enter Try.func31, Try.ntmps31
  go_wp2_with fail
  have P0_1 := Lib.hid (show Cell2 (w.alloc (Obj.cells #[(.int .i64 0), (.int .i64 0)] 23)) (w.heap.size) (.int .i64 0) (.int .i64 0) from by simpa using Cell2.alloc w (.int .i64 0) (.int .i64 0) 23)
  have HB1 := Lib.hid ((Below.refl w.heap.size w).alloc (Nat.le_refl _) (Obj.cells #[(.int .i64 0), (.int .i64 0)] 23))
  generalize (w.alloc (Obj.cells #[(.int .i64 0), (.int .i64 0)] 23)) = W1 at *
  refine (H1.out _).mono ?_
  rintro e w_ ⟨rfl, rfl⟩
  go_wp2_with fail
  refine (H2.out _).mono ?_
  rintro e W2 ⟨rfl, hb2⟩
  have HB2 := Lib.hid (HB1.out.trans ((hb2).mono HB1.out.size))
  have P0_2 := Lib.hid (P0_1.out.below (hb2) P0_1.out.lt)
  clear HB1 P0_1 hb2
  go_wp2_with fail
  refine (H3.out _).mono ?_
  rintro e w3 ⟨v3, rfl, hv3, hb3⟩
  have HN3 := Lib.hid hv3
  clear hv3
  have HB3 := Lib.hid (HB2.out.trans ((hb3).mono HB2.out.size))
  have P0_3 := Lib.hid (P0_2.out.below (hb3) P0_2.out.lt)
  clear HB2 P0_2 hb3
  go_wp2_with fail
  refine (H4.out _).mono ?_
  rintro e w4 ⟨v4, rfl, hv4, hb4⟩
  have HN4 := Lib.hid hv4
  have HN5 := Lib.hid (HN3.out.below hb4 (Nat.le_refl _))
  clear hv4 HN3
  have HB4 := Lib.hid (HB3.out.trans ((hb4).mono HB3.out.size))
  have P0_4 := Lib.hid (P0_3.out.below (hb4) P0_3.out.lt)
  clear HB3 P0_3 hb4
  rcases HN5.out with ⟨e0, _⟩ | ⟨_, _, X, cx, _, x1, rfl, x2, x3⟩
  · omega
  rcases HN4.out with ⟨e0, _⟩ | ⟨_, _, Y, cy, _, y1, rfl, y2, y3⟩
  · omega
  have H6 := Lib.hid (H5.out X Y cx cy w4 x1 y1 x3 y3 x2 y2)
  clear HN4 HN5 H5 x3 y3
  go_wp2_with fail
  refine (H6.out).mono ?_
  rintro e W5 ⟨rfl, hb5⟩
  have HB5 := Lib.hid (HB4.out.trans ((hb5).mono HB4.out.size))
  have P0_5 := Lib.hid (P0_4.out.below (hb5) P0_4.out.lt)
  clear HB4 P0_4 hb5
  have lP0_5 := P0_5.out.lt
  have cP0_5_0 := P0_5.out.c0
  have cP0_5_1 := P0_5.out.c1
  have fP0_5_0 := P0_5.out.f0
  have fP0_5_1 := P0_5.out.f1
  go_wp2
  refine bodyPost_ret (v := .tuple #[.agg #[.int .i64 1, .int .i64 4], .int .i64 0]) ?_ rfl ⟨rfl, ((((HB5.out.setCell (p := ⟨w.heap.size, 0, none⟩) (by simp) _).setCell (p := ⟨w.heap.size, 1, none⟩) (by simp) _).setCell (p := ⟨w.heap.size, 0, none⟩) (by simp) _).setCell (p := ⟨w.heap.size, 1, none⟩) (by simp) _)⟩
  have u0 := ((((P0_5.out.set0 (.int .i64 1)).set1 (.int .i64 4)).set0 (.int .i64 1)).set1 (.int .i64 4)).c0
  have u1 := ((((P0_5.out.set0 (.int .i64 1)).set1 (.int .i64 4)).set0 (.int .i64 1)).set1 (.int .i64 4)).c1
  rw [results_cell_tmp rfl]
  go_simp
set_option maxRecDepth 100000 in
set_option maxHeartbeats 4000000 in
theorem parse_b (w : World) : Calls Try.prog 31 #[.string ⟨#[45, 48]⟩] w fun e w' => e = .returned (.tuple #[.agg #[.int .i64 0, .int .i64 0], .int .i64 5]) ∧ Below w.heap.size w w' := by
  have H1 := Lib.hid cut_b
  have H2 := Lib.hid quotient_b
  have H3 := Lib.hid (fun w => readNat_any ⟨#[48]⟩ 0 w (by decide +kernel) (by decide) (by decide) (by decide +kernel))
  have H4 := Lib.hid (fun w => readNat_any ⟨#[49]⟩ 1 w (by decide +kernel) (by decide) (by decide) (by decide +kernel))
  go_enter Try.func31, Try.ntmps31
  go_wp2_with fail
  have P0_6 := Lib.hid (show Cell2 (w.alloc (Obj.cells #[(.int .i64 0), (.int .i64 0)] 23)) (w.heap.size) (.int .i64 0) (.int .i64 0) from by simpa using Cell2.alloc w (.int .i64 0) (.int .i64 0) 23)
  have HB6 := Lib.hid ((Below.refl w.heap.size w).alloc (Nat.le_refl _) (Obj.cells #[(.int .i64 0), (.int .i64 0)] 23))
  generalize (w.alloc (Obj.cells #[(.int .i64 0), (.int .i64 0)] 23)) = W6 at *
  refine (H1.out _).mono ?_
  rintro e w_ ⟨rfl, rfl⟩
  go_wp2_with fail
  refine (H2.out _).mono ?_
  rintro e W7 ⟨rfl, hb7⟩
  have HB7 := Lib.hid (HB6.out.trans ((hb7).mono HB6.out.size))
  have P0_7 := Lib.hid (P0_6.out.below (hb7) P0_6.out.lt)
  clear HB6 P0_6 hb7
  go_wp2_with fail
  refine (H3.out _).mono ?_
  rintro e w3 ⟨v3, rfl, hv3, hb3⟩
  have HN3 := Lib.hid hv3
  clear hv3
  have HB8 := Lib.hid (HB7.out.trans ((hb3).mono HB7.out.size))
  have P0_8 := Lib.hid (P0_7.out.below (hb3) P0_7.out.lt)
  clear HB7 P0_7 hb3
  go_wp2_with fail
  refine (H4.out _).mono ?_
  rintro e w4 ⟨v4, rfl, hv4, hb4⟩
  clear hv4
  have HB9 := Lib.hid (HB8.out.trans ((hb4).mono HB8.out.size))
  have P0_9 := Lib.hid (P0_8.out.below (hb4) P0_8.out.lt)
  clear HB8 P0_8 hb4
  rcases HN3.out with ⟨_, ao, c, rfl⟩ | ⟨h0, _⟩
  case inr => omega
  clear HN3
  have lP0_9 := P0_9.out.lt
  have cP0_9_0 := P0_9.out.c0
  have cP0_9_1 := P0_9.out.c1
  have fP0_9_0 := P0_9.out.f0
  have fP0_9_1 := P0_9.out.f1
  go_wp2
  refine bodyPost_ret (v := .tuple #[.agg #[(.int .i64 0), (.int .i64 0)], .int .i64 5]) ?_ rfl ⟨rfl, ((HB9.out.setCell (p := ⟨w.heap.size, 0, none⟩) (by simp) (.int .i64 0)).setCell (p := ⟨w.heap.size, 1, none⟩) (by simp) (.int .i64 0))⟩
  have u0 := ((P0_9.out.set0 (.int .i64 0)).set1 (.int .i64 0)).c0
  have u1 := ((P0_9.out.set0 (.int .i64 0)).set1 (.int .i64 0)).c1
  rw [results_cell_tmp rfl]
  go_simp
end Go.Proofs.Ytmanlfkoannkoaa
