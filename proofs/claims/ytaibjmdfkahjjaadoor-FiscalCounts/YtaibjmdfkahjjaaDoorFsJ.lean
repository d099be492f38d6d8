/- What Next, Prev and Count of package accountingref05 return, and Cmp of both packages. -/
import Derived.Test.YtaibjmdfkahjjaaDoorFsI
import Derived.Laws.ResultCell
namespace Go.Proofs.YtaibjmdfkahjjaaDoor
open Go.RowKit Go.Sort
set_option linter.unusedVariables false

set_option maxHeartbeats 4000000 in
theorem rNext_a (f y : Int) (w : World) (y1 : -9223372036854775808 ≤ y) (y2 : y < 9223372036854775807) :
    Calls Tryd.prog 21 #[.agg #[.int .i64 f], .agg #[.int .i64 y, .int .i64 13]] w fun x w' => x = .returned (.tuple #[.agg #[.int .i64 (ifOk (twoE f y 13 (y + 1) 1) (y + 1)), .int .i64 (ifOk (twoE f y 13 (y + 1) 1) 1)], .int .i64 (twoE f y 13 (y + 1) 1)]) ∧ Below w.heap.size w w' := by
  have HC := Lib.hid (fun w => rStep_any f y 13 (y + 1) 1 w (by omega) (by omega) (by omega) (by omega))
  generalize ifOk (twoE f y 13 (y + 1) 1) (y + 1) = ra at *
  generalize ifOk (twoE f y 13 (y + 1) 1) 1 = rb at *
  generalize twoE f y 13 (y + 1) 1 = E at *
  go_enter Tryd.func21, Tryd.ntmps21
  go_wp2_with fail
  have P0_1 := Lib.hid (show Cell1 (((w.alloc (Obj.cells #[(.int .i64 f)] 23)).alloc (Obj.cells #[(.int .i64 y), (.int .i64 13)] 25)).alloc (Obj.cells #[(.int .i64 0), (.int .i64 0)] 25)) (w.heap.size) (.int .i64 f) from by have q := Cell1.alloc w (.int .i64 f) 23; exact q.below (N := w.heap.size + 1) (((Below.refl _ _).alloc (by simp <;> omega) (Obj.cells #[(.int .i64 y), (.int .i64 13)] 25)).alloc (by simp <;> omega) (Obj.cells #[(.int .i64 0), (.int .i64 0)] 25)) (by omega))
  have P1_1 := Lib.hid (show Cell2 (((w.alloc (Obj.cells #[(.int .i64 f)] 23)).alloc (Obj.cells #[(.int .i64 y), (.int .i64 13)] 25)).alloc (Obj.cells #[(.int .i64 0), (.int .i64 0)] 25)) (w.heap.size + 1) (.int .i64 y) (.int .i64 13) from by have q := Cell2.alloc (w.alloc (Obj.cells #[(.int .i64 f)] 23)) (.int .i64 y) (.int .i64 13) 25; try simp only [World.size_alloc] at q; exact q.below (N := w.heap.size + 1 + 1) ((Below.refl _ _).alloc (by simp <;> omega) (Obj.cells #[(.int .i64 0), (.int .i64 0)] 25)) (by omega))
  have P2_1 := Lib.hid (show Cell2 (((w.alloc (Obj.cells #[(.int .i64 f)] 23)).alloc (Obj.cells #[(.int .i64 y), (.int .i64 13)] 25)).alloc (Obj.cells #[(.int .i64 0), (.int .i64 0)] 25)) (w.heap.size + 2) (.int .i64 0) (.int .i64 0) from by simpa using Cell2.alloc ((w.alloc (Obj.cells #[(.int .i64 f)] 23)).alloc (Obj.cells #[(.int .i64 y), (.int .i64 13)] 25)) (.int .i64 0) (.int .i64 0) 25)
  have HB1 := Lib.hid ((((Below.refl w.heap.size w).alloc (Nat.le_refl _) (Obj.cells #[(.int .i64 f)] 23)).alloc (by simp) (Obj.cells #[(.int .i64 y), (.int .i64 13)] 25)).alloc (by simp; omega) (Obj.cells #[(.int .i64 0), (.int .i64 0)] 25))
  generalize (((w.alloc (Obj.cells #[(.int .i64 f)] 23)).alloc (Obj.cells #[(.int .i64 y), (.int .i64 13)] 25)).alloc (Obj.cells #[(.int .i64 0), (.int .i64 0)] 25)) = W1 at *
  refine (HC.out _).mono ?_
  rintro e W2 ⟨rfl, hb2⟩
  have HB2 := Lib.hid (HB1.out.trans ((hb2).mono HB1.out.size))
  have P0_2 := Lib.hid (P0_1.out.below (hb2) P0_1.out.lt)
  have P1_2 := Lib.hid (P1_1.out.below (hb2) P1_1.out.lt)
  have P2_2 := Lib.hid (P2_1.out.below (hb2) P2_1.out.lt)
  clear HB1 P0_1 P1_1 P2_1 hb2
  have lP0_2 := P0_2.out.lt
  have cP0_2_0 := P0_2.out.c0
  have lP1_2 := P1_2.out.lt
  have cP1_2_0 := P1_2.out.c0
  have cP1_2_1 := P1_2.out.c1
  have lP2_2 := P2_2.out.lt
  have cP2_2_0 := P2_2.out.c0
  have cP2_2_1 := P2_2.out.c1
  have fP2_2_0 := P2_2.out.f0
  have fP2_2_1 := P2_2.out.f1
  go_wp2
  refine bodyPost_ret (v := .tuple #[.agg #[(.int .i64 ra), (.int .i64 rb)], .int .i64 E]) ?_ rfl ⟨rfl, ((HB2.out.setCell (p := ⟨w.heap.size + 2, 0, none⟩) (by simp) (.int .i64 ra)).setCell (p := ⟨w.heap.size + 2, 1, none⟩) (by simp) (.int .i64 rb))⟩
  have u0 := ((P2_2.out.set0 (.int .i64 ra)).set1 (.int .i64 rb)).c0
  have u1 := ((P2_2.out.set0 (.int .i64 ra)).set1 (.int .i64 rb)).c1
  rw [results_cell_tmp rfl]
  go_simp

set_option maxHeartbeats 4000000 in
theorem rNext_b (f : Int) (w : World)  :
    Calls Tryd.prog 21 #[.agg #[.int .i64 f], .agg #[.int .i64 9223372036854775807, .int .i64 13]] w fun x w' => x = .returned (.tuple #[.agg #[.int .i64 (ifOk (twoE f 9223372036854775807 13 (-9223372036854775808) 1) (-9223372036854775808)), .int .i64 (ifOk (twoE f 9223372036854775807 13 (-9223372036854775808) 1) 1)], .int .i64 (twoE f 9223372036854775807 13 (-9223372036854775808) 1)]) ∧ Below w.heap.size w w' := by
  have HC := Lib.hid (fun w => rStep_any f 9223372036854775807 13 (-9223372036854775808) 1 w (by omega) (by omega) (by omega) (by omega))
  generalize ifOk (twoE f 9223372036854775807 13 (-9223372036854775808) 1) (-9223372036854775808) = ra at *
  generalize ifOk (twoE f 9223372036854775807 13 (-9223372036854775808) 1) 1 = rb at *
  generalize twoE f 9223372036854775807 13 (-9223372036854775808) 1 = E at *
  go_enter Tryd.func21, Tryd.ntmps21
  go_wp2_with fail
  rw [show wrap64 9223372036854775808 = -9223372036854775808 from by unfold wrap64; omega]
  have P0_3 := Lib.hid (show Cell1 (((w.alloc (Obj.cells #[(.int .i64 f)] 23)).alloc (Obj.cells #[(.int .i64 9223372036854775807), (.int .i64 13)] 25)).alloc (Obj.cells #[(.int .i64 0), (.int .i64 0)] 25)) (w.heap.size) (.int .i64 f) from by have q := Cell1.alloc w (.int .i64 f) 23; exact q.below (N := w.heap.size + 1) (((Below.refl _ _).alloc (by simp <;> omega) (Obj.cells #[(.int .i64 9223372036854775807), (.int .i64 13)] 25)).alloc (by simp <;> omega) (Obj.cells #[(.int .i64 0), (.int .i64 0)] 25)) (by omega))
  have P1_3 := Lib.hid (show Cell2 (((w.alloc (Obj.cells #[(.int .i64 f)] 23)).alloc (Obj.cells #[(.int .i64 9223372036854775807), (.int .i64 13)] 25)).alloc (Obj.cells #[(.int .i64 0), (.int .i64 0)] 25)) (w.heap.size + 1) (.int .i64 9223372036854775807) (.int .i64 13) from by have q := Cell2.alloc (w.alloc (Obj.cells #[(.int .i64 f)] 23)) (.int .i64 9223372036854775807) (.int .i64 13) 25; try simp only [World.size_alloc] at q; exact q.below (N := w.heap.size + 1 + 1) ((Below.refl _ _).alloc (by simp <;> omega) (Obj.cells #[(.int .i64 0), (.int .i64 0)] 25)) (by omega))
  have P2_3 := Lib.hid (show Cell2 (((w.alloc (Obj.cells #[(.int .i64 f)] 23)).alloc (Obj.cells #[(.int .i64 9223372036854775807), (.int .i64 13)] 25)).alloc (Obj.cells #[(.int .i64 0), (.int .i64 0)] 25)) (w.heap.size + 2) (.int .i64 0) (.int .i64 0) from by simpa using Cell2.alloc ((w.alloc (Obj.cells #[(.int .i64 f)] 23)).alloc (Obj.cells #[(.int .i64 9223372036854775807), (.int .i64 13)] 25)) (.int .i64 0) (.int .i64 0) 25)
  have HB3 := Lib.hid ((((Below.refl w.heap.size w).alloc (Nat.le_refl _) (Obj.cells #[(.int .i64 f)] 23)).alloc (by simp) (Obj.cells #[(.int .i64 9223372036854775807), (.int .i64 13)] 25)).alloc (by simp; omega) (Obj.cells #[(.int .i64 0), (.int .i64 0)] 25))
  generalize (((w.alloc (Obj.cells #[(.int .i64 f)] 23)).alloc (Obj.cells #[(.int .i64 9223372036854775807), (.int .i64 13)] 25)).alloc (Obj.cells #[(.int .i64 0), (.int .i64 0)] 25)) = W3 at *
  refine (HC.out _).mono ?_
  rintro e W4 ⟨rfl, hb4⟩
  have HB4 := Lib.hid (HB3.out.trans ((hb4).mono HB3.out.size))
  have P0_4 := Lib.hid (P0_3.out.below (hb4) P0_3.out.lt)
  have P1_4 := Lib.hid (P1_3.out.below (hb4) P1_3.out.lt)
  have P2_4 := Lib.hid (P2_3.out.below (hb4) P2_3.out.lt)
  clear HB3 P0_3 P1_3 P2_3 hb4
  have lP0_4 := P0_4.out.lt
  have cP0_4_0 := P0_4.out.c0
  have lP1_4 := P1_4.out.lt
  have cP1_4_0 := P1_4.out.c0
  have cP1_4_1 := P1_4.out.c1
  have lP2_4 := P2_4.out.lt
  have cP2_4_0 := P2_4.out.c0
  have cP2_4_1 := P2_4.out.c1
  have fP2_4_0 := P2_4.out.f0
  have fP2_4_1 := P2_4.out.f1
  go_wp2
  refine bodyPost_ret (v := .tuple #[.agg #[(.int .i64 ra), (.int .i64 rb)], .int .i64 E]) ?_ rfl ⟨rfl, ((HB4.out.setCell (p := ⟨w.heap.size + 2, 0, none⟩) (by simp) (.int .i64 ra)).setCell (p := ⟨w.heap.size + 2, 1, none⟩) (by simp) (.int .i64 rb))⟩
  have u0 := ((P2_4.out.set0 (.int .i64 ra)).set1 (.int .i64 rb)).c0
  have u1 := ((P2_4.out.set0 (.int .i64 ra)).set1 (.int .i64 rb)).c1
  rw [results_cell_tmp rfl]
  go_simp

set_option maxHeartbeats 4000000 in
theorem rNext_c (f y n : Int) (w : World) (hn : (n == 13) = false) (n1 : -9223372036854775808 ≤ n) (n2 : n < 9223372036854775807) (y1 : -9223372036854775808 ≤ y) (y2 : y ≤ 9223372036854775807) :
    Calls Tryd.prog 21 #[.agg #[.int .i64 f], .agg #[.int .i64 y, .int .i64 n]] w fun x w' => x = .returned (.tuple #[.agg #[.int .i64 (ifOk (twoE f y n y (n + 1)) y), .int .i64 (ifOk (twoE f y n y (n + 1)) (n + 1))], .int .i64 (twoE f y n y (n + 1))]) ∧ Below w.heap.size w w' := by
  have HC := Lib.hid (fun w => rStep_any f y n y (n + 1) w (by omega) (by omega) (by omega) (by omega))
  generalize ifOk (twoE f y n y (n + 1)) y = ra at *
  generalize ifOk (twoE f y n y (n + 1)) (n + 1) = rb at *
  generalize twoE f y n y (n + 1) = E at *
  go_enter Tryd.func21, Tryd.ntmps21
  go_wp2_with fail
  have P0_5 := Lib.hid (show Cell1 (((w.alloc (Obj.cells #[(.int .i64 f)] 23)).alloc (Obj.cells #[(.int .i64 y), (.int .i64 n)] 25)).alloc (Obj.cells #[(.int .i64 0), (.int .i64 0)] 25)) (w.heap.size) (.int .i64 f) from by have q := Cell1.alloc w (.int .i64 f) 23; exact q.below (N := w.heap.size + 1) (((Below.refl _ _).alloc (by simp <;> omega) (Obj.cells #[(.int .i64 y), (.int .i64 n)] 25)).alloc (by simp <;> omega) (Obj.cells #[(.int .i64 0), (.int .i64 0)] 25)) (by omega))
  have P1_5 := Lib.hid (show Cell2 (((w.alloc (Obj.cells #[(.int .i64 f)] 23)).alloc (Obj.cells #[(.int .i64 y), (.int .i64 n)] 25)).alloc (Obj.cells #[(.int .i64 0), (.int .i64 0)] 25)) (w.heap.size + 1) (.int .i64 y) (.int .i64 n) from by have q := Cell2.alloc (w.alloc (Obj.cells #[(.int .i64 f)] 23)) (.int .i64 y) (.int .i64 n) 25; try simp only [World.size_alloc] at q; exact q.below (N := w.heap.size + 1 + 1) ((Below.refl _ _).alloc (by simp <;> omega) (Obj.cells #[(.int .i64 0), (.int .i64 0)] 25)) (by omega))
  have P2_5 := Lib.hid (show Cell2 (((w.alloc (Obj.cells #[(.int .i64 f)] 23)).alloc (Obj.cells #[(.int .i64 y), (.int .i64 n)] 25)).alloc (Obj.cells #[(.int .i64 0), (.int .i64 0)] 25)) (w.heap.size + 2) (.int .i64 0) (.int .i64 0) from by simpa using Cell2.alloc ((w.alloc (Obj.cells #[(.int .i64 f)] 23)).alloc (Obj.cells #[(.int .i64 y), (.int .i64 n)] 25)) (.int .i64 0) (.int .i64 0) 25)
  have HB5 := Lib.hid ((((Below.refl w.heap.size w).alloc (Nat.le_refl _) (Obj.cells #[(.int .i64 f)] 23)).alloc (by simp) (Obj.cells #[(.int .i64 y), (.int .i64 n)] 25)).alloc (by simp; omega) (Obj.cells #[(.int .i64 0), (.int .i64 0)] 25))
  generalize (((w.alloc (Obj.cells #[(.int .i64 f)] 23)).alloc (Obj.cells #[(.int .i64 y), (.int .i64 n)] 25)).alloc (Obj.cells #[(.int .i64 0), (.int .i64 0)] 25)) = W5 at *
  refine (HC.out _).mono ?_
  rintro e W6 ⟨rfl, hb6⟩
  have HB6 := Lib.hid (HB5.out.trans ((hb6).mono HB5.out.size))
  have P0_6 := Lib.hid (P0_5.out.below (hb6) P0_5.out.lt)
  have P1_6 := Lib.hid (P1_5.out.below (hb6) P1_5.out.lt)
  have P2_6 := Lib.hid (P2_5.out.below (hb6) P2_5.out.lt)
  clear HB5 P0_5 P1_5 P2_5 hb6
  have lP0_6 := P0_6.out.lt
  have cP0_6_0 := P0_6.out.c0
  have lP1_6 := P1_6.out.lt
  have cP1_6_0 := P1_6.out.c0
  have cP1_6_1 := P1_6.out.c1
  have lP2_6 := P2_6.out.lt
  have cP2_6_0 := P2_6.out.c0
  have cP2_6_1 := P2_6.out.c1
  have fP2_6_0 := P2_6.out.f0
  have fP2_6_1 := P2_6.out.f1
  go_wp2
  refine bodyPost_ret (v := .tuple #[.agg #[(.int .i64 ra), (.int .i64 rb)], .int .i64 E]) ?_ rfl ⟨rfl, ((HB6.out.setCell (p := ⟨w.heap.size + 2, 0, none⟩) (by simp) (.int .i64 ra)).setCell (p := ⟨w.heap.size + 2, 1, none⟩) (by simp) (.int .i64 rb))⟩
  have u0 := ((P2_6.out.set0 (.int .i64 ra)).set1 (.int .i64 rb)).c0
  have u1 := ((P2_6.out.set0 (.int .i64 ra)).set1 (.int .i64 rb)).c1
  rw [results_cell_tmp rfl]
  go_simp

set_option maxHeartbeats 4000000 in
theorem rNext_d (f y : Int) (w : World) (y1 : -9223372036854775808 ≤ y) (y2 : y ≤ 9223372036854775807) :
    Calls Tryd.prog 21 #[.agg #[.int .i64 f], .agg #[.int .i64 y, .int .i64 9223372036854775807]] w fun x w' => x = .returned (.tuple #[.agg #[.int .i64 (ifOk (twoE f y 9223372036854775807 y (-9223372036854775808)) y), .int .i64 (ifOk (twoE f y 9223372036854775807 y (-9223372036854775808)) (-9223372036854775808))], .int .i64 (twoE f y 9223372036854775807 y (-9223372036854775808))]) ∧ Below w.heap.size w w' := by
  have HC := Lib.hid (fun w => rStep_any f y 9223372036854775807 y (-9223372036854775808) w (by omega) (by omega) (by omega) (by omega))
  generalize ifOk (twoE f y 9223372036854775807 y (-9223372036854775808)) y = ra at *
  generalize ifOk (twoE f y 9223372036854775807 y (-9223372036854775808)) (-9223372036854775808) = rb at *
  generalize twoE f y 9223372036854775807 y (-9223372036854775808) = E at *
  go_enter Tryd.func21, Tryd.ntmps21
  go_wp2_with fail
  rw [show wrap64 9223372036854775808 = -9223372036854775808 from by unfold wrap64; omega]
  have P0_7 := Lib.hid (show Cell1 (((w.alloc (Obj.cells #[(.int .i64 f)] 23)).alloc (Obj.cells #[(.int .i64 y), (.int .i64 9223372036854775807)] 25)).alloc (Obj.cells #[(.int .i64 0), (.int .i64 0)] 25)) (w.heap.size) (.int .i64 f) from by have q := Cell1.alloc w (.int .i64 f) 23; exact q.below (N := w.heap.size + 1) (((Below.refl _ _).alloc (by simp <;> omega) (Obj.cells #[(.int .i64 y), (.int .i64 9223372036854775807)] 25)).alloc (by simp <;> omega) (Obj.cells #[(.int .i64 0), (.int .i64 0)] 25)) (by omega))
  have P1_7 := Lib.hid (show Cell2 (((w.alloc (Obj.cells #[(.int .i64 f)] 23)).alloc (Obj.cells #[(.int .i64 y), (.int .i64 9223372036854775807)] 25)).alloc (Obj.cells #[(.int .i64 0), (.int .i64 0)] 25)) (w.heap.size + 1) (.int .i64 y) (.int .i64 9223372036854775807) from by have q := Cell2.alloc (w.alloc (Obj.cells #[(.int .i64 f)] 23)) (.int .i64 y) (.int .i64 9223372036854775807) 25; try simp only [World.size_alloc] at q; exact q.below (N := w.heap.size + 1 + 1) ((Below.refl _ _).alloc (by simp <;> omega) (Obj.cells #[(.int .i64 0), (.int .i64 0)] 25)) (by omega))
  have P2_7 := Lib.hid (show Cell2 (((w.alloc (Obj.cells #[(.int .i64 f)] 23)).alloc (Obj.cells #[(.int .i64 y), (.int .i64 9223372036854775807)] 25)).alloc (Obj.cells #[(.int .i64 0), (.int .i64 0)] 25)) (w.heap.size + 2) (.int .i64 0) (.int .i64 0) from by simpa using Cell2.alloc ((w.alloc (Obj.cells #[(.int .i64 f)] 23)).alloc (Obj.cells #[(.int .i64 y), (.int .i64 9223372036854775807)] 25)) (.int .i64 0) (.int .i64 0) 25)
  have HB7 := Lib.hid ((((Below.refl w.heap.size w).alloc (Nat.le_refl _) (Obj.cells #[(.int .i64 f)] 23)).alloc (by simp) (Obj.cells #[(.int .i64 y), (.int .i64 9223372036854775807)] 25)).alloc (by simp; omega) (Obj.cells #[(.int .i64 0), (.int .i64 0)] 25))
  generalize (((w.alloc (Obj.cells #[(.int .i64 f)] 23)).alloc (Obj.cells #[(.int .i64 y), (.int .i64 9223372036854775807)] 25)).alloc (Obj.cells #[(.int .i64 0), (.int .i64 0)] 25)) = W7 at *
  refine (HC.out _).mono ?_
  rintro e W8 ⟨rfl, hb8⟩
  have HB8 := Lib.hid (HB7.out.trans ((hb8).mono HB7.out.size))
  have P0_8 := Lib.hid (P0_7.out.below (hb8) P0_7.out.lt)
  have P1_8 := Lib.hid (P1_7.out.below (hb8) P1_7.out.lt)
  have P2_8 := Lib.hid (P2_7.out.below (hb8) P2_7.out.lt)
  clear HB7 P0_7 P1_7 P2_7 hb8
  have lP0_8 := P0_8.out.lt
  have cP0_8_0 := P0_8.out.c0
  have lP1_8 := P1_8.out.lt
  have cP1_8_0 := P1_8.out.c0
  have cP1_8_1 := P1_8.out.c1
  have lP2_8 := P2_8.out.lt
  have cP2_8_0 := P2_8.out.c0
  have cP2_8_1 := P2_8.out.c1
  have fP2_8_0 := P2_8.out.f0
  have fP2_8_1 := P2_8.out.f1
  go_wp2
  refine bodyPost_ret (v := .tuple #[.agg #[(.int .i64 ra), (.int .i64 rb)], .int .i64 E]) ?_ rfl ⟨rfl, ((HB8.out.setCell (p := ⟨w.heap.size + 2, 0, none⟩) (by simp) (.int .i64 ra)).setCell (p := ⟨w.heap.size + 2, 1, none⟩) (by simp) (.int .i64 rb))⟩
  have u0 := ((P2_8.out.set0 (.int .i64 ra)).set1 (.int .i64 rb)).c0
  have u1 := ((P2_8.out.set0 (.int .i64 ra)).set1 (.int .i64 rb)).c1
  rw [results_cell_tmp rfl]
  go_simp

set_option maxHeartbeats 4000000 in
theorem rPrev_a (f y : Int) (w : World) (y1 : -9223372036854775808 < y) (y2 : y ≤ 9223372036854775807) :
    Calls Tryd.prog 23 #[.agg #[.int .i64 f], .agg #[.int .i64 y, .int .i64 1]] w fun x w' => x = .returned (.tuple #[.agg #[.int .i64 (ifOk (twoE f y 1 (y - 1) 13) (y - 1)), .int .i64 (ifOk (twoE f y 1 (y - 1) 13) 13)], .int .i64 (twoE f y 1 (y - 1) 13)]) ∧ Below w.heap.size w w' := by
  have HC := Lib.hid (fun w => rStep_any f y 1 (y - 1) 13 w (by omega) (by omega) (by omega) (by omega))
  generalize ifOk (twoE f y 1 (y - 1) 13) (y - 1) = ra at *
  generalize ifOk (twoE f y 1 (y - 1) 13) 13 = rb at *
  generalize twoE f y 1 (y - 1) 13 = E at *
  go_enter Tryd.func23, Tryd.ntmps23
  go_wp2_with fail
  have P0_9 := Lib.hid (show Cell1 (((w.alloc (Obj.cells #[(.int .i64 f)] 23)).alloc (Obj.cells #[(.int .i64 y), (.int .i64 1)] 25)).alloc (Obj.cells #[(.int .i64 0), (.int .i64 0)] 25)) (w.heap.size) (.int .i64 f) from by have q := Cell1.alloc w (.int .i64 f) 23; exact q.below (N := w.heap.size + 1) (((Below.refl _ _).alloc (by simp <;> omega) (Obj.cells #[(.int .i64 y), (.int .i64 1)] 25)).alloc (by simp <;> omega) (Obj.cells #[(.int .i64 0), (.int .i64 0)] 25)) (by omega))
  have P1_9 := Lib.hid (show Cell2 (((w.alloc (Obj.cells #[(.int .i64 f)] 23)).alloc (Obj.cells #[(.int .i64 y), (.int .i64 1)] 25)).alloc (Obj.cells #[(.int .i64 0), (.int .i64 0)] 25)) (w.heap.size + 1) (.int .i64 y) (.int .i64 1) from by have q := Cell2.alloc (w.alloc (Obj.cells #[(.int .i64 f)] 23)) (.int .i64 y) (.int .i64 1) 25; try simp only [World.size_alloc] at q; exact q.below (N := w.heap.size + 1 + 1) ((Below.refl _ _).alloc (by simp <;> omega) (Obj.cells #[(.int .i64 0), (.int .i64 0)] 25)) (by omega))
  have P2_9 := Lib.hid (show Cell2 (((w.alloc (Obj.cells #[(.int .i64 f)] 23)).alloc (Obj.cells #[(.int .i64 y), (.int .i64 1)] 25)).alloc (Obj.cells #[(.int .i64 0), (.int .i64 0)] 25)) (w.heap.size + 2) (.int .i64 0) (.int .i64 0) from by simpa using Cell2.alloc ((w.alloc (Obj.cells #[(.int .i64 f)] 23)).alloc (Obj.cells #[(.int .i64 y), (.int .i64 1)] 25)) (.int .i64 0) (.int .i64 0) 25)
  have HB9 := Lib.hid ((((Below.refl w.heap.size w).alloc (Nat.le_refl _) (Obj.cells #[(.int .i64 f)] 23)).alloc (by simp) (Obj.cells #[(.int .i64 y), (.int .i64 1)] 25)).alloc (by simp; omega) (Obj.cells #[(.int .i64 0), (.int .i64 0)] 25))
  generalize (((w.alloc (Obj.cells #[(.int .i64 f)] 23)).alloc (Obj.cells #[(.int .i64 y), (.int .i64 1)] 25)).alloc (Obj.cells #[(.int .i64 0), (.int .i64 0)] 25)) = W9 at *
  refine (HC.out _).mono ?_
  rintro e W10 ⟨rfl, hb10⟩
  have HB10 := Lib.hid (HB9.out.trans ((hb10).mono HB9.out.size))
  have P0_10 := Lib.hid (P0_9.out.below (hb10) P0_9.out.lt)
  have P1_10 := Lib.hid (P1_9.out.below (hb10) P1_9.out.lt)
  have P2_10 := Lib.hid (P2_9.out.below (hb10) P2_9.out.lt)
  clear HB9 P0_9 P1_9 P2_9 hb10
  have lP0_10 := P0_10.out.lt
  have cP0_10_0 := P0_10.out.c0
  have lP1_10 := P1_10.out.lt
  have cP1_10_0 := P1_10.out.c0
  have cP1_10_1 := P1_10.out.c1
  have lP2_10 := P2_10.out.lt
  have cP2_10_0 := P2_10.out.c0
  have cP2_10_1 := P2_10.out.c1
  have fP2_10_0 := P2_10.out.f0
  have fP2_10_1 := P2_10.out.f1
  go_wp2
  refine bodyPost_ret (v := .tuple #[.agg #[(.int .i64 ra), (.int .i64 rb)], .int .i64 E]) ?_ rfl ⟨rfl, ((HB10.out.setCell (p := ⟨w.heap.size + 2, 0, none⟩) (by simp) (.int .i64 ra)).setCell (p := ⟨w.heap.size + 2, 1, none⟩) (by simp) (.int .i64 rb))⟩
  have u0 := ((P2_10.out.set0 (.int .i64 ra)).set1 (.int .i64 rb)).c0
  have u1 := ((P2_10.out.set0 (.int .i64 ra)).set1 (.int .i64 rb)).c1
  rw [results_cell_tmp rfl]
  go_simp

set_option maxHeartbeats 4000000 in
theorem rPrev_b (f : Int) (w : World)  :
    Calls Tryd.prog 23 #[.agg #[.int .i64 f], .agg #[.int .i64 (-9223372036854775808), .int .i64 1]] w fun x w' => x = .returned (.tuple #[.agg #[.int .i64 (ifOk (twoE f (-9223372036854775808) 1 9223372036854775807 13) 9223372036854775807), .int .i64 (ifOk (twoE f (-9223372036854775808) 1 9223372036854775807 13) 13)], .int .i64 (twoE f (-9223372036854775808) 1 9223372036854775807 13)]) ∧ Below w.heap.size w w' := by
  have HC := Lib.hid (fun w => rStep_any f (-9223372036854775808) 1 9223372036854775807 13 w (by omega) (by omega) (by omega) (by omega))
  generalize ifOk (twoE f (-9223372036854775808) 1 9223372036854775807 13) 9223372036854775807 = ra at *
  generalize ifOk (twoE f (-9223372036854775808) 1 9223372036854775807 13) 13 = rb at *
  generalize twoE f (-9223372036854775808) 1 9223372036854775807 13 = E at *
  go_enter Tryd.func23, Tryd.ntmps23
  go_wp2_with fail
  rw [show wrap64 (-9223372036854775809) = 9223372036854775807 from by unfold wrap64; omega]
  have P0_11 := Lib.hid (show Cell1 (((w.alloc (Obj.cells #[(.int .i64 f)] 23)).alloc (Obj.cells #[(.int .i64 (-9223372036854775808)), (.int .i64 1)] 25)).alloc (Obj.cells #[(.int .i64 0), (.int .i64 0)] 25)) (w.heap.size) (.int .i64 f) from by have q := Cell1.alloc w (.int .i64 f) 23; exact q.below (N := w.heap.size + 1) (((Below.refl _ _).alloc (by simp <;> omega) (Obj.cells #[(.int .i64 (-9223372036854775808)), (.int .i64 1)] 25)).alloc (by simp <;> omega) (Obj.cells #[(.int .i64 0), (.int .i64 0)] 25)) (by omega))
  have P1_11 := Lib.hid (show Cell2 (((w.alloc (Obj.cells #[(.int .i64 f)] 23)).alloc (Obj.cells #[(.int .i64 (-9223372036854775808)), (.int .i64 1)] 25)).alloc (Obj.cells #[(.int .i64 0), (.int .i64 0)] 25)) (w.heap.size + 1) (.int .i64 (-9223372036854775808)) (.int .i64 1) from by have q := Cell2.alloc (w.alloc (Obj.cells #[(.int .i64 f)] 23)) (.int .i64 (-9223372036854775808)) (.int .i64 1) 25; try simp only [World.size_alloc] at q; exact q.below (N := w.heap.size + 1 + 1) ((Below.refl _ _).alloc (by simp <;> omega) (Obj.cells #[(.int .i64 0), (.int .i64 0)] 25)) (by omega))
  have P2_11 := Lib.hid (show Cell2 (((w.alloc (Obj.cells #[(.int .i64 f)] 23)).alloc (Obj.cells #[(.int .i64 (-9223372036854775808)), (.int .i64 1)] 25)).alloc (Obj.cells #[(.int .i64 0), (.int .i64 0)] 25)) (w.heap.size + 2) (.int .i64 0) (.int .i64 0) from by simpa using Cell2.alloc ((w.alloc (Obj.cells #[(.int .i64 f)] 23)).alloc (Obj.cells #[(.int .i64 (-9223372036854775808)), (.int .i64 1)] 25)) (.int .i64 0) (.int .i64 0) 25)
  have HB11 := Lib.hid ((((Below.refl w.heap.size w).alloc (Nat.le_refl _) (Obj.cells #[(.int .i64 f)] 23)).alloc (by simp) (Obj.cells #[(.int .i64 (-9223372036854775808)), (.int .i64 1)] 25)).alloc (by simp; omega) (Obj.cells #[(.int .i64 0), (.int .i64 0)] 25))
  generalize (((w.alloc (Obj.cells #[(.int .i64 f)] 23)).alloc (Obj.cells #[(.int .i64 (-9223372036854775808)), (.int .i64 1)] 25)).alloc (Obj.cells #[(.int .i64 0), (.int .i64 0)] 25)) = W11 at *
  refine (HC.out _).mono ?_
  rintro e W12 ⟨rfl, hb12⟩
  have HB12 := Lib.hid (HB11.out.trans ((hb12).mono HB11.out.size))
  have P0_12 := Lib.hid (P0_11.out.below (hb12) P0_11.out.lt)
  have P1_12 := Lib.hid (P1_11.out.below (hb12) P1_11.out.lt)
  have P2_12 := Lib.hid (P2_11.out.below (hb12) P2_11.out.lt)
  clear HB11 P0_11 P1_11 P2_11 hb12
  have lP0_12 := P0_12.out.lt
  have cP0_12_0 := P0_12.out.c0
  have lP1_12 := P1_12.out.lt
  have cP1_12_0 := P1_12.out.c0
  have cP1_12_1 := P1_12.out.c1
  have lP2_12 := P2_12.out.lt
  have cP2_12_0 := P2_12.out.c0
  have cP2_12_1 := P2_12.out.c1
  have fP2_12_0 := P2_12.out.f0
  have fP2_12_1 := P2_12.out.f1
  go_wp2
  refine bodyPost_ret (v := .tuple #[.agg #[(.int .i64 ra), (.int .i64 rb)], .int .i64 E]) ?_ rfl ⟨rfl, ((HB12.out.setCell (p := ⟨w.heap.size + 2, 0, none⟩) (by simp) (.int .i64 ra)).setCell (p := ⟨w.heap.size + 2, 1, none⟩) (by simp) (.int .i64 rb))⟩
  have u0 := ((P2_12.out.set0 (.int .i64 ra)).set1 (.int .i64 rb)).c0
  have u1 := ((P2_12.out.set0 (.int .i64 ra)).set1 (.int .i64 rb)).c1
  rw [results_cell_tmp rfl]
  go_simp

set_option maxHeartbeats 4000000 in
theorem rPrev_c (f y n : Int) (w : World) (hn : (n == 1) = false) (n1 : -9223372036854775808 < n) (n2 : n ≤ 9223372036854775807) (y1 : -9223372036854775808 ≤ y) (y2 : y ≤ 9223372036854775807) :
    Calls Tryd.prog 23 #[.agg #[.int .i64 f], .agg #[.int .i64 y, .int .i64 n]] w fun x w' => x = .returned (.tuple #[.agg #[.int .i64 (ifOk (twoE f y n y (n - 1)) y), .int .i64 (ifOk (twoE f y n y (n - 1)) (n - 1))], .int .i64 (twoE f y n y (n - 1))]) ∧ Below w.heap.size w w' := by
  have HC := Lib.hid (fun w => rStep_any f y n y (n - 1) w (by omega) (by omega) (by omega) (by omega))
  generalize ifOk (twoE f y n y (n - 1)) y = ra at *
  generalize ifOk (twoE f y n y (n - 1)) (n - 1) = rb at *
  generalize twoE f y n y (n - 1) = E at *
  go_enter Tryd.func23, Tryd.ntmps23
  go_wp2_with fail
  have P0_13 := Lib.hid (show Cell1 (((w.alloc (Obj.cells #[(.int .i64 f)] 23)).alloc (Obj.cells #[(.int .i64 y), (.int .i64 n)] 25)).alloc (Obj.cells #[(.int .i64 0), (.int .i64 0)] 25)) (w.heap.size) (.int .i64 f) from by have q := Cell1.alloc w (.int .i64 f) 23; exact q.below (N := w.heap.size + 1) (((Below.refl _ _).alloc (by simp <;> omega) (Obj.cells #[(.int .i64 y), (.int .i64 n)] 25)).alloc (by simp <;> omega) (Obj.cells #[(.int .i64 0), (.int .i64 0)] 25)) (by omega))
  have P1_13 := Lib.hid (show Cell2 (((w.alloc (Obj.cells #[(.int .i64 f)] 23)).alloc (Obj.cells #[(.int .i64 y), (.int .i64 n)] 25)).alloc (Obj.cells #[(.int .i64 0), (.int .i64 0)] 25)) (w.heap.size + 1) (.int .i64 y) (.int .i64 n) from by have q := Cell2.alloc (w.alloc (Obj.cells #[(.int .i64 f)] 23)) (.int .i64 y) (.int .i64 n) 25; try simp only [World.size_alloc] at q; exact q.below (N := w.heap.size + 1 + 1) ((Below.refl _ _).alloc (by simp <;> omega) (Obj.cells #[(.int .i64 0), (.int .i64 0)] 25)) (by omega))
  have P2_13 := Lib.hid (show Cell2 (((w.alloc (Obj.cells #[(.int .i64 f)] 23)).alloc (Obj.cells #[(.int .i64 y), (.int .i64 n)] 25)).alloc (Obj.cells #[(.int .i64 0), (.int .i64 0)] 25)) (w.heap.size + 2) (.int .i64 0) (.int .i64 0) from by simpa using Cell2.alloc ((w.alloc (Obj.cells #[(.int .i64 f)] 23)).alloc (Obj.cells #[(.int .i64 y), (.int .i64 n)] 25)) (.int .i64 0) (.int .i64 0) 25)
  have HB13 := Lib.hid ((((Below.refl w.heap.size w).alloc (Nat.le_refl _) (Obj.cells #[(.int .i64 f)] 23)).alloc (by simp) (Obj.cells #[(.int .i64 y), (.int .i64 n)] 25)).alloc (by simp; omega) (Obj.cells #[(.int .i64 0), (.int .i64 0)] 25))
  generalize (((w.alloc (Obj.cells #[(.int .i64 f)] 23)).alloc (Obj.cells #[(.int .i64 y), (.int .i64 n)] 25)).alloc (Obj.cells #[(.int .i64 0), (.int .i64 0)] 25)) = W13 at *
  refine (HC.out _).mono ?_
  rintro e W14 ⟨rfl, hb14⟩
  have HB14 := Lib.hid (HB13.out.trans ((hb14).mono HB13.out.size))
  have P0_14 := Lib.hid (P0_13.out.below (hb14) P0_13.out.lt)
  have P1_14 := Lib.hid (P1_13.out.below (hb14) P1_13.out.lt)
  have P2_14 := Lib.hid (P2_13.out.below (hb14) P2_13.out.lt)
  clear HB13 P0_13 P1_13 P2_13 hb14
  have lP0_14 := P0_14.out.lt
  have cP0_14_0 := P0_14.out.c0
  have lP1_14 := P1_14.out.lt
  have cP1_14_0 := P1_14.out.c0
  have cP1_14_1 := P1_14.out.c1
  have lP2_14 := P2_14.out.lt
  have cP2_14_0 := P2_14.out.c0
  have cP2_14_1 := P2_14.out.c1
  have fP2_14_0 := P2_14.out.f0
  have fP2_14_1 := P2_14.out.f1
  go_wp2
  refine bodyPost_ret (v := .tuple #[.agg #[(.int .i64 ra), (.int .i64 rb)], .int .i64 E]) ?_ rfl ⟨rfl, ((HB14.out.setCell (p := ⟨w.heap.size + 2, 0, none⟩) (by simp) (.int .i64 ra)).setCell (p := ⟨w.heap.size + 2, 1, none⟩) (by simp) (.int .i64 rb))⟩
  have u0 := ((P2_14.out.set0 (.int .i64 ra)).set1 (.int .i64 rb)).c0
  have u1 := ((P2_14.out.set0 (.int .i64 ra)).set1 (.int .i64 rb)).c1
  rw [results_cell_tmp rfl]
  go_simp

set_option maxHeartbeats 4000000 in
theorem rPrev_d (f y : Int) (w : World) (y1 : -9223372036854775808 ≤ y) (y2 : y ≤ 9223372036854775807) :
    Calls Tryd.prog 23 #[.agg #[.int .i64 f], .agg #[.int .i64 y, .int .i64 (-9223372036854775808)]] w fun x w' => x = .returned (.tuple #[.agg #[.int .i64 (ifOk (twoE f y (-9223372036854775808) y 9223372036854775807) y), .int .i64 (ifOk (twoE f y (-9223372036854775808) y 9223372036854775807) 9223372036854775807)], .int .i64 (twoE f y (-9223372036854775808) y 9223372036854775807)]) ∧ Below w.heap.size w w' := by
  have HC := Lib.hid (fun w => rStep_any f y (-9223372036854775808) y 9223372036854775807 w (by omega) (by omega) (by omega) (by omega))
  generalize ifOk (twoE f y (-9223372036854775808) y 9223372036854775807) y = ra at *
  generalize ifOk (twoE f y (-9223372036854775808) y 9223372036854775807) 9223372036854775807 = rb at *
  generalize twoE f y (-9223372036854775808) y 9223372036854775807 = E at *
  go_enter Tryd.func23, Tryd.ntmps23
  go_wp2_with fail
  rw [show wrap64 (-9223372036854775809) = 9223372036854775807 from by unfold wrap64; omega]
  have P0_15 := Lib.hid (show Cell1 (((w.alloc (Obj.cells #[(.int .i64 f)] 23)).alloc (Obj.cells #[(.int .i64 y), (.int .i64 (-9223372036854775808))] 25)).alloc (Obj.cells #[(.int .i64 0), (.int .i64 0)] 25)) (w.heap.size) (.int .i64 f) from by have q := Cell1.alloc w (.int .i64 f) 23; exact q.below (N := w.heap.size + 1) (((Below.refl _ _).alloc (by simp <;> omega) (Obj.cells #[(.int .i64 y), (.int .i64 (-9223372036854775808))] 25)).alloc (by simp <;> omega) (Obj.cells #[(.int .i64 0), (.int .i64 0)] 25)) (by omega))
  have P1_15 := Lib.hid (show Cell2 (((w.alloc (Obj.cells #[(.int .i64 f)] 23)).alloc (Obj.cells #[(.int .i64 y), (.int .i64 (-9223372036854775808))] 25)).alloc (Obj.cells #[(.int .i64 0), (.int .i64 0)] 25)) (w.heap.size + 1) (.int .i64 y) (.int .i64 (-9223372036854775808)) from by have q := Cell2.alloc (w.alloc (Obj.cells #[(.int .i64 f)] 23)) (.int .i64 y) (.int .i64 (-9223372036854775808)) 25; try simp only [World.size_alloc] at q; exact q.below (N := w.heap.size + 1 + 1) ((Below.refl _ _).alloc (by simp <;> omega) (Obj.cells #[(.int .i64 0), (.int .i64 0)] 25)) (by omega))
  have P2_15 := Lib.hid (show Cell2 (((w.alloc (Obj.cells #[(.int .i64 f)] 23)).alloc (Obj.cells #[(.int .i64 y), (.int .i64 (-9223372036854775808))] 25)).alloc (Obj.cells #[(.int .i64 0), (.int .i64 0)] 25)) (w.heap.size + 2) (.int .i64 0) (.int .i64 0) from by simpa using Cell2.alloc ((w.alloc (Obj.cells #[(.int .i64 f)] 23)).alloc (Obj.cells #[(.int .i64 y), (.int .i64 (-9223372036854775808))] 25)) (.int .i64 0) (.int .i64 0) 25)
  have HB15 := Lib.hid ((((Below.refl w.heap.size w).alloc (Nat.le_refl _) (Obj.cells #[(.int .i64 f)] 23)).alloc (by simp) (Obj.cells #[(.int .i64 y), (.int .i64 (-9223372036854775808))] 25)).alloc (by simp; omega) (Obj.cells #[(.int .i64 0), (.int .i64 0)] 25))
  generalize (((w.alloc (Obj.cells #[(.int .i64 f)] 23)).alloc (Obj.cells #[(.int .i64 y), (.int .i64 (-9223372036854775808))] 25)).alloc (Obj.cells #[(.int .i64 0), (.int .i64 0)] 25)) = W15 at *
  refine (HC.out _).mono ?_
  rintro e W16 ⟨rfl, hb16⟩
  have HB16 := Lib.hid (HB15.out.trans ((hb16).mono HB15.out.size))
  have P0_16 := Lib.hid (P0_15.out.below (hb16) P0_15.out.lt)
  have P1_16 := Lib.hid (P1_15.out.below (hb16) P1_15.out.lt)
  have P2_16 := Lib.hid (P2_15.out.below (hb16) P2_15.out.lt)
  clear HB15 P0_15 P1_15 P2_15 hb16
  have lP0_16 := P0_16.out.lt
  have cP0_16_0 := P0_16.out.c0
  have lP1_16 := P1_16.out.lt
  have cP1_16_0 := P1_16.out.c0
  have cP1_16_1 := P1_16.out.c1
  have lP2_16 := P2_16.out.lt
  have cP2_16_0 := P2_16.out.c0
  have cP2_16_1 := P2_16.out.c1
  have fP2_16_0 := P2_16.out.f0
  have fP2_16_1 := P2_16.out.f1
  go_wp2
  refine bodyPost_ret (v := .tuple #[.agg #[(.int .i64 ra), (.int .i64 rb)], .int .i64 E]) ?_ rfl ⟨rfl, ((HB16.out.setCell (p := ⟨w.heap.size + 2, 0, none⟩) (by simp) (.int .i64 ra)).setCell (p := ⟨w.heap.size + 2, 1, none⟩) (by simp) (.int .i64 rb))⟩
  have u0 := ((P2_16.out.set0 (.int .i64 ra)).set1 (.int .i64 rb)).c0
  have u1 := ((P2_16.out.set0 (.int .i64 ra)).set1 (.int .i64 rb)).c1
  rw [results_cell_tmp rfl]
  go_simp

theorem rNext_any (f y n : Int) (w : World) (y1 : -9223372036854775808 ≤ y) (y2 : y ≤ 9223372036854775807) (n1 : -9223372036854775808 ≤ n) (n2 : n ≤ 9223372036854775807) :
    Calls Tryd.prog 21 #[.agg #[.int .i64 f], .agg #[.int .i64 y, .int .i64 n]] w fun x w' => x = .returned (.tuple #[.agg #[.int .i64 (ifOk (twoE f y n (nxY y n) (nxN n)) (nxY y n)), .int .i64 (ifOk (twoE f y n (nxY y n) (nxN n)) (nxN n))], .int .i64 (twoE f y n (nxY y n) (nxN n))]) ∧ Below w.heap.size w w' := by
  by_cases h : n = 13
  · subst h
    have eN : nxN 13 = 1 := if_pos rfl
    by_cases hy : y = 9223372036854775807
    · subst hy
      have eY : nxY 9223372036854775807 13 = (-9223372036854775808) := by unfold nxY wrap64; simp
      rw [eN, eY]
      exact rNext_b f w
    · have eY : nxY y 13 = y + 1 := by unfold nxY; rw [if_pos rfl, wrap_in (by omega) (by omega)]
      rw [eN, eY]
      exact rNext_a f y w (by omega) (by omega)
  · have eY : nxY y n = y := if_neg h
    by_cases hn : n = 9223372036854775807
    · subst hn
      have eN : nxN 9223372036854775807 = (-9223372036854775808) := by unfold nxN wrap64; simp
      rw [eN, eY]
      exact rNext_d f y w y1 y2
    · have eN : nxN n = n + 1 := by unfold nxN; rw [if_neg h, wrap_in (by omega) (by omega)]
      rw [eN, eY]
      exact rNext_c f y n w (by simpa using h) (by omega) (by omega) y1 y2

theorem rPrev_any (f y n : Int) (w : World) (y1 : -9223372036854775808 ≤ y) (y2 : y ≤ 9223372036854775807) (n1 : -9223372036854775808 ≤ n) (n2 : n ≤ 9223372036854775807) :
    Calls Tryd.prog 23 #[.agg #[.int .i64 f], .agg #[.int .i64 y, .int .i64 n]] w fun x w' => x = .returned (.tuple #[.agg #[.int .i64 (ifOk (twoE f y n (pvY y n) (pvN n)) (pvY y n)), .int .i64 (ifOk (twoE f y n (pvY y n) (pvN n)) (pvN n))], .int .i64 (twoE f y n (pvY y n) (pvN n))]) ∧ Below w.heap.size w w' := by
  by_cases h : n = 1
  · subst h
    have eN : pvN 1 = 13 := if_pos rfl
    by_cases hy : y = (-9223372036854775808)
    · subst hy
      have eY : pvY (-9223372036854775808) 1 = 9223372036854775807 := by unfold pvY wrap64; simp
      rw [eN, eY]
      exact rPrev_b f w
    · have eY : pvY y 1 = y - 1 := by unfold pvY; rw [if_pos rfl, wrap_in (by omega) (by omega)]
      rw [eN, eY]
      exact rPrev_a f y w (by omega) (by omega)
  · have eY : pvY y n = y := if_neg h
    by_cases hn : n = (-9223372036854775808)
    · subst hn
      have eN : pvN (-9223372036854775808) = 9223372036854775807 := by unfold pvN wrap64; simp
      rw [eN, eY]
      exact rPrev_d f y w y1 y2
    · have eN : pvN n = n - 1 := by unfold pvN; rw [if_neg h, wrap_in (by omega) (by omega)]
      rw [eN, eY]
      exact rPrev_c f y n w (by simpa using h) (by omega) (by omega) y1 y2

set_option maxHeartbeats 4000000 in
theorem rCount_any (f y n y' n' : Int) (w : World) (y1 : -9223372036854775808 ≤ y) (y2 : y ≤ 9223372036854775807) (z1 : -9223372036854775808 ≤ y') (z2 : y' ≤ 9223372036854775807) :
    Calls Tryd.prog 25 #[.agg #[.int .i64 f], .agg #[.int .i64 y, .int .i64 n], .agg #[.int .i64 y', .int .i64 n']] w fun x w' => x = .returned (.tuple #[.int .i64 (cntV f y n y' n'), .int .i64 (twoE f y n y' n')]) ∧ Below w.heap.size w w' := by
  have HR := Lib.hid (fun w => rfRight_any f w)
  unfold cntV ifOk
  by_cases hf : calO f
  · rw [decide_eq_true hf] at HR
    have HE := Lib.hid (fun w => rExists_any f y n w hf y1 y2)
    have HF := Lib.hid (fun w => rExists_any f y' n' w hf z1 z2)
    by_cases hp : perO f y n
    · rw [decide_eq_true hp] at HE
      by_cases hq : perO f y' n'
      · rw [decide_eq_true hq] at HF
        rw [twoE_yes hf hp hq, if_pos rfl]
        obtain ⟨a1, a2, a3, a4⟩ := hp.b hf
        obtain ⟨a5, a6, a7, a8⟩ := hq.b hf
        have HG := Lib.hid (show (y' - y) * 13 + n' - n = 13 * (y' - y) + n' - n by omega)
        rw [HG.out]
        clear hf hp hq HG
        go_enter Tryd.func25, Tryd.ntmps25
        go_wp2_with fail
        have P0_17 := Lib.hid (show Cell1 (((w.alloc (Obj.cells #[(.int .i64 f)] 23)).alloc (Obj.cells #[(.int .i64 y), (.int .i64 n)] 25)).alloc (Obj.cells #[(.int .i64 y'), (.int .i64 n')] 25)) (w.heap.size) (.int .i64 f) from by have q := Cell1.alloc w (.int .i64 f) 23; exact q.below (N := w.heap.size + 1) (((Below.refl _ _).alloc (by simp <;> omega) (Obj.cells #[(.int .i64 y), (.int .i64 n)] 25)).alloc (by simp <;> omega) (Obj.cells #[(.int .i64 y'), (.int .i64 n')] 25)) (by omega))
        have P1_17 := Lib.hid (show Cell2 (((w.alloc (Obj.cells #[(.int .i64 f)] 23)).alloc (Obj.cells #[(.int .i64 y), (.int .i64 n)] 25)).alloc (Obj.cells #[(.int .i64 y'), (.int .i64 n')] 25)) (w.heap.size + 1) (.int .i64 y) (.int .i64 n) from by have q := Cell2.alloc (w.alloc (Obj.cells #[(.int .i64 f)] 23)) (.int .i64 y) (.int .i64 n) 25; try simp only [World.size_alloc] at q; exact q.below (N := w.heap.size + 1 + 1) ((Below.refl _ _).alloc (by simp <;> omega) (Obj.cells #[(.int .i64 y'), (.int .i64 n')] 25)) (by omega))
        have P2_17 := Lib.hid (show Cell2 (((w.alloc (Obj.cells #[(.int .i64 f)] 23)).alloc (Obj.cells #[(.int .i64 y), (.int .i64 n)] 25)).alloc (Obj.cells #[(.int .i64 y'), (.int .i64 n')] 25)) (w.heap.size + 2) (.int .i64 y') (.int .i64 n') from by simpa using Cell2.alloc ((w.alloc (Obj.cells #[(.int .i64 f)] 23)).alloc (Obj.cells #[(.int .i64 y), (.int .i64 n)] 25)) (.int .i64 y') (.int .i64 n') 25)
        have HB17 := Lib.hid ((((Below.refl w.heap.size w).alloc (Nat.le_refl _) (Obj.cells #[(.int .i64 f)] 23)).alloc (by simp) (Obj.cells #[(.int .i64 y), (.int .i64 n)] 25)).alloc (by simp; omega) (Obj.cells #[(.int .i64 y'), (.int .i64 n')] 25))
        generalize (((w.alloc (Obj.cells #[(.int .i64 f)] 23)).alloc (Obj.cells #[(.int .i64 y), (.int .i64 n)] 25)).alloc (Obj.cells #[(.int .i64 y'), (.int .i64 n')] 25)) = W17 at *
        refine (HR.out _).mono ?_
        rintro e W18 ⟨rfl, hb18⟩
        have HB18 := Lib.hid (HB17.out.trans ((hb18).mono HB17.out.size))
        have P0_18 := Lib.hid (P0_17.out.below (hb18) P0_17.out.lt)
        have P1_18 := Lib.hid (P1_17.out.below (hb18) P1_17.out.lt)
        have P2_18 := Lib.hid (P2_17.out.below (hb18) P2_17.out.lt)
        clear HB17 P0_17 P1_17 P2_17 hb18
        have lP0_18 := P0_18.out.lt
        have cP0_18_0 := P0_18.out.c0
        have lP1_18 := P1_18.out.lt
        have cP1_18_0 := P1_18.out.c0
        have cP1_18_1 := P1_18.out.c1
        have lP2_18 := P2_18.out.lt
        have cP2_18_0 := P2_18.out.c0
        have cP2_18_1 := P2_18.out.c1
        go_wp2_with fail
        clear lP0_18 cP0_18_0 lP1_18 cP1_18_0 cP1_18_1 lP2_18 cP2_18_0 cP2_18_1
        refine (HE.out _).mono ?_
        rintro e W19 ⟨rfl, hb19⟩
        have HB19 := Lib.hid (HB18.out.trans ((hb19).mono HB18.out.size))
        have P0_19 := Lib.hid (P0_18.out.below (hb19) P0_18.out.lt)
        have P1_19 := Lib.hid (P1_18.out.below (hb19) P1_18.out.lt)
        have P2_19 := Lib.hid (P2_18.out.below (hb19) P2_18.out.lt)
        clear HB18 P0_18 P1_18 P2_18 hb19
        have lP0_19 := P0_19.out.lt
        have cP0_19_0 := P0_19.out.c0
        have lP1_19 := P1_19.out.lt
        have cP1_19_0 := P1_19.out.c0
        have cP1_19_1 := P1_19.out.c1
        have lP2_19 := P2_19.out.lt
        have cP2_19_0 := P2_19.out.c0
        have cP2_19_1 := P2_19.out.c1
        go_wp2_with fail
        clear lP0_19 cP0_19_0 lP1_19 cP1_19_0 cP1_19_1 lP2_19 cP2_19_0 cP2_19_1
        refine (HF.out _).mono ?_
        rintro e W20 ⟨rfl, hb20⟩
        have HB20 := Lib.hid (HB19.out.trans ((hb20).mono HB19.out.size))
        have P0_20 := Lib.hid (P0_19.out.below (hb20) P0_19.out.lt)
        have P1_20 := Lib.hid (P1_19.out.below (hb20) P1_19.out.lt)
        have P2_20 := Lib.hid (P2_19.out.below (hb20) P2_19.out.lt)
        clear HB19 P0_19 P1_19 P2_19 hb20
        have lP0_20 := P0_20.out.lt
        have cP0_20_0 := P0_20.out.c0
        have lP1_20 := P1_20.out.lt
        have cP1_20_0 := P1_20.out.c0
        have cP1_20_1 := P1_20.out.c1
        have lP2_20 := P2_20.out.lt
        have cP2_20_0 := P2_20.out.c0
        have cP2_20_1 := P2_20.out.c1
        go_wp2
        go_ret2
        exact ⟨rfl, HB20.out⟩
      · rw [decide_eq_false hq] at HF
        rw [twoE_no2 hf hq, if_neg (by omega)]
        clear hf hp hq
        go_enter Tryd.func25, Tryd.ntmps25
        go_wp2_with fail
        have P0_21 := Lib.hid (show Cell1 (((w.alloc (Obj.cells #[(.int .i64 f)] 23)).alloc (Obj.cells #[(.int .i64 y), (.int .i64 n)] 25)).alloc (Obj.cells #[(.int .i64 y'), (.int .i64 n')] 25)) (w.heap.size) (.int .i64 f) from by have q := Cell1.alloc w (.int .i64 f) 23; exact q.below (N := w.heap.size + 1) (((Below.refl _ _).alloc (by simp <;> omega) (Obj.cells #[(.int .i64 y), (.int .i64 n)] 25)).alloc (by simp <;> omega) (Obj.cells #[(.int .i64 y'), (.int .i64 n')] 25)) (by omega))
        have P1_21 := Lib.hid (show Cell2 (((w.alloc (Obj.cells #[(.int .i64 f)] 23)).alloc (Obj.cells #[(.int .i64 y), (.int .i64 n)] 25)).alloc (Obj.cells #[(.int .i64 y'), (.int .i64 n')] 25)) (w.heap.size + 1) (.int .i64 y) (.int .i64 n) from by have q := Cell2.alloc (w.alloc (Obj.cells #[(.int .i64 f)] 23)) (.int .i64 y) (.int .i64 n) 25; try simp only [World.size_alloc] at q; exact q.below (N := w.heap.size + 1 + 1) ((Below.refl _ _).alloc (by simp <;> omega) (Obj.cells #[(.int .i64 y'), (.int .i64 n')] 25)) (by omega))
        have P2_21 := Lib.hid (show Cell2 (((w.alloc (Obj.cells #[(.int .i64 f)] 23)).alloc (Obj.cells #[(.int .i64 y), (.int .i64 n)] 25)).alloc (Obj.cells #[(.int .i64 y'), (.int .i64 n')] 25)) (w.heap.size + 2) (.int .i64 y') (.int .i64 n') from by simpa using Cell2.alloc ((w.alloc (Obj.cells #[(.int .i64 f)] 23)).alloc (Obj.cells #[(.int .i64 y), (.int .i64 n)] 25)) (.int .i64 y') (.int .i64 n') 25)
        have HB21 := Lib.hid ((((Below.refl w.heap.size w).alloc (Nat.le_refl _) (Obj.cells #[(.int .i64 f)] 23)).alloc (by simp) (Obj.cells #[(.int .i64 y), (.int .i64 n)] 25)).alloc (by simp; omega) (Obj.cells #[(.int .i64 y'), (.int .i64 n')] 25))
        generalize (((w.alloc (Obj.cells #[(.int .i64 f)] 23)).alloc (Obj.cells #[(.int .i64 y), (.int .i64 n)] 25)).alloc (Obj.cells #[(.int .i64 y'), (.int .i64 n')] 25)) = W21 at *
        refine (HR.out _).mono ?_
        rintro e W22 ⟨rfl, hb22⟩
        have HB22 := Lib.hid (HB21.out.trans ((hb22).mono HB21.out.size))
        have P0_22 := Lib.hid (P0_21.out.below (hb22) P0_21.out.lt)
        have P1_22 := Lib.hid (P1_21.out.below (hb22) P1_21.out.lt)
        have P2_22 := Lib.hid (P2_21.out.below (hb22) P2_21.out.lt)
        clear HB21 P0_21 P1_21 P2_21 hb22
        have lP0_22 := P0_22.out.lt
        have cP0_22_0 := P0_22.out.c0
        have lP1_22 := P1_22.out.lt
        have cP1_22_0 := P1_22.out.c0
        have cP1_22_1 := P1_22.out.c1
        have lP2_22 := P2_22.out.lt
        have cP2_22_0 := P2_22.out.c0
        have cP2_22_1 := P2_22.out.c1
        go_wp2_with fail
        clear lP0_22 cP0_22_0 lP1_22 cP1_22_0 cP1_22_1 lP2_22 cP2_22_0 cP2_22_1
        refine (HE.out _).mono ?_
        rintro e W23 ⟨rfl, hb23⟩
        have HB23 := Lib.hid (HB22.out.trans ((hb23).mono HB22.out.size))
        have P0_23 := Lib.hid (P0_22.out.below (hb23) P0_22.out.lt)
        have P1_23 := Lib.hid (P1_22.out.below (hb23) P1_22.out.lt)
        have P2_23 := Lib.hid (P2_22.out.below (hb23) P2_22.out.lt)
        clear HB22 P0_22 P1_22 P2_22 hb23
        have lP0_23 := P0_23.out.lt
        have cP0_23_0 := P0_23.out.c0
        have lP1_23 := P1_23.out.lt
        have cP1_23_0 := P1_23.out.c0
        have cP1_23_1 := P1_23.out.c1
        have lP2_23 := P2_23.out.lt
        have cP2_23_0 := P2_23.out.c0
        have cP2_23_1 := P2_23.out.c1
        go_wp2_with fail
        clear lP0_23 cP0_23_0 lP1_23 cP1_23_0 cP1_23_1 lP2_23 cP2_23_0 cP2_23_1
        refine (HF.out _).mono ?_
        rintro e W24 ⟨rfl, hb24⟩
        have HB24 := Lib.hid (HB23.out.trans ((hb24).mono HB23.out.size))
        have P0_24 := Lib.hid (P0_23.out.below (hb24) P0_23.out.lt)
        have P1_24 := Lib.hid (P1_23.out.below (hb24) P1_23.out.lt)
        have P2_24 := Lib.hid (P2_23.out.below (hb24) P2_23.out.lt)
        clear HB23 P0_23 P1_23 P2_23 hb24
        have lP0_24 := P0_24.out.lt
        have cP0_24_0 := P0_24.out.c0
        have lP1_24 := P1_24.out.lt
        have cP1_24_0 := P1_24.out.c0
        have cP1_24_1 := P1_24.out.c1
        have lP2_24 := P2_24.out.lt
        have cP2_24_0 := P2_24.out.c0
        have cP2_24_1 := P2_24.out.c1
        go_wp2
        go_ret2
        exact ⟨rfl, HB24.out⟩
    · rw [decide_eq_false hp] at HE
      rw [twoE_no1 hf hp, if_neg (by omega)]
      clear hf hp HF
      go_enter Tryd.func25, Tryd.ntmps25
      go_wp2_with fail
      have P0_25 := Lib.hid (show Cell1 (((w.alloc (Obj.cells #[(.int .i64 f)] 23)).alloc (Obj.cells #[(.int .i64 y), (.int .i64 n)] 25)).alloc (Obj.cells #[(.int .i64 y'), (.int .i64 n')] 25)) (w.heap.size) (.int .i64 f) from by have q := Cell1.alloc w (.int .i64 f) 23; exact q.below (N := w.heap.size + 1) (((Below.refl _ _).alloc (by simp <;> omega) (Obj.cells #[(.int .i64 y), (.int .i64 n)] 25)).alloc (by simp <;> omega) (Obj.cells #[(.int .i64 y'), (.int .i64 n')] 25)) (by omega))
      have P1_25 := Lib.hid (show Cell2 (((w.alloc (Obj.cells #[(.int .i64 f)] 23)).alloc (Obj.cells #[(.int .i64 y), (.int .i64 n)] 25)).alloc (Obj.cells #[(.int .i64 y'), (.int .i64 n')] 25)) (w.heap.size + 1) (.int .i64 y) (.int .i64 n) from by have q := Cell2.alloc (w.alloc (Obj.cells #[(.int .i64 f)] 23)) (.int .i64 y) (.int .i64 n) 25; try simp only [World.size_alloc] at q; exact q.below (N := w.heap.size + 1 + 1) ((Below.refl _ _).alloc (by simp <;> omega) (Obj.cells #[(.int .i64 y'), (.int .i64 n')] 25)) (by omega))
      have P2_25 := Lib.hid (show Cell2 (((w.alloc (Obj.cells #[(.int .i64 f)] 23)).alloc (Obj.cells #[(.int .i64 y), (.int .i64 n)] 25)).alloc (Obj.cells #[(.int .i64 y'), (.int .i64 n')] 25)) (w.heap.size + 2) (.int .i64 y') (.int .i64 n') from by simpa using Cell2.alloc ((w.alloc (Obj.cells #[(.int .i64 f)] 23)).alloc (Obj.cells #[(.int .i64 y), (.int .i64 n)] 25)) (.int .i64 y') (.int .i64 n') 25)
      have HB25 := Lib.hid ((((Below.refl w.heap.size w).alloc (Nat.le_refl _) (Obj.cells #[(.int .i64 f)] 23)).alloc (by simp) (Obj.cells #[(.int .i64 y), (.int .i64 n)] 25)).alloc (by simp; omega) (Obj.cells #[(.int .i64 y'), (.int .i64 n')] 25))
      generalize (((w.alloc (Obj.cells #[(.int .i64 f)] 23)).alloc (Obj.cells #[(.int .i64 y), (.int .i64 n)] 25)).alloc (Obj.cells #[(.int .i64 y'), (.int .i64 n')] 25)) = W25 at *
      refine (HR.out _).mono ?_
      rintro e W26 ⟨rfl, hb26⟩
      have HB26 := Lib.hid (HB25.out.trans ((hb26).mono HB25.out.size))
      have P0_26 := Lib.hid (P0_25.out.below (hb26) P0_25.out.lt)
      have P1_26 := Lib.hid (P1_25.out.below (hb26) P1_25.out.lt)
      have P2_26 := Lib.hid (P2_25.out.below (hb26) P2_25.out.lt)
      clear HB25 P0_25 P1_25 P2_25 hb26
      have lP0_26 := P0_26.out.lt
      have cP0_26_0 := P0_26.out.c0
      have lP1_26 := P1_26.out.lt
      have cP1_26_0 := P1_26.out.c0
      have cP1_26_1 := P1_26.out.c1
      have lP2_26 := P2_26.out.lt
      have cP2_26_0 := P2_26.out.c0
      have cP2_26_1 := P2_26.out.c1
      go_wp2_with fail
      clear lP0_26 cP0_26_0 lP1_26 cP1_26_0 cP1_26_1 lP2_26 cP2_26_0 cP2_26_1
      refine (HE.out _).mono ?_
      rintro e W27 ⟨rfl, hb27⟩
      have HB27 := Lib.hid (HB26.out.trans ((hb27).mono HB26.out.size))
      have P0_27 := Lib.hid (P0_26.out.below (hb27) P0_26.out.lt)
      have P1_27 := Lib.hid (P1_26.out.below (hb27) P1_26.out.lt)
      have P2_27 := Lib.hid (P2_26.out.below (hb27) P2_26.out.lt)
      clear HB26 P0_26 P1_26 P2_26 hb27
      have lP0_27 := P0_27.out.lt
      have cP0_27_0 := P0_27.out.c0
      have lP1_27 := P1_27.out.lt
      have cP1_27_0 := P1_27.out.c0
      have cP1_27_1 := P1_27.out.c1
      have lP2_27 := P2_27.out.lt
      have cP2_27_0 := P2_27.out.c0
      have cP2_27_1 := P2_27.out.c1
      go_wp2
      go_ret2
      exact ⟨rfl, HB27.out⟩
  · rw [decide_eq_false hf] at HR
    rw [twoE_cal hf, if_neg (by omega)]
    clear hf
    go_enter Tryd.func25, Tryd.ntmps25
    go_wp2_with fail
    have P0_28 := Lib.hid (show Cell1 (((w.alloc (Obj.cells #[(.int .i64 f)] 23)).alloc (Obj.cells #[(.int .i64 y), (.int .i64 n)] 25)).alloc (Obj.cells #[(.int .i64 y'), (.int .i64 n')] 25)) (w.heap.size) (.int .i64 f) from by have q := Cell1.alloc w (.int .i64 f) 23; exact q.below (N := w.heap.size + 1) (((Below.refl _ _).alloc (by simp <;> omega) (Obj.cells #[(.int .i64 y), (.int .i64 n)] 25)).alloc (by simp <;> omega) (Obj.cells #[(.int .i64 y'), (.int .i64 n')] 25)) (by omega))
    have P1_28 := Lib.hid (show Cell2 (((w.alloc (Obj.cells #[(.int .i64 f)] 23)).alloc (Obj.cells #[(.int .i64 y), (.int .i64 n)] 25)).alloc (Obj.cells #[(.int .i64 y'), (.int .i64 n')] 25)) (w.heap.size + 1) (.int .i64 y) (.int .i64 n) from by have q := Cell2.alloc (w.alloc (Obj.cells #[(.int .i64 f)] 23)) (.int .i64 y) (.int .i64 n) 25; try simp only [World.size_alloc] at q; exact q.below (N := w.heap.size + 1 + 1) ((Below.refl _ _).alloc (by simp <;> omega) (Obj.cells #[(.int .i64 y'), (.int .i64 n')] 25)) (by omega))
    have P2_28 := Lib.hid (show Cell2 (((w.alloc (Obj.cells #[(.int .i64 f)] 23)).alloc (Obj.cells #[(.int .i64 y), (.int .i64 n)] 25)).alloc (Obj.cells #[(.int .i64 y'), (.int .i64 n')] 25)) (w.heap.size + 2) (.int .i64 y') (.int .i64 n') from by simpa using Cell2.alloc ((w.alloc (Obj.cells #[(.int .i64 f)] 23)).alloc (Obj.cells #[(.int .i64 y), (.int .i64 n)] 25)) (.int .i64 y') (.int .i64 n') 25)
    have HB28 := Lib.hid ((((Below.refl w.heap.size w).alloc (Nat.le_refl _) (Obj.cells #[(.int .i64 f)] 23)).alloc (by simp) (Obj.cells #[(.int .i64 y), (.int .i64 n)] 25)).alloc (by simp; omega) (Obj.cells #[(.int .i64 y'), (.int .i64 n')] 25))
    generalize (((w.alloc (Obj.cells #[(.int .i64 f)] 23)).alloc (Obj.cells #[(.int .i64 y), (.int .i64 n)] 25)).alloc (Obj.cells #[(.int .i64 y'), (.int .i64 n')] 25)) = W28 at *
    refine (HR.out _).mono ?_
    rintro e W29 ⟨rfl, hb29⟩
    have HB29 := Lib.hid (HB28.out.trans ((hb29).mono HB28.out.size))
    have P0_29 := Lib.hid (P0_28.out.below (hb29) P0_28.out.lt)
    have P1_29 := Lib.hid (P1_28.out.below (hb29) P1_28.out.lt)
    have P2_29 := Lib.hid (P2_28.out.below (hb29) P2_28.out.lt)
    clear HB28 P0_28 P1_28 P2_28 hb29
    have lP0_29 := P0_29.out.lt
    have cP0_29_0 := P0_29.out.c0
    have lP1_29 := P1_29.out.lt
    have cP1_29_0 := P1_29.out.c0
    have cP1_29_1 := P1_29.out.c1
    have lP2_29 := P2_29.out.lt
    have cP2_29_0 := P2_29.out.c0
    have cP2_29_1 := P2_29.out.c1
    go_wp2
    go_ret2
    exact ⟨rfl, HB29.out⟩
end Go.Proofs.YtaibjmdfkahjjaaDoor
