/- What Next, Prev, Count and Cmp of package fiscal return. -/
import Derived.Test.YtaibjmdfkahjjaaDoorFsB
import Derived.Laws.ResultCell
namespace Go.Proofs.YtaibjmdfkahjjaaDoor
open Go.RowKit Go.Sort
set_option linter.unusedVariables false

theorem ifOk_two (e z z' : Int) : (e = 0 ∧ ifOk e z = z ∧ ifOk e z' = z') ∨ (e ≠ 0 ∧ ifOk e z = 0 ∧ ifOk e z' = 0) := by
  unfold ifOk
  by_cases h : e = 0
  · left; simp [h]
  · right; simp [h]

set_option maxHeartbeats 4000000 in
theorem fNext_a (f y : Int) (w : World) (ht : Tab w) (y1 : -9223372036854775808 ≤ y) (y2 : y < 9223372036854775807) :
    Calls Tryd.prog 20 #[.agg #[.int .i64 f], .agg #[.int .i64 y, .int .i64 13]] w fun x w' => x = .returned (.tuple #[.agg #[.int .i64 (ifOk (twoE f y 13 (y + 1) 1) (y + 1)), .int .i64 (ifOk (twoE f y 13 (y + 1) 1) 1)], .int .i64 (twoE f y 13 (y + 1) 1)]) ∧ Below w.heap.size w w' := by
  have HC := Lib.hid (fun A w ht hA => check2_any f y 13 (y + 1) 1 A w ht hA (by omega) (by omega) (by omega) (by omega))
  have HI := Lib.hid (ifOk_two (twoE f y 13 (y + 1) 1) (y + 1) 1)
  generalize ifOk (twoE f y 13 (y + 1) 1) (y + 1) = ra at *
  generalize ifOk (twoE f y 13 (y + 1) 1) 1 = rb at *
  generalize twoE f y 13 (y + 1) 1 = E at *
  go_enter Tryd.func20, Tryd.ntmps20
  go_wp2_with fail
  have P0_1 := Lib.hid (show Cell1 ((((w.alloc (Obj.cells #[(.int .i64 f)] 23)).alloc (Obj.cells #[(.int .i64 y), (.int .i64 13)] 25)).alloc (Obj.cells #[(.int .i64 (y + 1)), (.int .i64 1)] 25)).alloc (Obj.cells #[(.int .i64 y), (.int .i64 13), (.int .i64 (y + 1)), (.int .i64 1)] 25)) (w.heap.size) (.int .i64 f) from by have q := Cell1.alloc w (.int .i64 f) 23; exact q.below (N := w.heap.size + 1) ((((Below.refl _ _).alloc (by simp <;> omega) (Obj.cells #[(.int .i64 y), (.int .i64 13)] 25)).alloc (by simp <;> omega) (Obj.cells #[(.int .i64 (y + 1)), (.int .i64 1)] 25)).alloc (by simp <;> omega) (Obj.cells #[(.int .i64 y), (.int .i64 13), (.int .i64 (y + 1)), (.int .i64 1)] 25)) (by omega))
  have P1_1 := Lib.hid (show Cell2 ((((w.alloc (Obj.cells #[(.int .i64 f)] 23)).alloc (Obj.cells #[(.int .i64 y), (.int .i64 13)] 25)).alloc (Obj.cells #[(.int .i64 (y + 1)), (.int .i64 1)] 25)).alloc (Obj.cells #[(.int .i64 y), (.int .i64 13), (.int .i64 (y + 1)), (.int .i64 1)] 25)) (w.heap.size + 1) (.int .i64 y) (.int .i64 13) from by have q := Cell2.alloc (w.alloc (Obj.cells #[(.int .i64 f)] 23)) (.int .i64 y) (.int .i64 13) 25; try simp only [World.size_alloc] at q; exact q.below (N := w.heap.size + 1 + 1) (((Below.refl _ _).alloc (by simp <;> omega) (Obj.cells #[(.int .i64 (y + 1)), (.int .i64 1)] 25)).alloc (by simp <;> omega) (Obj.cells #[(.int .i64 y), (.int .i64 13), (.int .i64 (y + 1)), (.int .i64 1)] 25)) (by omega))
  have P2_1 := Lib.hid (show Cell2 ((((w.alloc (Obj.cells #[(.int .i64 f)] 23)).alloc (Obj.cells #[(.int .i64 y), (.int .i64 13)] 25)).alloc (Obj.cells #[(.int .i64 (y + 1)), (.int .i64 1)] 25)).alloc (Obj.cells #[(.int .i64 y), (.int .i64 13), (.int .i64 (y + 1)), (.int .i64 1)] 25)) (w.heap.size + 2) (.int .i64 (y + 1)) (.int .i64 1) from by have q := Cell2.alloc ((w.alloc (Obj.cells #[(.int .i64 f)] 23)).alloc (Obj.cells #[(.int .i64 y), (.int .i64 13)] 25)) (.int .i64 (y + 1)) (.int .i64 1) 25; try simp only [World.size_alloc] at q; exact q.below (N := w.heap.size + 2 + 1) ((Below.refl _ _).alloc (by simp <;> omega) (Obj.cells #[(.int .i64 y), (.int .i64 13), (.int .i64 (y + 1)), (.int .i64 1)] 25)) (by omega))
  have P3_1 := Lib.hid (show Cell4 ((((w.alloc (Obj.cells #[(.int .i64 f)] 23)).alloc (Obj.cells #[(.int .i64 y), (.int .i64 13)] 25)).alloc (Obj.cells #[(.int .i64 (y + 1)), (.int .i64 1)] 25)).alloc (Obj.cells #[(.int .i64 y), (.int .i64 13), (.int .i64 (y + 1)), (.int .i64 1)] 25)) (w.heap.size + 3) (.int .i64 y) (.int .i64 13) (.int .i64 (y + 1)) (.int .i64 1) from by simpa using Cell4.alloc (((w.alloc (Obj.cells #[(.int .i64 f)] 23)).alloc (Obj.cells #[(.int .i64 y), (.int .i64 13)] 25)).alloc (Obj.cells #[(.int .i64 (y + 1)), (.int .i64 1)] 25)) (.int .i64 y) (.int .i64 13) (.int .i64 (y + 1)) (.int .i64 1) 25)
  have HB1 := Lib.hid (((((Below.refl w.heap.size w).alloc (Nat.le_refl _) (Obj.cells #[(.int .i64 f)] 23)).alloc (by simp) (Obj.cells #[(.int .i64 y), (.int .i64 13)] 25)).alloc (by simp; omega) (Obj.cells #[(.int .i64 (y + 1)), (.int .i64 1)] 25)).alloc (by simp; omega) (Obj.cells #[(.int .i64 y), (.int .i64 13), (.int .i64 (y + 1)), (.int .i64 1)] 25))
  generalize ((((w.alloc (Obj.cells #[(.int .i64 f)] 23)).alloc (Obj.cells #[(.int .i64 y), (.int .i64 13)] 25)).alloc (Obj.cells #[(.int .i64 (y + 1)), (.int .i64 1)] 25)).alloc (Obj.cells #[(.int .i64 y), (.int .i64 13), (.int .i64 (y + 1)), (.int .i64 1)] 25)) = W1 at *
  refine (HC.out _ _ (ht.below HB1.out) P3_1.out).mono ?_
  rintro e W2 ⟨rfl, hb2⟩
  have HB2 := Lib.hid (HB1.out.trans ((hb2).mono HB1.out.size))
  have P0_2 := Lib.hid (P0_1.out.below (hb2) P0_1.out.lt)
  have P1_2 := Lib.hid (P1_1.out.below (hb2) P1_1.out.lt)
  have P2_2 := Lib.hid (P2_1.out.below (hb2) P2_1.out.lt)
  have P3_2 := Lib.hid (P3_1.out.below (hb2) P3_1.out.lt)
  clear HB1 P0_1 P1_1 P2_1 P3_1 hb2
  have lP0_2 := P0_2.out.lt
  have cP0_2_0 := P0_2.out.c0
  have lP1_2 := P1_2.out.lt
  have cP1_2_0 := P1_2.out.c0
  have cP1_2_1 := P1_2.out.c1
  have lP2_2 := P2_2.out.lt
  have cP2_2_0 := P2_2.out.c0
  have cP2_2_1 := P2_2.out.c1
  have fP2_2_0 := P2_2.out.f0
  have fP2_2_1 := P2_2.out.f1
  rcases HI.out with ⟨rfl, g1, g2⟩ | ⟨hE, rfl, rfl⟩
  · clear HI
    have g3 := g1.symm
    have g4 := g2.symm
    subst g3
    subst g4
    go_wp2
    refine bodyPost_ret (v := .tuple #[.agg #[(.int .i64 (y + 1)), (.int .i64 1)], .int .i64 0]) ?_ rfl ⟨rfl, ((HB2.out.setCell (p := ⟨w.heap.size + 2, 0, none⟩) (by simp) (.int .i64 (y + 1))).setCell (p := ⟨w.heap.size + 2, 1, none⟩) (by simp) (.int .i64 1))⟩
    have u0 := ((P2_2.out.set0 (.int .i64 (y + 1))).set1 (.int .i64 1)).c0
    have u1 := ((P2_2.out.set0 (.int .i64 (y + 1))).set1 (.int .i64 1)).c1
    rw [results_cell_tmp rfl]
    go_simp
  · clear HI
    have hE2 : (E == 0) = false := by simpa using hE
    clear hE
    go_wp2
    refine bodyPost_ret (v := .tuple #[.agg #[(.int .i64 0), (.int .i64 0)], .int .i64 E]) ?_ rfl ⟨rfl, ((HB2.out.setCell (p := ⟨w.heap.size + 2, 0, none⟩) (by simp) (.int .i64 0)).setCell (p := ⟨w.heap.size + 2, 1, none⟩) (by simp) (.int .i64 0))⟩
    have u0 := ((P2_2.out.set0 (.int .i64 0)).set1 (.int .i64 0)).c0
    have u1 := ((P2_2.out.set0 (.int .i64 0)).set1 (.int .i64 0)).c1
    rw [results_cell_tmp rfl]
    go_simp

set_option maxHeartbeats 4000000 in
theorem fNext_b (f : Int) (w : World) (ht : Tab w)  :
    Calls Tryd.prog 20 #[.agg #[.int .i64 f], .agg #[.int .i64 9223372036854775807, .int .i64 13]] w fun x w' => x = .returned (.tuple #[.agg #[.int .i64 (ifOk (twoE f 9223372036854775807 13 (-9223372036854775808) 1) (-9223372036854775808)), .int .i64 (ifOk (twoE f 9223372036854775807 13 (-9223372036854775808) 1) 1)], .int .i64 (twoE f 9223372036854775807 13 (-9223372036854775808) 1)]) ∧ Below w.heap.size w w' := by
  have HC := Lib.hid (fun A w ht hA => check2_any f 9223372036854775807 13 (-9223372036854775808) 1 A w ht hA (by omega) (by omega) (by omega) (by omega))
  have HI := Lib.hid (ifOk_two (twoE f 9223372036854775807 13 (-9223372036854775808) 1) (-9223372036854775808) 1)
  generalize ifOk (twoE f 9223372036854775807 13 (-9223372036854775808) 1) (-9223372036854775808) = ra at *
  generalize ifOk (twoE f 9223372036854775807 13 (-9223372036854775808) 1) 1 = rb at *
  generalize twoE f 9223372036854775807 13 (-9223372036854775808) 1 = E at *
  go_enter Tryd.func20, Tryd.ntmps20
  go_wp2_with fail
  rw [show wrap64 9223372036854775808 = -9223372036854775808 from by unfold wrap64; omega]
  have P0_3 := Lib.hid (show Cell1 ((((w.alloc (Obj.cells #[(.int .i64 f)] 23)).alloc (Obj.cells #[(.int .i64 9223372036854775807), (.int .i64 13)] 25)).alloc (Obj.cells #[(.int .i64 (-9223372036854775808)), (.int .i64 1)] 25)).alloc (Obj.cells #[(.int .i64 9223372036854775807), (.int .i64 13), (.int .i64 (-9223372036854775808)), (.int .i64 1)] 25)) (w.heap.size) (.int .i64 f) from by have q := Cell1.alloc w (.int .i64 f) 23; exact q.below (N := w.heap.size + 1) ((((Below.refl _ _).alloc (by simp <;> omega) (Obj.cells #[(.int .i64 9223372036854775807), (.int .i64 13)] 25)).alloc (by simp <;> omega) (Obj.cells #[(.int .i64 (-9223372036854775808)), (.int .i64 1)] 25)).alloc (by simp <;> omega) (Obj.cells #[(.int .i64 9223372036854775807), (.int .i64 13), (.int .i64 (-9223372036854775808)), (.int .i64 1)] 25)) (by omega))
  have P1_3 := Lib.hid (show Cell2 ((((w.alloc (Obj.cells #[(.int .i64 f)] 23)).alloc (Obj.cells #[(.int .i64 9223372036854775807), (.int .i64 13)] 25)).alloc (Obj.cells #[(.int .i64 (-9223372036854775808)), (.int .i64 1)] 25)).alloc (Obj.cells #[(.int .i64 9223372036854775807), (.int .i64 13), (.int .i64 (-9223372036854775808)), (.int .i64 1)] 25)) (w.heap.size + 1) (.int .i64 9223372036854775807) (.int .i64 13) from by have q := Cell2.alloc (w.alloc (Obj.cells #[(.int .i64 f)] 23)) (.int .i64 9223372036854775807) (.int .i64 13) 25; try simp only [World.size_alloc] at q; exact q.below (N := w.heap.size + 1 + 1) (((Below.refl _ _).alloc (by simp <;> omega) (Obj.cells #[(.int .i64 (-9223372036854775808)), (.int .i64 1)] 25)).alloc (by simp <;> omega) (Obj.cells #[(.int .i64 9223372036854775807), (.int .i64 13), (.int .i64 (-9223372036854775808)), (.int .i64 1)] 25)) (by omega))
  have P2_3 := Lib.hid (show Cell2 ((((w.alloc (Obj.cells #[(.int .i64 f)] 23)).alloc (Obj.cells #[(.int .i64 9223372036854775807), (.int .i64 13)] 25)).alloc (Obj.cells #[(.int .i64 (-9223372036854775808)), (.int .i64 1)] 25)).alloc (Obj.cells #[(.int .i64 9223372036854775807), (.int .i64 13), (.int .i64 (-9223372036854775808)), (.int .i64 1)] 25)) (w.heap.size + 2) (.int .i64 (-9223372036854775808)) (.int .i64 1) from by have q := Cell2.alloc ((w.alloc (Obj.cells #[(.int .i64 f)] 23)).alloc (Obj.cells #[(.int .i64 9223372036854775807), (.int .i64 13)] 25)) (.int .i64 (-9223372036854775808)) (.int .i64 1) 25; try simp only [World.size_alloc] at q; exact q.below (N := w.heap.size + 2 + 1) ((Below.refl _ _).alloc (by simp <;> omega) (Obj.cells #[(.int .i64 9223372036854775807), (.int .i64 13), (.int .i64 (-9223372036854775808)), (.int .i64 1)] 25)) (by omega))
  have P3_3 := Lib.hid (show Cell4 ((((w.alloc (Obj.cells #[(.int .i64 f)] 23)).alloc (Obj.cells #[(.int .i64 9223372036854775807), (.int .i64 13)] 25)).alloc (Obj.cells #[(.int .i64 (-9223372036854775808)), (.int .i64 1)] 25)).alloc (Obj.cells #[(.int .i64 9223372036854775807), (.int .i64 13), (.int .i64 (-9223372036854775808)), (.int .i64 1)] 25)) (w.heap.size + 3) (.int .i64 9223372036854775807) (.int .i64 13) (.int .i64 (-9223372036854775808)) (.int .i64 1) from by simpa using Cell4.alloc (((w.alloc (Obj.cells #[(.int .i64 f)] 23)).alloc (Obj.cells #[(.int .i64 9223372036854775807), (.int .i64 13)] 25)).alloc (Obj.cells #[(.int .i64 (-9223372036854775808)), (.int .i64 1)] 25)) (.int .i64 9223372036854775807) (.int .i64 13) (.int .i64 (-9223372036854775808)) (.int .i64 1) 25)
  have HB3 := Lib.hid (((((Below.refl w.heap.size w).alloc (Nat.le_refl _) (Obj.cells #[(.int .i64 f)] 23)).alloc (by simp) (Obj.cells #[(.int .i64 9223372036854775807), (.int .i64 13)] 25)).alloc (by simp; omega) (Obj.cells #[(.int .i64 (-9223372036854775808)), (.int .i64 1)] 25)).alloc (by simp; omega) (Obj.cells #[(.int .i64 9223372036854775807), (.int .i64 13), (.int .i64 (-9223372036854775808)), (.int .i64 1)] 25))
  generalize ((((w.alloc (Obj.cells #[(.int .i64 f)] 23)).alloc (Obj.cells #[(.int .i64 9223372036854775807), (.int .i64 13)] 25)).alloc (Obj.cells #[(.int .i64 (-9223372036854775808)), (.int .i64 1)] 25)).alloc (Obj.cells #[(.int .i64 9223372036854775807), (.int .i64 13), (.int .i64 (-9223372036854775808)), (.int .i64 1)] 25)) = W3 at *
  refine (HC.out _ _ (ht.below HB3.out) P3_3.out).mono ?_
  rintro e W4 ⟨rfl, hb4⟩
  have HB4 := Lib.hid (HB3.out.trans ((hb4).mono HB3.out.size))
  have P0_4 := Lib.hid (P0_3.out.below (hb4) P0_3.out.lt)
  have P1_4 := Lib.hid (P1_3.out.below (hb4) P1_3.out.lt)
  have P2_4 := Lib.hid (P2_3.out.below (hb4) P2_3.out.lt)
  have P3_4 := Lib.hid (P3_3.out.below (hb4) P3_3.out.lt)
  clear HB3 P0_3 P1_3 P2_3 P3_3 hb4
  have lP0_4 := P0_4.out.lt
  have cP0_4_0 := P0_4.out.c0
  have lP1_4 := P1_4.out.lt
  have cP1_4_0 := P1_4.out.c0
  have cP1_4_1 := P1_4.out.c1
  have lP2_4 := P2_4.out.lt
  have cP2_4_0 := P2_4.out.c0
  have cP2_4_1 := P2_4.out.c1
  have fP2_4_0 := P2_4.out.f0
  have fP2_4_1 := P2_4.out.f1
  rcases HI.out with ⟨rfl, g1, g2⟩ | ⟨hE, rfl, rfl⟩
  · clear HI
    have g3 := g1.symm
    have g4 := g2.symm
    subst g3
    subst g4
    go_wp2
    refine bodyPost_ret (v := .tuple #[.agg #[(.int .i64 (-9223372036854775808)), (.int .i64 1)], .int .i64 0]) ?_ rfl ⟨rfl, ((HB4.out.setCell (p := ⟨w.heap.size + 2, 0, none⟩) (by simp) (.int .i64 (-9223372036854775808))).setCell (p := ⟨w.heap.size + 2, 1, none⟩) (by simp) (.int .i64 1))⟩
    have u0 := ((P2_4.out.set0 (.int .i64 (-9223372036854775808))).set1 (.int .i64 1)).c0
    have u1 := ((P2_4.out.set0 (.int .i64 (-9223372036854775808))).set1 (.int .i64 1)).c1
    rw [results_cell_tmp rfl]
    go_simp
  · clear HI
    have hE2 : (E == 0) = false := by simpa using hE
    clear hE
    go_wp2
    refine bodyPost_ret (v := .tuple #[.agg #[(.int .i64 0), (.int .i64 0)], .int .i64 E]) ?_ rfl ⟨rfl, ((HB4.out.setCell (p := ⟨w.heap.size + 2, 0, none⟩) (by simp) (.int .i64 0)).setCell (p := ⟨w.heap.size + 2, 1, none⟩) (by simp) (.int .i64 0))⟩
    have u0 := ((P2_4.out.set0 (.int .i64 0)).set1 (.int .i64 0)).c0
    have u1 := ((P2_4.out.set0 (.int .i64 0)).set1 (.int .i64 0)).c1
    rw [results_cell_tmp rfl]
    go_simp

set_option maxHeartbeats 4000000 in
theorem fNext_c (f y n : Int) (w : World) (ht : Tab w) (hn : (n == 13) = false) (n1 : -9223372036854775808 ≤ n) (n2 : n < 9223372036854775807) (y1 : -9223372036854775808 ≤ y) (y2 : y ≤ 9223372036854775807) :
    Calls Tryd.prog 20 #[.agg #[.int .i64 f], .agg #[.int .i64 y, .int .i64 n]] w fun x w' => x = .returned (.tuple #[.agg #[.int .i64 (ifOk (twoE f y n y (n + 1)) y), .int .i64 (ifOk (twoE f y n y (n + 1)) (n + 1))], .int .i64 (twoE f y n y (n + 1))]) ∧ Below w.heap.size w w' := by
  have HC := Lib.hid (fun A w ht hA => check2_any f y n y (n + 1) A w ht hA (by omega) (by omega) (by omega) (by omega))
  have HI := Lib.hid (ifOk_two (twoE f y n y (n + 1)) y (n + 1))
  generalize ifOk (twoE f y n y (n + 1)) y = ra at *
  generalize ifOk (twoE f y n y (n + 1)) (n + 1) = rb at *
  generalize twoE f y n y (n + 1) = E at *
  go_enter Tryd.func20, Tryd.ntmps20
  go_wp2_with fail
  have P0_5 := Lib.hid (show Cell1 ((((w.alloc (Obj.cells #[(.int .i64 f)] 23)).alloc (Obj.cells #[(.int .i64 y), (.int .i64 n)] 25)).alloc (Obj.cells #[(.int .i64 y), (.int .i64 (n + 1))] 25)).alloc (Obj.cells #[(.int .i64 y), (.int .i64 n), (.int .i64 y), (.int .i64 (n + 1))] 25)) (w.heap.size) (.int .i64 f) from by have q := Cell1.alloc w (.int .i64 f) 23; exact q.below (N := w.heap.size + 1) ((((Below.refl _ _).alloc (by simp <;> omega) (Obj.cells #[(.int .i64 y), (.int .i64 n)] 25)).alloc (by simp <;> omega) (Obj.cells #[(.int .i64 y), (.int .i64 (n + 1))] 25)).alloc (by simp <;> omega) (Obj.cells #[(.int .i64 y), (.int .i64 n), (.int .i64 y), (.int .i64 (n + 1))] 25)) (by omega))
  have P1_5 := Lib.hid (show Cell2 ((((w.alloc (Obj.cells #[(.int .i64 f)] 23)).alloc (Obj.cells #[(.int .i64 y), (.int .i64 n)] 25)).alloc (Obj.cells #[(.int .i64 y), (.int .i64 (n + 1))] 25)).alloc (Obj.cells #[(.int .i64 y), (.int .i64 n), (.int .i64 y), (.int .i64 (n + 1))] 25)) (w.heap.size + 1) (.int .i64 y) (.int .i64 n) from by have q := Cell2.alloc (w.alloc (Obj.cells #[(.int .i64 f)] 23)) (.int .i64 y) (.int .i64 n) 25; try simp only [World.size_alloc] at q; exact q.below (N := w.heap.size + 1 + 1) (((Below.refl _ _).alloc (by simp <;> omega) (Obj.cells #[(.int .i64 y), (.int .i64 (n + 1))] 25)).alloc (by simp <;> omega) (Obj.cells #[(.int .i64 y), (.int .i64 n), (.int .i64 y), (.int .i64 (n + 1))] 25)) (by omega))
  have P2_5 := Lib.hid (show Cell2 ((((w.alloc (Obj.cells #[(.int .i64 f)] 23)).alloc (Obj.cells #[(.int .i64 y), (.int .i64 n)] 25)).alloc (Obj.cells #[(.int .i64 y), (.int .i64 (n + 1))] 25)).alloc (Obj.cells #[(.int .i64 y), (.int .i64 n), (.int .i64 y), (.int .i64 (n + 1))] 25)) (w.heap.size + 2) (.int .i64 y) (.int .i64 (n + 1)) from by have q := Cell2.alloc ((w.alloc (Obj.cells #[(.int .i64 f)] 23)).alloc (Obj.cells #[(.int .i64 y), (.int .i64 n)] 25)) (.int .i64 y) (.int .i64 (n + 1)) 25; try simp only [World.size_alloc] at q; exact q.below (N := w.heap.size + 2 + 1) ((Below.refl _ _).alloc (by simp <;> omega) (Obj.cells #[(.int .i64 y), (.int .i64 n), (.int .i64 y), (.int .i64 (n + 1))] 25)) (by omega))
  have P3_5 := Lib.hid (show Cell4 ((((w.alloc (Obj.cells #[(.int .i64 f)] 23)).alloc (Obj.cells #[(.int .i64 y), (.int .i64 n)] 25)).alloc (Obj.cells #[(.int .i64 y), (.int .i64 (n + 1))] 25)).alloc (Obj.cells #[(.int .i64 y), (.int .i64 n), (.int .i64 y), (.int .i64 (n + 1))] 25)) (w.heap.size + 3) (.int .i64 y) (.int .i64 n) (.int .i64 y) (.int .i64 (n + 1)) from by simpa using Cell4.alloc (((w.alloc (Obj.cells #[(.int .i64 f)] 23)).alloc (Obj.cells #[(.int .i64 y), (.int .i64 n)] 25)).alloc (Obj.cells #[(.int .i64 y), (.int .i64 (n + 1))] 25)) (.int .i64 y) (.int .i64 n) (.int .i64 y) (.int .i64 (n + 1)) 25)
  have HB5 := Lib.hid (((((Below.refl w.heap.size w).alloc (Nat.le_refl _) (Obj.cells #[(.int .i64 f)] 23)).alloc (by simp) (Obj.cells #[(.int .i64 y), (.int .i64 n)] 25)).alloc (by simp; omega) (Obj.cells #[(.int .i64 y), (.int .i64 (n + 1))] 25)).alloc (by simp; omega) (Obj.cells #[(.int .i64 y), (.int .i64 n), (.int .i64 y), (.int .i64 (n + 1))] 25))
  generalize ((((w.alloc (Obj.cells #[(.int .i64 f)] 23)).alloc (Obj.cells #[(.int .i64 y), (.int .i64 n)] 25)).alloc (Obj.cells #[(.int .i64 y), (.int .i64 (n + 1))] 25)).alloc (Obj.cells #[(.int .i64 y), (.int .i64 n), (.int .i64 y), (.int .i64 (n + 1))] 25)) = W5 at *
  refine (HC.out _ _ (ht.below HB5.out) P3_5.out).mono ?_
  rintro e W6 ⟨rfl, hb6⟩
  have HB6 := Lib.hid (HB5.out.trans ((hb6).mono HB5.out.size))
  have P0_6 := Lib.hid (P0_5.out.below (hb6) P0_5.out.lt)
  have P1_6 := Lib.hid (P1_5.out.below (hb6) P1_5.out.lt)
  have P2_6 := Lib.hid (P2_5.out.below (hb6) P2_5.out.lt)
  have P3_6 := Lib.hid (P3_5.out.below (hb6) P3_5.out.lt)
  clear HB5 P0_5 P1_5 P2_5 P3_5 hb6
  have lP0_6 := P0_6.out.lt
  have cP0_6_0 := P0_6.out.c0
  have lP1_6 := P1_6.out.lt
  have cP1_6_0 := P1_6.out.c0
  have cP1_6_1 := P1_6.out.c1
  have lP2_6 := P2_6.out.lt
  have cP2_6_0 := P2_6.out.c0
  have cP2_6_1 := P2_6.out.c1
  have fP2_6_0 := P2_6.out.f0
  have fP2_6_1 := P2_6.out.f1
  rcases HI.out with ⟨rfl, g1, g2⟩ | ⟨hE, rfl, rfl⟩
  · clear HI
    have g3 := g1.symm
    have g4 := g2.symm
    subst g3
    subst g4
    go_wp2
    refine bodyPost_ret (v := .tuple #[.agg #[(.int .i64 y), (.int .i64 (n + 1))], .int .i64 0]) ?_ rfl ⟨rfl, ((HB6.out.setCell (p := ⟨w.heap.size + 2, 0, none⟩) (by simp) (.int .i64 y)).setCell (p := ⟨w.heap.size + 2, 1, none⟩) (by simp) (.int .i64 (n + 1)))⟩
    have u0 := ((P2_6.out.set0 (.int .i64 y)).set1 (.int .i64 (n + 1))).c0
    have u1 := ((P2_6.out.set0 (.int .i64 y)).set1 (.int .i64 (n + 1))).c1
    rw [results_cell_tmp rfl]
    go_simp
  · clear HI
    have hE2 : (E == 0) = false := by simpa using hE
    clear hE
    go_wp2
    refine bodyPost_ret (v := .tuple #[.agg #[(.int .i64 0), (.int .i64 0)], .int .i64 E]) ?_ rfl ⟨rfl, ((HB6.out.setCell (p := ⟨w.heap.size + 2, 0, none⟩) (by simp) (.int .i64 0)).setCell (p := ⟨w.heap.size + 2, 1, none⟩) (by simp) (.int .i64 0))⟩
    have u0 := ((P2_6.out.set0 (.int .i64 0)).set1 (.int .i64 0)).c0
    have u1 := ((P2_6.out.set0 (.int .i64 0)).set1 (.int .i64 0)).c1
    rw [results_cell_tmp rfl]
    go_simp

set_option maxHeartbeats 4000000 in
theorem fNext_d (f y : Int) (w : World) (ht : Tab w) (y1 : -9223372036854775808 ≤ y) (y2 : y ≤ 9223372036854775807) :
    Calls Tryd.prog 20 #[.agg #[.int .i64 f], .agg #[.int .i64 y, .int .i64 9223372036854775807]] w fun x w' => x = .returned (.tuple #[.agg #[.int .i64 (ifOk (twoE f y 9223372036854775807 y (-9223372036854775808)) y), .int .i64 (ifOk (twoE f y 9223372036854775807 y (-9223372036854775808)) (-9223372036854775808))], .int .i64 (twoE f y 9223372036854775807 y (-9223372036854775808))]) ∧ Below w.heap.size w w' := by
  have HC := Lib.hid (fun A w ht hA => check2_any f y 9223372036854775807 y (-9223372036854775808) A w ht hA (by omega) (by omega) (by omega) (by omega))
  have HI := Lib.hid (ifOk_two (twoE f y 9223372036854775807 y (-9223372036854775808)) y (-9223372036854775808))
  generalize ifOk (twoE f y 9223372036854775807 y (-9223372036854775808)) y = ra at *
  generalize ifOk (twoE f y 9223372036854775807 y (-9223372036854775808)) (-9223372036854775808) = rb at *
  generalize twoE f y 9223372036854775807 y (-9223372036854775808) = E at *
  go_enter Tryd.func20, Tryd.ntmps20
  go_wp2_with fail
  rw [show wrap64 9223372036854775808 = -9223372036854775808 from by unfold wrap64; omega]
  have P0_7 := Lib.hid (show Cell1 ((((w.alloc (Obj.cells #[(.int .i64 f)] 23)).alloc (Obj.cells #[(.int .i64 y), (.int .i64 9223372036854775807)] 25)).alloc (Obj.cells #[(.int .i64 y), (.int .i64 (-9223372036854775808))] 25)).alloc (Obj.cells #[(.int .i64 y), (.int .i64 9223372036854775807), (.int .i64 y), (.int .i64 (-9223372036854775808))] 25)) (w.heap.size) (.int .i64 f) from by have q := Cell1.alloc w (.int .i64 f) 23; exact q.below (N := w.heap.size + 1) ((((Below.refl _ _).alloc (by simp <;> omega) (Obj.cells #[(.int .i64 y), (.int .i64 9223372036854775807)] 25)).alloc (by simp <;> omega) (Obj.cells #[(.int .i64 y), (.int .i64 (-9223372036854775808))] 25)).alloc (by simp <;> omega) (Obj.cells #[(.int .i64 y), (.int .i64 9223372036854775807), (.int .i64 y), (.int .i64 (-9223372036854775808))] 25)) (by omega))
  have P1_7 := Lib.hid (show Cell2 ((((w.alloc (Obj.cells #[(.int .i64 f)] 23)).alloc (Obj.cells #[(.int .i64 y), (.int .i64 9223372036854775807)] 25)).alloc (Obj.cells #[(.int .i64 y), (.int .i64 (-9223372036854775808))] 25)).alloc (Obj.cells #[(.int .i64 y), (.int .i64 9223372036854775807), (.int .i64 y), (.int .i64 (-9223372036854775808))] 25)) (w.heap.size + 1) (.int .i64 y) (.int .i64 9223372036854775807) from by have q := Cell2.alloc (w.alloc (Obj.cells #[(.int .i64 f)] 23)) (.int .i64 y) (.int .i64 9223372036854775807) 25; try simp only [World.size_alloc] at q; exact q.below (N := w.heap.size + 1 + 1) (((Below.refl _ _).alloc (by simp <;> omega) (Obj.cells #[(.int .i64 y), (.int .i64 (-9223372036854775808))] 25)).alloc (by simp <;> omega) (Obj.cells #[(.int .i64 y), (.int .i64 9223372036854775807), (.int .i64 y), (.int .i64 (-9223372036854775808))] 25)) (by omega))
  have P2_7 := Lib.hid (show Cell2 ((((w.alloc (Obj.cells #[(.int .i64 f)] 23)).alloc (Obj.cells #[(.int .i64 y), (.int .i64 9223372036854775807)] 25)).alloc (Obj.cells #[(.int .i64 y), (.int .i64 (-9223372036854775808))] 25)).alloc (Obj.cells #[(.int .i64 y), (.int .i64 9223372036854775807), (.int .i64 y), (.int .i64 (-9223372036854775808))] 25)) (w.heap.size + 2) (.int .i64 y) (.int .i64 (-9223372036854775808)) from by have q := Cell2.alloc ((w.alloc (Obj.cells #[(.int .i64 f)] 23)).alloc (Obj.cells #[(.int .i64 y), (.int .i64 9223372036854775807)] 25)) (.int .i64 y) (.int .i64 (-9223372036854775808)) 25; try simp only [World.size_alloc] at q; exact q.below (N := w.heap.size + 2 + 1) ((Below.refl _ _).alloc (by simp <;> omega) (Obj.cells #[(.int .i64 y), (.int .i64 9223372036854775807), (.int .i64 y), (.int .i64 (-9223372036854775808))] 25)) (by omega))
  have P3_7 := Lib.hid (show Cell4 ((((w.alloc (Obj.cells #[(.int .i64 f)] 23)).alloc (Obj.cells #[(.int .i64 y), (.int .i64 9223372036854775807)] 25)).alloc (Obj.cells #[(.int .i64 y), (.int .i64 (-9223372036854775808))] 25)).alloc (Obj.cells #[(.int .i64 y), (.int .i64 9223372036854775807), (.int .i64 y), (.int .i64 (-9223372036854775808))] 25)) (w.heap.size + 3) (.int .i64 y) (.int .i64 9223372036854775807) (.int .i64 y) (.int .i64 (-9223372036854775808)) from by simpa using Cell4.alloc (((w.alloc (Obj.cells #[(.int .i64 f)] 23)).alloc (Obj.cells #[(.int .i64 y), (.int .i64 9223372036854775807)] 25)).alloc (Obj.cells #[(.int .i64 y), (.int .i64 (-9223372036854775808))] 25)) (.int .i64 y) (.int .i64 9223372036854775807) (.int .i64 y) (.int .i64 (-9223372036854775808)) 25)
  have HB7 := Lib.hid (((((Below.refl w.heap.size w).alloc (Nat.le_refl _) (Obj.cells #[(.int .i64 f)] 23)).alloc (by simp) (Obj.cells #[(.int .i64 y), (.int .i64 9223372036854775807)] 25)).alloc (by simp; omega) (Obj.cells #[(.int .i64 y), (.int .i64 (-9223372036854775808))] 25)).alloc (by simp; omega) (Obj.cells #[(.int .i64 y), (.int .i64 9223372036854775807), (.int .i64 y), (.int .i64 (-9223372036854775808))] 25))
  generalize ((((w.alloc (Obj.cells #[(.int .i64 f)] 23)).alloc (Obj.cells #[(.int .i64 y), (.int .i64 9223372036854775807)] 25)).alloc (Obj.cells #[(.int .i64 y), (.int .i64 (-9223372036854775808))] 25)).alloc (Obj.cells #[(.int .i64 y), (.int .i64 9223372036854775807), (.int .i64 y), (.int .i64 (-9223372036854775808))] 25)) = W7 at *
  refine (HC.out _ _ (ht.below HB7.out) P3_7.out).mono ?_
  rintro e W8 ⟨rfl, hb8⟩
  have HB8 := Lib.hid (HB7.out.trans ((hb8).mono HB7.out.size))
  have P0_8 := Lib.hid (P0_7.out.below (hb8) P0_7.out.lt)
  have P1_8 := Lib.hid (P1_7.out.below (hb8) P1_7.out.lt)
  have P2_8 := Lib.hid (P2_7.out.below (hb8) P2_7.out.lt)
  have P3_8 := Lib.hid (P3_7.out.below (hb8) P3_7.out.lt)
  clear HB7 P0_7 P1_7 P2_7 P3_7 hb8
  have lP0_8 := P0_8.out.lt
  have cP0_8_0 := P0_8.out.c0
  have lP1_8 := P1_8.out.lt
  have cP1_8_0 := P1_8.out.c0
  have cP1_8_1 := P1_8.out.c1
  have lP2_8 := P2_8.out.lt
  have cP2_8_0 := P2_8.out.c0
  have cP2_8_1 := P2_8.out.c1
  have fP2_8_0 := P2_8.out.f0
  have fP2_8_1 := P2_8.out.f1
  rcases HI.out with ⟨rfl, g1, g2⟩ | ⟨hE, rfl, rfl⟩
  · clear HI
    have g3 := g1.symm
    have g4 := g2.symm
    subst g3
    subst g4
    go_wp2
    refine bodyPost_ret (v := .tuple #[.agg #[(.int .i64 y), (.int .i64 (-9223372036854775808))], .int .i64 0]) ?_ rfl ⟨rfl, ((HB8.out.setCell (p := ⟨w.heap.size + 2, 0, none⟩) (by simp) (.int .i64 y)).setCell (p := ⟨w.heap.size + 2, 1, none⟩) (by simp) (.int .i64 (-9223372036854775808)))⟩
    have u0 := ((P2_8.out.set0 (.int .i64 y)).set1 (.int .i64 (-9223372036854775808))).c0
    have u1 := ((P2_8.out.set0 (.int .i64 y)).set1 (.int .i64 (-9223372036854775808))).c1
    rw [results_cell_tmp rfl]
    go_simp
  · clear HI
    have hE2 : (E == 0) = false := by simpa using hE
    clear hE
    go_wp2
    refine bodyPost_ret (v := .tuple #[.agg #[(.int .i64 0), (.int .i64 0)], .int .i64 E]) ?_ rfl ⟨rfl, ((HB8.out.setCell (p := ⟨w.heap.size + 2, 0, none⟩) (by simp) (.int .i64 0)).setCell (p := ⟨w.heap.size + 2, 1, none⟩) (by simp) (.int .i64 0))⟩
    have u0 := ((P2_8.out.set0 (.int .i64 0)).set1 (.int .i64 0)).c0
    have u1 := ((P2_8.out.set0 (.int .i64 0)).set1 (.int .i64 0)).c1
    rw [results_cell_tmp rfl]
    go_simp

set_option maxHeartbeats 4000000 in
theorem fPrev_a (f y : Int) (w : World) (ht : Tab w) (y1 : -9223372036854775808 < y) (y2 : y ≤ 9223372036854775807) :
    Calls Tryd.prog 22 #[.agg #[.int .i64 f], .agg #[.int .i64 y, .int .i64 1]] w fun x w' => x = .returned (.tuple #[.agg #[.int .i64 (ifOk (twoE f y 1 (y - 1) 13) (y - 1)), .int .i64 (ifOk (twoE f y 1 (y - 1) 13) 13)], .int .i64 (twoE f y 1 (y - 1) 13)]) ∧ Below w.heap.size w w' := by
  have HC := Lib.hid (fun A w ht hA => check2_any f y 1 (y - 1) 13 A w ht hA (by omega) (by omega) (by omega) (by omega))
  have HI := Lib.hid (ifOk_two (twoE f y 1 (y - 1) 13) (y - 1) 13)
  generalize ifOk (twoE f y 1 (y - 1) 13) (y - 1) = ra at *
  generalize ifOk (twoE f y 1 (y - 1) 13) 13 = rb at *
  generalize twoE f y 1 (y - 1) 13 = E at *
  go_enter Tryd.func22, Tryd.ntmps22
  go_wp2_with fail
  have P0_9 := Lib.hid (show Cell1 ((((w.alloc (Obj.cells #[(.int .i64 f)] 23)).alloc (Obj.cells #[(.int .i64 y), (.int .i64 1)] 25)).alloc (Obj.cells #[(.int .i64 (y - 1)), (.int .i64 13)] 25)).alloc (Obj.cells #[(.int .i64 y), (.int .i64 1), (.int .i64 (y - 1)), (.int .i64 13)] 25)) (w.heap.size) (.int .i64 f) from by have q := Cell1.alloc w (.int .i64 f) 23; exact q.below (N := w.heap.size + 1) ((((Below.refl _ _).alloc (by simp <;> omega) (Obj.cells #[(.int .i64 y), (.int .i64 1)] 25)).alloc (by simp <;> omega) (Obj.cells #[(.int .i64 (y - 1)), (.int .i64 13)] 25)).alloc (by simp <;> omega) (Obj.cells #[(.int .i64 y), (.int .i64 1), (.int .i64 (y - 1)), (.int .i64 13)] 25)) (by omega))
  have P1_9 := Lib.hid (show Cell2 ((((w.alloc (Obj.cells #[(.int .i64 f)] 23)).alloc (Obj.cells #[(.int .i64 y), (.int .i64 1)] 25)).alloc (Obj.cells #[(.int .i64 (y - 1)), (.int .i64 13)] 25)).alloc (Obj.cells #[(.int .i64 y), (.int .i64 1), (.int .i64 (y - 1)), (.int .i64 13)] 25)) (w.heap.size + 1) (.int .i64 y) (.int .i64 1) from by have q := Cell2.alloc (w.alloc (Obj.cells #[(.int .i64 f)] 23)) (.int .i64 y) (.int .i64 1) 25; try simp only [World.size_alloc] at q; exact q.below (N := w.heap.size + 1 + 1) (((Below.refl _ _).alloc (by simp <;> omega) (Obj.cells #[(.int .i64 (y - 1)), (.int .i64 13)] 25)).alloc (by simp <;> omega) (Obj.cells #[(.int .i64 y), (.int .i64 1), (.int .i64 (y - 1)), (.int .i64 13)] 25)) (by omega))
  have P2_9 := Lib.hid (show Cell2 ((((w.alloc (Obj.cells #[(.int .i64 f)] 23)).alloc (Obj.cells #[(.int .i64 y), (.int .i64 1)] 25)).alloc (Obj.cells #[(.int .i64 (y - 1)), (.int .i64 13)] 25)).alloc (Obj.cells #[(.int .i64 y), (.int .i64 1), (.int .i64 (y - 1)), (.int .i64 13)] 25)) (w.heap.size + 2) (.int .i64 (y - 1)) (.int .i64 13) from by have q := Cell2.alloc ((w.alloc (Obj.cells #[(.int .i64 f)] 23)).alloc (Obj.cells #[(.int .i64 y), (.int .i64 1)] 25)) (.int .i64 (y - 1)) (.int .i64 13) 25; try simp only [World.size_alloc] at q; exact q.below (N := w.heap.size + 2 + 1) ((Below.refl _ _).alloc (by simp <;> omega) (Obj.cells #[(.int .i64 y), (.int .i64 1), (.int .i64 (y - 1)), (.int .i64 13)] 25)) (by omega))
  have P3_9 := Lib.hid (show Cell4 ((((w.alloc (Obj.cells #[(.int .i64 f)] 23)).alloc (Obj.cells #[(.int .i64 y), (.int .i64 1)] 25)).alloc (Obj.cells #[(.int .i64 (y - 1)), (.int .i64 13)] 25)).alloc (Obj.cells #[(.int .i64 y), (.int .i64 1), (.int .i64 (y - 1)), (.int .i64 13)] 25)) (w.heap.size + 3) (.int .i64 y) (.int .i64 1) (.int .i64 (y - 1)) (.int .i64 13) from by simpa using Cell4.alloc (((w.alloc (Obj.cells #[(.int .i64 f)] 23)).alloc (Obj.cells #[(.int .i64 y), (.int .i64 1)] 25)).alloc (Obj.cells #[(.int .i64 (y - 1)), (.int .i64 13)] 25)) (.int .i64 y) (.int .i64 1) (.int .i64 (y - 1)) (.int .i64 13) 25)
  have HB9 := Lib.hid (((((Below.refl w.heap.size w).alloc (Nat.le_refl _) (Obj.cells #[(.int .i64 f)] 23)).alloc (by simp) (Obj.cells #[(.int .i64 y), (.int .i64 1)] 25)).alloc (by simp; omega) (Obj.cells #[(.int .i64 (y - 1)), (.int .i64 13)] 25)).alloc (by simp; omega) (Obj.cells #[(.int .i64 y), (.int .i64 1), (.int .i64 (y - 1)), (.int .i64 13)] 25))
  generalize ((((w.alloc (Obj.cells #[(.int .i64 f)] 23)).alloc (Obj.cells #[(.int .i64 y), (.int .i64 1)] 25)).alloc (Obj.cells #[(.int .i64 (y - 1)), (.int .i64 13)] 25)).alloc (Obj.cells #[(.int .i64 y), (.int .i64 1), (.int .i64 (y - 1)), (.int .i64 13)] 25)) = W9 at *
  refine (HC.out _ _ (ht.below HB9.out) P3_9.out).mono ?_
  rintro e W10 ⟨rfl, hb10⟩
  have HB10 := Lib.hid (HB9.out.trans ((hb10).mono HB9.out.size))
  have P0_10 := Lib.hid (P0_9.out.below (hb10) P0_9.out.lt)
  have P1_10 := Lib.hid (P1_9.out.below (hb10) P1_9.out.lt)
  have P2_10 := Lib.hid (P2_9.out.below (hb10) P2_9.out.lt)
  have P3_10 := Lib.hid (P3_9.out.below (hb10) P3_9.out.lt)
  clear HB9 P0_9 P1_9 P2_9 P3_9 hb10
  have lP0_10 := P0_10.out.lt
  have cP0_10_0 := P0_10.out.c0
  have lP1_10 := P1_10.out.lt
  have cP1_10_0 := P1_10.out.c0
  have cP1_10_1 := P1_10.out.c1
  have lP2_10 := P2_10.out.lt
  have cP2_10_0 := P2_10.out.c0
  have cP2_10_1 := P2_10.out.c1
  have fP2_10_0 := P2_10.out.f0
  have fP2_10_1 := P2_10.out.f1
  rcases HI.out with ⟨rfl, g1, g2⟩ | ⟨hE, rfl, rfl⟩
  · clear HI
    have g3 := g1.symm
    have g4 := g2.symm
    subst g3
    subst g4
    go_wp2
    refine bodyPost_ret (v := .tuple #[.agg #[(.int .i64 (y - 1)), (.int .i64 13)], .int .i64 0]) ?_ rfl ⟨rfl, ((HB10.out.setCell (p := ⟨w.heap.size + 2, 0, none⟩) (by simp) (.int .i64 (y - 1))).setCell (p := ⟨w.heap.size + 2, 1, none⟩) (by simp) (.int .i64 13))⟩
    have u0 := ((P2_10.out.set0 (.int .i64 (y - 1))).set1 (.int .i64 13)).c0
    have u1 := ((P2_10.out.set0 (.int .i64 (y - 1))).set1 (.int .i64 13)).c1
    rw [results_cell_tmp rfl]
    go_simp
  · clear HI
    have hE2 : (E == 0) = false := by simpa using hE
    clear hE
    go_wp2
    refine bodyPost_ret (v := .tuple #[.agg #[(.int .i64 0), (.int .i64 0)], .int .i64 E]) ?_ rfl ⟨rfl, ((HB10.out.setCell (p := ⟨w.heap.size + 2, 0, none⟩) (by simp) (.int .i64 0)).setCell (p := ⟨w.heap.size + 2, 1, none⟩) (by simp) (.int .i64 0))⟩
    have u0 := ((P2_10.out.set0 (.int .i64 0)).set1 (.int .i64 0)).c0
    have u1 := ((P2_10.out.set0 (.int .i64 0)).set1 (.int .i64 0)).c1
    rw [results_cell_tmp rfl]
    go_simp

set_option maxHeartbeats 4000000 in
theorem fPrev_b (f : Int) (w : World) (ht : Tab w)  :
    Calls Tryd.prog 22 #[.agg #[.int .i64 f], .agg #[.int .i64 (-9223372036854775808), .int .i64 1]] w fun x w' => x = .returned (.tuple #[.agg #[.int .i64 (ifOk (twoE f (-9223372036854775808) 1 9223372036854775807 13) 9223372036854775807), .int .i64 (ifOk (twoE f (-9223372036854775808) 1 9223372036854775807 13) 13)], .int .i64 (twoE f (-9223372036854775808) 1 9223372036854775807 13)]) ∧ Below w.heap.size w w' := by
  have HC := Lib.hid (fun A w ht hA => check2_any f (-9223372036854775808) 1 9223372036854775807 13 A w ht hA (by omega) (by omega) (by omega) (by omega))
  have HI := Lib.hid (ifOk_two (twoE f (-9223372036854775808) 1 9223372036854775807 13) 9223372036854775807 13)
  generalize ifOk (twoE f (-9223372036854775808) 1 9223372036854775807 13) 9223372036854775807 = ra at *
  generalize ifOk (twoE f (-9223372036854775808) 1 9223372036854775807 13) 13 = rb at *
  generalize twoE f (-9223372036854775808) 1 9223372036854775807 13 = E at *
  go_enter Tryd.func22, Tryd.ntmps22
  go_wp2_with fail
  rw [show wrap64 (-9223372036854775809) = 9223372036854775807 from by unfold wrap64; omega]
  have P0_11 := Lib.hid (show Cell1 ((((w.alloc (Obj.cells #[(.int .i64 f)] 23)).alloc (Obj.cells #[(.int .i64 (-9223372036854775808)), (.int .i64 1)] 25)).alloc (Obj.cells #[(.int .i64 9223372036854775807), (.int .i64 13)] 25)).alloc (Obj.cells #[(.int .i64 (-9223372036854775808)), (.int .i64 1), (.int .i64 9223372036854775807), (.int .i64 13)] 25)) (w.heap.size) (.int .i64 f) from by have q := Cell1.alloc w (.int .i64 f) 23; exact q.below (N := w.heap.size + 1) ((((Below.refl _ _).alloc (by simp <;> omega) (Obj.cells #[(.int .i64 (-9223372036854775808)), (.int .i64 1)] 25)).alloc (by simp <;> omega) (Obj.cells #[(.int .i64 9223372036854775807), (.int .i64 13)] 25)).alloc (by simp <;> omega) (Obj.cells #[(.int .i64 (-9223372036854775808)), (.int .i64 1), (.int .i64 9223372036854775807), (.int .i64 13)] 25)) (by omega))
  have P1_11 := Lib.hid (show Cell2 ((((w.alloc (Obj.cells #[(.int .i64 f)] 23)).alloc (Obj.cells #[(.int .i64 (-9223372036854775808)), (.int .i64 1)] 25)).alloc (Obj.cells #[(.int .i64 9223372036854775807), (.int .i64 13)] 25)).alloc (Obj.cells #[(.int .i64 (-9223372036854775808)), (.int .i64 1), (.int .i64 9223372036854775807), (.int .i64 13)] 25)) (w.heap.size + 1) (.int .i64 (-9223372036854775808)) (.int .i64 1) from by have q := Cell2.alloc (w.alloc (Obj.cells #[(.int .i64 f)] 23)) (.int .i64 (-9223372036854775808)) (.int .i64 1) 25; try simp only [World.size_alloc] at q; exact q.below (N := w.heap.size + 1 + 1) (((Below.refl _ _).alloc (by simp <;> omega) (Obj.cells #[(.int .i64 9223372036854775807), (.int .i64 13)] 25)).alloc (by simp <;> omega) (Obj.cells #[(.int .i64 (-9223372036854775808)), (.int .i64 1), (.int .i64 9223372036854775807), (.int .i64 13)] 25)) (by omega))
  have P2_11 := Lib.hid (show Cell2 ((((w.alloc (Obj.cells #[(.int .i64 f)] 23)).alloc (Obj.cells #[(.int .i64 (-9223372036854775808)), (.int .i64 1)] 25)).alloc (Obj.cells #[(.int .i64 9223372036854775807), (.int .i64 13)] 25)).alloc (Obj.cells #[(.int .i64 (-9223372036854775808)), (.int .i64 1), (.int .i64 9223372036854775807), (.int .i64 13)] 25)) (w.heap.size + 2) (.int .i64 9223372036854775807) (.int .i64 13) from by have q := Cell2.alloc ((w.alloc (Obj.cells #[(.int .i64 f)] 23)).alloc (Obj.cells #[(.int .i64 (-9223372036854775808)), (.int .i64 1)] 25)) (.int .i64 9223372036854775807) (.int .i64 13) 25; try simp only [World.size_alloc] at q; exact q.below (N := w.heap.size + 2 + 1) ((Below.refl _ _).alloc (by simp <;> omega) (Obj.cells #[(.int .i64 (-9223372036854775808)), (.int .i64 1), (.int .i64 9223372036854775807), (.int .i64 13)] 25)) (by omega))
  have P3_11 := Lib.hid (show Cell4 ((((w.alloc (Obj.cells #[(.int .i64 f)] 23)).alloc (Obj.cells #[(.int .i64 (-9223372036854775808)), (.int .i64 1)] 25)).alloc (Obj.cells #[(.int .i64 9223372036854775807), (.int .i64 13)] 25)).alloc (Obj.cells #[(.int .i64 (-9223372036854775808)), (.int .i64 1), (.int .i64 9223372036854775807), (.int .i64 13)] 25)) (w.heap.size + 3) (.int .i64 (-9223372036854775808)) (.int .i64 1) (.int .i64 9223372036854775807) (.int .i64 13) from by simpa using Cell4.alloc (((w.alloc (Obj.cells #[(.int .i64 f)] 23)).alloc (Obj.cells #[(.int .i64 (-9223372036854775808)), (.int .i64 1)] 25)).alloc (Obj.cells #[(.int .i64 9223372036854775807), (.int .i64 13)] 25)) (.int .i64 (-9223372036854775808)) (.int .i64 1) (.int .i64 9223372036854775807) (.int .i64 13) 25)
  have HB11 := Lib.hid (((((Below.refl w.heap.size w).alloc (Nat.le_refl _) (Obj.cells #[(.int .i64 f)] 23)).alloc (by simp) (Obj.cells #[(.int .i64 (-9223372036854775808)), (.int .i64 1)] 25)).alloc (by simp; omega) (Obj.cells #[(.int .i64 9223372036854775807), (.int .i64 13)] 25)).alloc (by simp; omega) (Obj.cells #[(.int .i64 (-9223372036854775808)), (.int .i64 1), (.int .i64 9223372036854775807), (.int .i64 13)] 25))
  generalize ((((w.alloc (Obj.cells #[(.int .i64 f)] 23)).alloc (Obj.cells #[(.int .i64 (-9223372036854775808)), (.int .i64 1)] 25)).alloc (Obj.cells #[(.int .i64 9223372036854775807), (.int .i64 13)] 25)).alloc (Obj.cells #[(.int .i64 (-9223372036854775808)), (.int .i64 1), (.int .i64 9223372036854775807), (.int .i64 13)] 25)) = W11 at *
  refine (HC.out _ _ (ht.below HB11.out) P3_11.out).mono ?_
  rintro e W12 ⟨rfl, hb12⟩
  have HB12 := Lib.hid (HB11.out.trans ((hb12).mono HB11.out.size))
  have P0_12 := Lib.hid (P0_11.out.below (hb12) P0_11.out.lt)
  have P1_12 := Lib.hid (P1_11.out.below (hb12) P1_11.out.lt)
  have P2_12 := Lib.hid (P2_11.out.below (hb12) P2_11.out.lt)
  have P3_12 := Lib.hid (P3_11.out.below (hb12) P3_11.out.lt)
  clear HB11 P0_11 P1_11 P2_11 P3_11 hb12
  have lP0_12 := P0_12.out.lt
  have cP0_12_0 := P0_12.out.c0
  have lP1_12 := P1_12.out.lt
  have cP1_12_0 := P1_12.out.c0
  have cP1_12_1 := P1_12.out.c1
  have lP2_12 := P2_12.out.lt
  have cP2_12_0 := P2_12.out.c0
  have cP2_12_1 := P2_12.out.c1
  have fP2_12_0 := P2_12.out.f0
  have fP2_12_1 := P2_12.out.f1
  rcases HI.out with ⟨rfl, g1, g2⟩ | ⟨hE, rfl, rfl⟩
  · clear HI
    have g3 := g1.symm
    have g4 := g2.symm
    subst g3
    subst g4
    go_wp2
    refine bodyPost_ret (v := .tuple #[.agg #[(.int .i64 9223372036854775807), (.int .i64 13)], .int .i64 0]) ?_ rfl ⟨rfl, ((HB12.out.setCell (p := ⟨w.heap.size + 2, 0, none⟩) (by simp) (.int .i64 9223372036854775807)).setCell (p := ⟨w.heap.size + 2, 1, none⟩) (by simp) (.int .i64 13))⟩
    have u0 := ((P2_12.out.set0 (.int .i64 9223372036854775807)).set1 (.int .i64 13)).c0
    have u1 := ((P2_12.out.set0 (.int .i64 9223372036854775807)).set1 (.int .i64 13)).c1
    rw [results_cell_tmp rfl]
    go_simp
  · clear HI
    have hE2 : (E == 0) = false := by simpa using hE
    clear hE
    go_wp2
    refine bodyPost_ret (v := .tuple #[.agg #[(.int .i64 0), (.int .i64 0)], .int .i64 E]) ?_ rfl ⟨rfl, ((HB12.out.setCell (p := ⟨w.heap.size + 2, 0, none⟩) (by simp) (.int .i64 0)).setCell (p := ⟨w.heap.size + 2, 1, none⟩) (by simp) (.int .i64 0))⟩
    have u0 := ((P2_12.out.set0 (.int .i64 0)).set1 (.int .i64 0)).c0
    have u1 := ((P2_12.out.set0 (.int .i64 0)).set1 (.int .i64 0)).c1
    rw [results_cell_tmp rfl]
    go_simp

set_option maxHeartbeats 4000000 in
theorem fPrev_c (f y n : Int) (w : World) (ht : Tab w) (hn : (n == 1) = false) (n1 : -9223372036854775808 < n) (n2 : n ≤ 9223372036854775807) (y1 : -9223372036854775808 ≤ y) (y2 : y ≤ 9223372036854775807) :
    Calls Tryd.prog 22 #[.agg #[.int .i64 f], .agg #[.int .i64 y, .int .i64 n]] w fun x w' => x = .returned (.tuple #[.agg #[.int .i64 (ifOk (twoE f y n y (n - 1)) y), .int .i64 (ifOk (twoE f y n y (n - 1)) (n - 1))], .int .i64 (twoE f y n y (n - 1))]) ∧ Below w.heap.size w w' := by
  have HC := Lib.hid (fun A w ht hA => check2_any f y n y (n - 1) A w ht hA (by omega) (by omega) (by omega) (by omega))
  have HI := Lib.hid (ifOk_two (twoE f y n y (n - 1)) y (n - 1))
  generalize ifOk (twoE f y n y (n - 1)) y = ra at *
  generalize ifOk (twoE f y n y (n - 1)) (n - 1) = rb at *
  generalize twoE f y n y (n - 1) = E at *
  go_enter Tryd.func22, Tryd.ntmps22
  go_wp2_with fail
  have P0_13 := Lib.hid (show Cell1 ((((w.alloc (Obj.cells #[(.int .i64 f)] 23)).alloc (Obj.cells #[(.int .i64 y), (.int .i64 n)] 25)).alloc (Obj.cells #[(.int .i64 y), (.int .i64 (n - 1))] 25)).alloc (Obj.cells #[(.int .i64 y), (.int .i64 n), (.int .i64 y), (.int .i64 (n - 1))] 25)) (w.heap.size) (.int .i64 f) from by have q := Cell1.alloc w (.int .i64 f) 23; exact q.below (N := w.heap.size + 1) ((((Below.refl _ _).alloc (by simp <;> omega) (Obj.cells #[(.int .i64 y), (.int .i64 n)] 25)).alloc (by simp <;> omega) (Obj.cells #[(.int .i64 y), (.int .i64 (n - 1))] 25)).alloc (by simp <;> omega) (Obj.cells #[(.int .i64 y), (.int .i64 n), (.int .i64 y), (.int .i64 (n - 1))] 25)) (by omega))
  have P1_13 := Lib.hid (show Cell2 ((((w.alloc (Obj.cells #[(.int .i64 f)] 23)).alloc (Obj.cells #[(.int .i64 y), (.int .i64 n)] 25)).alloc (Obj.cells #[(.int .i64 y), (.int .i64 (n - 1))] 25)).alloc (Obj.cells #[(.int .i64 y), (.int .i64 n), (.int .i64 y), (.int .i64 (n - 1))] 25)) (w.heap.size + 1) (.int .i64 y) (.int .i64 n) from by have q := Cell2.alloc (w.alloc (Obj.cells #[(.int .i64 f)] 23)) (.int .i64 y) (.int .i64 n) 25; try simp only [World.size_alloc] at q; exact q.below (N := w.heap.size + 1 + 1) (((Below.refl _ _).alloc (by simp <;> omega) (Obj.cells #[(.int .i64 y), (.int .i64 (n - 1))] 25)).alloc (by simp <;> omega) (Obj.cells #[(.int .i64 y), (.int .i64 n), (.int .i64 y), (.int .i64 (n - 1))] 25)) (by omega))
  have P2_13 := Lib.hid (show Cell2 ((((w.alloc (Obj.cells #[(.int .i64 f)] 23)).alloc (Obj.cells #[(.int .i64 y), (.int .i64 n)] 25)).alloc (Obj.cells #[(.int .i64 y), (.int .i64 (n - 1))] 25)).alloc (Obj.cells #[(.int .i64 y), (.int .i64 n), (.int .i64 y), (.int .i64 (n - 1))] 25)) (w.heap.size + 2) (.int .i64 y) (.int .i64 (n - 1)) from by have q := Cell2.alloc ((w.alloc (Obj.cells #[(.int .i64 f)] 23)).alloc (Obj.cells #[(.int .i64 y), (.int .i64 n)] 25)) (.int .i64 y) (.int .i64 (n - 1)) 25; try simp only [World.size_alloc] at q; exact q.below (N := w.heap.size + 2 + 1) ((Below.refl _ _).alloc (by simp <;> omega) (Obj.cells #[(.int .i64 y), (.int .i64 n), (.int .i64 y), (.int .i64 (n - 1))] 25)) (by omega))
  have P3_13 := Lib.hid (show Cell4 ((((w.alloc (Obj.cells #[(.int .i64 f)] 23)).alloc (Obj.cells #[(.int .i64 y), (.int .i64 n)] 25)).alloc (Obj.cells #[(.int .i64 y), (.int .i64 (n - 1))] 25)).alloc (Obj.cells #[(.int .i64 y), (.int .i64 n), (.int .i64 y), (.int .i64 (n - 1))] 25)) (w.heap.size + 3) (.int .i64 y) (.int .i64 n) (.int .i64 y) (.int .i64 (n - 1)) from by simpa using Cell4.alloc (((w.alloc (Obj.cells #[(.int .i64 f)] 23)).alloc (Obj.cells #[(.int .i64 y), (.int .i64 n)] 25)).alloc (Obj.cells #[(.int .i64 y), (.int .i64 (n - 1))] 25)) (.int .i64 y) (.int .i64 n) (.int .i64 y) (.int .i64 (n - 1)) 25)
  have HB13 := Lib.hid (((((Below.refl w.heap.size w).alloc (Nat.le_refl _) (Obj.cells #[(.int .i64 f)] 23)).alloc (by simp) (Obj.cells #[(.int .i64 y), (.int .i64 n)] 25)).alloc (by simp; omega) (Obj.cells #[(.int .i64 y), (.int .i64 (n - 1))] 25)).alloc (by simp; omega) (Obj.cells #[(.int .i64 y), (.int .i64 n), (.int .i64 y), (.int .i64 (n - 1))] 25))
  generalize ((((w.alloc (Obj.cells #[(.int .i64 f)] 23)).alloc (Obj.cells #[(.int .i64 y), (.int .i64 n)] 25)).alloc (Obj.cells #[(.int .i64 y), (.int .i64 (n - 1))] 25)).alloc (Obj.cells #[(.int .i64 y), (.int .i64 n), (.int .i64 y), (.int .i64 (n - 1))] 25)) = W13 at *
  refine (HC.out _ _ (ht.below HB13.out) P3_13.out).mono ?_
  rintro e W14 ⟨rfl, hb14⟩
  have HB14 := Lib.hid (HB13.out.trans ((hb14).mono HB13.out.size))
  have P0_14 := Lib.hid (P0_13.out.below (hb14) P0_13.out.lt)
  have P1_14 := Lib.hid (P1_13.out.below (hb14) P1_13.out.lt)
  have P2_14 := Lib.hid (P2_13.out.below (hb14) P2_13.out.lt)
  have P3_14 := Lib.hid (P3_13.out.below (hb14) P3_13.out.lt)
  clear HB13 P0_13 P1_13 P2_13 P3_13 hb14
  have lP0_14 := P0_14.out.lt
  have cP0_14_0 := P0_14.out.c0
  have lP1_14 := P1_14.out.lt
  have cP1_14_0 := P1_14.out.c0
  have cP1_14_1 := P1_14.out.c1
  have lP2_14 := P2_14.out.lt
  have cP2_14_0 := P2_14.out.c0
  have cP2_14_1 := P2_14.out.c1
  have fP2_14_0 := P2_14.out.f0
  have fP2_14_1 := P2_14.out.f1
  rcases HI.out with ⟨rfl, g1, g2⟩ | ⟨hE, rfl, rfl⟩
  · clear HI
    have g3 := g1.symm
    have g4 := g2.symm
    subst g3
    subst g4
    go_wp2
    refine bodyPost_ret (v := .tuple #[.agg #[(.int .i64 y), (.int .i64 (n - 1))], .int .i64 0]) ?_ rfl ⟨rfl, ((HB14.out.setCell (p := ⟨w.heap.size + 2, 0, none⟩) (by simp) (.int .i64 y)).setCell (p := ⟨w.heap.size + 2, 1, none⟩) (by simp) (.int .i64 (n - 1)))⟩
    have u0 := ((P2_14.out.set0 (.int .i64 y)).set1 (.int .i64 (n - 1))).c0
    have u1 := ((P2_14.out.set0 (.int .i64 y)).set1 (.int .i64 (n - 1))).c1
    rw [results_cell_tmp rfl]
    go_simp
  · clear HI
    have hE2 : (E == 0) = false := by simpa using hE
    clear hE
    go_wp2
    refine bodyPost_ret (v := .tuple #[.agg #[(.int .i64 0), (.int .i64 0)], .int .i64 E]) ?_ rfl ⟨rfl, ((HB14.out.setCell (p := ⟨w.heap.size + 2, 0, none⟩) (by simp) (.int .i64 0)).setCell (p := ⟨w.heap.size + 2, 1, none⟩) (by simp) (.int .i64 0))⟩
    have u0 := ((P2_14.out.set0 (.int .i64 0)).set1 (.int .i64 0)).c0
    have u1 := ((P2_14.out.set0 (.int .i64 0)).set1 (.int .i64 0)).c1
    rw [results_cell_tmp rfl]
    go_simp

set_option maxHeartbeats 4000000 in
theorem fPrev_d (f y : Int) (w : World) (ht : Tab w) (y1 : -9223372036854775808 ≤ y) (y2 : y ≤ 9223372036854775807) :
    Calls Tryd.prog 22 #[.agg #[.int .i64 f], .agg #[.int .i64 y, .int .i64 (-9223372036854775808)]] w fun x w' => x = .returned (.tuple #[.agg #[.int .i64 (ifOk (twoE f y (-9223372036854775808) y 9223372036854775807) y), .int .i64 (ifOk (twoE f y (-9223372036854775808) y 9223372036854775807) 9223372036854775807)], .int .i64 (twoE f y (-9223372036854775808) y 9223372036854775807)]) ∧ Below w.heap.size w w' := by
  have HC := Lib.hid (fun A w ht hA => check2_any f y (-9223372036854775808) y 9223372036854775807 A w ht hA (by omega) (by omega) (by omega) (by omega))
  have HI := Lib.hid (ifOk_two (twoE f y (-9223372036854775808) y 9223372036854775807) y 9223372036854775807)
  generalize ifOk (twoE f y (-9223372036854775808) y 9223372036854775807) y = ra at *
  generalize ifOk (twoE f y (-9223372036854775808) y 9223372036854775807) 9223372036854775807 = rb at *
  generalize twoE f y (-9223372036854775808) y 9223372036854775807 = E at *
  go_enter Tryd.func22, Tryd.ntmps22
  go_wp2_with fail
  rw [show wrap64 (-9223372036854775809) = 9223372036854775807 from by unfold wrap64; omega]
  have P0_15 := Lib.hid (show Cell1 ((((w.alloc (Obj.cells #[(.int .i64 f)] 23)).alloc (Obj.cells #[(.int .i64 y), (.int .i64 (-9223372036854775808))] 25)).alloc (Obj.cells #[(.int .i64 y), (.int .i64 9223372036854775807)] 25)).alloc (Obj.cells #[(.int .i64 y), (.int .i64 (-9223372036854775808)), (.int .i64 y), (.int .i64 9223372036854775807)] 25)) (w.heap.size) (.int .i64 f) from by have q := Cell1.alloc w (.int .i64 f) 23; exact q.below (N := w.heap.size + 1) ((((Below.refl _ _).alloc (by simp <;> omega) (Obj.cells #[(.int .i64 y), (.int .i64 (-9223372036854775808))] 25)).alloc (by simp <;> omega) (Obj.cells #[(.int .i64 y), (.int .i64 9223372036854775807)] 25)).alloc (by simp <;> omega) (Obj.cells #[(.int .i64 y), (.int .i64 (-9223372036854775808)), (.int .i64 y), (.int .i64 9223372036854775807)] 25)) (by omega))
  have P1_15 := Lib.hid (show Cell2 ((((w.alloc (Obj.cells #[(.int .i64 f)] 23)).alloc (Obj.cells #[(.int .i64 y), (.int .i64 (-9223372036854775808))] 25)).alloc (Obj.cells #[(.int .i64 y), (.int .i64 9223372036854775807)] 25)).alloc (Obj.cells #[(.int .i64 y), (.int .i64 (-9223372036854775808)), (.int .i64 y), (.int .i64 9223372036854775807)] 25)) (w.heap.size + 1) (.int .i64 y) (.int .i64 (-9223372036854775808)) from by have q := Cell2.alloc (w.alloc (Obj.cells #[(.int .i64 f)] 23)) (.int .i64 y) (.int .i64 (-9223372036854775808)) 25; try simp only [World.size_alloc] at q; exact q.below (N := w.heap.size + 1 + 1) (((Below.refl _ _).alloc (by simp <;> omega) (Obj.cells #[(.int .i64 y), (.int .i64 9223372036854775807)] 25)).alloc (by simp <;> omega) (Obj.cells #[(.int .i64 y), (.int .i64 (-9223372036854775808)), (.int .i64 y), (.int .i64 9223372036854775807)] 25)) (by omega))
  have P2_15 := Lib.hid (show Cell2 ((((w.alloc (Obj.cells #[(.int .i64 f)] 23)).alloc (Obj.cells #[(.int .i64 y), (.int .i64 (-9223372036854775808))] 25)).alloc (Obj.cells #[(.int .i64 y), (.int .i64 9223372036854775807)] 25)).alloc (Obj.cells #[(.int .i64 y), (.int .i64 (-9223372036854775808)), (.int .i64 y), (.int .i64 9223372036854775807)] 25)) (w.heap.size + 2) (.int .i64 y) (.int .i64 9223372036854775807) from by have q := Cell2.alloc ((w.alloc (Obj.cells #[(.int .i64 f)] 23)).alloc (Obj.cells #[(.int .i64 y), (.int .i64 (-9223372036854775808))] 25)) (.int .i64 y) (.int .i64 9223372036854775807) 25; try simp only [World.size_alloc] at q; exact q.below (N := w.heap.size + 2 + 1) ((Below.refl _ _).alloc (by simp <;> omega) (Obj.cells #[(.int .i64 y), (.int .i64 (-9223372036854775808)), (.int .i64 y), (.int .i64 9223372036854775807)] 25)) (by omega))
  have P3_15 := Lib.hid (show Cell4 ((((w.alloc (Obj.cells #[(.int .i64 f)] 23)).alloc (Obj.cells #[(.int .i64 y), (.int .i64 (-9223372036854775808))] 25)).alloc (Obj.cells #[(.int .i64 y), (.int .i64 9223372036854775807)] 25)).alloc (Obj.cells #[(.int .i64 y), (.int .i64 (-9223372036854775808)), (.int .i64 y), (.int .i64 9223372036854775807)] 25)) (w.heap.size + 3) (.int .i64 y) (.int .i64 (-9223372036854775808)) (.int .i64 y) (.int .i64 9223372036854775807) from by simpa using Cell4.alloc (((w.alloc (Obj.cells #[(.int .i64 f)] 23)).alloc (Obj.cells #[(.int .i64 y), (.int .i64 (-9223372036854775808))] 25)).alloc (Obj.cells #[(.int .i64 y), (.int .i64 9223372036854775807)] 25)) (.int .i64 y) (.int .i64 (-9223372036854775808)) (.int .i64 y) (.int .i64 9223372036854775807) 25)
  have HB15 := Lib.hid (((((Below.refl w.heap.size w).alloc (Nat.le_refl _) (Obj.cells #[(.int .i64 f)] 23)).alloc (by simp) (Obj.cells #[(.int .i64 y), (.int .i64 (-9223372036854775808))] 25)).alloc (by simp; omega) (Obj.cells #[(.int .i64 y), (.int .i64 9223372036854775807)] 25)).alloc (by simp; omega) (Obj.cells #[(.int .i64 y), (.int .i64 (-9223372036854775808)), (.int .i64 y), (.int .i64 9223372036854775807)] 25))
  generalize ((((w.alloc (Obj.cells #[(.int .i64 f)] 23)).alloc (Obj.cells #[(.int .i64 y), (.int .i64 (-9223372036854775808))] 25)).alloc (Obj.cells #[(.int .i64 y), (.int .i64 9223372036854775807)] 25)).alloc (Obj.cells #[(.int .i64 y), (.int .i64 (-9223372036854775808)), (.int .i64 y), (.int .i64 9223372036854775807)] 25)) = W15 at *
  refine (HC.out _ _ (ht.below HB15.out) P3_15.out).mono ?_
  rintro e W16 ⟨rfl, hb16⟩
  have HB16 := Lib.hid (HB15.out.trans ((hb16).mono HB15.out.size))
  have P0_16 := Lib.hid (P0_15.out.below (hb16) P0_15.out.lt)
  have P1_16 := Lib.hid (P1_15.out.below (hb16) P1_15.out.lt)
  have P2_16 := Lib.hid (P2_15.out.below (hb16) P2_15.out.lt)
  have P3_16 := Lib.hid (P3_15.out.below (hb16) P3_15.out.lt)
  clear HB15 P0_15 P1_15 P2_15 P3_15 hb16
  have lP0_16 := P0_16.out.lt
  have cP0_16_0 := P0_16.out.c0
  have lP1_16 := P1_16.out.lt
  have cP1_16_0 := P1_16.out.c0
  have cP1_16_1 := P1_16.out.c1
  have lP2_16 := P2_16.out.lt
  have cP2_16_0 := P2_16.out.c0
  have cP2_16_1 := P2_16.out.c1
  have fP2_16_0 := P2_16.out.f0
  have fP2_16_1 := P2_16.out.f1
  rcases HI.out with ⟨rfl, g1, g2⟩ | ⟨hE, rfl, rfl⟩
  · clear HI
    have g3 := g1.symm
    have g4 := g2.symm
    subst g3
    subst g4
    go_wp2
    refine bodyPost_ret (v := .tuple #[.agg #[(.int .i64 y), (.int .i64 9223372036854775807)], .int .i64 0]) ?_ rfl ⟨rfl, ((HB16.out.setCell (p := ⟨w.heap.size + 2, 0, none⟩) (by simp) (.int .i64 y)).setCell (p := ⟨w.heap.size + 2, 1, none⟩) (by simp) (.int .i64 9223372036854775807))⟩
    have u0 := ((P2_16.out.set0 (.int .i64 y)).set1 (.int .i64 9223372036854775807)).c0
    have u1 := ((P2_16.out.set0 (.int .i64 y)).set1 (.int .i64 9223372036854775807)).c1
    rw [results_cell_tmp rfl]
    go_simp
  · clear HI
    have hE2 : (E == 0) = false := by simpa using hE
    clear hE
    go_wp2
    refine bodyPost_ret (v := .tuple #[.agg #[(.int .i64 0), (.int .i64 0)], .int .i64 E]) ?_ rfl ⟨rfl, ((HB16.out.setCell (p := ⟨w.heap.size + 2, 0, none⟩) (by simp) (.int .i64 0)).setCell (p := ⟨w.heap.size + 2, 1, none⟩) (by simp) (.int .i64 0))⟩
    have u0 := ((P2_16.out.set0 (.int .i64 0)).set1 (.int .i64 0)).c0
    have u1 := ((P2_16.out.set0 (.int .i64 0)).set1 (.int .i64 0)).c1
    rw [results_cell_tmp rfl]
    go_simp

theorem fNext_any (f y n : Int) (w : World) (ht : Tab w) (y1 : -9223372036854775808 ≤ y) (y2 : y ≤ 9223372036854775807) (n1 : -9223372036854775808 ≤ n) (n2 : n ≤ 9223372036854775807) :
    Calls Tryd.prog 20 #[.agg #[.int .i64 f], .agg #[.int .i64 y, .int .i64 n]] w fun x w' => x = .returned (.tuple #[.agg #[.int .i64 (ifOk (twoE f y n (nxY y n) (nxN n)) (nxY y n)), .int .i64 (ifOk (twoE f y n (nxY y n) (nxN n)) (nxN n))], .int .i64 (twoE f y n (nxY y n) (nxN n))]) ∧ Below w.heap.size w w' := by
  by_cases h : n = 13
  · subst h
    have eN : nxN 13 = 1 := if_pos rfl
    by_cases hy : y = 9223372036854775807
    · subst hy
      have eY : nxY 9223372036854775807 13 = (-9223372036854775808) := by unfold nxY wrap64; simp
      rw [eN, eY]
      exact fNext_b f w ht
    · have eY : nxY y 13 = y + 1 := by unfold nxY; rw [if_pos rfl, wrap_in (by omega) (by omega)]
      rw [eN, eY]
      exact fNext_a f y w ht (by omega) (by omega)
  · have eY : nxY y n = y := if_neg h
    by_cases hn : n = 9223372036854775807
    · subst hn
      have eN : nxN 9223372036854775807 = (-9223372036854775808) := by unfold nxN wrap64; simp
      rw [eN, eY]
      exact fNext_d f y w ht y1 y2
    · have eN : nxN n = n + 1 := by unfold nxN; rw [if_neg h, wrap_in (by omega) (by omega)]
      rw [eN, eY]
      exact fNext_c f y n w ht (by simpa using h) (by omega) (by omega) y1 y2

theorem fPrev_any (f y n : Int) (w : World) (ht : Tab w) (y1 : -9223372036854775808 ≤ y) (y2 : y ≤ 9223372036854775807) (n1 : -9223372036854775808 ≤ n) (n2 : n ≤ 9223372036854775807) :
    Calls Tryd.prog 22 #[.agg #[.int .i64 f], .agg #[.int .i64 y, .int .i64 n]] w fun x w' => x = .returned (.tuple #[.agg #[.int .i64 (ifOk (twoE f y n (pvY y n) (pvN n)) (pvY y n)), .int .i64 (ifOk (twoE f y n (pvY y n) (pvN n)) (pvN n))], .int .i64 (twoE f y n (pvY y n) (pvN n))]) ∧ Below w.heap.size w w' := by
  by_cases h : n = 1
  · subst h
    have eN : pvN 1 = 13 := if_pos rfl
    by_cases hy : y = (-9223372036854775808)
    · subst hy
      have eY : pvY (-9223372036854775808) 1 = 9223372036854775807 := by unfold pvY wrap64; simp
      rw [eN, eY]
      exact fPrev_b f w ht
    · have eY : pvY y 1 = y - 1 := by unfold pvY; rw [if_pos rfl, wrap_in (by omega) (by omega)]
      rw [eN, eY]
      exact fPrev_a f y w ht (by omega) (by omega)
  · have eY : pvY y n = y := if_neg h
    by_cases hn : n = (-9223372036854775808)
    · subst hn
      have eN : pvN (-9223372036854775808) = 9223372036854775807 := by unfold pvN wrap64; simp
      rw [eN, eY]
      exact fPrev_d f y w ht y1 y2
    · have eN : pvN n = n - 1 := by unfold pvN; rw [if_neg h, wrap_in (by omega) (by omega)]
      rw [eN, eY]
      exact fPrev_c f y n w ht (by simpa using h) (by omega) (by omega) y1 y2

set_option maxHeartbeats 4000000 in
theorem fCount_any (f y n y' n' : Int) (w : World) (ht : Tab w) (y1 : -9223372036854775808 ≤ y) (y2 : y ≤ 9223372036854775807) (z1 : -9223372036854775808 ≤ y') (z2 : y' ≤ 9223372036854775807) :
    Calls Tryd.prog 24 #[.agg #[.int .i64 f], .agg #[.int .i64 y, .int .i64 n], .agg #[.int .i64 y', .int .i64 n']] w fun x w' => x = .returned (.tuple #[.int .i64 (cntV f y n y' n'), .int .i64 (twoE f y n y' n')]) ∧ Below w.heap.size w w' := by
  have HC := Lib.hid (fun A w ht hA => check2_any f y n y' n' A w ht hA y1 y2 z1 z2)
  by_cases hE : twoE f y n y' n' = 0
  · have hb := twoE_0.1 hE
    have b1 := hb.2.1.b hb.1
    have b2 := hb.2.2.b hb.1
    unfold cntV ifOk
    rw [hE] at HC
    rw [hE, if_pos rfl]
    clear hE hb
    obtain ⟨a1, a2, a3, a4⟩ := b1
    obtain ⟨a5, a6, a7, a8⟩ := b2
    go_enter Tryd.func24, Tryd.ntmps24
    go_wp2_with fail
    have P0_17 := Lib.hid (show Cell1 ((((w.alloc (Obj.cells #[(.int .i64 f)] 23)).alloc (Obj.cells #[(.int .i64 y), (.int .i64 n)] 25)).alloc (Obj.cells #[(.int .i64 y'), (.int .i64 n')] 25)).alloc (Obj.cells #[(.int .i64 y), (.int .i64 n), (.int .i64 y'), (.int .i64 n')] 25)) (w.heap.size) (.int .i64 f) from by have q := Cell1.alloc w (.int .i64 f) 23; exact q.below (N := w.heap.size + 1) ((((Below.refl _ _).alloc (by simp <;> omega) (Obj.cells #[(.int .i64 y), (.int .i64 n)] 25)).alloc (by simp <;> omega) (Obj.cells #[(.int .i64 y'), (.int .i64 n')] 25)).alloc (by simp <;> omega) (Obj.cells #[(.int .i64 y), (.int .i64 n), (.int .i64 y'), (.int .i64 n')] 25)) (by omega))
    have P1_17 := Lib.hid (show Cell2 ((((w.alloc (Obj.cells #[(.int .i64 f)] 23)).alloc (Obj.cells #[(.int .i64 y), (.int .i64 n)] 25)).alloc (Obj.cells #[(.int .i64 y'), (.int .i64 n')] 25)).alloc (Obj.cells #[(.int .i64 y), (.int .i64 n), (.int .i64 y'), (.int .i64 n')] 25)) (w.heap.size + 1) (.int .i64 y) (.int .i64 n) from by have q := Cell2.alloc (w.alloc (Obj.cells #[(.int .i64 f)] 23)) (.int .i64 y) (.int .i64 n) 25; try simp only [World.size_alloc] at q; exact q.below (N := w.heap.size + 1 + 1) (((Below.refl _ _).alloc (by simp <;> omega) (Obj.cells #[(.int .i64 y'), (.int .i64 n')] 25)).alloc (by simp <;> omega) (Obj.cells #[(.int .i64 y), (.int .i64 n), (.int .i64 y'), (.int .i64 n')] 25)) (by omega))
    have P2_17 := Lib.hid (show Cell2 ((((w.alloc (Obj.cells #[(.int .i64 f)] 23)).alloc (Obj.cells #[(.int .i64 y), (.int .i64 n)] 25)).alloc (Obj.cells #[(.int .i64 y'), (.int .i64 n')] 25)).alloc (Obj.cells #[(.int .i64 y), (.int .i64 n), (.int .i64 y'), (.int .i64 n')] 25)) (w.heap.size + 2) (.int .i64 y') (.int .i64 n') from by have q := Cell2.alloc ((w.alloc (Obj.cells #[(.int .i64 f)] 23)).alloc (Obj.cells #[(.int .i64 y), (.int .i64 n)] 25)) (.int .i64 y') (.int .i64 n') 25; try simp only [World.size_alloc] at q; exact q.below (N := w.heap.size + 2 + 1) ((Below.refl _ _).alloc (by simp <;> omega) (Obj.cells #[(.int .i64 y), (.int .i64 n), (.int .i64 y'), (.int .i64 n')] 25)) (by omega))
    have P3_17 := Lib.hid (show Cell4 ((((w.alloc (Obj.cells #[(.int .i64 f)] 23)).alloc (Obj.cells #[(.int .i64 y), (.int .i64 n)] 25)).alloc (Obj.cells #[(.int .i64 y'), (.int .i64 n')] 25)).alloc (Obj.cells #[(.int .i64 y), (.int .i64 n), (.int .i64 y'), (.int .i64 n')] 25)) (w.heap.size + 3) (.int .i64 y) (.int .i64 n) (.int .i64 y') (.int .i64 n') from by simpa using Cell4.alloc (((w.alloc (Obj.cells #[(.int .i64 f)] 23)).alloc (Obj.cells #[(.int .i64 y), (.int .i64 n)] 25)).alloc (Obj.cells #[(.int .i64 y'), (.int .i64 n')] 25)) (.int .i64 y) (.int .i64 n) (.int .i64 y') (.int .i64 n') 25)
    have HB17 := Lib.hid (((((Below.refl w.heap.size w).alloc (Nat.le_refl _) (Obj.cells #[(.int .i64 f)] 23)).alloc (by simp) (Obj.cells #[(.int .i64 y), (.int .i64 n)] 25)).alloc (by simp; omega) (Obj.cells #[(.int .i64 y'), (.int .i64 n')] 25)).alloc (by simp; omega) (Obj.cells #[(.int .i64 y), (.int .i64 n), (.int .i64 y'), (.int .i64 n')] 25))
    generalize ((((w.alloc (Obj.cells #[(.int .i64 f)] 23)).alloc (Obj.cells #[(.int .i64 y), (.int .i64 n)] 25)).alloc (Obj.cells #[(.int .i64 y'), (.int .i64 n')] 25)).alloc (Obj.cells #[(.int .i64 y), (.int .i64 n), (.int .i64 y'), (.int .i64 n')] 25)) = W17 at *
    refine (HC.out _ _ (ht.below HB17.out) P3_17.out).mono ?_
    rintro e W18 ⟨rfl, hb18⟩
    have HB18 := Lib.hid (HB17.out.trans ((hb18).mono HB17.out.size))
    have P0_18 := Lib.hid (P0_17.out.below (hb18) P0_17.out.lt)
    have P1_18 := Lib.hid (P1_17.out.below (hb18) P1_17.out.lt)
    have P2_18 := Lib.hid (P2_17.out.below (hb18) P2_17.out.lt)
    have P3_18 := Lib.hid (P3_17.out.below (hb18) P3_17.out.lt)
    clear HB17 P0_17 P1_17 P2_17 P3_17 hb18
    have lP0_18 := P0_18.out.lt
    have cP0_18_0 := P0_18.out.c0
    have lP1_18 := P1_18.out.lt
    have cP1_18_0 := P1_18.out.c0
    have cP1_18_1 := P1_18.out.c1
    have lP2_18 := P2_18.out.lt
    have cP2_18_0 := P2_18.out.c0
    have cP2_18_1 := P2_18.out.c1
    go_wp2
    go_ret2
    exact ⟨rfl, HB18.out⟩
  · unfold cntV ifOk
    rw [if_neg hE]
    have hE2 : (twoE f y n y' n' == 0) = false := by simpa using hE
    clear hE
    generalize twoE f y n y' n' = E at *
    go_enter Tryd.func24, Tryd.ntmps24
    go_wp2_with fail
    have P0_19 := Lib.hid (show Cell1 ((((w.alloc (Obj.cells #[(.int .i64 f)] 23)).alloc (Obj.cells #[(.int .i64 y), (.int .i64 n)] 25)).alloc (Obj.cells #[(.int .i64 y'), (.int .i64 n')] 25)).alloc (Obj.cells #[(.int .i64 y), (.int .i64 n), (.int .i64 y'), (.int .i64 n')] 25)) (w.heap.size) (.int .i64 f) from by have q := Cell1.alloc w (.int .i64 f) 23; exact q.below (N := w.heap.size + 1) ((((Below.refl _ _).alloc (by simp <;> omega) (Obj.cells #[(.int .i64 y), (.int .i64 n)] 25)).alloc (by simp <;> omega) (Obj.cells #[(.int .i64 y'), (.int .i64 n')] 25)).alloc (by simp <;> omega) (Obj.cells #[(.int .i64 y), (.int .i64 n), (.int .i64 y'), (.int .i64 n')] 25)) (by omega))
    have P1_19 := Lib.hid (show Cell2 ((((w.alloc (Obj.cells #[(.int .i64 f)] 23)).alloc (Obj.cells #[(.int .i64 y), (.int .i64 n)] 25)).alloc (Obj.cells #[(.int .i64 y'), (.int .i64 n')] 25)).alloc (Obj.cells #[(.int .i64 y), (.int .i64 n), (.int .i64 y'), (.int .i64 n')] 25)) (w.heap.size + 1) (.int .i64 y) (.int .i64 n) from by have q := Cell2.alloc (w.alloc (Obj.cells #[(.int .i64 f)] 23)) (.int .i64 y) (.int .i64 n) 25; try simp only [World.size_alloc] at q; exact q.below (N := w.heap.size + 1 + 1) (((Below.refl _ _).alloc (by simp <;> omega) (Obj.cells #[(.int .i64 y'), (.int .i64 n')] 25)).alloc (by simp <;> omega) (Obj.cells #[(.int .i64 y), (.int .i64 n), (.int .i64 y'), (.int .i64 n')] 25)) (by omega))
    have P2_19 := Lib.hid (show Cell2 ((((w.alloc (Obj.cells #[(.int .i64 f)] 23)).alloc (Obj.cells #[(.int .i64 y), (.int .i64 n)] 25)).alloc (Obj.cells #[(.int .i64 y'), (.int .i64 n')] 25)).alloc (Obj.cells #[(.int .i64 y), (.int .i64 n), (.int .i64 y'), (.int .i64 n')] 25)) (w.heap.size + 2) (.int .i64 y') (.int .i64 n') from by have q := Cell2.alloc ((w.alloc (Obj.cells #[(.int .i64 f)] 23)).alloc (Obj.cells #[(.int .i64 y), (.int .i64 n)] 25)) (.int .i64 y') (.int .i64 n') 25; try simp only [World.size_alloc] at q; exact q.below (N := w.heap.size + 2 + 1) ((Below.refl _ _).alloc (by simp <;> omega) (Obj.cells #[(.int .i64 y), (.int .i64 n), (.int .i64 y'), (.int .i64 n')] 25)) (by omega))
    have P3_19 := Lib.hid (show Cell4 ((((w.alloc (Obj.cells #[(.int .i64 f)] 23)).alloc (Obj.cells #[(.int .i64 y), (.int .i64 n)] 25)).alloc (Obj.cells #[(.int .i64 y'), (.int .i64 n')] 25)).alloc (Obj.cells #[(.int .i64 y), (.int .i64 n), (.int .i64 y'), (.int .i64 n')] 25)) (w.heap.size + 3) (.int .i64 y) (.int .i64 n) (.int .i64 y') (.int .i64 n') from by simpa using Cell4.alloc (((w.alloc (Obj.cells #[(.int .i64 f)] 23)).alloc (Obj.cells #[(.int .i64 y), (.int .i64 n)] 25)).alloc (Obj.cells #[(.int .i64 y'), (.int .i64 n')] 25)) (.int .i64 y) (.int .i64 n) (.int .i64 y') (.int .i64 n') 25)
    have HB19 := Lib.hid (((((Below.refl w.heap.size w).alloc (Nat.le_refl _) (Obj.cells #[(.int .i64 f)] 23)).alloc (by simp) (Obj.cells #[(.int .i64 y), (.int .i64 n)] 25)).alloc (by simp; omega) (Obj.cells #[(.int .i64 y'), (.int .i64 n')] 25)).alloc (by simp; omega) (Obj.cells #[(.int .i64 y), (.int .i64 n), (.int .i64 y'), (.int .i64 n')] 25))
    generalize ((((w.alloc (Obj.cells #[(.int .i64 f)] 23)).alloc (Obj.cells #[(.int .i64 y), (.int .i64 n)] 25)).alloc (Obj.cells #[(.int .i64 y'), (.int .i64 n')] 25)).alloc (Obj.cells #[(.int .i64 y), (.int .i64 n), (.int .i64 y'), (.int .i64 n')] 25)) = W19 at *
    refine (HC.out _ _ (ht.below HB19.out) P3_19.out).mono ?_
    rintro e W20 ⟨rfl, hb20⟩
    have HB20 := Lib.hid (HB19.out.trans ((hb20).mono HB19.out.size))
    have P0_20 := Lib.hid (P0_19.out.below (hb20) P0_19.out.lt)
    have P1_20 := Lib.hid (P1_19.out.below (hb20) P1_19.out.lt)
    have P2_20 := Lib.hid (P2_19.out.below (hb20) P2_19.out.lt)
    have P3_20 := Lib.hid (P3_19.out.below (hb20) P3_19.out.lt)
    clear HB19 P0_19 P1_19 P2_19 P3_19 hb20
    have lP0_20 := P0_20.out.lt
    have cP0_20_0 := P0_20.out.c0
    have lP1_20 := P1_20.out.lt
    have cP1_20_0 := P1_20.out.c0
    have cP1_20_1 := P1_20.out.c1
    have lP2_20 := P2_20.out.lt
    have cP2_20_0 := P2_20.out.c0
    have cP2_20_1 := P2_20.out.c1
    go_wp2
    go_ret2
    exact ⟨rfl, HB20.out⟩
end Go.Proofs.YtaibjmdfkahjjaaDoor
