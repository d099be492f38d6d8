/- What Of and For of the packages fiscal and accountingref05 return. -/
import Derived.Test.YtaibjmdfkahjjaaDoorFsC
import Derived.Test.YtaibjmdfkahjjaaDoorFsI
import Derived.Laws.ResultCell
namespace Go.Proofs.YtaibjmdfkahjjaaDoor
open Go.RowKit Go.Sort
set_option linter.unusedVariables false

set_option maxHeartbeats 1000000 in
theorem fOf_cal (f n : Int) (w : World) (hf : ¬ calO f) :
    Calls Tryd.prog 16 #[.agg #[.int .i64 f], .int .i64 n] w fun e w' => e = .returned (.tuple #[.agg #[.int .i64 0, .int .i64 0], .int .i64 2]) ∧ Below w.heap.size w w' := by
  have HR := Lib.hid (fun w => fRight_any f w)
  rw [decide_eq_false hf] at HR
  go_enter Tryd.func16, Tryd.ntmps16
  go_wp2_with fail
  have P0_1 := Lib.hid (show Cell1 ((w.alloc (Obj.cells #[(.int .i64 f)] 23)).alloc (Obj.cells #[(.int .i64 0), (.int .i64 0)] 25)) (w.heap.size) (.int .i64 f) from by have q := Cell1.alloc w (.int .i64 f) 23; exact q.below (N := w.heap.size + 1) ((Below.refl _ _).alloc (by simp <;> omega) (Obj.cells #[(.int .i64 0), (.int .i64 0)] 25)) (by omega))
  have P1_1 := Lib.hid (show Cell2 ((w.alloc (Obj.cells #[(.int .i64 f)] 23)).alloc (Obj.cells #[(.int .i64 0), (.int .i64 0)] 25)) (w.heap.size + 1) (.int .i64 0) (.int .i64 0) from by simpa using Cell2.alloc (w.alloc (Obj.cells #[(.int .i64 f)] 23)) (.int .i64 0) (.int .i64 0) 25)
  have HB1 := Lib.hid (((Below.refl w.heap.size w).alloc (Nat.le_refl _) (Obj.cells #[(.int .i64 f)] 23)).alloc (by simp) (Obj.cells #[(.int .i64 0), (.int .i64 0)] 25))
  generalize ((w.alloc (Obj.cells #[(.int .i64 f)] 23)).alloc (Obj.cells #[(.int .i64 0), (.int .i64 0)] 25)) = W1 at *
  refine (HR.out _).mono ?_
  rintro e W2 ⟨rfl, hb2⟩
  have HB2 := Lib.hid (HB1.out.trans ((hb2).mono HB1.out.size))
  have P0_2 := Lib.hid (P0_1.out.below (hb2) P0_1.out.lt)
  have P1_2 := Lib.hid (P1_1.out.below (hb2) P1_1.out.lt)
  clear HB1 P0_1 P1_1 hb2
  have lP0_2 := P0_2.out.lt
  have cP0_2_0 := P0_2.out.c0
  have lP1_2 := P1_2.out.lt
  have cP1_2_0 := P1_2.out.c0
  have cP1_2_1 := P1_2.out.c1
  have fP1_2_0 := P1_2.out.f0
  have fP1_2_1 := P1_2.out.f1
  go_wp2
  refine bodyPost_ret (v := .tuple #[.agg #[(.int .i64 0), (.int .i64 0)], .int .i64 2]) ?_ rfl ⟨rfl, ((HB2.out.setCell (p := ⟨w.heap.size + 1, 0, none⟩) (by simp) (.int .i64 0)).setCell (p := ⟨w.heap.size + 1, 1, none⟩) (by simp) (.int .i64 0))⟩
  have u0 := ((P1_2.out.set0 (.int .i64 0)).set1 (.int .i64 0)).c0
  have u1 := ((P1_2.out.set0 (.int .i64 0)).set1 (.int .i64 0)).c1
  rw [results_cell_tmp rfl]
  go_simp
set_option maxHeartbeats 1000000 in
theorem rfOf_cal (f n : Int) (w : World) (hf : ¬ calO f) :
    Calls Tryd.prog 17 #[.agg #[.int .i64 f], .int .i64 n] w fun e w' => e = .returned (.tuple #[.agg #[.int .i64 0, .int .i64 0], .int .i64 2]) ∧ Below w.heap.size w w' := by
  have HR := Lib.hid (fun w => rfRight_any f w)
  rw [decide_eq_false hf] at HR
  go_enter Tryd.func17, Tryd.ntmps17
  go_wp2_with fail
  have P0_3 := Lib.hid (show Cell1 ((w.alloc (Obj.cells #[(.int .i64 f)] 23)).alloc (Obj.cells #[(.int .i64 0), (.int .i64 0)] 25)) (w.heap.size) (.int .i64 f) from by have q := Cell1.alloc w (.int .i64 f) 23; exact q.below (N := w.heap.size + 1) ((Below.refl _ _).alloc (by simp <;> omega) (Obj.cells #[(.int .i64 0), (.int .i64 0)] 25)) (by omega))
  have P1_3 := Lib.hid (show Cell2 ((w.alloc (Obj.cells #[(.int .i64 f)] 23)).alloc (Obj.cells #[(.int .i64 0), (.int .i64 0)] 25)) (w.heap.size + 1) (.int .i64 0) (.int .i64 0) from by simpa using Cell2.alloc (w.alloc (Obj.cells #[(.int .i64 f)] 23)) (.int .i64 0) (.int .i64 0) 25)
  have HB3 := Lib.hid (((Below.refl w.heap.size w).alloc (Nat.le_refl _) (Obj.cells #[(.int .i64 f)] 23)).alloc (by simp) (Obj.cells #[(.int .i64 0), (.int .i64 0)] 25))
  generalize ((w.alloc (Obj.cells #[(.int .i64 f)] 23)).alloc (Obj.cells #[(.int .i64 0), (.int .i64 0)] 25)) = W3 at *
  refine (HR.out _).mono ?_
  rintro e W4 ⟨rfl, hb4⟩
  have HB4 := Lib.hid (HB3.out.trans ((hb4).mono HB3.out.size))
  have P0_4 := Lib.hid (P0_3.out.below (hb4) P0_3.out.lt)
  have P1_4 := Lib.hid (P1_3.out.below (hb4) P1_3.out.lt)
  clear HB3 P0_3 P1_3 hb4
  have lP0_4 := P0_4.out.lt
  have cP0_4_0 := P0_4.out.c0
  have lP1_4 := P1_4.out.lt
  have cP1_4_0 := P1_4.out.c0
  have cP1_4_1 := P1_4.out.c1
  have fP1_4_0 := P1_4.out.f0
  have fP1_4_1 := P1_4.out.f1
  go_wp2
  refine bodyPost_ret (v := .tuple #[.agg #[(.int .i64 0), (.int .i64 0)], .int .i64 2]) ?_ rfl ⟨rfl, ((HB4.out.setCell (p := ⟨w.heap.size + 1, 0, none⟩) (by simp) (.int .i64 0)).setCell (p := ⟨w.heap.size + 1, 1, none⟩) (by simp) (.int .i64 0))⟩
  have u0 := ((P1_4.out.set0 (.int .i64 0)).set1 (.int .i64 0)).c0
  have u1 := ((P1_4.out.set0 (.int .i64 0)).set1 (.int .i64 0)).c1
  rw [results_cell_tmp rfl]
  go_simp
set_option maxHeartbeats 1000000 in
theorem fOf_no (f n : Int) (w : World) (hf : calO f) (n1 : -9223372036854775808 ≤ n) (n2 : n ≤ 9223372036854775807) (hn : n < 0 ∨ 109572 < n) :
    Calls Tryd.prog 16 #[.agg #[.int .i64 f], .int .i64 n] w fun e w' => e = .returned (.tuple #[.agg #[.int .i64 0, .int .i64 0], .int .i64 11]) ∧ Below w.heap.size w w' := by
  have HR := Lib.hid (fun w => fRight_any f w)
  rw [decide_eq_true hf] at HR
  have HD := Lib.hid (fun w => date_no n w n1 n2 hn)
  clear hn hf
  go_enter Tryd.func16, Tryd.ntmps16
  go_wp2_with fail
  have P0_5 := Lib.hid (show Cell1 ((w.alloc (Obj.cells #[(.int .i64 f)] 23)).alloc (Obj.cells #[(.int .i64 0), (.int .i64 0)] 25)) (w.heap.size) (.int .i64 f) from by have q := Cell1.alloc w (.int .i64 f) 23; exact q.below (N := w.heap.size + 1) ((Below.refl _ _).alloc (by simp <;> omega) (Obj.cells #[(.int .i64 0), (.int .i64 0)] 25)) (by omega))
  have P1_5 := Lib.hid (show Cell2 ((w.alloc (Obj.cells #[(.int .i64 f)] 23)).alloc (Obj.cells #[(.int .i64 0), (.int .i64 0)] 25)) (w.heap.size + 1) (.int .i64 0) (.int .i64 0) from by simpa using Cell2.alloc (w.alloc (Obj.cells #[(.int .i64 f)] 23)) (.int .i64 0) (.int .i64 0) 25)
  have HB5 := Lib.hid (((Below.refl w.heap.size w).alloc (Nat.le_refl _) (Obj.cells #[(.int .i64 f)] 23)).alloc (by simp) (Obj.cells #[(.int .i64 0), (.int .i64 0)] 25))
  generalize ((w.alloc (Obj.cells #[(.int .i64 f)] 23)).alloc (Obj.cells #[(.int .i64 0), (.int .i64 0)] 25)) = W5 at *
  refine (HR.out _).mono ?_
  rintro e W6 ⟨rfl, hb6⟩
  have HB6 := Lib.hid (HB5.out.trans ((hb6).mono HB5.out.size))
  have P0_6 := Lib.hid (P0_5.out.below (hb6) P0_5.out.lt)
  have P1_6 := Lib.hid (P1_5.out.below (hb6) P1_5.out.lt)
  clear HB5 P0_5 P1_5 hb6
  go_wp2_with fail
  refine (HD.out _).mono ?_
  rintro e W7 ⟨rfl, hb7⟩
  have HB7 := Lib.hid (HB6.out.trans ((hb7).mono HB6.out.size))
  have P0_7 := Lib.hid (P0_6.out.below (hb7) P0_6.out.lt)
  have P1_7 := Lib.hid (P1_6.out.below (hb7) P1_6.out.lt)
  clear HB6 P0_6 P1_6 hb7
  have lP0_7 := P0_7.out.lt
  have cP0_7_0 := P0_7.out.c0
  have lP1_7 := P1_7.out.lt
  have cP1_7_0 := P1_7.out.c0
  have cP1_7_1 := P1_7.out.c1
  have fP1_7_0 := P1_7.out.f0
  have fP1_7_1 := P1_7.out.f1
  go_wp2
  refine bodyPost_ret (v := .tuple #[.agg #[(.int .i64 0), (.int .i64 0)], .int .i64 11]) ?_ rfl ⟨rfl, (((HB7.out.setCell (p := ⟨w.heap.size + 1, 0, none⟩) (by simp) (.int .i64 0)).setCell (p := ⟨w.heap.size + 1, 1, none⟩) (by simp) (.int .i64 0)).alloc (by have := HB7.out.size; simp <;> omega) (Obj.cells #[(.int .i64 0), (.int .i64 0), (.int .i64 0)] 67))⟩
  have u0 := ((P1_7.out.set0 (.int .i64 0)).set1 (.int .i64 0)).c0
  have u1 := ((P1_7.out.set0 (.int .i64 0)).set1 (.int .i64 0)).c1
  rw [results_cell_tmp rfl]
  go_simp
set_option maxHeartbeats 1000000 in
theorem rfOf_no (f n : Int) (w : World) (hf : calO f) (n1 : -9223372036854775808 ≤ n) (n2 : n ≤ 9223372036854775807) (hn : n < 0 ∨ 109572 < n) :
    Calls Tryd.prog 17 #[.agg #[.int .i64 f], .int .i64 n] w fun e w' => e = .returned (.tuple #[.agg #[.int .i64 0, .int .i64 0], .int .i64 11]) ∧ Below w.heap.size w w' := by
  have HR := Lib.hid (fun w => rfRight_any f w)
  rw [decide_eq_true hf] at HR
  have HD := Lib.hid (fun w => rDate_no n w n1 n2 hn)
  clear hn hf
  go_enter Tryd.func17, Tryd.ntmps17
  go_wp2_with fail
  have P0_8 := Lib.hid (show Cell1 ((w.alloc (Obj.cells #[(.int .i64 f)] 23)).alloc (Obj.cells #[(.int .i64 0), (.int .i64 0)] 25)) (w.heap.size) (.int .i64 f) from by have q := Cell1.alloc w (.int .i64 f) 23; exact q.below (N := w.heap.size + 1) ((Below.refl _ _).alloc (by simp <;> omega) (Obj.cells #[(.int .i64 0), (.int .i64 0)] 25)) (by omega))
  have P1_8 := Lib.hid (show Cell2 ((w.alloc (Obj.cells #[(.int .i64 f)] 23)).alloc (Obj.cells #[(.int .i64 0), (.int .i64 0)] 25)) (w.heap.size + 1) (.int .i64 0) (.int .i64 0) from by simpa using Cell2.alloc (w.alloc (Obj.cells #[(.int .i64 f)] 23)) (.int .i64 0) (.int .i64 0) 25)
  have HB8 := Lib.hid (((Below.refl w.heap.size w).alloc (Nat.le_refl _) (Obj.cells #[(.int .i64 f)] 23)).alloc (by simp) (Obj.cells #[(.int .i64 0), (.int .i64 0)] 25))
  generalize ((w.alloc (Obj.cells #[(.int .i64 f)] 23)).alloc (Obj.cells #[(.int .i64 0), (.int .i64 0)] 25)) = W8 at *
  refine (HR.out _).mono ?_
  rintro e W9 ⟨rfl, hb9⟩
  have HB9 := Lib.hid (HB8.out.trans ((hb9).mono HB8.out.size))
  have P0_9 := Lib.hid (P0_8.out.below (hb9) P0_8.out.lt)
  have P1_9 := Lib.hid (P1_8.out.below (hb9) P1_8.out.lt)
  clear HB8 P0_8 P1_8 hb9
  go_wp2_with fail
  refine (HD.out _).mono ?_
  rintro e W10 ⟨rfl, hb10⟩
  have HB10 := Lib.hid (HB9.out.trans ((hb10).mono HB9.out.size))
  have P0_10 := Lib.hid (P0_9.out.below (hb10) P0_9.out.lt)
  have P1_10 := Lib.hid (P1_9.out.below (hb10) P1_9.out.lt)
  clear HB9 P0_9 P1_9 hb10
  have lP0_10 := P0_10.out.lt
  have cP0_10_0 := P0_10.out.c0
  have lP1_10 := P1_10.out.lt
  have cP1_10_0 := P1_10.out.c0
  have cP1_10_1 := P1_10.out.c1
  have fP1_10_0 := P1_10.out.f0
  have fP1_10_1 := P1_10.out.f1
  go_wp2
  refine bodyPost_ret (v := .tuple #[.agg #[(.int .i64 0), (.int .i64 0)], .int .i64 11]) ?_ rfl ⟨rfl, (((HB10.out.setCell (p := ⟨w.heap.size + 1, 0, none⟩) (by simp) (.int .i64 0)).setCell (p := ⟨w.heap.size + 1, 1, none⟩) (by simp) (.int .i64 0)).alloc (by have := HB10.out.size; simp <;> omega) (Obj.cells #[(.int .i64 0), (.int .i64 0), (.int .i64 0)] 67))⟩
  have u0 := ((P1_10.out.set0 (.int .i64 0)).set1 (.int .i64 0)).c0
  have u1 := ((P1_10.out.set0 (.int .i64 0)).set1 (.int .i64 0)).c1
  rw [results_cell_tmp rfl]
  go_simp

/-- what Of returns for a day with a date. -/
def ofY (f Y M : Int) : Int := if yrO f (pyV f Y M) then pyV f Y M else 0
def ofP (f Y M : Int) : Int := if yrO f (pyV f Y M) then pnV f M else 0
def ofX (f Y M : Int) : Int := if yrO f (pyV f Y M) then 0 else 16
theorem of_yes {f Y M : Int} (h : yrO f (pyV f Y M)) : ofY f Y M = pyV f Y M ∧ ofP f Y M = pnV f M ∧ ofX f Y M = 0 := by
  unfold ofY ofP ofX; simp [h]
theorem of_not {f Y M : Int} (h : ¬ yrO f (pyV f Y M)) : ofY f Y M = 0 ∧ ofP f Y M = 0 ∧ ofX f Y M = 16 := by
  unfold ofY ofP ofX; simp [h]
set_option maxHeartbeats 4000000 in
theorem fOf_any (f n Y M D : Int) (w : World) (ht : Tab w) (hf : calO f) (hd : IsDate n Y M D) :
    Calls Tryd.prog 16 #[.agg #[.int .i64 f], .int .i64 n] w fun e w' => e = .returned (.tuple #[.agg #[.int .i64 (ofY f Y M), .int .i64 (ofP f Y M)], .int .i64 (ofX f Y M)]) ∧ Below w.heap.size w w' := by
  have HR := Lib.hid (fun w => fRight_any f w)
  rw [decide_eq_true hf] at HR
  have HD := Lib.hid (fun w ht => date_any n Y M D w ht hd)
  have hm := hd.1.m
  have hY1 := hd.1.1
  have hY2 := hd.1.2.1
  have hb := pn_b hf hm.1 hm.2
  have HC := Lib.hid (fun A w ht hA => check1_any f (pyV f Y M) (pnV f M) A w ht hA (by unfold pyV; split <;> omega) (by unfold pyV; split <;> omega))
  have HE : spaE f (pyV f Y M) (pnV f M) = ofX f Y M := by
    by_cases h : yrO f (pyV f Y M)
    · rw [(spa_yes hf ⟨hb.1, by omega, h⟩).2.2, (of_yes h).2.2]
    · rw [(spa_no hf (fun x => h x.2.2)).2.2, (of_not h).2.2]
  rw [HE] at HC
  have HO := Lib.hid (show (ofX f Y M = 0 ∧ ofY f Y M = pyV f Y M ∧ ofP f Y M = pnV f M) ∨ (ofX f Y M = 16 ∧ ofY f Y M = 0 ∧ ofP f Y M = 0) from by
    by_cases h : yrO f (pyV f Y M)
    · have := of_yes h; exact .inl ⟨this.2.2, this.1, this.2.1⟩
    · have := of_not h; exact .inr ⟨this.2.2, this.1, this.2.1⟩)
  clear HE hd hb
  obtain ⟨f1, f2⟩ := hf
  obtain ⟨m1, m2⟩ := hm
  by_cases hlt : M < f
  · have e1 : pyV f Y M = Y - 1 := if_pos hlt
    have e2 : pnV f M = M - f + 1 + 12 := by unfold pnV; rw [if_pos hlt]; omega
    rw [e1, e2] at HC HO
    clear e1 e2
    generalize ofX f Y M = X at *
    generalize ofY f Y M = XY at *
    generalize ofP f Y M = XP at *
    go_enter Tryd.func16, Tryd.ntmps16
    go_wp2_with fail
    have P0_11 := Lib.hid (show Cell1 ((w.alloc (Obj.cells #[(.int .i64 f)] 23)).alloc (Obj.cells #[(.int .i64 0), (.int .i64 0)] 25)) (w.heap.size) (.int .i64 f) from by have q := Cell1.alloc w (.int .i64 f) 23; exact q.below (N := w.heap.size + 1) ((Below.refl _ _).alloc (by simp <;> omega) (Obj.cells #[(.int .i64 0), (.int .i64 0)] 25)) (by omega))
    have P1_11 := Lib.hid (show Cell2 ((w.alloc (Obj.cells #[(.int .i64 f)] 23)).alloc (Obj.cells #[(.int .i64 0), (.int .i64 0)] 25)) (w.heap.size + 1) (.int .i64 0) (.int .i64 0) from by simpa using Cell2.alloc (w.alloc (Obj.cells #[(.int .i64 f)] 23)) (.int .i64 0) (.int .i64 0) 25)
    have HB11 := Lib.hid (((Below.refl w.heap.size w).alloc (Nat.le_refl _) (Obj.cells #[(.int .i64 f)] 23)).alloc (by simp) (Obj.cells #[(.int .i64 0), (.int .i64 0)] 25))
    generalize ((w.alloc (Obj.cells #[(.int .i64 f)] 23)).alloc (Obj.cells #[(.int .i64 0), (.int .i64 0)] 25)) = W11 at *
    refine (HR.out _).mono ?_
    rintro e W12 ⟨rfl, hb12⟩
    have HB12 := Lib.hid (HB11.out.trans ((hb12).mono HB11.out.size))
    have P0_12 := Lib.hid (P0_11.out.below (hb12) P0_11.out.lt)
    have P1_12 := Lib.hid (P1_11.out.below (hb12) P1_11.out.lt)
    clear HB11 P0_11 P1_11 hb12
    go_wp2_with fail
    refine (HD.out _ (ht.below HB12.out)).mono ?_
    rintro e W13 ⟨rfl, hb13⟩
    have HB13 := Lib.hid (HB12.out.trans ((hb13).mono HB12.out.size))
    have P0_13 := Lib.hid (P0_12.out.below (hb13) P0_12.out.lt)
    have P1_13 := Lib.hid (P1_12.out.below (hb13) P1_12.out.lt)
    clear HB12 P0_12 P1_12 hb13
    have lP0_13 := P0_13.out.lt
    have cP0_13_0 := P0_13.out.c0
    have lP1_13 := P1_13.out.lt
    have cP1_13_0 := P1_13.out.c0
    have cP1_13_1 := P1_13.out.c1
    have fP1_13_0 := P1_13.out.f0
    have fP1_13_1 := P1_13.out.f1
    have P0_14 := Lib.hid (P0_13.out.far (B' := w.heap.size + 1) (by omega) 0 (.int .i64 Y))
    have P1_14 := Lib.hid (P1_13.out.set0 (.int .i64 Y))
    have HB14 := Lib.hid (HB13.out.setCell (p := ⟨w.heap.size + 1, 0, none⟩) (by simp <;> omega) (.int .i64 Y))
    have P0_15 := Lib.hid (P0_14.out.far (B' := w.heap.size + 1) (by omega) 1 (.int .i64 (M - f + 1)))
    have P1_15 := Lib.hid (P1_14.out.set1 (.int .i64 (M - f + 1)))
    have HB15 := Lib.hid (HB14.out.setCell (p := ⟨w.heap.size + 1, 1, none⟩) (by simp <;> omega) (.int .i64 (M - f + 1)))
    have lP0_15 := P0_15.out.lt
    have cP0_15_0 := P0_15.out.c0
    have lP1_15 := P1_15.out.lt
    have cP1_15_0 := P1_15.out.c0
    have cP1_15_1 := P1_15.out.c1
    have fP1_15_0 := P1_15.out.f0
    have fP1_15_1 := P1_15.out.f1
    have P0_16 := Lib.hid (P0_15.out.far (B' := w.heap.size + 1) (by omega) 0 (.int .i64 (Y - 1)))
    have P1_16 := Lib.hid (P1_15.out.set0 (.int .i64 (Y - 1)))
    have HB16 := Lib.hid (HB15.out.setCell (p := ⟨w.heap.size + 1, 0, none⟩) (by simp <;> omega) (.int .i64 (Y - 1)))
    have lP0_16 := P0_16.out.lt
    have cP0_16_0 := P0_16.out.c0
    have lP1_16 := P1_16.out.lt
    have cP1_16_0 := P1_16.out.c0
    have cP1_16_1 := P1_16.out.c1
    have fP1_16_0 := P1_16.out.f0
    have fP1_16_1 := P1_16.out.f1
    have P0_17 := Lib.hid (P0_16.out.far (B' := w.heap.size + 1) (by omega) 1 (.int .i64 (M - f + 1 + 12)))
    have P1_17 := Lib.hid (P1_16.out.set1 (.int .i64 (M - f + 1 + 12)))
    have HB17 := Lib.hid (HB16.out.setCell (p := ⟨w.heap.size + 1, 1, none⟩) (by simp <;> omega) (.int .i64 (M - f + 1 + 12)))
    have lP0_17 := P0_17.out.lt
    have cP0_17_0 := P0_17.out.c0
    have lP1_17 := P1_17.out.lt
    have cP1_17_0 := P1_17.out.c0
    have cP1_17_1 := P1_17.out.c1
    have fP1_17_0 := P1_17.out.f0
    have fP1_17_1 := P1_17.out.f1
    go_wp2_with fail
    have oD_P0_17 := P0_17.out.lt
    have oD_P1_17 := P1_17.out.lt
    have D_18 := Lib.hid (show Cell3 (((((W13.setCell ⟨w.heap.size + 1, 0, none⟩ (.int .i64 Y)).setCell ⟨w.heap.size + 1, 1, none⟩ (.int .i64 (M - f + 1))).setCell ⟨w.heap.size + 1, 0, none⟩ (.int .i64 (Y - 1))).setCell ⟨w.heap.size + 1, 1, none⟩ (.int .i64 (M - f + 1 + 12))).alloc (Obj.cells #[(.int .i64 Y), (.int .i64 M), (.int .i64 D)] 67)) (W13.heap.size) (.int .i64 Y) (.int .i64 M) (.int .i64 D) from by simpa using Cell3.alloc ((((W13.setCell ⟨w.heap.size + 1, 0, none⟩ (.int .i64 Y)).setCell ⟨w.heap.size + 1, 1, none⟩ (.int .i64 (M - f + 1))).setCell ⟨w.heap.size + 1, 0, none⟩ (.int .i64 (Y - 1))).setCell ⟨w.heap.size + 1, 1, none⟩ (.int .i64 (M - f + 1 + 12))) (.int .i64 Y) (.int .i64 M) (.int .i64 D) 67)
    have HB18 := Lib.hid (HB17.out.trans (((Below.refl ((((W13.setCell ⟨w.heap.size + 1, 0, none⟩ (.int .i64 Y)).setCell ⟨w.heap.size + 1, 1, none⟩ (.int .i64 (M - f + 1))).setCell ⟨w.heap.size + 1, 0, none⟩ (.int .i64 (Y - 1))).setCell ⟨w.heap.size + 1, 1, none⟩ (.int .i64 (M - f + 1 + 12))).heap.size ((((W13.setCell ⟨w.heap.size + 1, 0, none⟩ (.int .i64 Y)).setCell ⟨w.heap.size + 1, 1, none⟩ (.int .i64 (M - f + 1))).setCell ⟨w.heap.size + 1, 0, none⟩ (.int .i64 (Y - 1))).setCell ⟨w.heap.size + 1, 1, none⟩ (.int .i64 (M - f + 1 + 12)))).alloc (Nat.le_refl _) (Obj.cells #[(.int .i64 Y), (.int .i64 M), (.int .i64 D)] 67)).mono HB17.out.size))
    have P0_18 := Lib.hid (P0_17.out.below ((Below.refl ((((W13.setCell ⟨w.heap.size + 1, 0, none⟩ (.int .i64 Y)).setCell ⟨w.heap.size + 1, 1, none⟩ (.int .i64 (M - f + 1))).setCell ⟨w.heap.size + 1, 0, none⟩ (.int .i64 (Y - 1))).setCell ⟨w.heap.size + 1, 1, none⟩ (.int .i64 (M - f + 1 + 12))).heap.size ((((W13.setCell ⟨w.heap.size + 1, 0, none⟩ (.int .i64 Y)).setCell ⟨w.heap.size + 1, 1, none⟩ (.int .i64 (M - f + 1))).setCell ⟨w.heap.size + 1, 0, none⟩ (.int .i64 (Y - 1))).setCell ⟨w.heap.size + 1, 1, none⟩ (.int .i64 (M - f + 1 + 12)))).alloc (Nat.le_refl _) (Obj.cells #[(.int .i64 Y), (.int .i64 M), (.int .i64 D)] 67)) P0_17.out.lt)
    have P1_18 := Lib.hid (P1_17.out.below ((Below.refl ((((W13.setCell ⟨w.heap.size + 1, 0, none⟩ (.int .i64 Y)).setCell ⟨w.heap.size + 1, 1, none⟩ (.int .i64 (M - f + 1))).setCell ⟨w.heap.size + 1, 0, none⟩ (.int .i64 (Y - 1))).setCell ⟨w.heap.size + 1, 1, none⟩ (.int .i64 (M - f + 1 + 12))).heap.size ((((W13.setCell ⟨w.heap.size + 1, 0, none⟩ (.int .i64 Y)).setCell ⟨w.heap.size + 1, 1, none⟩ (.int .i64 (M - f + 1))).setCell ⟨w.heap.size + 1, 0, none⟩ (.int .i64 (Y - 1))).setCell ⟨w.heap.size + 1, 1, none⟩ (.int .i64 (M - f + 1 + 12)))).alloc (Nat.le_refl _) (Obj.cells #[(.int .i64 Y), (.int .i64 M), (.int .i64 D)] 67)) P1_17.out.lt)
    have oS_P0_18 := P0_18.out.lt
    have oS_P1_18 := P1_18.out.lt
    have oS_D_18 := D_18.out.lt
    have S_19 := Lib.hid (show Cell2 ((((((W13.setCell ⟨w.heap.size + 1, 0, none⟩ (.int .i64 Y)).setCell ⟨w.heap.size + 1, 1, none⟩ (.int .i64 (M - f + 1))).setCell ⟨w.heap.size + 1, 0, none⟩ (.int .i64 (Y - 1))).setCell ⟨w.heap.size + 1, 1, none⟩ (.int .i64 (M - f + 1 + 12))).alloc (Obj.cells #[(.int .i64 Y), (.int .i64 M), (.int .i64 D)] 67)).alloc (Obj.cells #[(.int .i64 (Y - 1)), (.int .i64 (M - f + 1 + 12))] 25)) (W13.heap.size + 1) (.int .i64 (Y - 1)) (.int .i64 (M - f + 1 + 12)) from by simpa using Cell2.alloc (((((W13.setCell ⟨w.heap.size + 1, 0, none⟩ (.int .i64 Y)).setCell ⟨w.heap.size + 1, 1, none⟩ (.int .i64 (M - f + 1))).setCell ⟨w.heap.size + 1, 0, none⟩ (.int .i64 (Y - 1))).setCell ⟨w.heap.size + 1, 1, none⟩ (.int .i64 (M - f + 1 + 12))).alloc (Obj.cells #[(.int .i64 Y), (.int .i64 M), (.int .i64 D)] 67)) (.int .i64 (Y - 1)) (.int .i64 (M - f + 1 + 12)) 25)
    have HB19 := Lib.hid (HB18.out.trans (((Below.refl (((((W13.setCell ⟨w.heap.size + 1, 0, none⟩ (.int .i64 Y)).setCell ⟨w.heap.size + 1, 1, none⟩ (.int .i64 (M - f + 1))).setCell ⟨w.heap.size + 1, 0, none⟩ (.int .i64 (Y - 1))).setCell ⟨w.heap.size + 1, 1, none⟩ (.int .i64 (M - f + 1 + 12))).alloc (Obj.cells #[(.int .i64 Y), (.int .i64 M), (.int .i64 D)] 67)).heap.size (((((W13.setCell ⟨w.heap.size + 1, 0, none⟩ (.int .i64 Y)).setCell ⟨w.heap.size + 1, 1, none⟩ (.int .i64 (M - f + 1))).setCell ⟨w.heap.size + 1, 0, none⟩ (.int .i64 (Y - 1))).setCell ⟨w.heap.size + 1, 1, none⟩ (.int .i64 (M - f + 1 + 12))).alloc (Obj.cells #[(.int .i64 Y), (.int .i64 M), (.int .i64 D)] 67))).alloc (Nat.le_refl _) (Obj.cells #[(.int .i64 (Y - 1)), (.int .i64 (M - f + 1 + 12))] 25)).mono HB18.out.size))
    have P0_19 := Lib.hid (P0_18.out.below ((Below.refl (((((W13.setCell ⟨w.heap.size + 1, 0, none⟩ (.int .i64 Y)).setCell ⟨w.heap.size + 1, 1, none⟩ (.int .i64 (M - f + 1))).setCell ⟨w.heap.size + 1, 0, none⟩ (.int .i64 (Y - 1))).setCell ⟨w.heap.size + 1, 1, none⟩ (.int .i64 (M - f + 1 + 12))).alloc (Obj.cells #[(.int .i64 Y), (.int .i64 M), (.int .i64 D)] 67)).heap.size (((((W13.setCell ⟨w.heap.size + 1, 0, none⟩ (.int .i64 Y)).setCell ⟨w.heap.size + 1, 1, none⟩ (.int .i64 (M - f + 1))).setCell ⟨w.heap.size + 1, 0, none⟩ (.int .i64 (Y - 1))).setCell ⟨w.heap.size + 1, 1, none⟩ (.int .i64 (M - f + 1 + 12))).alloc (Obj.cells #[(.int .i64 Y), (.int .i64 M), (.int .i64 D)] 67))).alloc (Nat.le_refl _) (Obj.cells #[(.int .i64 (Y - 1)), (.int .i64 (M - f + 1 + 12))] 25)) P0_18.out.lt)
    have P1_19 := Lib.hid (P1_18.out.below ((Below.refl (((((W13.setCell ⟨w.heap.size + 1, 0, none⟩ (.int .i64 Y)).setCell ⟨w.heap.size + 1, 1, none⟩ (.int .i64 (M - f + 1))).setCell ⟨w.heap.size + 1, 0, none⟩ (.int .i64 (Y - 1))).setCell ⟨w.heap.size + 1, 1, none⟩ (.int .i64 (M - f + 1 + 12))).alloc (Obj.cells #[(.int .i64 Y), (.int .i64 M), (.int .i64 D)] 67)).heap.size (((((W13.setCell ⟨w.heap.size + 1, 0, none⟩ (.int .i64 Y)).setCell ⟨w.heap.size + 1, 1, none⟩ (.int .i64 (M - f + 1))).setCell ⟨w.heap.size + 1, 0, none⟩ (.int .i64 (Y - 1))).setCell ⟨w.heap.size + 1, 1, none⟩ (.int .i64 (M - f + 1 + 12))).alloc (Obj.cells #[(.int .i64 Y), (.int .i64 M), (.int .i64 D)] 67))).alloc (Nat.le_refl _) (Obj.cells #[(.int .i64 (Y - 1)), (.int .i64 (M - f + 1 + 12))] 25)) P1_18.out.lt)
    have D_19 := Lib.hid (D_18.out.below ((Below.refl (((((W13.setCell ⟨w.heap.size + 1, 0, none⟩ (.int .i64 Y)).setCell ⟨w.heap.size + 1, 1, none⟩ (.int .i64 (M - f + 1))).setCell ⟨w.heap.size + 1, 0, none⟩ (.int .i64 (Y - 1))).setCell ⟨w.heap.size + 1, 1, none⟩ (.int .i64 (M - f + 1 + 12))).alloc (Obj.cells #[(.int .i64 Y), (.int .i64 M), (.int .i64 D)] 67)).heap.size (((((W13.setCell ⟨w.heap.size + 1, 0, none⟩ (.int .i64 Y)).setCell ⟨w.heap.size + 1, 1, none⟩ (.int .i64 (M - f + 1))).setCell ⟨w.heap.size + 1, 0, none⟩ (.int .i64 (Y - 1))).setCell ⟨w.heap.size + 1, 1, none⟩ (.int .i64 (M - f + 1 + 12))).alloc (Obj.cells #[(.int .i64 Y), (.int .i64 M), (.int .i64 D)] 67))).alloc (Nat.le_refl _) (Obj.cells #[(.int .i64 (Y - 1)), (.int .i64 (M - f + 1 + 12))] 25)) D_18.out.lt)
    clear lP0_13 cP0_13_0 lP1_13 cP1_13_0 cP1_13_1 fP1_13_0 fP1_13_1 lP0_15 cP0_15_0 lP1_15 cP1_15_0 cP1_15_1 fP1_15_0 fP1_15_1 lP0_16 cP0_16_0 lP1_16 cP1_16_0 cP1_16_1 fP1_16_0 fP1_16_1 lP0_17 cP0_17_0 lP1_17 cP1_17_0 cP1_17_1 fP1_17_0 fP1_17_1
    clear P0_13 P1_13 HB13 P0_14 P1_14 HB14 P0_15 P1_15 HB15 P0_16 P1_16 HB16 HB17 P0_17 P1_17 HB18 P0_18 P1_18 D_18
    generalize (((((W13.setCell ⟨w.heap.size + 1, 0, none⟩ (.int .i64 Y)).setCell ⟨w.heap.size + 1, 1, none⟩ (.int .i64 (M - f + 1))).setCell ⟨w.heap.size + 1, 0, none⟩ (.int .i64 (Y - 1))).setCell ⟨w.heap.size + 1, 1, none⟩ (.int .i64 (M - f + 1 + 12))).alloc (Obj.cells #[(.int .i64 Y), (.int .i64 M), (.int .i64 D)] 67)).alloc (Obj.cells #[(.int .i64 (Y - 1)), (.int .i64 (M - f + 1 + 12))] 25) = W20 at *
    refine (HC.out _ _ (ht.below HB19.out) S_19.out).mono ?_
    rintro e W21 ⟨rfl, hb21⟩
    have HB21 := Lib.hid (HB19.out.trans ((hb21).mono HB19.out.size))
    have P0_21 := Lib.hid (P0_19.out.below (hb21) P0_19.out.lt)
    have P1_21 := Lib.hid (P1_19.out.below (hb21) P1_19.out.lt)
    have S_21 := Lib.hid (S_19.out.below (hb21) S_19.out.lt)
    clear HB19 P0_19 P1_19 S_19 hb21
    have lP0_21 := P0_21.out.lt
    have cP0_21_0 := P0_21.out.c0
    have lP1_21 := P1_21.out.lt
    have cP1_21_0 := P1_21.out.c0
    have cP1_21_1 := P1_21.out.c1
    have fP1_21_0 := P1_21.out.f0
    have fP1_21_1 := P1_21.out.f1
    rcases HO.out with ⟨rfl, rfl, rfl⟩ | ⟨rfl, rfl, rfl⟩
    · clear HO
      go_wp2
      refine bodyPost_ret (v := .tuple #[.agg #[(.int .i64 (Y - 1)), (.int .i64 (M - f + 1 + 12))], .int .i64 0]) ?_ rfl ⟨rfl, ((HB21.out.setCell (p := ⟨w.heap.size + 1, 0, none⟩) (by simp) (.int .i64 (Y - 1))).setCell (p := ⟨w.heap.size + 1, 1, none⟩) (by simp) (.int .i64 (M - f + 1 + 12)))⟩
      have u0 := ((P1_21.out.set0 (.int .i64 (Y - 1))).set1 (.int .i64 (M - f + 1 + 12))).c0
      have u1 := ((P1_21.out.set0 (.int .i64 (Y - 1))).set1 (.int .i64 (M - f + 1 + 12))).c1
      rw [results_cell_tmp rfl]
      go_simp
    · clear HO
      go_wp2
      refine bodyPost_ret (v := .tuple #[.agg #[(.int .i64 0), (.int .i64 0)], .int .i64 16]) ?_ rfl ⟨rfl, ((HB21.out.setCell (p := ⟨w.heap.size + 1, 0, none⟩) (by simp) (.int .i64 0)).setCell (p := ⟨w.heap.size + 1, 1, none⟩) (by simp) (.int .i64 0))⟩
      have u0 := ((P1_21.out.set0 (.int .i64 0)).set1 (.int .i64 0)).c0
      have u1 := ((P1_21.out.set0 (.int .i64 0)).set1 (.int .i64 0)).c1
      rw [results_cell_tmp rfl]
      go_simp
  · have e1 : pyV f Y M = Y := if_neg hlt
    have e2 : pnV f M = M - f + 1 := by unfold pnV; rw [if_neg hlt]
    rw [e1, e2] at HC HO
    clear e1 e2
    generalize ofX f Y M = X at *
    generalize ofY f Y M = XY at *
    generalize ofP f Y M = XP at *
    go_enter Tryd.func16, Tryd.ntmps16
    go_wp2_with fail
    have P0_22 := Lib.hid (show Cell1 ((w.alloc (Obj.cells #[(.int .i64 f)] 23)).alloc (Obj.cells #[(.int .i64 0), (.int .i64 0)] 25)) (w.heap.size) (.int .i64 f) from by have q := Cell1.alloc w (.int .i64 f) 23; exact q.below (N := w.heap.size + 1) ((Below.refl _ _).alloc (by simp <;> omega) (Obj.cells #[(.int .i64 0), (.int .i64 0)] 25)) (by omega))
    have P1_22 := Lib.hid (show Cell2 ((w.alloc (Obj.cells #[(.int .i64 f)] 23)).alloc (Obj.cells #[(.int .i64 0), (.int .i64 0)] 25)) (w.heap.size + 1) (.int .i64 0) (.int .i64 0) from by simpa using Cell2.alloc (w.alloc (Obj.cells #[(.int .i64 f)] 23)) (.int .i64 0) (.int .i64 0) 25)
    have HB22 := Lib.hid (((Below.refl w.heap.size w).alloc (Nat.le_refl _) (Obj.cells #[(.int .i64 f)] 23)).alloc (by simp) (Obj.cells #[(.int .i64 0), (.int .i64 0)] 25))
    generalize ((w.alloc (Obj.cells #[(.int .i64 f)] 23)).alloc (Obj.cells #[(.int .i64 0), (.int .i64 0)] 25)) = W22 at *
    refine (HR.out _).mono ?_
    rintro e W23 ⟨rfl, hb23⟩
    have HB23 := Lib.hid (HB22.out.trans ((hb23).mono HB22.out.size))
    have P0_23 := Lib.hid (P0_22.out.below (hb23) P0_22.out.lt)
    have P1_23 := Lib.hid (P1_22.out.below (hb23) P1_22.out.lt)
    clear HB22 P0_22 P1_22 hb23
    go_wp2_with fail
    refine (HD.out _ (ht.below HB23.out)).mono ?_
    rintro e W24 ⟨rfl, hb24⟩
    have HB24 := Lib.hid (HB23.out.trans ((hb24).mono HB23.out.size))
    have P0_24 := Lib.hid (P0_23.out.below (hb24) P0_23.out.lt)
    have P1_24 := Lib.hid (P1_23.out.below (hb24) P1_23.out.lt)
    clear HB23 P0_23 P1_23 hb24
    have lP0_24 := P0_24.out.lt
    have cP0_24_0 := P0_24.out.c0
    have lP1_24 := P1_24.out.lt
    have cP1_24_0 := P1_24.out.c0
    have cP1_24_1 := P1_24.out.c1
    have fP1_24_0 := P1_24.out.f0
    have fP1_24_1 := P1_24.out.f1
    have P0_25 := Lib.hid (P0_24.out.far (B' := w.heap.size + 1) (by omega) 0 (.int .i64 Y))
    have P1_25 := Lib.hid (P1_24.out.set0 (.int .i64 Y))
    have HB25 := Lib.hid (HB24.out.setCell (p := ⟨w.heap.size + 1, 0, none⟩) (by simp <;> omega) (.int .i64 Y))
    have P0_26 := Lib.hid (P0_25.out.far (B' := w.heap.size + 1) (by omega) 1 (.int .i64 (M - f + 1)))
    have P1_26 := Lib.hid (P1_25.out.set1 (.int .i64 (M - f + 1)))
    have HB26 := Lib.hid (HB25.out.setCell (p := ⟨w.heap.size + 1, 1, none⟩) (by simp <;> omega) (.int .i64 (M - f + 1)))
    have lP0_26 := P0_26.out.lt
    have cP0_26_0 := P0_26.out.c0
    have lP1_26 := P1_26.out.lt
    have cP1_26_0 := P1_26.out.c0
    have cP1_26_1 := P1_26.out.c1
    have fP1_26_0 := P1_26.out.f0
    have fP1_26_1 := P1_26.out.f1
    go_wp2_with fail
    have oD_P0_26 := P0_26.out.lt
    have oD_P1_26 := P1_26.out.lt
    have D_27 := Lib.hid (show Cell3 (((W24.setCell ⟨w.heap.size + 1, 0, none⟩ (.int .i64 Y)).setCell ⟨w.heap.size + 1, 1, none⟩ (.int .i64 (M - f + 1))).alloc (Obj.cells #[(.int .i64 Y), (.int .i64 M), (.int .i64 D)] 67)) (W24.heap.size) (.int .i64 Y) (.int .i64 M) (.int .i64 D) from by simpa using Cell3.alloc ((W24.setCell ⟨w.heap.size + 1, 0, none⟩ (.int .i64 Y)).setCell ⟨w.heap.size + 1, 1, none⟩ (.int .i64 (M - f + 1))) (.int .i64 Y) (.int .i64 M) (.int .i64 D) 67)
    have HB27 := Lib.hid (HB26.out.trans (((Below.refl ((W24.setCell ⟨w.heap.size + 1, 0, none⟩ (.int .i64 Y)).setCell ⟨w.heap.size + 1, 1, none⟩ (.int .i64 (M - f + 1))).heap.size ((W24.setCell ⟨w.heap.size + 1, 0, none⟩ (.int .i64 Y)).setCell ⟨w.heap.size + 1, 1, none⟩ (.int .i64 (M - f + 1)))).alloc (Nat.le_refl _) (Obj.cells #[(.int .i64 Y), (.int .i64 M), (.int .i64 D)] 67)).mono HB26.out.size))
    have P0_27 := Lib.hid (P0_26.out.below ((Below.refl ((W24.setCell ⟨w.heap.size + 1, 0, none⟩ (.int .i64 Y)).setCell ⟨w.heap.size + 1, 1, none⟩ (.int .i64 (M - f + 1))).heap.size ((W24.setCell ⟨w.heap.size + 1, 0, none⟩ (.int .i64 Y)).setCell ⟨w.heap.size + 1, 1, none⟩ (.int .i64 (M - f + 1)))).alloc (Nat.le_refl _) (Obj.cells #[(.int .i64 Y), (.int .i64 M), (.int .i64 D)] 67)) P0_26.out.lt)
    have P1_27 := Lib.hid (P1_26.out.below ((Below.refl ((W24.setCell ⟨w.heap.size + 1, 0, none⟩ (.int .i64 Y)).setCell ⟨w.heap.size + 1, 1, none⟩ (.int .i64 (M - f + 1))).heap.size ((W24.setCell ⟨w.heap.size + 1, 0, none⟩ (.int .i64 Y)).setCell ⟨w.heap.size + 1, 1, none⟩ (.int .i64 (M - f + 1)))).alloc (Nat.le_refl _) (Obj.cells #[(.int .i64 Y), (.int .i64 M), (.int .i64 D)] 67)) P1_26.out.lt)
    have oS_P0_27 := P0_27.out.lt
    have oS_P1_27 := P1_27.out.lt
    have oS_D_27 := D_27.out.lt
    have S_28 := Lib.hid (show Cell2 ((((W24.setCell ⟨w.heap.size + 1, 0, none⟩ (.int .i64 Y)).setCell ⟨w.heap.size + 1, 1, none⟩ (.int .i64 (M - f + 1))).alloc (Obj.cells #[(.int .i64 Y), (.int .i64 M), (.int .i64 D)] 67)).alloc (Obj.cells #[(.int .i64 Y), (.int .i64 (M - f + 1))] 25)) (W24.heap.size + 1) (.int .i64 Y) (.int .i64 (M - f + 1)) from by simpa using Cell2.alloc (((W24.setCell ⟨w.heap.size + 1, 0, none⟩ (.int .i64 Y)).setCell ⟨w.heap.size + 1, 1, none⟩ (.int .i64 (M - f + 1))).alloc (Obj.cells #[(.int .i64 Y), (.int .i64 M), (.int .i64 D)] 67)) (.int .i64 Y) (.int .i64 (M - f + 1)) 25)
    have HB28 := Lib.hid (HB27.out.trans (((Below.refl (((W24.setCell ⟨w.heap.size + 1, 0, none⟩ (.int .i64 Y)).setCell ⟨w.heap.size + 1, 1, none⟩ (.int .i64 (M - f + 1))).alloc (Obj.cells #[(.int .i64 Y), (.int .i64 M), (.int .i64 D)] 67)).heap.size (((W24.setCell ⟨w.heap.size + 1, 0, none⟩ (.int .i64 Y)).setCell ⟨w.heap.size + 1, 1, none⟩ (.int .i64 (M - f + 1))).alloc (Obj.cells #[(.int .i64 Y), (.int .i64 M), (.int .i64 D)] 67))).alloc (Nat.le_refl _) (Obj.cells #[(.int .i64 Y), (.int .i64 (M - f + 1))] 25)).mono HB27.out.size))
    have P0_28 := Lib.hid (P0_27.out.below ((Below.refl (((W24.setCell ⟨w.heap.size + 1, 0, none⟩ (.int .i64 Y)).setCell ⟨w.heap.size + 1, 1, none⟩ (.int .i64 (M - f + 1))).alloc (Obj.cells #[(.int .i64 Y), (.int .i64 M), (.int .i64 D)] 67)).heap.size (((W24.setCell ⟨w.heap.size + 1, 0, none⟩ (.int .i64 Y)).setCell ⟨w.heap.size + 1, 1, none⟩ (.int .i64 (M - f + 1))).alloc (Obj.cells #[(.int .i64 Y), (.int .i64 M), (.int .i64 D)] 67))).alloc (Nat.le_refl _) (Obj.cells #[(.int .i64 Y), (.int .i64 (M - f + 1))] 25)) P0_27.out.lt)
    have P1_28 := Lib.hid (P1_27.out.below ((Below.refl (((W24.setCell ⟨w.heap.size + 1, 0, none⟩ (.int .i64 Y)).setCell ⟨w.heap.size + 1, 1, none⟩ (.int .i64 (M - f + 1))).alloc (Obj.cells #[(.int .i64 Y), (.int .i64 M), (.int .i64 D)] 67)).heap.size (((W24.setCell ⟨w.heap.size + 1, 0, none⟩ (.int .i64 Y)).setCell ⟨w.heap.size + 1, 1, none⟩ (.int .i64 (M - f + 1))).alloc (Obj.cells #[(.int .i64 Y), (.int .i64 M), (.int .i64 D)] 67))).alloc (Nat.le_refl _) (Obj.cells #[(.int .i64 Y), (.int .i64 (M - f + 1))] 25)) P1_27.out.lt)
    have D_28 := Lib.hid (D_27.out.below ((Below.refl (((W24.setCell ⟨w.heap.size + 1, 0, none⟩ (.int .i64 Y)).setCell ⟨w.heap.size + 1, 1, none⟩ (.int .i64 (M - f + 1))).alloc (Obj.cells #[(.int .i64 Y), (.int .i64 M), (.int .i64 D)] 67)).heap.size (((W24.setCell ⟨w.heap.size + 1, 0, none⟩ (.int .i64 Y)).setCell ⟨w.heap.size + 1, 1, none⟩ (.int .i64 (M - f + 1))).alloc (Obj.cells #[(.int .i64 Y), (.int .i64 M), (.int .i64 D)] 67))).alloc (Nat.le_refl _) (Obj.cells #[(.int .i64 Y), (.int .i64 (M - f + 1))] 25)) D_27.out.lt)
    clear lP0_24 cP0_24_0 lP1_24 cP1_24_0 cP1_24_1 fP1_24_0 fP1_24_1 lP0_26 cP0_26_0 lP1_26 cP1_26_0 cP1_26_1 fP1_26_0 fP1_26_1
    clear P0_24 P1_24 HB24 P0_25 P1_25 HB25 HB26 P0_26 P1_26 HB27 P0_27 P1_27 D_27
    generalize (((W24.setCell ⟨w.heap.size + 1, 0, none⟩ (.int .i64 Y)).setCell ⟨w.heap.size + 1, 1, none⟩ (.int .i64 (M - f + 1))).alloc (Obj.cells #[(.int .i64 Y), (.int .i64 M), (.int .i64 D)] 67)).alloc (Obj.cells #[(.int .i64 Y), (.int .i64 (M - f + 1))] 25) = W29 at *
    refine (HC.out _ _ (ht.below HB28.out) S_28.out).mono ?_
    rintro e W30 ⟨rfl, hb30⟩
    have HB30 := Lib.hid (HB28.out.trans ((hb30).mono HB28.out.size))
    have P0_30 := Lib.hid (P0_28.out.below (hb30) P0_28.out.lt)
    have P1_30 := Lib.hid (P1_28.out.below (hb30) P1_28.out.lt)
    have S_30 := Lib.hid (S_28.out.below (hb30) S_28.out.lt)
    clear HB28 P0_28 P1_28 S_28 hb30
    have lP0_30 := P0_30.out.lt
    have cP0_30_0 := P0_30.out.c0
    have lP1_30 := P1_30.out.lt
    have cP1_30_0 := P1_30.out.c0
    have cP1_30_1 := P1_30.out.c1
    have fP1_30_0 := P1_30.out.f0
    have fP1_30_1 := P1_30.out.f1
    rcases HO.out with ⟨rfl, h2, rfl⟩ | ⟨rfl, rfl, rfl⟩
    · clear HO
      obtain rfl : Y = XY := h2.symm
      go_wp2
      refine bodyPost_ret (v := .tuple #[.agg #[(.int .i64 Y), (.int .i64 (M - f + 1))], .int .i64 0]) ?_ rfl ⟨rfl, ((HB30.out.setCell (p := ⟨w.heap.size + 1, 0, none⟩) (by simp) (.int .i64 Y)).setCell (p := ⟨w.heap.size + 1, 1, none⟩) (by simp) (.int .i64 (M - f + 1)))⟩
      have u0 := ((P1_30.out.set0 (.int .i64 Y)).set1 (.int .i64 (M - f + 1))).c0
      have u1 := ((P1_30.out.set0 (.int .i64 Y)).set1 (.int .i64 (M - f + 1))).c1
      rw [results_cell_tmp rfl]
      go_simp
    · clear HO
      go_wp2
      refine bodyPost_ret (v := .tuple #[.agg #[(.int .i64 0), (.int .i64 0)], .int .i64 16]) ?_ rfl ⟨rfl, ((HB30.out.setCell (p := ⟨w.heap.size + 1, 0, none⟩) (by simp) (.int .i64 0)).setCell (p := ⟨w.heap.size + 1, 1, none⟩) (by simp) (.int .i64 0))⟩
      have u0 := ((P1_30.out.set0 (.int .i64 0)).set1 (.int .i64 0)).c0
      have u1 := ((P1_30.out.set0 (.int .i64 0)).set1 (.int .i64 0)).c1
      rw [results_cell_tmp rfl]
      go_simp

set_option maxHeartbeats 4000000 in
theorem rfOf_any (f n Y M D : Int) (w : World) (hf : calO f) (hd : IsDate n Y M D) :
    Calls Tryd.prog 17 #[.agg #[.int .i64 f], .int .i64 n] w fun e w' => e = .returned (.tuple #[.agg #[.int .i64 (ofY f Y M), .int .i64 (ofP f Y M)], .int .i64 (ofX f Y M)]) ∧ Below w.heap.size w w' := by
  have HR := Lib.hid (fun w => rfRight_any f w)
  rw [decide_eq_true hf] at HR
  have HD := Lib.hid (fun w => rDate_any n Y M D w hd)
  have hm := hd.1.m
  have hY1 := hd.1.1
  have hY2 := hd.1.2.1
  have HC := Lib.hid (fun w => rYear_any f (pyV f Y M) w hf (by unfold pyV; split <;> omega) (by unfold pyV; split <;> omega))
  have HO := Lib.hid (show (decide (yrO f (pyV f Y M)) = true ∧ ofX f Y M = 0 ∧ ofY f Y M = pyV f Y M ∧ ofP f Y M = pnV f M) ∨ (decide (yrO f (pyV f Y M)) = false ∧ ofX f Y M = 16 ∧ ofY f Y M = 0 ∧ ofP f Y M = 0) from by
    by_cases h : yrO f (pyV f Y M)
    · have := of_yes h; exact .inl ⟨decide_eq_true h, this.2.2, this.1, this.2.1⟩
    · have := of_not h; exact .inr ⟨decide_eq_false h, this.2.2, this.1, this.2.1⟩)
  clear hd
  generalize decide (yrO f (pyV f Y M)) = b at *
  obtain ⟨f1, f2⟩ := hf
  obtain ⟨m1, m2⟩ := hm
  by_cases hlt : M < f
  · have e1 : pyV f Y M = Y - 1 := if_pos hlt
    have e2 : pnV f M = M - f + 13 := if_pos hlt
    rw [e1] at HC
    rw [e1, e2] at HO
    clear e1 e2
    generalize ofX f Y M = X at *
    generalize ofY f Y M = XY at *
    generalize ofP f Y M = XP at *
    go_enter Tryd.func17, Tryd.ntmps17
    go_wp2_with fail
    have P0_31 := Lib.hid (show Cell1 ((w.alloc (Obj.cells #[(.int .i64 f)] 23)).alloc (Obj.cells #[(.int .i64 0), (.int .i64 0)] 25)) (w.heap.size) (.int .i64 f) from by have q := Cell1.alloc w (.int .i64 f) 23; exact q.below (N := w.heap.size + 1) ((Below.refl _ _).alloc (by simp <;> omega) (Obj.cells #[(.int .i64 0), (.int .i64 0)] 25)) (by omega))
    have P1_31 := Lib.hid (show Cell2 ((w.alloc (Obj.cells #[(.int .i64 f)] 23)).alloc (Obj.cells #[(.int .i64 0), (.int .i64 0)] 25)) (w.heap.size + 1) (.int .i64 0) (.int .i64 0) from by simpa using Cell2.alloc (w.alloc (Obj.cells #[(.int .i64 f)] 23)) (.int .i64 0) (.int .i64 0) 25)
    have HB31 := Lib.hid (((Below.refl w.heap.size w).alloc (Nat.le_refl _) (Obj.cells #[(.int .i64 f)] 23)).alloc (by simp) (Obj.cells #[(.int .i64 0), (.int .i64 0)] 25))
    generalize ((w.alloc (Obj.cells #[(.int .i64 f)] 23)).alloc (Obj.cells #[(.int .i64 0), (.int .i64 0)] 25)) = W31 at *
    refine (HR.out _).mono ?_
    rintro e W32 ⟨rfl, hb32⟩
    have HB32 := Lib.hid (HB31.out.trans ((hb32).mono HB31.out.size))
    have P0_32 := Lib.hid (P0_31.out.below (hb32) P0_31.out.lt)
    have P1_32 := Lib.hid (P1_31.out.below (hb32) P1_31.out.lt)
    clear HB31 P0_31 P1_31 hb32
    go_wp2_with fail
    refine (HD.out _).mono ?_
    rintro e W33 ⟨rfl, hb33⟩
    have HB33 := Lib.hid (HB32.out.trans ((hb33).mono HB32.out.size))
    have P0_33 := Lib.hid (P0_32.out.below (hb33) P0_32.out.lt)
    have P1_33 := Lib.hid (P1_32.out.below (hb33) P1_32.out.lt)
    clear HB32 P0_32 P1_32 hb33
    have lP0_33 := P0_33.out.lt
    have cP0_33_0 := P0_33.out.c0
    have lP1_33 := P1_33.out.lt
    have cP1_33_0 := P1_33.out.c0
    have cP1_33_1 := P1_33.out.c1
    go_wp2_with fail
    have oD_P0_33 := P0_33.out.lt
    have oD_P1_33 := P1_33.out.lt
    have D_34 := Lib.hid (show Cell3 (W33.alloc (Obj.cells #[(.int .i64 Y), (.int .i64 M), (.int .i64 D)] 67)) (W33.heap.size) (.int .i64 Y) (.int .i64 M) (.int .i64 D) from by exact Cell3.alloc W33 (.int .i64 Y) (.int .i64 M) (.int .i64 D) 67)
    have HB34 := Lib.hid (HB33.out.trans (((Below.refl W33.heap.size W33).alloc (Nat.le_refl _) (Obj.cells #[(.int .i64 Y), (.int .i64 M), (.int .i64 D)] 67)).mono HB33.out.size))
    have P0_34 := Lib.hid (P0_33.out.below ((Below.refl W33.heap.size W33).alloc (Nat.le_refl _) (Obj.cells #[(.int .i64 Y), (.int .i64 M), (.int .i64 D)] 67)) P0_33.out.lt)
    have P1_34 := Lib.hid (P1_33.out.below ((Below.refl W33.heap.size W33).alloc (Nat.le_refl _) (Obj.cells #[(.int .i64 Y), (.int .i64 M), (.int .i64 D)] 67)) P1_33.out.lt)
    have oQ_P0_34 := P0_34.out.lt
    have oQ_P1_34 := P1_34.out.lt
    have oQ_D_34 := D_34.out.lt
    have Q_35 := Lib.hid (show Cell2 ((W33.alloc (Obj.cells #[(.int .i64 Y), (.int .i64 M), (.int .i64 D)] 67)).alloc (Obj.cells #[(.int .i64 (Y - 1)), (.int .i64 (M - f + 13))] 25)) (W33.heap.size + 1) (.int .i64 (Y - 1)) (.int .i64 (M - f + 13)) from by simpa using Cell2.alloc (W33.alloc (Obj.cells #[(.int .i64 Y), (.int .i64 M), (.int .i64 D)] 67)) (.int .i64 (Y - 1)) (.int .i64 (M - f + 13)) 25)
    have HB35 := Lib.hid (HB34.out.trans (((Below.refl (W33.alloc (Obj.cells #[(.int .i64 Y), (.int .i64 M), (.int .i64 D)] 67)).heap.size (W33.alloc (Obj.cells #[(.int .i64 Y), (.int .i64 M), (.int .i64 D)] 67))).alloc (Nat.le_refl _) (Obj.cells #[(.int .i64 (Y - 1)), (.int .i64 (M - f + 13))] 25)).mono HB34.out.size))
    have P0_35 := Lib.hid (P0_34.out.below ((Below.refl (W33.alloc (Obj.cells #[(.int .i64 Y), (.int .i64 M), (.int .i64 D)] 67)).heap.size (W33.alloc (Obj.cells #[(.int .i64 Y), (.int .i64 M), (.int .i64 D)] 67))).alloc (Nat.le_refl _) (Obj.cells #[(.int .i64 (Y - 1)), (.int .i64 (M - f + 13))] 25)) P0_34.out.lt)
    have P1_35 := Lib.hid (P1_34.out.below ((Below.refl (W33.alloc (Obj.cells #[(.int .i64 Y), (.int .i64 M), (.int .i64 D)] 67)).heap.size (W33.alloc (Obj.cells #[(.int .i64 Y), (.int .i64 M), (.int .i64 D)] 67))).alloc (Nat.le_refl _) (Obj.cells #[(.int .i64 (Y - 1)), (.int .i64 (M - f + 13))] 25)) P1_34.out.lt)
    have D_35 := Lib.hid (D_34.out.below ((Below.refl (W33.alloc (Obj.cells #[(.int .i64 Y), (.int .i64 M), (.int .i64 D)] 67)).heap.size (W33.alloc (Obj.cells #[(.int .i64 Y), (.int .i64 M), (.int .i64 D)] 67))).alloc (Nat.le_refl _) (Obj.cells #[(.int .i64 (Y - 1)), (.int .i64 (M - f + 13))] 25)) D_34.out.lt)
    clear lP0_33 cP0_33_0 lP1_33 cP1_33_0 cP1_33_1
    clear HB33 P0_33 P1_33 HB34 P0_34 P1_34 D_34
    generalize (W33.alloc (Obj.cells #[(.int .i64 Y), (.int .i64 M), (.int .i64 D)] 67)).alloc (Obj.cells #[(.int .i64 (Y - 1)), (.int .i64 (M - f + 13))] 25) = W36 at *
    refine (HC.out _).mono ?_
    rintro e W37 ⟨rfl, hb37⟩
    have HB37 := Lib.hid (HB35.out.trans ((hb37).mono HB35.out.size))
    have P0_37 := Lib.hid (P0_35.out.below (hb37) P0_35.out.lt)
    have P1_37 := Lib.hid (P1_35.out.below (hb37) P1_35.out.lt)
    have Q_37 := Lib.hid (Q_35.out.below (hb37) Q_35.out.lt)
    clear HB35 P0_35 P1_35 Q_35 hb37
    have lP0_37 := P0_37.out.lt
    have cP0_37_0 := P0_37.out.c0
    have lP1_37 := P1_37.out.lt
    have cP1_37_0 := P1_37.out.c0
    have cP1_37_1 := P1_37.out.c1
    have lQ_37 := Q_37.out.lt
    have cQ_37_0 := Q_37.out.c0
    have cQ_37_1 := Q_37.out.c1
    have fP1_37_0 := P1_37.out.f0
    have fP1_37_1 := P1_37.out.f1
    rcases HO.out with ⟨rfl, rfl, H2, rfl⟩ | ⟨rfl, rfl, rfl, rfl⟩
    · clear HO
      obtain rfl := H2
      go_wp2
      refine bodyPost_ret (v := .tuple #[.agg #[(.int .i64 (Y - 1)), (.int .i64 (M - f + 13))], .int .i64 0]) ?_ rfl ⟨rfl, ((HB37.out.setCell (p := ⟨w.heap.size + 1, 0, none⟩) (by simp) (.int .i64 (Y - 1))).setCell (p := ⟨w.heap.size + 1, 1, none⟩) (by simp) (.int .i64 (M - f + 13)))⟩
      have u0 := ((P1_37.out.set0 (.int .i64 (Y - 1))).set1 (.int .i64 (M - f + 13))).c0
      have u1 := ((P1_37.out.set0 (.int .i64 (Y - 1))).set1 (.int .i64 (M - f + 13))).c1
      rw [results_cell_tmp rfl]
      go_simp
    · clear HO
      go_wp2
      refine bodyPost_ret (v := .tuple #[.agg #[(.int .i64 0), (.int .i64 0)], .int .i64 16]) ?_ rfl ⟨rfl, ((HB37.out.setCell (p := ⟨w.heap.size + 1, 0, none⟩) (by simp) (.int .i64 0)).setCell (p := ⟨w.heap.size + 1, 1, none⟩) (by simp) (.int .i64 0))⟩
      have u0 := ((P1_37.out.set0 (.int .i64 0)).set1 (.int .i64 0)).c0
      have u1 := ((P1_37.out.set0 (.int .i64 0)).set1 (.int .i64 0)).c1
      rw [results_cell_tmp rfl]
      go_simp
  · have e1 : pyV f Y M = Y := if_neg hlt
    have e2 : pnV f M = M - f + 1 := if_neg hlt
    rw [e1] at HC
    rw [e1, e2] at HO
    clear e1 e2
    generalize ofX f Y M = X at *
    generalize ofY f Y M = XY at *
    generalize ofP f Y M = XP at *
    go_enter Tryd.func17, Tryd.ntmps17
    go_wp2_with fail
    have P0_38 := Lib.hid (show Cell1 ((w.alloc (Obj.cells #[(.int .i64 f)] 23)).alloc (Obj.cells #[(.int .i64 0), (.int .i64 0)] 25)) (w.heap.size) (.int .i64 f) from by have q := Cell1.alloc w (.int .i64 f) 23; exact q.below (N := w.heap.size + 1) ((Below.refl _ _).alloc (by simp <;> omega) (Obj.cells #[(.int .i64 0), (.int .i64 0)] 25)) (by omega))
    have P1_38 := Lib.hid (show Cell2 ((w.alloc (Obj.cells #[(.int .i64 f)] 23)).alloc (Obj.cells #[(.int .i64 0), (.int .i64 0)] 25)) (w.heap.size + 1) (.int .i64 0) (.int .i64 0) from by simpa using Cell2.alloc (w.alloc (Obj.cells #[(.int .i64 f)] 23)) (.int .i64 0) (.int .i64 0) 25)
    have HB38 := Lib.hid (((Below.refl w.heap.size w).alloc (Nat.le_refl _) (Obj.cells #[(.int .i64 f)] 23)).alloc (by simp) (Obj.cells #[(.int .i64 0), (.int .i64 0)] 25))
    generalize ((w.alloc (Obj.cells #[(.int .i64 f)] 23)).alloc (Obj.cells #[(.int .i64 0), (.int .i64 0)] 25)) = W38 at *
    refine (HR.out _).mono ?_
    rintro e W39 ⟨rfl, hb39⟩
    have HB39 := Lib.hid (HB38.out.trans ((hb39).mono HB38.out.size))
    have P0_39 := Lib.hid (P0_38.out.below (hb39) P0_38.out.lt)
    have P1_39 := Lib.hid (P1_38.out.below (hb39) P1_38.out.lt)
    clear HB38 P0_38 P1_38 hb39
    go_wp2_with fail
    refine (HD.out _).mono ?_
    rintro e W40 ⟨rfl, hb40⟩
    have HB40 := Lib.hid (HB39.out.trans ((hb40).mono HB39.out.size))
    have P0_40 := Lib.hid (P0_39.out.below (hb40) P0_39.out.lt)
    have P1_40 := Lib.hid (P1_39.out.below (hb40) P1_39.out.lt)
    clear HB39 P0_39 P1_39 hb40
    have lP0_40 := P0_40.out.lt
    have cP0_40_0 := P0_40.out.c0
    have lP1_40 := P1_40.out.lt
    have cP1_40_0 := P1_40.out.c0
    have cP1_40_1 := P1_40.out.c1
    go_wp2_with fail
    have oD_P0_40 := P0_40.out.lt
    have oD_P1_40 := P1_40.out.lt
    have D_41 := Lib.hid (show Cell3 (W40.alloc (Obj.cells #[(.int .i64 Y), (.int .i64 M), (.int .i64 D)] 67)) (W40.heap.size) (.int .i64 Y) (.int .i64 M) (.int .i64 D) from by exact Cell3.alloc W40 (.int .i64 Y) (.int .i64 M) (.int .i64 D) 67)
    have HB41 := Lib.hid (HB40.out.trans (((Below.refl W40.heap.size W40).alloc (Nat.le_refl _) (Obj.cells #[(.int .i64 Y), (.int .i64 M), (.int .i64 D)] 67)).mono HB40.out.size))
    have P0_41 := Lib.hid (P0_40.out.below ((Below.refl W40.heap.size W40).alloc (Nat.le_refl _) (Obj.cells #[(.int .i64 Y), (.int .i64 M), (.int .i64 D)] 67)) P0_40.out.lt)
    have P1_41 := Lib.hid (P1_40.out.below ((Below.refl W40.heap.size W40).alloc (Nat.le_refl _) (Obj.cells #[(.int .i64 Y), (.int .i64 M), (.int .i64 D)] 67)) P1_40.out.lt)
    have oQ_P0_41 := P0_41.out.lt
    have oQ_P1_41 := P1_41.out.lt
    have oQ_D_41 := D_41.out.lt
    have Q_42 := Lib.hid (show Cell2 ((W40.alloc (Obj.cells #[(.int .i64 Y), (.int .i64 M), (.int .i64 D)] 67)).alloc (Obj.cells #[(.int .i64 Y), (.int .i64 (M - f + 1))] 25)) (W40.heap.size + 1) (.int .i64 Y) (.int .i64 (M - f + 1)) from by simpa using Cell2.alloc (W40.alloc (Obj.cells #[(.int .i64 Y), (.int .i64 M), (.int .i64 D)] 67)) (.int .i64 Y) (.int .i64 (M - f + 1)) 25)
    have HB42 := Lib.hid (HB41.out.trans (((Below.refl (W40.alloc (Obj.cells #[(.int .i64 Y), (.int .i64 M), (.int .i64 D)] 67)).heap.size (W40.alloc (Obj.cells #[(.int .i64 Y), (.int .i64 M), (.int .i64 D)] 67))).alloc (Nat.le_refl _) (Obj.cells #[(.int .i64 Y), (.int .i64 (M - f + 1))] 25)).mono HB41.out.size))
    have P0_42 := Lib.hid (P0_41.out.below ((Below.refl (W40.alloc (Obj.cells #[(.int .i64 Y), (.int .i64 M), (.int .i64 D)] 67)).heap.size (W40.alloc (Obj.cells #[(.int .i64 Y), (.int .i64 M), (.int .i64 D)] 67))).alloc (Nat.le_refl _) (Obj.cells #[(.int .i64 Y), (.int .i64 (M - f + 1))] 25)) P0_41.out.lt)
    have P1_42 := Lib.hid (P1_41.out.below ((Below.refl (W40.alloc (Obj.cells #[(.int .i64 Y), (.int .i64 M), (.int .i64 D)] 67)).heap.size (W40.alloc (Obj.cells #[(.int .i64 Y), (.int .i64 M), (.int .i64 D)] 67))).alloc (Nat.le_refl _) (Obj.cells #[(.int .i64 Y), (.int .i64 (M - f + 1))] 25)) P1_41.out.lt)
    have D_42 := Lib.hid (D_41.out.below ((Below.refl (W40.alloc (Obj.cells #[(.int .i64 Y), (.int .i64 M), (.int .i64 D)] 67)).heap.size (W40.alloc (Obj.cells #[(.int .i64 Y), (.int .i64 M), (.int .i64 D)] 67))).alloc (Nat.le_refl _) (Obj.cells #[(.int .i64 Y), (.int .i64 (M - f + 1))] 25)) D_41.out.lt)
    clear lP0_40 cP0_40_0 lP1_40 cP1_40_0 cP1_40_1
    clear HB40 P0_40 P1_40 HB41 P0_41 P1_41 D_41
    generalize (W40.alloc (Obj.cells #[(.int .i64 Y), (.int .i64 M), (.int .i64 D)] 67)).alloc (Obj.cells #[(.int .i64 Y), (.int .i64 (M - f + 1))] 25) = W43 at *
    refine (HC.out _).mono ?_
    rintro e W44 ⟨rfl, hb44⟩
    have HB44 := Lib.hid (HB42.out.trans ((hb44).mono HB42.out.size))
    have P0_44 := Lib.hid (P0_42.out.below (hb44) P0_42.out.lt)
    have P1_44 := Lib.hid (P1_42.out.below (hb44) P1_42.out.lt)
    have Q_44 := Lib.hid (Q_42.out.below (hb44) Q_42.out.lt)
    clear HB42 P0_42 P1_42 Q_42 hb44
    have lP0_44 := P0_44.out.lt
    have cP0_44_0 := P0_44.out.c0
    have lP1_44 := P1_44.out.lt
    have cP1_44_0 := P1_44.out.c0
    have cP1_44_1 := P1_44.out.c1
    have lQ_44 := Q_44.out.lt
    have cQ_44_0 := Q_44.out.c0
    have cQ_44_1 := Q_44.out.c1
    have fP1_44_0 := P1_44.out.f0
    have fP1_44_1 := P1_44.out.f1
    rcases HO.out with ⟨rfl, rfl, H2, rfl⟩ | ⟨rfl, rfl, rfl, rfl⟩
    · clear HO
      obtain rfl := H2.symm
      go_wp2
      refine bodyPost_ret (v := .tuple #[.agg #[(.int .i64 Y), (.int .i64 (M - f + 1))], .int .i64 0]) ?_ rfl ⟨rfl, ((HB44.out.setCell (p := ⟨w.heap.size + 1, 0, none⟩) (by simp) (.int .i64 Y)).setCell (p := ⟨w.heap.size + 1, 1, none⟩) (by simp) (.int .i64 (M - f + 1)))⟩
      have u0 := ((P1_44.out.set0 (.int .i64 Y)).set1 (.int .i64 (M - f + 1))).c0
      have u1 := ((P1_44.out.set0 (.int .i64 Y)).set1 (.int .i64 (M - f + 1))).c1
      rw [results_cell_tmp rfl]
      go_simp
    · clear HO
      go_wp2
      refine bodyPost_ret (v := .tuple #[.agg #[(.int .i64 0), (.int .i64 0)], .int .i64 16]) ?_ rfl ⟨rfl, ((HB44.out.setCell (p := ⟨w.heap.size + 1, 0, none⟩) (by simp) (.int .i64 0)).setCell (p := ⟨w.heap.size + 1, 1, none⟩) (by simp) (.int .i64 0))⟩
      have u0 := ((P1_44.out.set0 (.int .i64 0)).set1 (.int .i64 0)).c0
      have u1 := ((P1_44.out.set0 (.int .i64 0)).set1 (.int .i64 0)).c1
      rw [results_cell_tmp rfl]
      go_simp
end Go.Proofs.YtaibjmdfkahjjaaDoor
