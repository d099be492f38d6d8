/- What For of the packages fiscal and accountingref05 returns. -/
import Derived.Test.YtaibjmdfkahjjaaDoorFsD
namespace Go.Proofs.YtaibjmdfkahjjaaDoor
open Go.RowKit Go.Sort
set_option linter.unusedVariables false

/-- the number of the period to which an entry belongs. -/
def forB (R n k b : Int) : Int := if (k = 3 ∨ k = 4) ∧ n = R then 13 else b
theorem forB_13 {R n k b : Int} (h : k = 3 ∨ k = 4) (h2 : n = R) : forB R n k b = 13 := if_pos ⟨h, h2⟩
theorem forB_no {R n k b : Int} (h : ¬ (k = 3 ∨ k = 4) ∨ n ≠ R) : forB R n k b = b := if_neg (by rintro ⟨h1, h2⟩; rcases h with h | h <;> contradiction)
def OfSays (f n a b e : Int) : Prop := ∀ w, Tab w → Calls Tryd.prog 16 #[.agg #[.int .i64 f], .int .i64 n] w fun x w' => x = .returned (.tuple #[.agg #[.int .i64 a, .int .i64 b], .int .i64 e]) ∧ Below w.heap.size w w'
def ROfSays (f n a b e : Int) : Prop := ∀ w, Calls Tryd.prog 17 #[.agg #[.int .i64 f], .int .i64 n] w fun x w' => x = .returned (.tuple #[.agg #[.int .i64 a, .int .i64 b], .int .i64 e]) ∧ Below w.heap.size w w'

set_option maxHeartbeats 1000000 in
theorem fFor_err (f n k e : Int) (w : World) (ht : Tab w) (h : OfSays f n 0 0 e) (he : e ≠ 0) :
    Calls Tryd.prog 18 #[.agg #[.int .i64 f], .int .i64 n, .int .i64 k] w fun x w' => x = .returned (.tuple #[.agg #[.int .i64 0, .int .i64 0], .int .i64 e]) ∧ Below w.heap.size w w' := by
  have HO := Lib.hid h
  clear h
  have he2 : (e == 0) = false := by simpa using he
  go_enter Tryd.func18, Tryd.ntmps18
  go_wp2_with fail
  have P0_1 := Lib.hid (show Cell1 ((w.alloc (Obj.cells #[(.int .i64 f)] 23)).alloc (Obj.cells #[(.int .i64 0), (.int .i64 0)] 25)) (w.heap.size) (.int .i64 f) from by have q := Cell1.alloc w (.int .i64 f) 23; exact q.below (N := w.heap.size + 1) ((Below.refl _ _).alloc (by simp <;> omega) (Obj.cells #[(.int .i64 0), (.int .i64 0)] 25)) (by omega))
  have P1_1 := Lib.hid (show Cell2 ((w.alloc (Obj.cells #[(.int .i64 f)] 23)).alloc (Obj.cells #[(.int .i64 0), (.int .i64 0)] 25)) (w.heap.size + 1) (.int .i64 0) (.int .i64 0) from by simpa using Cell2.alloc (w.alloc (Obj.cells #[(.int .i64 f)] 23)) (.int .i64 0) (.int .i64 0) 25)
  have HB1 := Lib.hid (((Below.refl w.heap.size w).alloc (Nat.le_refl _) (Obj.cells #[(.int .i64 f)] 23)).alloc (by simp) (Obj.cells #[(.int .i64 0), (.int .i64 0)] 25))
  generalize ((w.alloc (Obj.cells #[(.int .i64 f)] 23)).alloc (Obj.cells #[(.int .i64 0), (.int .i64 0)] 25)) = W1 at *
  refine (HO.out _ (ht.below HB1.out)).mono ?_
  rintro e W2 ⟨rfl, hb2⟩
  have HB2 := Lib.hid (HB1.out.trans ((hb2).mono HB1.out.size))
  have P0_2 := Lib.hid (P0_1.out.below (hb2) P0_1.out.lt)
  have P1_2 := Lib.hid (P1_1.out.below (hb2) P1_1.out.lt)
  clear HB1 P0_1 P1_1 hb2
  have lP0_2 := P0_2.out.lt
  have cP0_2_0 := P0_2.out.c0
  have lP1_2 := P1_2.out.lt
  have cP1_2_0 := P1_2.out.c0
  have cP1_2_1 := P1_2.out.c1
  have fP1_2_0 := P1_2.out.f0
  have fP1_2_1 := P1_2.out.f1
  have P0_3 := Lib.hid (P0_2.out.far (B' := w.heap.size + 1) (by omega) 0 (.int .i64 0))
  have P1_3 := Lib.hid (P1_2.out.set0 (.int .i64 0))
  have HB3 := Lib.hid (HB2.out.setCell (p := ⟨w.heap.size + 1, 0, none⟩) (by simp <;> omega) (.int .i64 0))
  have P0_4 := Lib.hid (P0_3.out.far (B' := w.heap.size + 1) (by omega) 1 (.int .i64 0))
  have P1_4 := Lib.hid (P1_3.out.set1 (.int .i64 0))
  have HB4 := Lib.hid (HB3.out.setCell (p := ⟨w.heap.size + 1, 1, none⟩) (by simp <;> omega) (.int .i64 0))
  have lP0_4 := P0_4.out.lt
  have cP0_4_0 := P0_4.out.c0
  have lP1_4 := P1_4.out.lt
  have cP1_4_0 := P1_4.out.c0
  have cP1_4_1 := P1_4.out.c1
  have fP1_4_0 := P1_4.out.f0
  have fP1_4_1 := P1_4.out.f1
  go_wp2
  refine bodyPost_ret (v := .tuple #[.agg #[(.int .i64 0), (.int .i64 0)], .int .i64 e]) ?_ rfl ⟨rfl, ((HB4.out.setCell (p := ⟨w.heap.size + 1, 0, none⟩) (by simp) (.int .i64 0)).setCell (p := ⟨w.heap.size + 1, 1, none⟩) (by simp) (.int .i64 0))⟩
  have u0 := ((P1_4.out.set0 (.int .i64 0)).set1 (.int .i64 0)).c0
  have u1 := ((P1_4.out.set0 (.int .i64 0)).set1 (.int .i64 0)).c1
  rw [results_cell_tmp rfl]
  go_simp
set_option maxHeartbeats 1000000 in
theorem rfFor_err (f n k e : Int) (w : World) (h : ROfSays f n 0 0 e) (he : e ≠ 0) :
    Calls Tryd.prog 19 #[.agg #[.int .i64 f], .int .i64 n, .int .i64 k] w fun x w' => x = .returned (.tuple #[.agg #[.int .i64 0, .int .i64 0], .int .i64 e]) ∧ Below w.heap.size w w' := by
  have HO := Lib.hid h
  clear h
  have he2 : (e == 0) = false := by simpa using he
  go_enter Tryd.func19, Tryd.ntmps19
  go_wp2_with fail
  have P0_5 := Lib.hid (show Cell1 ((w.alloc (Obj.cells #[(.int .i64 f)] 23)).alloc (Obj.cells #[(.int .i64 0), (.int .i64 0)] 25)) (w.heap.size) (.int .i64 f) from by have q := Cell1.alloc w (.int .i64 f) 23; exact q.below (N := w.heap.size + 1) ((Below.refl _ _).alloc (by simp <;> omega) (Obj.cells #[(.int .i64 0), (.int .i64 0)] 25)) (by omega))
  have P1_5 := Lib.hid (show Cell2 ((w.alloc (Obj.cells #[(.int .i64 f)] 23)).alloc (Obj.cells #[(.int .i64 0), (.int .i64 0)] 25)) (w.heap.size + 1) (.int .i64 0) (.int .i64 0) from by simpa using Cell2.alloc (w.alloc (Obj.cells #[(.int .i64 f)] 23)) (.int .i64 0) (.int .i64 0) 25)
  have HB5 := Lib.hid (((Below.refl w.heap.size w).alloc (Nat.le_refl _) (Obj.cells #[(.int .i64 f)] 23)).alloc (by simp) (Obj.cells #[(.int .i64 0), (.int .i64 0)] 25))
  generalize ((w.alloc (Obj.cells #[(.int .i64 f)] 23)).alloc (Obj.cells #[(.int .i64 0), (.int .i64 0)] 25)) = W5 at *
  refine (HO.out _).mono ?_
  rintro e W6 ⟨rfl, hb6⟩
  have HB6 := Lib.hid (HB5.out.trans ((hb6).mono HB5.out.size))
  have P0_6 := Lib.hid (P0_5.out.below (hb6) P0_5.out.lt)
  have P1_6 := Lib.hid (P1_5.out.below (hb6) P1_5.out.lt)
  clear HB5 P0_5 P1_5 hb6
  have lP0_6 := P0_6.out.lt
  have cP0_6_0 := P0_6.out.c0
  have lP1_6 := P1_6.out.lt
  have cP1_6_0 := P1_6.out.c0
  have cP1_6_1 := P1_6.out.c1
  have fP1_6_0 := P1_6.out.f0
  have fP1_6_1 := P1_6.out.f1
  go_wp2
  refine bodyPost_ret (v := .tuple #[.agg #[(.int .i64 0), (.int .i64 0)], .int .i64 e]) ?_ rfl ⟨rfl, (((HB6.out.setCell (p := ⟨w.heap.size + 1, 0, none⟩) (by simp) (.int .i64 0)).setCell (p := ⟨w.heap.size + 1, 1, none⟩) (by simp) (.int .i64 0)).alloc (by have := HB6.out.size; simp <;> omega) (Obj.cells #[(.int .i64 0), (.int .i64 0)] 25))⟩
  have u0 := ((P1_6.out.set0 (.int .i64 0)).set1 (.int .i64 0)).c0
  have u1 := ((P1_6.out.set0 (.int .i64 0)).set1 (.int .i64 0)).c1
  rw [results_cell_tmp rfl]
  go_simp

set_option maxHeartbeats 4000000 in
theorem fFor_ok (f n k a b : Int) (w : World) (ht : Tab w) (h : OfSays f n a b 0) (hf : calO f) (ha : yrO f a) :
    Calls Tryd.prog 18 #[.agg #[.int .i64 f], .int .i64 n, .int .i64 k] w fun x w' => x = .returned (.tuple #[.agg #[.int .i64 a, .int .i64 (forB (fdM f a 12 - 1) n k b)], .int .i64 0]) ∧ Below w.heap.size w w' := by
  have HO := Lib.hid h
  clear h
  have ha2 := ha.le hf
  have HS := Lib.hid (fun w ht => fSpan_any f a 13 w ht (by omega) (by omega))
  have hs := spa_yes hf (⟨by omega, by omega, ha⟩ : perO f a 13)
  rw [hs.1, hs.2.1, hs.2.2, sp_13.1, sp_13.2] at HS
  clear hs hf ha ha2
  generalize fdM f a 12 - 1 = R at *
  by_cases hk : k = 3 ∨ k = 4
  · by_cases hn : n = R
    · rw [forB_13 hk hn]
      subst hn
      have HK := Lib.hid hk
      clear hk
      go_enter Tryd.func18, Tryd.ntmps18
      go_wp2_with fail
      have P0_7 := Lib.hid (show Cell1 ((w.alloc (Obj.cells #[(.int .i64 f)] 23)).alloc (Obj.cells #[(.int .i64 0), (.int .i64 0)] 25)) (w.heap.size) (.int .i64 f) from by have q := Cell1.alloc w (.int .i64 f) 23; exact q.below (N := w.heap.size + 1) ((Below.refl _ _).alloc (by simp <;> omega) (Obj.cells #[(.int .i64 0), (.int .i64 0)] 25)) (by omega))
      have P1_7 := Lib.hid (show Cell2 ((w.alloc (Obj.cells #[(.int .i64 f)] 23)).alloc (Obj.cells #[(.int .i64 0), (.int .i64 0)] 25)) (w.heap.size + 1) (.int .i64 0) (.int .i64 0) from by simpa using Cell2.alloc (w.alloc (Obj.cells #[(.int .i64 f)] 23)) (.int .i64 0) (.int .i64 0) 25)
      have HB7 := Lib.hid (((Below.refl w.heap.size w).alloc (Nat.le_refl _) (Obj.cells #[(.int .i64 f)] 23)).alloc (by simp) (Obj.cells #[(.int .i64 0), (.int .i64 0)] 25))
      generalize ((w.alloc (Obj.cells #[(.int .i64 f)] 23)).alloc (Obj.cells #[(.int .i64 0), (.int .i64 0)] 25)) = W7 at *
      refine (HO.out _ (ht.below HB7.out)).mono ?_
      rintro e W8 ⟨rfl, hb8⟩
      have HB8 := Lib.hid (HB7.out.trans ((hb8).mono HB7.out.size))
      have P0_8 := Lib.hid (P0_7.out.below (hb8) P0_7.out.lt)
      have P1_8 := Lib.hid (P1_7.out.below (hb8) P1_7.out.lt)
      clear HB7 P0_7 P1_7 hb8
      rcases HK.out with rfl | rfl
      · clear HK
        have lP0_8 := P0_8.out.lt
        have cP0_8_0 := P0_8.out.c0
        have lP1_8 := P1_8.out.lt
        have cP1_8_0 := P1_8.out.c0
        have cP1_8_1 := P1_8.out.c1
        have fP1_8_0 := P1_8.out.f0
        have fP1_8_1 := P1_8.out.f1
        have P0_9 := Lib.hid (P0_8.out.far (B' := w.heap.size + 1) (by omega) 0 (.int .i64 a))
        have P1_9 := Lib.hid (P1_8.out.set0 (.int .i64 a))
        have HB9 := Lib.hid (HB8.out.setCell (p := ⟨w.heap.size + 1, 0, none⟩) (by simp <;> omega) (.int .i64 a))
        have P0_10 := Lib.hid (P0_9.out.far (B' := w.heap.size + 1) (by omega) 1 (.int .i64 b))
        have P1_10 := Lib.hid (P1_9.out.set1 (.int .i64 b))
        have HB10 := Lib.hid (HB9.out.setCell (p := ⟨w.heap.size + 1, 1, none⟩) (by simp <;> omega) (.int .i64 b))
        have lP0_10 := P0_10.out.lt
        have cP0_10_0 := P0_10.out.c0
        have lP1_10 := P1_10.out.lt
        have cP1_10_0 := P1_10.out.c0
        have cP1_10_1 := P1_10.out.c1
        have fP1_10_0 := P1_10.out.f0
        have fP1_10_1 := P1_10.out.f1
        go_wp2_with fail
        have oL_P0_10 := P0_10.out.lt
        have oL_P1_10 := P1_10.out.lt
        have L_11 := Lib.hid (show Cell2 (((W8.setCell ⟨w.heap.size + 1, 0, none⟩ (.int .i64 a)).setCell ⟨w.heap.size + 1, 1, none⟩ (.int .i64 b)).alloc (Obj.cells #[(.int .i64 a), (.int .i64 13)] 25)) (W8.heap.size) (.int .i64 a) (.int .i64 13) from by simpa using Cell2.alloc ((W8.setCell ⟨w.heap.size + 1, 0, none⟩ (.int .i64 a)).setCell ⟨w.heap.size + 1, 1, none⟩ (.int .i64 b)) (.int .i64 a) (.int .i64 13) 25)
        have HB11 := Lib.hid (HB10.out.trans (((Below.refl ((W8.setCell ⟨w.heap.size + 1, 0, none⟩ (.int .i64 a)).setCell ⟨w.heap.size + 1, 1, none⟩ (.int .i64 b)).heap.size ((W8.setCell ⟨w.heap.size + 1, 0, none⟩ (.int .i64 a)).setCell ⟨w.heap.size + 1, 1, none⟩ (.int .i64 b))).alloc (Nat.le_refl _) (Obj.cells #[(.int .i64 a), (.int .i64 13)] 25)).mono HB10.out.size))
        have P0_11 := Lib.hid (P0_10.out.below ((Below.refl ((W8.setCell ⟨w.heap.size + 1, 0, none⟩ (.int .i64 a)).setCell ⟨w.heap.size + 1, 1, none⟩ (.int .i64 b)).heap.size ((W8.setCell ⟨w.heap.size + 1, 0, none⟩ (.int .i64 a)).setCell ⟨w.heap.size + 1, 1, none⟩ (.int .i64 b))).alloc (Nat.le_refl _) (Obj.cells #[(.int .i64 a), (.int .i64 13)] 25)) P0_10.out.lt)
        have P1_11 := Lib.hid (P1_10.out.below ((Below.refl ((W8.setCell ⟨w.heap.size + 1, 0, none⟩ (.int .i64 a)).setCell ⟨w.heap.size + 1, 1, none⟩ (.int .i64 b)).heap.size ((W8.setCell ⟨w.heap.size + 1, 0, none⟩ (.int .i64 a)).setCell ⟨w.heap.size + 1, 1, none⟩ (.int .i64 b))).alloc (Nat.le_refl _) (Obj.cells #[(.int .i64 a), (.int .i64 13)] 25)) P1_10.out.lt)
        clear lP0_8 cP0_8_0 lP1_8 cP1_8_0 cP1_8_1 fP1_8_0 fP1_8_1 lP0_10 cP0_10_0 lP1_10 cP1_10_0 cP1_10_1 fP1_10_0 fP1_10_1
        clear P0_8 P1_8 HB8 P0_9 P1_9 HB9 HB10 P0_10 P1_10
        generalize ((W8.setCell ⟨w.heap.size + 1, 0, none⟩ (.int .i64 a)).setCell ⟨w.heap.size + 1, 1, none⟩ (.int .i64 b)).alloc (Obj.cells #[(.int .i64 a), (.int .i64 13)] 25) = W12 at *
        refine (HS.out _ (ht.below HB11.out)).mono ?_
        rintro e W13 ⟨rfl, hb13⟩
        have HB13 := Lib.hid (HB11.out.trans ((hb13).mono HB11.out.size))
        have P0_13 := Lib.hid (P0_11.out.below (hb13) P0_11.out.lt)
        have P1_13 := Lib.hid (P1_11.out.below (hb13) P1_11.out.lt)
        have L_13 := Lib.hid (L_11.out.below (hb13) L_11.out.lt)
        clear HB11 P0_11 P1_11 L_11 hb13
        have lP0_13 := P0_13.out.lt
        have cP0_13_0 := P0_13.out.c0
        have lP1_13 := P1_13.out.lt
        have cP1_13_0 := P1_13.out.c0
        have cP1_13_1 := P1_13.out.c1
        have lL_13 := L_13.out.lt
        have cL_13_0 := L_13.out.c0
        have cL_13_1 := L_13.out.c1
        have fP1_13_0 := P1_13.out.f0
        have fP1_13_1 := P1_13.out.f1
        go_wp2
        refine bodyPost_ret (v := .tuple #[.agg #[(.int .i64 a), (.int .i64 13)], .int .i64 0]) ?_ rfl ⟨rfl, ((HB13.out.setCell (p := ⟨w.heap.size + 1, 0, none⟩) (by simp) (.int .i64 a)).setCell (p := ⟨w.heap.size + 1, 1, none⟩) (by simp) (.int .i64 13))⟩
        have u0 := ((P1_13.out.set0 (.int .i64 a)).set1 (.int .i64 13)).c0
        have u1 := ((P1_13.out.set0 (.int .i64 a)).set1 (.int .i64 13)).c1
        rw [results_cell_tmp rfl]
        go_simp
      · clear HK
        have lP0_8 := P0_8.out.lt
        have cP0_8_0 := P0_8.out.c0
        have lP1_8 := P1_8.out.lt
        have cP1_8_0 := P1_8.out.c0
        have cP1_8_1 := P1_8.out.c1
        have fP1_8_0 := P1_8.out.f0
        have fP1_8_1 := P1_8.out.f1
        have P0_14 := Lib.hid (P0_8.out.far (B' := w.heap.size + 1) (by omega) 0 (.int .i64 a))
        have P1_14 := Lib.hid (P1_8.out.set0 (.int .i64 a))
        have HB14 := Lib.hid (HB8.out.setCell (p := ⟨w.heap.size + 1, 0, none⟩) (by simp <;> omega) (.int .i64 a))
        have P0_15 := Lib.hid (P0_14.out.far (B' := w.heap.size + 1) (by omega) 1 (.int .i64 b))
        have P1_15 := Lib.hid (P1_14.out.set1 (.int .i64 b))
        have HB15 := Lib.hid (HB14.out.setCell (p := ⟨w.heap.size + 1, 1, none⟩) (by simp <;> omega) (.int .i64 b))
        have lP0_15 := P0_15.out.lt
        have cP0_15_0 := P0_15.out.c0
        have lP1_15 := P1_15.out.lt
        have cP1_15_0 := P1_15.out.c0
        have cP1_15_1 := P1_15.out.c1
        have fP1_15_0 := P1_15.out.f0
        have fP1_15_1 := P1_15.out.f1
        go_wp2_with fail
        have oL_P0_15 := P0_15.out.lt
        have oL_P1_15 := P1_15.out.lt
        have L_16 := Lib.hid (show Cell2 (((W8.setCell ⟨w.heap.size + 1, 0, none⟩ (.int .i64 a)).setCell ⟨w.heap.size + 1, 1, none⟩ (.int .i64 b)).alloc (Obj.cells #[(.int .i64 a), (.int .i64 13)] 25)) (W8.heap.size) (.int .i64 a) (.int .i64 13) from by simpa using Cell2.alloc ((W8.setCell ⟨w.heap.size + 1, 0, none⟩ (.int .i64 a)).setCell ⟨w.heap.size + 1, 1, none⟩ (.int .i64 b)) (.int .i64 a) (.int .i64 13) 25)
        have HB16 := Lib.hid (HB15.out.trans (((Below.refl ((W8.setCell ⟨w.heap.size + 1, 0, none⟩ (.int .i64 a)).setCell ⟨w.heap.size + 1, 1, none⟩ (.int .i64 b)).heap.size ((W8.setCell ⟨w.heap.size + 1, 0, none⟩ (.int .i64 a)).setCell ⟨w.heap.size + 1, 1, none⟩ (.int .i64 b))).alloc (Nat.le_refl _) (Obj.cells #[(.int .i64 a), (.int .i64 13)] 25)).mono HB15.out.size))
        have P0_16 := Lib.hid (P0_15.out.below ((Below.refl ((W8.setCell ⟨w.heap.size + 1, 0, none⟩ (.int .i64 a)).setCell ⟨w.heap.size + 1, 1, none⟩ (.int .i64 b)).heap.size ((W8.setCell ⟨w.heap.size + 1, 0, none⟩ (.int .i64 a)).setCell ⟨w.heap.size + 1, 1, none⟩ (.int .i64 b))).alloc (Nat.le_refl _) (Obj.cells #[(.int .i64 a), (.int .i64 13)] 25)) P0_15.out.lt)
        have P1_16 := Lib.hid (P1_15.out.below ((Below.refl ((W8.setCell ⟨w.heap.size + 1, 0, none⟩ (.int .i64 a)).setCell ⟨w.heap.size + 1, 1, none⟩ (.int .i64 b)).heap.size ((W8.setCell ⟨w.heap.size + 1, 0, none⟩ (.int .i64 a)).setCell ⟨w.heap.size + 1, 1, none⟩ (.int .i64 b))).alloc (Nat.le_refl _) (Obj.cells #[(.int .i64 a), (.int .i64 13)] 25)) P1_15.out.lt)
        clear lP0_8 cP0_8_0 lP1_8 cP1_8_0 cP1_8_1 fP1_8_0 fP1_8_1 lP0_15 cP0_15_0 lP1_15 cP1_15_0 cP1_15_1 fP1_15_0 fP1_15_1
        clear P0_8 P1_8 HB8 P0_14 P1_14 HB14 HB15 P0_15 P1_15
        generalize ((W8.setCell ⟨w.heap.size + 1, 0, none⟩ (.int .i64 a)).setCell ⟨w.heap.size + 1, 1, none⟩ (.int .i64 b)).alloc (Obj.cells #[(.int .i64 a), (.int .i64 13)] 25) = W17 at *
        refine (HS.out _ (ht.below HB16.out)).mono ?_
        rintro e W18 ⟨rfl, hb18⟩
        have HB18 := Lib.hid (HB16.out.trans ((hb18).mono HB16.out.size))
        have P0_18 := Lib.hid (P0_16.out.below (hb18) P0_16.out.lt)
        have P1_18 := Lib.hid (P1_16.out.below (hb18) P1_16.out.lt)
        have L_18 := Lib.hid (L_16.out.below (hb18) L_16.out.lt)
        clear HB16 P0_16 P1_16 L_16 hb18
        have lP0_18 := P0_18.out.lt
        have cP0_18_0 := P0_18.out.c0
        have lP1_18 := P1_18.out.lt
        have cP1_18_0 := P1_18.out.c0
        have cP1_18_1 := P1_18.out.c1
        have lL_18 := L_18.out.lt
        have cL_18_0 := L_18.out.c0
        have cL_18_1 := L_18.out.c1
        have fP1_18_0 := P1_18.out.f0
        have fP1_18_1 := P1_18.out.f1
        go_wp2
        refine bodyPost_ret (v := .tuple #[.agg #[(.int .i64 a), (.int .i64 13)], .int .i64 0]) ?_ rfl ⟨rfl, ((HB18.out.setCell (p := ⟨w.heap.size + 1, 0, none⟩) (by simp) (.int .i64 a)).setCell (p := ⟨w.heap.size + 1, 1, none⟩) (by simp) (.int .i64 13))⟩
        have u0 := ((P1_18.out.set0 (.int .i64 a)).set1 (.int .i64 13)).c0
        have u1 := ((P1_18.out.set0 (.int .i64 a)).set1 (.int .i64 13)).c1
        rw [results_cell_tmp rfl]
        go_simp
    · rw [forB_no (.inr hn)]
      have hn2 : (n == R) = false := by simpa using hn
      have HK := Lib.hid hk
      clear hk hn
      go_enter Tryd.func18, Tryd.ntmps18
      go_wp2_with fail
      have P0_19 := Lib.hid (show Cell1 ((w.alloc (Obj.cells #[(.int .i64 f)] 23)).alloc (Obj.cells #[(.int .i64 0), (.int .i64 0)] 25)) (w.heap.size) (.int .i64 f) from by have q := Cell1.alloc w (.int .i64 f) 23; exact q.below (N := w.heap.size + 1) ((Below.refl _ _).alloc (by simp <;> omega) (Obj.cells #[(.int .i64 0), (.int .i64 0)] 25)) (by omega))
      have P1_19 := Lib.hid (show Cell2 ((w.alloc (Obj.cells #[(.int .i64 f)] 23)).alloc (Obj.cells #[(.int .i64 0), (.int .i64 0)] 25)) (w.heap.size + 1) (.int .i64 0) (.int .i64 0) from by simpa using Cell2.alloc (w.alloc (Obj.cells #[(.int .i64 f)] 23)) (.int .i64 0) (.int .i64 0) 25)
      have HB19 := Lib.hid (((Below.refl w.heap.size w).alloc (Nat.le_refl _) (Obj.cells #[(.int .i64 f)] 23)).alloc (by simp) (Obj.cells #[(.int .i64 0), (.int .i64 0)] 25))
      generalize ((w.alloc (Obj.cells #[(.int .i64 f)] 23)).alloc (Obj.cells #[(.int .i64 0), (.int .i64 0)] 25)) = W19 at *
      refine (HO.out _ (ht.below HB19.out)).mono ?_
      rintro e W20 ⟨rfl, hb20⟩
      have HB20 := Lib.hid (HB19.out.trans ((hb20).mono HB19.out.size))
      have P0_20 := Lib.hid (P0_19.out.below (hb20) P0_19.out.lt)
      have P1_20 := Lib.hid (P1_19.out.below (hb20) P1_19.out.lt)
      clear HB19 P0_19 P1_19 hb20
      rcases HK.out with rfl | rfl
      · clear HK
        have lP0_20 := P0_20.out.lt
        have cP0_20_0 := P0_20.out.c0
        have lP1_20 := P1_20.out.lt
        have cP1_20_0 := P1_20.out.c0
        have cP1_20_1 := P1_20.out.c1
        have fP1_20_0 := P1_20.out.f0
        have fP1_20_1 := P1_20.out.f1
        have P0_21 := Lib.hid (P0_20.out.far (B' := w.heap.size + 1) (by omega) 0 (.int .i64 a))
        have P1_21 := Lib.hid (P1_20.out.set0 (.int .i64 a))
        have HB21 := Lib.hid (HB20.out.setCell (p := ⟨w.heap.size + 1, 0, none⟩) (by simp <;> omega) (.int .i64 a))
        have P0_22 := Lib.hid (P0_21.out.far (B' := w.heap.size + 1) (by omega) 1 (.int .i64 b))
        have P1_22 := Lib.hid (P1_21.out.set1 (.int .i64 b))
        have HB22 := Lib.hid (HB21.out.setCell (p := ⟨w.heap.size + 1, 1, none⟩) (by simp <;> omega) (.int .i64 b))
        have lP0_22 := P0_22.out.lt
        have cP0_22_0 := P0_22.out.c0
        have lP1_22 := P1_22.out.lt
        have cP1_22_0 := P1_22.out.c0
        have cP1_22_1 := P1_22.out.c1
        have fP1_22_0 := P1_22.out.f0
        have fP1_22_1 := P1_22.out.f1
        go_wp2_with fail
        have oL_P0_22 := P0_22.out.lt
        have oL_P1_22 := P1_22.out.lt
        have L_23 := Lib.hid (show Cell2 (((W20.setCell ⟨w.heap.size + 1, 0, none⟩ (.int .i64 a)).setCell ⟨w.heap.size + 1, 1, none⟩ (.int .i64 b)).alloc (Obj.cells #[(.int .i64 a), (.int .i64 13)] 25)) (W20.heap.size) (.int .i64 a) (.int .i64 13) from by simpa using Cell2.alloc ((W20.setCell ⟨w.heap.size + 1, 0, none⟩ (.int .i64 a)).setCell ⟨w.heap.size + 1, 1, none⟩ (.int .i64 b)) (.int .i64 a) (.int .i64 13) 25)
        have HB23 := Lib.hid (HB22.out.trans (((Below.refl ((W20.setCell ⟨w.heap.size + 1, 0, none⟩ (.int .i64 a)).setCell ⟨w.heap.size + 1, 1, none⟩ (.int .i64 b)).heap.size ((W20.setCell ⟨w.heap.size + 1, 0, none⟩ (.int .i64 a)).setCell ⟨w.heap.size + 1, 1, none⟩ (.int .i64 b))).alloc (Nat.le_refl _) (Obj.cells #[(.int .i64 a), (.int .i64 13)] 25)).mono HB22.out.size))
        have P0_23 := Lib.hid (P0_22.out.below ((Below.refl ((W20.setCell ⟨w.heap.size + 1, 0, none⟩ (.int .i64 a)).setCell ⟨w.heap.size + 1, 1, none⟩ (.int .i64 b)).heap.size ((W20.setCell ⟨w.heap.size + 1, 0, none⟩ (.int .i64 a)).setCell ⟨w.heap.size + 1, 1, none⟩ (.int .i64 b))).alloc (Nat.le_refl _) (Obj.cells #[(.int .i64 a), (.int .i64 13)] 25)) P0_22.out.lt)
        have P1_23 := Lib.hid (P1_22.out.below ((Below.refl ((W20.setCell ⟨w.heap.size + 1, 0, none⟩ (.int .i64 a)).setCell ⟨w.heap.size + 1, 1, none⟩ (.int .i64 b)).heap.size ((W20.setCell ⟨w.heap.size + 1, 0, none⟩ (.int .i64 a)).setCell ⟨w.heap.size + 1, 1, none⟩ (.int .i64 b))).alloc (Nat.le_refl _) (Obj.cells #[(.int .i64 a), (.int .i64 13)] 25)) P1_22.out.lt)
        clear lP0_20 cP0_20_0 lP1_20 cP1_20_0 cP1_20_1 fP1_20_0 fP1_20_1 lP0_22 cP0_22_0 lP1_22 cP1_22_0 cP1_22_1 fP1_22_0 fP1_22_1
        clear P0_20 P1_20 HB20 P0_21 P1_21 HB21 HB22 P0_22 P1_22
        generalize ((W20.setCell ⟨w.heap.size + 1, 0, none⟩ (.int .i64 a)).setCell ⟨w.heap.size + 1, 1, none⟩ (.int .i64 b)).alloc (Obj.cells #[(.int .i64 a), (.int .i64 13)] 25) = W24 at *
        refine (HS.out _ (ht.below HB23.out)).mono ?_
        rintro e W25 ⟨rfl, hb25⟩
        have HB25 := Lib.hid (HB23.out.trans ((hb25).mono HB23.out.size))
        have P0_25 := Lib.hid (P0_23.out.below (hb25) P0_23.out.lt)
        have P1_25 := Lib.hid (P1_23.out.below (hb25) P1_23.out.lt)
        have L_25 := Lib.hid (L_23.out.below (hb25) L_23.out.lt)
        clear HB23 P0_23 P1_23 L_23 hb25
        have lP0_25 := P0_25.out.lt
        have cP0_25_0 := P0_25.out.c0
        have lP1_25 := P1_25.out.lt
        have cP1_25_0 := P1_25.out.c0
        have cP1_25_1 := P1_25.out.c1
        have lL_25 := L_25.out.lt
        have cL_25_0 := L_25.out.c0
        have cL_25_1 := L_25.out.c1
        have fP1_25_0 := P1_25.out.f0
        have fP1_25_1 := P1_25.out.f1
        go_wp2
        refine bodyPost_ret (v := .tuple #[.agg #[(.int .i64 a), (.int .i64 b)], .int .i64 0]) ?_ rfl ⟨rfl, ((HB25.out.setCell (p := ⟨w.heap.size + 1, 0, none⟩) (by simp) (.int .i64 a)).setCell (p := ⟨w.heap.size + 1, 1, none⟩) (by simp) (.int .i64 b))⟩
        have u0 := ((P1_25.out.set0 (.int .i64 a)).set1 (.int .i64 b)).c0
        have u1 := ((P1_25.out.set0 (.int .i64 a)).set1 (.int .i64 b)).c1
        rw [results_cell_tmp rfl]
        go_simp
      · clear HK
        have lP0_20 := P0_20.out.lt
        have cP0_20_0 := P0_20.out.c0
        have lP1_20 := P1_20.out.lt
        have cP1_20_0 := P1_20.out.c0
        have cP1_20_1 := P1_20.out.c1
        have fP1_20_0 := P1_20.out.f0
        have fP1_20_1 := P1_20.out.f1
        have P0_26 := Lib.hid (P0_20.out.far (B' := w.heap.size + 1) (by omega) 0 (.int .i64 a))
        have P1_26 := Lib.hid (P1_20.out.set0 (.int .i64 a))
        have HB26 := Lib.hid (HB20.out.setCell (p := ⟨w.heap.size + 1, 0, none⟩) (by simp <;> omega) (.int .i64 a))
        have P0_27 := Lib.hid (P0_26.out.far (B' := w.heap.size + 1) (by omega) 1 (.int .i64 b))
        have P1_27 := Lib.hid (P1_26.out.set1 (.int .i64 b))
        have HB27 := Lib.hid (HB26.out.setCell (p := ⟨w.heap.size + 1, 1, none⟩) (by simp <;> omega) (.int .i64 b))
        have lP0_27 := P0_27.out.lt
        have cP0_27_0 := P0_27.out.c0
        have lP1_27 := P1_27.out.lt
        have cP1_27_0 := P1_27.out.c0
        have cP1_27_1 := P1_27.out.c1
        have fP1_27_0 := P1_27.out.f0
        have fP1_27_1 := P1_27.out.f1
        go_wp2_with fail
        have oL_P0_27 := P0_27.out.lt
        have oL_P1_27 := P1_27.out.lt
        have L_28 := Lib.hid (show Cell2 (((W20.setCell ⟨w.heap.size + 1, 0, none⟩ (.int .i64 a)).setCell ⟨w.heap.size + 1, 1, none⟩ (.int .i64 b)).alloc (Obj.cells #[(.int .i64 a), (.int .i64 13)] 25)) (W20.heap.size) (.int .i64 a) (.int .i64 13) from by simpa using Cell2.alloc ((W20.setCell ⟨w.heap.size + 1, 0, none⟩ (.int .i64 a)).setCell ⟨w.heap.size + 1, 1, none⟩ (.int .i64 b)) (.int .i64 a) (.int .i64 13) 25)
        have HB28 := Lib.hid (HB27.out.trans (((Below.refl ((W20.setCell ⟨w.heap.size + 1, 0, none⟩ (.int .i64 a)).setCell ⟨w.heap.size + 1, 1, none⟩ (.int .i64 b)).heap.size ((W20.setCell ⟨w.heap.size + 1, 0, none⟩ (.int .i64 a)).setCell ⟨w.heap.size + 1, 1, none⟩ (.int .i64 b))).alloc (Nat.le_refl _) (Obj.cells #[(.int .i64 a), (.int .i64 13)] 25)).mono HB27.out.size))
        have P0_28 := Lib.hid (P0_27.out.below ((Below.refl ((W20.setCell ⟨w.heap.size + 1, 0, none⟩ (.int .i64 a)).setCell ⟨w.heap.size + 1, 1, none⟩ (.int .i64 b)).heap.size ((W20.setCell ⟨w.heap.size + 1, 0, none⟩ (.int .i64 a)).setCell ⟨w.heap.size + 1, 1, none⟩ (.int .i64 b))).alloc (Nat.le_refl _) (Obj.cells #[(.int .i64 a), (.int .i64 13)] 25)) P0_27.out.lt)
        have P1_28 := Lib.hid (P1_27.out.below ((Below.refl ((W20.setCell ⟨w.heap.size + 1, 0, none⟩ (.int .i64 a)).setCell ⟨w.heap.size + 1, 1, none⟩ (.int .i64 b)).heap.size ((W20.setCell ⟨w.heap.size + 1, 0, none⟩ (.int .i64 a)).setCell ⟨w.heap.size + 1, 1, none⟩ (.int .i64 b))).alloc (Nat.le_refl _) (Obj.cells #[(.int .i64 a), (.int .i64 13)] 25)) P1_27.out.lt)
        clear lP0_20 cP0_20_0 lP1_20 cP1_20_0 cP1_20_1 fP1_20_0 fP1_20_1 lP0_27 cP0_27_0 lP1_27 cP1_27_0 cP1_27_1 fP1_27_0 fP1_27_1
        clear P0_20 P1_20 HB20 P0_26 P1_26 HB26 HB27 P0_27 P1_27
        generalize ((W20.setCell ⟨w.heap.size + 1, 0, none⟩ (.int .i64 a)).setCell ⟨w.heap.size + 1, 1, none⟩ (.int .i64 b)).alloc (Obj.cells #[(.int .i64 a), (.int .i64 13)] 25) = W29 at *
        refine (HS.out _ (ht.below HB28.out)).mono ?_
        rintro e W30 ⟨rfl, hb30⟩
        have HB30 := Lib.hid (HB28.out.trans ((hb30).mono HB28.out.size))
        have P0_30 := Lib.hid (P0_28.out.below (hb30) P0_28.out.lt)
        have P1_30 := Lib.hid (P1_28.out.below (hb30) P1_28.out.lt)
        have L_30 := Lib.hid (L_28.out.below (hb30) L_28.out.lt)
        clear HB28 P0_28 P1_28 L_28 hb30
        have lP0_30 := P0_30.out.lt
        have cP0_30_0 := P0_30.out.c0
        have lP1_30 := P1_30.out.lt
        have cP1_30_0 := P1_30.out.c0
        have cP1_30_1 := P1_30.out.c1
        have lL_30 := L_30.out.lt
        have cL_30_0 := L_30.out.c0
        have cL_30_1 := L_30.out.c1
        have fP1_30_0 := P1_30.out.f0
        have fP1_30_1 := P1_30.out.f1
        go_wp2
        refine bodyPost_ret (v := .tuple #[.agg #[(.int .i64 a), (.int .i64 b)], .int .i64 0]) ?_ rfl ⟨rfl, ((HB30.out.setCell (p := ⟨w.heap.size + 1, 0, none⟩) (by simp) (.int .i64 a)).setCell (p := ⟨w.heap.size + 1, 1, none⟩) (by simp) (.int .i64 b))⟩
        have u0 := ((P1_30.out.set0 (.int .i64 a)).set1 (.int .i64 b)).c0
        have u1 := ((P1_30.out.set0 (.int .i64 a)).set1 (.int .i64 b)).c1
        rw [results_cell_tmp rfl]
        go_simp
  · rw [forB_no (.inl hk)]
    have hk3 : (k != 3) = true := by simp; exact fun x => hk (.inl x)
    have hk4 : (k != 4) = true := by simp; exact fun x => hk (.inr x)
    clear hk HS
    go_enter Tryd.func18, Tryd.ntmps18
    go_wp2_with fail
    have P0_31 := Lib.hid (show Cell1 ((w.alloc (Obj.cells #[(.int .i64 f)] 23)).alloc (Obj.cells #[(.int .i64 0), (.int .i64 0)] 25)) (w.heap.size) (.int .i64 f) from by have q := Cell1.alloc w (.int .i64 f) 23; exact q.below (N := w.heap.size + 1) ((Below.refl _ _).alloc (by simp <;> omega) (Obj.cells #[(.int .i64 0), (.int .i64 0)] 25)) (by omega))
    have P1_31 := Lib.hid (show Cell2 ((w.alloc (Obj.cells #[(.int .i64 f)] 23)).alloc (Obj.cells #[(.int .i64 0), (.int .i64 0)] 25)) (w.heap.size + 1) (.int .i64 0) (.int .i64 0) from by simpa using Cell2.alloc (w.alloc (Obj.cells #[(.int .i64 f)] 23)) (.int .i64 0) (.int .i64 0) 25)
    have HB31 := Lib.hid (((Below.refl w.heap.size w).alloc (Nat.le_refl _) (Obj.cells #[(.int .i64 f)] 23)).alloc (by simp) (Obj.cells #[(.int .i64 0), (.int .i64 0)] 25))
    generalize ((w.alloc (Obj.cells #[(.int .i64 f)] 23)).alloc (Obj.cells #[(.int .i64 0), (.int .i64 0)] 25)) = W31 at *
    refine (HO.out _ (ht.below HB31.out)).mono ?_
    rintro e W32 ⟨rfl, hb32⟩
    have HB32 := Lib.hid (HB31.out.trans ((hb32).mono HB31.out.size))
    have P0_32 := Lib.hid (P0_31.out.below (hb32) P0_31.out.lt)
    have P1_32 := Lib.hid (P1_31.out.below (hb32) P1_31.out.lt)
    clear HB31 P0_31 P1_31 hb32
    have lP0_32 := P0_32.out.lt
    have cP0_32_0 := P0_32.out.c0
    have lP1_32 := P1_32.out.lt
    have cP1_32_0 := P1_32.out.c0
    have cP1_32_1 := P1_32.out.c1
    have fP1_32_0 := P1_32.out.f0
    have fP1_32_1 := P1_32.out.f1
    have P0_33 := Lib.hid (P0_32.out.far (B' := w.heap.size + 1) (by omega) 0 (.int .i64 a))
    have P1_33 := Lib.hid (P1_32.out.set0 (.int .i64 a))
    have HB33 := Lib.hid (HB32.out.setCell (p := ⟨w.heap.size + 1, 0, none⟩) (by simp <;> omega) (.int .i64 a))
    have P0_34 := Lib.hid (P0_33.out.far (B' := w.heap.size + 1) (by omega) 1 (.int .i64 b))
    have P1_34 := Lib.hid (P1_33.out.set1 (.int .i64 b))
    have HB34 := Lib.hid (HB33.out.setCell (p := ⟨w.heap.size + 1, 1, none⟩) (by simp <;> omega) (.int .i64 b))
    have lP0_34 := P0_34.out.lt
    have cP0_34_0 := P0_34.out.c0
    have lP1_34 := P1_34.out.lt
    have cP1_34_0 := P1_34.out.c0
    have cP1_34_1 := P1_34.out.c1
    have fP1_34_0 := P1_34.out.f0
    have fP1_34_1 := P1_34.out.f1
    go_wp2
    refine bodyPost_ret (v := .tuple #[.agg #[(.int .i64 a), (.int .i64 b)], .int .i64 0]) ?_ rfl ⟨rfl, ((HB34.out.setCell (p := ⟨w.heap.size + 1, 0, none⟩) (by simp) (.int .i64 a)).setCell (p := ⟨w.heap.size + 1, 1, none⟩) (by simp) (.int .i64 b))⟩
    have u0 := ((P1_34.out.set0 (.int .i64 a)).set1 (.int .i64 b)).c0
    have u1 := ((P1_34.out.set0 (.int .i64 a)).set1 (.int .i64 b)).c1
    rw [results_cell_tmp rfl]
    go_simp

set_option maxHeartbeats 4000000 in
theorem rfFor_ok (f n k a b : Int) (w : World) (h : ROfSays f n a b 0) (hf : calO f) (ha : yrO f a) :
    Calls Tryd.prog 19 #[.agg #[.int .i64 f], .int .i64 n, .int .i64 k] w fun x w' => x = .returned (.tuple #[.agg #[.int .i64 a, .int .i64 (forB (fdM f a 12 - 1) n k b)], .int .i64 0]) ∧ Below w.heap.size w w' := by
  have HO := Lib.hid h
  clear h
  have ha2 := ha.le hf
  have HS := Lib.hid (fun w => rMonth_any f a 11 w hf (by omega) (by omega) (by omega) (by omega))
  have e : rmL f a 11 = fdM f a 12 - 1 := by unfold rmL; rw [if_pos ((rm_yr hf).2 ha)]; rfl
  rw [e] at HS
  clear e hf ha ha2
  generalize fdM f a 12 - 1 = R at *
  generalize rmF f a 11 = R1 at *
  generalize decide (rmO f a 11) = R2 at *
  by_cases hk : (k = 3 ∨ k = 4) ∧ n = R
  · rw [forB_13 hk.1 hk.2]
    obtain ⟨hk1, hk2⟩ := hk
    subst hk2
    have HK := Lib.hid hk1
    clear hk1
    go_enter Tryd.func19, Tryd.ntmps19
    go_wp2_with fail
    have P0_35 := Lib.hid (show Cell1 ((w.alloc (Obj.cells #[(.int .i64 f)] 23)).alloc (Obj.cells #[(.int .i64 0), (.int .i64 0)] 25)) (w.heap.size) (.int .i64 f) from by have q := Cell1.alloc w (.int .i64 f) 23; exact q.below (N := w.heap.size + 1) ((Below.refl _ _).alloc (by simp <;> omega) (Obj.cells #[(.int .i64 0), (.int .i64 0)] 25)) (by omega))
    have P1_35 := Lib.hid (show Cell2 ((w.alloc (Obj.cells #[(.int .i64 f)] 23)).alloc (Obj.cells #[(.int .i64 0), (.int .i64 0)] 25)) (w.heap.size + 1) (.int .i64 0) (.int .i64 0) from by simpa using Cell2.alloc (w.alloc (Obj.cells #[(.int .i64 f)] 23)) (.int .i64 0) (.int .i64 0) 25)
    have HB35 := Lib.hid (((Below.refl w.heap.size w).alloc (Nat.le_refl _) (Obj.cells #[(.int .i64 f)] 23)).alloc (by simp) (Obj.cells #[(.int .i64 0), (.int .i64 0)] 25))
    generalize ((w.alloc (Obj.cells #[(.int .i64 f)] 23)).alloc (Obj.cells #[(.int .i64 0), (.int .i64 0)] 25)) = W35 at *
    refine (HO.out _).mono ?_
    rintro e W36 ⟨rfl, hb36⟩
    have HB36 := Lib.hid (HB35.out.trans ((hb36).mono HB35.out.size))
    have P0_36 := Lib.hid (P0_35.out.below (hb36) P0_35.out.lt)
    have P1_36 := Lib.hid (P1_35.out.below (hb36) P1_35.out.lt)
    clear HB35 P0_35 P1_35 hb36
    have lP0_36 := P0_36.out.lt
    have cP0_36_0 := P0_36.out.c0
    have lP1_36 := P1_36.out.lt
    have cP1_36_0 := P1_36.out.c0
    have cP1_36_1 := P1_36.out.c1
    go_wp2_with fail
    have oQ_P0_36 := P0_36.out.lt
    have oQ_P1_36 := P1_36.out.lt
    have Q_37 := Lib.hid (show Cell2 (W36.alloc (Obj.cells #[(.int .i64 a), (.int .i64 b)] 25)) (W36.heap.size) (.int .i64 a) (.int .i64 b) from by exact Cell2.alloc W36 (.int .i64 a) (.int .i64 b) 25)
    have HB37 := Lib.hid (HB36.out.trans (((Below.refl W36.heap.size W36).alloc (Nat.le_refl _) (Obj.cells #[(.int .i64 a), (.int .i64 b)] 25)).mono HB36.out.size))
    have P0_37 := Lib.hid (P0_36.out.below ((Below.refl W36.heap.size W36).alloc (Nat.le_refl _) (Obj.cells #[(.int .i64 a), (.int .i64 b)] 25)) P0_36.out.lt)
    have P1_37 := Lib.hid (P1_36.out.below ((Below.refl W36.heap.size W36).alloc (Nat.le_refl _) (Obj.cells #[(.int .i64 a), (.int .i64 b)] 25)) P1_36.out.lt)
    clear lP0_36 cP0_36_0 lP1_36 cP1_36_0 cP1_36_1
    clear HB36 P0_36 P1_36
    generalize W36.alloc (Obj.cells #[(.int .i64 a), (.int .i64 b)] 25) = W38 at *
    refine (HS.out _).mono ?_
    rintro e W39 ⟨rfl, hb39⟩
    have HB39 := Lib.hid (HB37.out.trans ((hb39).mono HB37.out.size))
    have P0_39 := Lib.hid (P0_37.out.below (hb39) P0_37.out.lt)
    have P1_39 := Lib.hid (P1_37.out.below (hb39) P1_37.out.lt)
    have Q_39 := Lib.hid (Q_37.out.below (hb39) Q_37.out.lt)
    clear HB37 P0_37 P1_37 Q_37 hb39
    have lP0_39 := P0_39.out.lt
    have cP0_39_0 := P0_39.out.c0
    have lP1_39 := P1_39.out.lt
    have cP1_39_0 := P1_39.out.c0
    have cP1_39_1 := P1_39.out.c1
    have lQ_39 := Q_39.out.lt
    have cQ_39_0 := Q_39.out.c0
    have cQ_39_1 := Q_39.out.c1
    have fP1_39_0 := P1_39.out.f0
    have fP1_39_1 := P1_39.out.f1
    have fQ_39_0 := Q_39.out.f0
    have fQ_39_1 := Q_39.out.f1
    have P0_40 := Lib.hid (P0_39.out.far (B' := W36.heap.size) (by omega) 1 (.int .i64 13))
    have P1_40 := Lib.hid (P1_39.out.far (B' := W36.heap.size) (by omega) 1 (.int .i64 13))
    have Q_40 := Lib.hid (Q_39.out.set1 (.int .i64 13))
    have HB40 := Lib.hid (HB39.out.setCell (p := ⟨W36.heap.size, 1, none⟩) (by simp <;> omega) (.int .i64 13))
    have lP0_40 := P0_40.out.lt
    have cP0_40_0 := P0_40.out.c0
    have lP1_40 := P1_40.out.lt
    have cP1_40_0 := P1_40.out.c0
    have cP1_40_1 := P1_40.out.c1
    have lQ_40 := Q_40.out.lt
    have cQ_40_0 := Q_40.out.c0
    have cQ_40_1 := Q_40.out.c1
    have fP1_40_0 := P1_40.out.f0
    have fP1_40_1 := P1_40.out.f1
    have fQ_40_0 := Q_40.out.f0
    have fQ_40_1 := Q_40.out.f1
    rcases HK.out with rfl | rfl
    · clear HK
      go_wp2
      refine bodyPost_ret (v := .tuple #[.agg #[(.int .i64 a), (.int .i64 13)], .int .i64 0]) ?_ rfl ⟨rfl, ((HB40.out.setCell (p := ⟨w.heap.size + 1, 0, none⟩) (by simp) (.int .i64 a)).setCell (p := ⟨w.heap.size + 1, 1, none⟩) (by simp) (.int .i64 13))⟩
      have u0 := ((P1_40.out.set0 (.int .i64 a)).set1 (.int .i64 13)).c0
      have u1 := ((P1_40.out.set0 (.int .i64 a)).set1 (.int .i64 13)).c1
      rw [results_cell_tmp rfl]
      go_simp
    · clear HK
      go_wp2
      refine bodyPost_ret (v := .tuple #[.agg #[(.int .i64 a), (.int .i64 13)], .int .i64 0]) ?_ rfl ⟨rfl, ((HB40.out.setCell (p := ⟨w.heap.size + 1, 0, none⟩) (by simp) (.int .i64 a)).setCell (p := ⟨w.heap.size + 1, 1, none⟩) (by simp) (.int .i64 13))⟩
      have u0 := ((P1_40.out.set0 (.int .i64 a)).set1 (.int .i64 13)).c0
      have u1 := ((P1_40.out.set0 (.int .i64 a)).set1 (.int .i64 13)).c1
      rw [results_cell_tmp rfl]
      go_simp
  · rw [forB_no (by by_cases h : k = 3 ∨ k = 4; exact .inr (fun x => hk ⟨h, x⟩); exact .inl h)]
    have HK := Lib.hid (show (decide (k = 3) = false ∧ decide (k = 4) = false) ∨ (n == R) = false from by
      by_cases h : k = 3 ∨ k = 4
      · right; simp; exact fun x => hk ⟨h, x⟩
      · left; simp; omega)
    have HK3 := Lib.hid (show decide (k = 3) = (k == 3) from rfl)
    clear hk
    go_enter Tryd.func19, Tryd.ntmps19
    go_wp2_with fail
    have P0_41 := Lib.hid (show Cell1 ((w.alloc (Obj.cells #[(.int .i64 f)] 23)).alloc (Obj.cells #[(.int .i64 0), (.int .i64 0)] 25)) (w.heap.size) (.int .i64 f) from by have q := Cell1.alloc w (.int .i64 f) 23; exact q.below (N := w.heap.size + 1) ((Below.refl _ _).alloc (by simp <;> omega) (Obj.cells #[(.int .i64 0), (.int .i64 0)] 25)) (by omega))
    have P1_41 := Lib.hid (show Cell2 ((w.alloc (Obj.cells #[(.int .i64 f)] 23)).alloc (Obj.cells #[(.int .i64 0), (.int .i64 0)] 25)) (w.heap.size + 1) (.int .i64 0) (.int .i64 0) from by simpa using Cell2.alloc (w.alloc (Obj.cells #[(.int .i64 f)] 23)) (.int .i64 0) (.int .i64 0) 25)
    have HB41 := Lib.hid (((Below.refl w.heap.size w).alloc (Nat.le_refl _) (Obj.cells #[(.int .i64 f)] 23)).alloc (by simp) (Obj.cells #[(.int .i64 0), (.int .i64 0)] 25))
    generalize ((w.alloc (Obj.cells #[(.int .i64 f)] 23)).alloc (Obj.cells #[(.int .i64 0), (.int .i64 0)] 25)) = W41 at *
    refine (HO.out _).mono ?_
    rintro e W42 ⟨rfl, hb42⟩
    have HB42 := Lib.hid (HB41.out.trans ((hb42).mono HB41.out.size))
    have P0_42 := Lib.hid (P0_41.out.below (hb42) P0_41.out.lt)
    have P1_42 := Lib.hid (P1_41.out.below (hb42) P1_41.out.lt)
    clear HB41 P0_41 P1_41 hb42
    have lP0_42 := P0_42.out.lt
    have cP0_42_0 := P0_42.out.c0
    have lP1_42 := P1_42.out.lt
    have cP1_42_0 := P1_42.out.c0
    have cP1_42_1 := P1_42.out.c1
    go_wp2_with fail
    have oQ_P0_42 := P0_42.out.lt
    have oQ_P1_42 := P1_42.out.lt
    have Q_43 := Lib.hid (show Cell2 (W42.alloc (Obj.cells #[(.int .i64 a), (.int .i64 b)] 25)) (W42.heap.size) (.int .i64 a) (.int .i64 b) from by exact Cell2.alloc W42 (.int .i64 a) (.int .i64 b) 25)
    have HB43 := Lib.hid (HB42.out.trans (((Below.refl W42.heap.size W42).alloc (Nat.le_refl _) (Obj.cells #[(.int .i64 a), (.int .i64 b)] 25)).mono HB42.out.size))
    have P0_43 := Lib.hid (P0_42.out.below ((Below.refl W42.heap.size W42).alloc (Nat.le_refl _) (Obj.cells #[(.int .i64 a), (.int .i64 b)] 25)) P0_42.out.lt)
    have P1_43 := Lib.hid (P1_42.out.below ((Below.refl W42.heap.size W42).alloc (Nat.le_refl _) (Obj.cells #[(.int .i64 a), (.int .i64 b)] 25)) P1_42.out.lt)
    clear lP0_42 cP0_42_0 lP1_42 cP1_42_0 cP1_42_1
    clear HB42 P0_42 P1_42
    generalize W42.alloc (Obj.cells #[(.int .i64 a), (.int .i64 b)] 25) = W44 at *
    refine (HS.out _).mono ?_
    rintro e W45 ⟨rfl, hb45⟩
    have HB45 := Lib.hid (HB43.out.trans ((hb45).mono HB43.out.size))
    have P0_45 := Lib.hid (P0_43.out.below (hb45) P0_43.out.lt)
    have P1_45 := Lib.hid (P1_43.out.below (hb45) P1_43.out.lt)
    have Q_45 := Lib.hid (Q_43.out.below (hb45) Q_43.out.lt)
    clear HB43 P0_43 P1_43 Q_43 hb45
    have lP0_45 := P0_45.out.lt
    have cP0_45_0 := P0_45.out.c0
    have lP1_45 := P1_45.out.lt
    have cP1_45_0 := P1_45.out.c0
    have cP1_45_1 := P1_45.out.c1
    have lQ_45 := Q_45.out.lt
    have cQ_45_0 := Q_45.out.c0
    have cQ_45_1 := Q_45.out.c1
    have fP1_45_0 := P1_45.out.f0
    have fP1_45_1 := P1_45.out.f1
    have fQ_45_0 := Q_45.out.f0
    have fQ_45_1 := Q_45.out.f1
    rcases HK.out with ⟨h3, h4⟩ | h5
    · clear HK
      have g3 : (k == 3) = false := by simpa using h3
      have g4 : (k == 4) = false := by simpa using h4
      clear h3 h4 HK3
      go_wp2
      refine bodyPost_ret (v := .tuple #[.agg #[(.int .i64 a), (.int .i64 b)], .int .i64 0]) ?_ rfl ⟨rfl, ((HB45.out.setCell (p := ⟨w.heap.size + 1, 0, none⟩) (by simp) (.int .i64 a)).setCell (p := ⟨w.heap.size + 1, 1, none⟩) (by simp) (.int .i64 b))⟩
      have u0 := ((P1_45.out.set0 (.int .i64 a)).set1 (.int .i64 b)).c0
      have u1 := ((P1_45.out.set0 (.int .i64 a)).set1 (.int .i64 b)).c1
      rw [results_cell_tmp rfl]
      go_simp
    · clear HK
      clear HK3
      by_cases h3 : k = 3
      · subst h3
        go_wp2
        refine bodyPost_ret (v := .tuple #[.agg #[(.int .i64 a), (.int .i64 b)], .int .i64 0]) ?_ rfl ⟨rfl, ((HB45.out.setCell (p := ⟨w.heap.size + 1, 0, none⟩) (by simp) (.int .i64 a)).setCell (p := ⟨w.heap.size + 1, 1, none⟩) (by simp) (.int .i64 b))⟩
        have u0 := ((P1_45.out.set0 (.int .i64 a)).set1 (.int .i64 b)).c0
        have u1 := ((P1_45.out.set0 (.int .i64 a)).set1 (.int .i64 b)).c1
        rw [results_cell_tmp rfl]
        go_simp
      · have g3 : (k == 3) = false := by simpa using h3
        by_cases h4 : k = 4
        · subst h4
          go_wp2
          refine bodyPost_ret (v := .tuple #[.agg #[(.int .i64 a), (.int .i64 b)], .int .i64 0]) ?_ rfl ⟨rfl, ((HB45.out.setCell (p := ⟨w.heap.size + 1, 0, none⟩) (by simp) (.int .i64 a)).setCell (p := ⟨w.heap.size + 1, 1, none⟩) (by simp) (.int .i64 b))⟩
          have u0 := ((P1_45.out.set0 (.int .i64 a)).set1 (.int .i64 b)).c0
          have u1 := ((P1_45.out.set0 (.int .i64 a)).set1 (.int .i64 b)).c1
          rw [results_cell_tmp rfl]
          go_simp
        · have g4 : (k == 4) = false := by simpa using h4
          go_wp2
          refine bodyPost_ret (v := .tuple #[.agg #[(.int .i64 a), (.int .i64 b)], .int .i64 0]) ?_ rfl ⟨rfl, ((HB45.out.setCell (p := ⟨w.heap.size + 1, 0, none⟩) (by simp) (.int .i64 a)).setCell (p := ⟨w.heap.size + 1, 1, none⟩) (by simp) (.int .i64 b))⟩
          have u0 := ((P1_45.out.set0 (.int .i64 a)).set1 (.int .i64 b)).c0
          have u1 := ((P1_45.out.set0 (.int .i64 a)).set1 (.int .i64 b)).c1
          rw [results_cell_tmp rfl]
          go_simp

/-- Of and For answer alike, and what they answer. -/
theorem fof_ex (f n k : Int) (n1 : -9223372036854775808 ≤ n) (n2 : n ≤ 9223372036854775807) : ∃ a b e b',
    ((e = 0 ∧ calO f ∧ yrO f a ∧ 1 ≤ b ∧ b ≤ 12 ∧ fdM f a (b - 1) ≤ n ∧ n < fdM f a b ∧ b' = forB (fdM f a 12 - 1) n k b ∧ (n = fdM f a 12 - 1 → b = 12)) ∨ (e ≠ 0 ∧ a = 0 ∧ b = 0 ∧ b' = 0)) ∧
    OfSays f n a b e ∧ ROfSays f n a b e ∧
    (∀ w, Tab w → Calls Tryd.prog 18 #[.agg #[.int .i64 f], .int .i64 n, .int .i64 k] w fun x w' => x = .returned (.tuple #[.agg #[.int .i64 a, .int .i64 b'], .int .i64 e]) ∧ Below w.heap.size w w') ∧
    (∀ w, Calls Tryd.prog 19 #[.agg #[.int .i64 f], .int .i64 n, .int .i64 k] w fun x w' => x = .returned (.tuple #[.agg #[.int .i64 a, .int .i64 b'], .int .i64 e]) ∧ Below w.heap.size w w') := by
  have err : ∀ e : Int, e ≠ 0 → OfSays f n 0 0 e → ROfSays f n 0 0 e → ∃ a b e b',
    ((e = 0 ∧ calO f ∧ yrO f a ∧ 1 ≤ b ∧ b ≤ 12 ∧ fdM f a (b - 1) ≤ n ∧ n < fdM f a b ∧ b' = forB (fdM f a 12 - 1) n k b ∧ (n = fdM f a 12 - 1 → b = 12)) ∨ (e ≠ 0 ∧ a = 0 ∧ b = 0 ∧ b' = 0)) ∧
    OfSays f n a b e ∧ ROfSays f n a b e ∧
    (∀ w, Tab w → Calls Tryd.prog 18 #[.agg #[.int .i64 f], .int .i64 n, .int .i64 k] w fun x w' => x = .returned (.tuple #[.agg #[.int .i64 a, .int .i64 b'], .int .i64 e]) ∧ Below w.heap.size w w') ∧
    (∀ w, Calls Tryd.prog 19 #[.agg #[.int .i64 f], .int .i64 n, .int .i64 k] w fun x w' => x = .returned (.tuple #[.agg #[.int .i64 a, .int .i64 b'], .int .i64 e]) ∧ Below w.heap.size w w') := fun e he h1 h2 =>
    ⟨0, 0, e, 0, .inr ⟨he, rfl, rfl, rfl⟩, h1, h2, fun w ht => fFor_err f n k e w ht h1 he, fun w => rfFor_err f n k e w h2 he⟩
  by_cases hf : calO f
  · by_cases hn : n < 0 ∨ 109572 < n
    · exact err 11 (by omega) (fun w _ => fOf_no f n w hf n1 n2 hn) (fun w => rfOf_no f n w hf n1 n2 hn)
    · obtain ⟨Y, M, D, hd⟩ := IsDate.ex (n := n) (by omega) (by omega)
      have h1 : OfSays f n (ofY f Y M) (ofP f Y M) (ofX f Y M) := fun w ht => fOf_any f n Y M D w ht hf hd
      have h2 : ROfSays f n (ofY f Y M) (ofP f Y M) (ofX f Y M) := fun w => rfOf_any f n Y M D w hf hd
      by_cases hy : yrO f (pyV f Y M)
      · obtain ⟨e1, e2, e3⟩ := of_yes hy
        rw [e1, e2, e3] at h1 h2
        have hm := hd.1.m
        have hb := pn_b hf hm.1 hm.2
        have hs := py_span hf hd hy
        exact ⟨_, _, _, _, .inl ⟨rfl, hf, hy, hb.1, hb.2, hs.1, hs.2, rfl, fun h => py_last hf hd hy h⟩, h1, h2, fun w ht => fFor_ok f n k _ _ w ht h1 hf hy, fun w => rfFor_ok f n k _ _ w h2 hf hy⟩
      · obtain ⟨e1, e2, e3⟩ := of_not hy
        rw [e1, e2, e3] at h1 h2
        exact err 16 (by omega) h1 h2
  · exact err 2 (by omega) (fun w _ => fOf_cal f n w hf) (fun w => rfOf_cal f n w hf)
end Go.Proofs.YtaibjmdfkahjjaaDoor
