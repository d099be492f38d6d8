/- What Add, Sub, Mul and Quo of package frac and Sub of package accountingref03 return. -/
import Derived.Test.YtmanlfkoannkoaaFrF
namespace Go.Proofs.Ytmanlfkoannkoaa
open Go.RowKit Go.Sort
set_option linter.unusedVariables false

set_option maxHeartbeats 4000000 in
theorem rNeg_any (a b : Int) (w : World) (a1 : -9223372036854775808 < a) (a2 : a ≤ 9223372036854775807) :
    Calls Try.prog 40 #[.agg #[.int .i64 a, .int .i64 b]] w fun e w' => e = .returned (.agg #[.int .i64 (-a), .int .i64 b]) ∧ Below w.heap.size w w' := by
  go_enter Try.func40, Try.ntmps40
  go_wp2
  refine bodyPost_ret (v := .agg #[.int .i64 (-a), .int .i64 b]) ?_ rfl ⟨rfl, ((Below.refl _ _).alloc (Nat.le_refl _) _).alloc (by simp) _⟩
  rw [results_cell1 rfl]
  go_simp
set_option maxHeartbeats 4000000 in
theorem checked_any (K : Nat) (w : World) :
    Calls Try.prog 37 #[.func (.func K) #[] #[]] w fun e w' => e = .returned (.func (.func 56) #[] #[.pointer (some ⟨w.heap.size, 0, none⟩)]) ∧ w' = w.alloc (Obj.cells #[.func (.func K) #[] #[]] 55) := by
  go_enter Try.func37, Try.ntmps37
  go_wp2
  go_ret
  exact ⟨rfl, rfl⟩
theorem drawn_box (w : World) (a : Value) (t : TypeId) : Cell1 (w.alloc (Obj.cells #[a] t)).drew w.heap.size a ∧ Below w.heap.size w (w.alloc (Obj.cells #[a] t)).drew :=
  ⟨(Cell1.alloc w a t).below ((Below.refl (w.heap.size + 1) _).drew) (Nat.lt_succ_self _), ((Below.refl _ _).alloc (Nat.le_refl _) _).drew⟩

set_option maxRecDepth 100000 in
set_option maxHeartbeats 4000000 in
theorem fAdd_any (a b c d : Int) (w : World) (a1 : -9223372036854775808 ≤ a) (a2 : a ≤ 9223372036854775807) (b1 : -9223372036854775808 ≤ b) (b2 : b ≤ 9223372036854775807) (c1 : -9223372036854775808 ≤ c) (c2 : c ≤ 9223372036854775807) (d1 : -9223372036854775808 ≤ d) (d2 : d ≤ 9223372036854775807) :
    Calls Try.prog 17 #[.agg #[.int .i64 a, .int .i64 b], .agg #[.int .i64 c, .int .i64 d]] w fun e w' => e = .returned (.tuple #[.agg #[.int .i64 (opN (okB a b c d) (a * d + c * b) (b * d)), .int .i64 (opD (okB a b c d) (a * d + c * b) (b * d))], .int .i64 (opE (okB a b c d) (a * d + c * b) (b * d))]) ∧ Below w.heap.size w w' := by
  have HK := Lib.hid (fun B W hB => ckAdd_any a b c d B W a1 a2 b1 b2 c1 c2 d1 d2 hB)
  have HC := Lib.hid (fun W => checked_any 38 W)
  generalize opN (okB a b c d) (a * d + c * b) (b * d) = rn at *
  generalize opD (okB a b c d) (a * d + c * b) (b * d) = rd at *
  generalize opE (okB a b c d) (a * d + c * b) (b * d) = re at *
  go_enter Try.func17, Try.ntmps17
  go_wp2_with fail
  have P0_1 := Lib.hid (show Cell2 (((w.alloc (Obj.cells #[(.int .i64 a), (.int .i64 b)] 23)).alloc (Obj.cells #[(.int .i64 c), (.int .i64 d)] 23)).alloc (Obj.cells #[(.int .i64 0), (.int .i64 0)] 23)) (w.heap.size) (.int .i64 a) (.int .i64 b) from by have q := Cell2.alloc w (.int .i64 a) (.int .i64 b) 23; exact q.below (N := w.heap.size + 1) (((Below.refl _ _).alloc (by simp <;> omega) (Obj.cells #[(.int .i64 c), (.int .i64 d)] 23)).alloc (by simp <;> omega) (Obj.cells #[(.int .i64 0), (.int .i64 0)] 23)) (by omega))
  have P1_1 := Lib.hid (show Cell2 (((w.alloc (Obj.cells #[(.int .i64 a), (.int .i64 b)] 23)).alloc (Obj.cells #[(.int .i64 c), (.int .i64 d)] 23)).alloc (Obj.cells #[(.int .i64 0), (.int .i64 0)] 23)) (w.heap.size + 1) (.int .i64 c) (.int .i64 d) from by have q := Cell2.alloc (w.alloc (Obj.cells #[(.int .i64 a), (.int .i64 b)] 23)) (.int .i64 c) (.int .i64 d) 23; try simp only [World.size_alloc] at q; exact q.below (N := w.heap.size + 1 + 1) ((Below.refl _ _).alloc (by simp <;> omega) (Obj.cells #[(.int .i64 0), (.int .i64 0)] 23)) (by omega))
  have P2_1 := Lib.hid (show Cell2 (((w.alloc (Obj.cells #[(.int .i64 a), (.int .i64 b)] 23)).alloc (Obj.cells #[(.int .i64 c), (.int .i64 d)] 23)).alloc (Obj.cells #[(.int .i64 0), (.int .i64 0)] 23)) (w.heap.size + 2) (.int .i64 0) (.int .i64 0) from by simpa using Cell2.alloc ((w.alloc (Obj.cells #[(.int .i64 a), (.int .i64 b)] 23)).alloc (Obj.cells #[(.int .i64 c), (.int .i64 d)] 23)) (.int .i64 0) (.int .i64 0) 23)
  have HB1 := Lib.hid ((((Below.refl w.heap.size w).alloc (Nat.le_refl _) (Obj.cells #[(.int .i64 a), (.int .i64 b)] 23)).alloc (by simp) (Obj.cells #[(.int .i64 c), (.int .i64 d)] 23)).alloc (by simp; omega) (Obj.cells #[(.int .i64 0), (.int .i64 0)] 23))
  generalize (((w.alloc (Obj.cells #[(.int .i64 a), (.int .i64 b)] 23)).alloc (Obj.cells #[(.int .i64 c), (.int .i64 d)] 23)).alloc (Obj.cells #[(.int .i64 0), (.int .i64 0)] 23)) = W1 at *
  have lP0_1 := P0_1.out.lt
  have cP0_1_0 := P0_1.out.c0
  have cP0_1_1 := P0_1.out.c1
  have lP1_1 := P1_1.out.lt
  have cP1_1_0 := P1_1.out.c0
  have cP1_1_1 := P1_1.out.c1
  have lP2_1 := P2_1.out.lt
  have cP2_1_0 := P2_1.out.c0
  have cP2_1_1 := P2_1.out.c1
  have HX := Lib.hid (drawn_box W1 (.func (.func 38) #[] #[]) 55)
  go_region_with (first | (go_at_call 37; refine (HC.out _).mono ?_; rintro e w1 ⟨rfl, rfl⟩) | (go_at_call 56; refine (HK.out _ _ HX.out.1).mono ?_; rintro e w2 ⟨rfl, hb⟩; have HY := Lib.hid (HX.out.2.trans (hb.mono HX.out.2.size)); have HQ2 := Lib.hid (P2_1.out.below HY.out P2_1.out.lt); have HB2 := Lib.hid (HB1.out.trans (HY.out.mono HB1.out.size)); have y0 := HQ2.out.c0; have y1 := HQ2.out.c1; have y2 := HQ2.out.f0; have y3 := HQ2.out.f1; have y4 := HQ2.out.lt; clear hb HY HX))
  all_goals (go_wp2; refine bodyPost_ret (v := .tuple #[.agg #[.int .i64 rn, .int .i64 rd], .int .i64 re]) ?_ rfl ⟨rfl, ((HB2.out.setCell (p := ⟨w.heap.size + 2, 0, none⟩) (by simp) (.int .i64 rn)).setCell (p := ⟨w.heap.size + 2, 1, none⟩) (by simp) (.int .i64 rd))⟩; have u0 := ((HQ2.out.set0 (.int .i64 rn)).set1 (.int .i64 rd)).c0; have u1 := ((HQ2.out.set0 (.int .i64 rn)).set1 (.int .i64 rd)).c1; rw [results_cell_tmp rfl]; go_simp)

set_option maxRecDepth 100000 in
set_option maxHeartbeats 4000000 in
theorem fSub_any (a b c d : Int) (w : World) (a1 : -9223372036854775808 ≤ a) (a2 : a ≤ 9223372036854775807) (b1 : -9223372036854775808 ≤ b) (b2 : b ≤ 9223372036854775807) (c1 : -9223372036854775808 ≤ c) (c2 : c ≤ 9223372036854775807) (d1 : -9223372036854775808 ≤ d) (d2 : d ≤ 9223372036854775807) :
    Calls Try.prog 19 #[.agg #[.int .i64 a, .int .i64 b], .agg #[.int .i64 c, .int .i64 d]] w fun e w' => e = .returned (.tuple #[.agg #[.int .i64 (opN (okB a b c d) (a * d - c * b) (b * d)), .int .i64 (opD (okB a b c d) (a * d - c * b) (b * d))], .int .i64 (opE (okB a b c d) (a * d - c * b) (b * d))]) ∧ Below w.heap.size w w' := by
  have HK := Lib.hid (fun B W hB => ckSub_any a b c d B W a1 a2 b1 b2 c1 c2 d1 d2 hB)
  have HC := Lib.hid (fun W => checked_any 39 W)
  generalize opN (okB a b c d) (a * d - c * b) (b * d) = rn at *
  generalize opD (okB a b c d) (a * d - c * b) (b * d) = rd at *
  generalize opE (okB a b c d) (a * d - c * b) (b * d) = re at *
  go_enter Try.func19, Try.ntmps19
  go_wp2_with fail
  have P0_2 := Lib.hid (show Cell2 (((w.alloc (Obj.cells #[(.int .i64 a), (.int .i64 b)] 23)).alloc (Obj.cells #[(.int .i64 c), (.int .i64 d)] 23)).alloc (Obj.cells #[(.int .i64 0), (.int .i64 0)] 23)) (w.heap.size) (.int .i64 a) (.int .i64 b) from by have q := Cell2.alloc w (.int .i64 a) (.int .i64 b) 23; exact q.below (N := w.heap.size + 1) (((Below.refl _ _).alloc (by simp <;> omega) (Obj.cells #[(.int .i64 c), (.int .i64 d)] 23)).alloc (by simp <;> omega) (Obj.cells #[(.int .i64 0), (.int .i64 0)] 23)) (by omega))
  have P1_2 := Lib.hid (show Cell2 (((w.alloc (Obj.cells #[(.int .i64 a), (.int .i64 b)] 23)).alloc (Obj.cells #[(.int .i64 c), (.int .i64 d)] 23)).alloc (Obj.cells #[(.int .i64 0), (.int .i64 0)] 23)) (w.heap.size + 1) (.int .i64 c) (.int .i64 d) from by have q := Cell2.alloc (w.alloc (Obj.cells #[(.int .i64 a), (.int .i64 b)] 23)) (.int .i64 c) (.int .i64 d) 23; try simp only [World.size_alloc] at q; exact q.below (N := w.heap.size + 1 + 1) ((Below.refl _ _).alloc (by simp <;> omega) (Obj.cells #[(.int .i64 0), (.int .i64 0)] 23)) (by omega))
  have P2_2 := Lib.hid (show Cell2 (((w.alloc (Obj.cells #[(.int .i64 a), (.int .i64 b)] 23)).alloc (Obj.cells #[(.int .i64 c), (.int .i64 d)] 23)).alloc (Obj.cells #[(.int .i64 0), (.int .i64 0)] 23)) (w.heap.size + 2) (.int .i64 0) (.int .i64 0) from by simpa using Cell2.alloc ((w.alloc (Obj.cells #[(.int .i64 a), (.int .i64 b)] 23)).alloc (Obj.cells #[(.int .i64 c), (.int .i64 d)] 23)) (.int .i64 0) (.int .i64 0) 23)
  have HB2 := Lib.hid ((((Below.refl w.heap.size w).alloc (Nat.le_refl _) (Obj.cells #[(.int .i64 a), (.int .i64 b)] 23)).alloc (by simp) (Obj.cells #[(.int .i64 c), (.int .i64 d)] 23)).alloc (by simp; omega) (Obj.cells #[(.int .i64 0), (.int .i64 0)] 23))
  generalize (((w.alloc (Obj.cells #[(.int .i64 a), (.int .i64 b)] 23)).alloc (Obj.cells #[(.int .i64 c), (.int .i64 d)] 23)).alloc (Obj.cells #[(.int .i64 0), (.int .i64 0)] 23)) = W2 at *
  have lP0_2 := P0_2.out.lt
  have cP0_2_0 := P0_2.out.c0
  have cP0_2_1 := P0_2.out.c1
  have lP1_2 := P1_2.out.lt
  have cP1_2_0 := P1_2.out.c0
  have cP1_2_1 := P1_2.out.c1
  have lP2_2 := P2_2.out.lt
  have cP2_2_0 := P2_2.out.c0
  have cP2_2_1 := P2_2.out.c1
  have HX := Lib.hid (drawn_box W2 (.func (.func 39) #[] #[]) 55)
  go_region_with (first | (go_at_call 37; refine (HC.out _).mono ?_; rintro e w1 ⟨rfl, rfl⟩) | (go_at_call 56; refine (HK.out _ _ HX.out.1).mono ?_; rintro e w2 ⟨rfl, hb⟩; have HY := Lib.hid (HX.out.2.trans (hb.mono HX.out.2.size)); have HQ2 := Lib.hid (P2_2.out.below HY.out P2_2.out.lt); have HB2 := Lib.hid (HB2.out.trans (HY.out.mono HB2.out.size)); have y0 := HQ2.out.c0; have y1 := HQ2.out.c1; have y2 := HQ2.out.f0; have y3 := HQ2.out.f1; have y4 := HQ2.out.lt; clear hb HY HX))
  all_goals (go_wp2; refine bodyPost_ret (v := .tuple #[.agg #[.int .i64 rn, .int .i64 rd], .int .i64 re]) ?_ rfl ⟨rfl, ((HB2.out.setCell (p := ⟨w.heap.size + 2, 0, none⟩) (by simp) (.int .i64 rn)).setCell (p := ⟨w.heap.size + 2, 1, none⟩) (by simp) (.int .i64 rd))⟩; have u0 := ((HQ2.out.set0 (.int .i64 rn)).set1 (.int .i64 rd)).c0; have u1 := ((HQ2.out.set0 (.int .i64 rn)).set1 (.int .i64 rd)).c1; rw [results_cell_tmp rfl]; go_simp)

set_option maxRecDepth 100000 in
set_option maxHeartbeats 4000000 in
theorem fMul_any (a b c d : Int) (w : World) (a1 : -9223372036854775808 ≤ a) (a2 : a ≤ 9223372036854775807) (b1 : -9223372036854775808 ≤ b) (b2 : b ≤ 9223372036854775807) (c1 : -9223372036854775808 ≤ c) (c2 : c ≤ 9223372036854775807) (d1 : -9223372036854775808 ≤ d) (d2 : d ≤ 9223372036854775807) :
    Calls Try.prog 21 #[.agg #[.int .i64 a, .int .i64 b], .agg #[.int .i64 c, .int .i64 d]] w fun e w' => e = .returned (.tuple #[.agg #[.int .i64 (opN (okB a b c d) (a * c) (b * d)), .int .i64 (opD (okB a b c d) (a * c) (b * d))], .int .i64 (opE (okB a b c d) (a * c) (b * d))]) ∧ Below w.heap.size w w' := by
  have HK := Lib.hid (fun B W hB => ckMul_any a b c d B W a1 a2 b1 b2 c1 c2 d1 d2 hB)
  have HC := Lib.hid (fun W => checked_any 41 W)
  generalize opN (okB a b c d) (a * c) (b * d) = rn at *
  generalize opD (okB a b c d) (a * c) (b * d) = rd at *
  generalize opE (okB a b c d) (a * c) (b * d) = re at *
  go_enter Try.func21, Try.ntmps21
  go_wp2_with fail
  have P0_3 := Lib.hid (show Cell2 (((w.alloc (Obj.cells #[(.int .i64 a), (.int .i64 b)] 23)).alloc (Obj.cells #[(.int .i64 c), (.int .i64 d)] 23)).alloc (Obj.cells #[(.int .i64 0), (.int .i64 0)] 23)) (w.heap.size) (.int .i64 a) (.int .i64 b) from by have q := Cell2.alloc w (.int .i64 a) (.int .i64 b) 23; exact q.below (N := w.heap.size + 1) (((Below.refl _ _).alloc (by simp <;> omega) (Obj.cells #[(.int .i64 c), (.int .i64 d)] 23)).alloc (by simp <;> omega) (Obj.cells #[(.int .i64 0), (.int .i64 0)] 23)) (by omega))
  have P1_3 := Lib.hid (show Cell2 (((w.alloc (Obj.cells #[(.int .i64 a), (.int .i64 b)] 23)).alloc (Obj.cells #[(.int .i64 c), (.int .i64 d)] 23)).alloc (Obj.cells #[(.int .i64 0), (.int .i64 0)] 23)) (w.heap.size + 1) (.int .i64 c) (.int .i64 d) from by have q := Cell2.alloc (w.alloc (Obj.cells #[(.int .i64 a), (.int .i64 b)] 23)) (.int .i64 c) (.int .i64 d) 23; try simp only [World.size_alloc] at q; exact q.below (N := w.heap.size + 1 + 1) ((Below.refl _ _).alloc (by simp <;> omega) (Obj.cells #[(.int .i64 0), (.int .i64 0)] 23)) (by omega))
  have P2_3 := Lib.hid (show Cell2 (((w.alloc (Obj.cells #[(.int .i64 a), (.int .i64 b)] 23)).alloc (Obj.cells #[(.int .i64 c), (.int .i64 d)] 23)).alloc (Obj.cells #[(.int .i64 0), (.int .i64 0)] 23)) (w.heap.size + 2) (.int .i64 0) (.int .i64 0) from by simpa using Cell2.alloc ((w.alloc (Obj.cells #[(.int .i64 a), (.int .i64 b)] 23)).alloc (Obj.cells #[(.int .i64 c), (.int .i64 d)] 23)) (.int .i64 0) (.int .i64 0) 23)
  have HB3 := Lib.hid ((((Below.refl w.heap.size w).alloc (Nat.le_refl _) (Obj.cells #[(.int .i64 a), (.int .i64 b)] 23)).alloc (by simp) (Obj.cells #[(.int .i64 c), (.int .i64 d)] 23)).alloc (by simp; omega) (Obj.cells #[(.int .i64 0), (.int .i64 0)] 23))
  generalize (((w.alloc (Obj.cells #[(.int .i64 a), (.int .i64 b)] 23)).alloc (Obj.cells #[(.int .i64 c), (.int .i64 d)] 23)).alloc (Obj.cells #[(.int .i64 0), (.int .i64 0)] 23)) = W3 at *
  have lP0_3 := P0_3.out.lt
  have cP0_3_0 := P0_3.out.c0
  have cP0_3_1 := P0_3.out.c1
  have lP1_3 := P1_3.out.lt
  have cP1_3_0 := P1_3.out.c0
  have cP1_3_1 := P1_3.out.c1
  have lP2_3 := P2_3.out.lt
  have cP2_3_0 := P2_3.out.c0
  have cP2_3_1 := P2_3.out.c1
  have HX := Lib.hid (drawn_box W3 (.func (.func 41) #[] #[]) 55)
  go_region_with (first | (go_at_call 37; refine (HC.out _).mono ?_; rintro e w1 ⟨rfl, rfl⟩) | (go_at_call 56; refine (HK.out _ _ HX.out.1).mono ?_; rintro e w2 ⟨rfl, hb⟩; have HY := Lib.hid (HX.out.2.trans (hb.mono HX.out.2.size)); have HQ2 := Lib.hid (P2_3.out.below HY.out P2_3.out.lt); have HB2 := Lib.hid (HB3.out.trans (HY.out.mono HB3.out.size)); have y0 := HQ2.out.c0; have y1 := HQ2.out.c1; have y2 := HQ2.out.f0; have y3 := HQ2.out.f1; have y4 := HQ2.out.lt; clear hb HY HX))
  all_goals (go_wp2; refine bodyPost_ret (v := .tuple #[.agg #[.int .i64 rn, .int .i64 rd], .int .i64 re]) ?_ rfl ⟨rfl, ((HB2.out.setCell (p := ⟨w.heap.size + 2, 0, none⟩) (by simp) (.int .i64 rn)).setCell (p := ⟨w.heap.size + 2, 1, none⟩) (by simp) (.int .i64 rd))⟩; have u0 := ((HQ2.out.set0 (.int .i64 rn)).set1 (.int .i64 rd)).c0; have u1 := ((HQ2.out.set0 (.int .i64 rn)).set1 (.int .i64 rd)).c1; rw [results_cell_tmp rfl]; go_simp)

set_option maxRecDepth 100000 in
set_option maxHeartbeats 4000000 in
theorem fQuo_any (a b c d : Int) (w : World) (a1 : -9223372036854775808 ≤ a) (a2 : a ≤ 9223372036854775807) (b1 : -9223372036854775808 ≤ b) (b2 : b ≤ 9223372036854775807) (c1 : -9223372036854775808 ≤ c) (c2 : c ≤ 9223372036854775807) (d1 : -9223372036854775808 ≤ d) (d2 : d ≤ 9223372036854775807) :
    Calls Try.prog 23 #[.agg #[.int .i64 a, .int .i64 b], .agg #[.int .i64 c, .int .i64 d]] w fun e w' => e = .returned (.tuple #[.agg #[.int .i64 (opN (okB a b c d) (a * d) (b * c)), .int .i64 (opD (okB a b c d) (a * d) (b * c))], .int .i64 (opE (okB a b c d) (a * d) (b * c))]) ∧ Below w.heap.size w w' := by
  have HK := Lib.hid (fun B W hB => ckQuo_any a b c d B W a1 a2 b1 b2 c1 c2 d1 d2 hB)
  have HC := Lib.hid (fun W => checked_any 42 W)
  generalize opN (okB a b c d) (a * d) (b * c) = rn at *
  generalize opD (okB a b c d) (a * d) (b * c) = rd at *
  generalize opE (okB a b c d) (a * d) (b * c) = re at *
  go_enter Try.func23, Try.ntmps23
  go_wp2_with fail
  have P0_4 := Lib.hid (show Cell2 (((w.alloc (Obj.cells #[(.int .i64 a), (.int .i64 b)] 23)).alloc (Obj.cells #[(.int .i64 c), (.int .i64 d)] 23)).alloc (Obj.cells #[(.int .i64 0), (.int .i64 0)] 23)) (w.heap.size) (.int .i64 a) (.int .i64 b) from by have q := Cell2.alloc w (.int .i64 a) (.int .i64 b) 23; exact q.below (N := w.heap.size + 1) (((Below.refl _ _).alloc (by simp <;> omega) (Obj.cells #[(.int .i64 c), (.int .i64 d)] 23)).alloc (by simp <;> omega) (Obj.cells #[(.int .i64 0), (.int .i64 0)] 23)) (by omega))
  have P1_4 := Lib.hid (show Cell2 (((w.alloc (Obj.cells #[(.int .i64 a), (.int .i64 b)] 23)).alloc (Obj.cells #[(.int .i64 c), (.int .i64 d)] 23)).alloc (Obj.cells #[(.int .i64 0), (.int .i64 0)] 23)) (w.heap.size + 1) (.int .i64 c) (.int .i64 d) from by have q := Cell2.alloc (w.alloc (Obj.cells #[(.int .i64 a), (.int .i64 b)] 23)) (.int .i64 c) (.int .i64 d) 23; try simp only [World.size_alloc] at q; exact q.below (N := w.heap.size + 1 + 1) ((Below.refl _ _).alloc (by simp <;> omega) (Obj.cells #[(.int .i64 0), (.int .i64 0)] 23)) (by omega))
  have P2_4 := Lib.hid (show Cell2 (((w.alloc (Obj.cells #[(.int .i64 a), (.int .i64 b)] 23)).alloc (Obj.cells #[(.int .i64 c), (.int .i64 d)] 23)).alloc (Obj.cells #[(.int .i64 0), (.int .i64 0)] 23)) (w.heap.size + 2) (.int .i64 0) (.int .i64 0) from by simpa using Cell2.alloc ((w.alloc (Obj.cells #[(.int .i64 a), (.int .i64 b)] 23)).alloc (Obj.cells #[(.int .i64 c), (.int .i64 d)] 23)) (.int .i64 0) (.int .i64 0) 23)
  have HB4 := Lib.hid ((((Below.refl w.heap.size w).alloc (Nat.le_refl _) (Obj.cells #[(.int .i64 a), (.int .i64 b)] 23)).alloc (by simp) (Obj.cells #[(.int .i64 c), (.int .i64 d)] 23)).alloc (by simp; omega) (Obj.cells #[(.int .i64 0), (.int .i64 0)] 23))
  generalize (((w.alloc (Obj.cells #[(.int .i64 a), (.int .i64 b)] 23)).alloc (Obj.cells #[(.int .i64 c), (.int .i64 d)] 23)).alloc (Obj.cells #[(.int .i64 0), (.int .i64 0)] 23)) = W4 at *
  have lP0_4 := P0_4.out.lt
  have cP0_4_0 := P0_4.out.c0
  have cP0_4_1 := P0_4.out.c1
  have lP1_4 := P1_4.out.lt
  have cP1_4_0 := P1_4.out.c0
  have cP1_4_1 := P1_4.out.c1
  have lP2_4 := P2_4.out.lt
  have cP2_4_0 := P2_4.out.c0
  have cP2_4_1 := P2_4.out.c1
  have HX := Lib.hid (drawn_box W4 (.func (.func 42) #[] #[]) 55)
  go_region_with (first | (go_at_call 37; refine (HC.out _).mono ?_; rintro e w1 ⟨rfl, rfl⟩) | (go_at_call 56; refine (HK.out _ _ HX.out.1).mono ?_; rintro e w2 ⟨rfl, hb⟩; have HY := Lib.hid (HX.out.2.trans (hb.mono HX.out.2.size)); have HQ2 := Lib.hid (P2_4.out.below HY.out P2_4.out.lt); have HB2 := Lib.hid (HB4.out.trans (HY.out.mono HB4.out.size)); have y0 := HQ2.out.c0; have y1 := HQ2.out.c1; have y2 := HQ2.out.f0; have y3 := HQ2.out.f1; have y4 := HQ2.out.lt; clear hb HY HX))
  all_goals (go_wp2; refine bodyPost_ret (v := .tuple #[.agg #[.int .i64 rn, .int .i64 rd], .int .i64 re]) ?_ rfl ⟨rfl, ((HB2.out.setCell (p := ⟨w.heap.size + 2, 0, none⟩) (by simp) (.int .i64 rn)).setCell (p := ⟨w.heap.size + 2, 1, none⟩) (by simp) (.int .i64 rd))⟩; have u0 := ((HQ2.out.set0 (.int .i64 rn)).set1 (.int .i64 rd)).c0; have u1 := ((HQ2.out.set0 (.int .i64 rn)).set1 (.int .i64 rd)).c1; rw [results_cell_tmp rfl]; go_simp)

set_option maxRecDepth 100000 in
set_option maxHeartbeats 4000000 in
theorem rSub_any (a b c d : Int) (w : World) (a1 : -9223372036854775808 ≤ a) (a2 : a ≤ 9223372036854775807) (b1 : -9223372036854775808 ≤ b) (b2 : b ≤ 9223372036854775807) (c1 : -9223372036854775808 ≤ c) (c2 : c ≤ 9223372036854775807) (d1 : -9223372036854775808 ≤ d) (d2 : d ≤ 9223372036854775807) :
    Calls Try.prog 20 #[.agg #[.int .i64 a, .int .i64 b], .agg #[.int .i64 c, .int .i64 d]] w fun e w' => e = .returned (.tuple #[.agg #[.int .i64 (opN (okB a b c d) (a * d - c * b) (b * d)), .int .i64 (opD (okB a b c d) (a * d - c * b) (b * d))], .int .i64 (opE (okB a b c d) (a * d - c * b) (b * d))]) ∧ Below w.heap.size w w' := by
  by_cases h2 : rightB c d = true
  case neg =>
    have h2' : rightB c d = false := by simpa using h2
    have E0 : okB a b c d = false := ok_no2 h2'
    rw [E0, show opN false (a * d - c * b) (b * d) = 0 from rfl, show opD false (a * d - c * b) (b * d) = 0 from rfl, show opE false (a * d - c * b) (b * d) = 2 from rfl]
    clear E0
    have H2 := Lib.hid (fun W => rRight_val c d false h2' W c1 c2 d1 d2)
    clear h2 h2'
    go_enter Try.func20, Try.ntmps20
    go_wp2_with fail
    have P0_5 := Lib.hid (show Cell2 (((w.alloc (Obj.cells #[(.int .i64 a), (.int .i64 b)] 23)).alloc (Obj.cells #[(.int .i64 c), (.int .i64 d)] 23)).alloc (Obj.cells #[(.int .i64 0), (.int .i64 0)] 23)) (w.heap.size) (.int .i64 a) (.int .i64 b) from by have q := Cell2.alloc w (.int .i64 a) (.int .i64 b) 23; exact q.below (N := w.heap.size + 1) (((Below.refl _ _).alloc (by simp <;> omega) (Obj.cells #[(.int .i64 c), (.int .i64 d)] 23)).alloc (by simp <;> omega) (Obj.cells #[(.int .i64 0), (.int .i64 0)] 23)) (by omega))
    have P1_5 := Lib.hid (show Cell2 (((w.alloc (Obj.cells #[(.int .i64 a), (.int .i64 b)] 23)).alloc (Obj.cells #[(.int .i64 c), (.int .i64 d)] 23)).alloc (Obj.cells #[(.int .i64 0), (.int .i64 0)] 23)) (w.heap.size + 1) (.int .i64 c) (.int .i64 d) from by have q := Cell2.alloc (w.alloc (Obj.cells #[(.int .i64 a), (.int .i64 b)] 23)) (.int .i64 c) (.int .i64 d) 23; try simp only [World.size_alloc] at q; exact q.below (N := w.heap.size + 1 + 1) ((Below.refl _ _).alloc (by simp <;> omega) (Obj.cells #[(.int .i64 0), (.int .i64 0)] 23)) (by omega))
    have P2_5 := Lib.hid (show Cell2 (((w.alloc (Obj.cells #[(.int .i64 a), (.int .i64 b)] 23)).alloc (Obj.cells #[(.int .i64 c), (.int .i64 d)] 23)).alloc (Obj.cells #[(.int .i64 0), (.int .i64 0)] 23)) (w.heap.size + 2) (.int .i64 0) (.int .i64 0) from by simpa using Cell2.alloc ((w.alloc (Obj.cells #[(.int .i64 a), (.int .i64 b)] 23)).alloc (Obj.cells #[(.int .i64 c), (.int .i64 d)] 23)) (.int .i64 0) (.int .i64 0) 23)
    have HB5 := Lib.hid ((((Below.refl w.heap.size w).alloc (Nat.le_refl _) (Obj.cells #[(.int .i64 a), (.int .i64 b)] 23)).alloc (by simp) (Obj.cells #[(.int .i64 c), (.int .i64 d)] 23)).alloc (by simp; omega) (Obj.cells #[(.int .i64 0), (.int .i64 0)] 23))
    generalize (((w.alloc (Obj.cells #[(.int .i64 a), (.int .i64 b)] 23)).alloc (Obj.cells #[(.int .i64 c), (.int .i64 d)] 23)).alloc (Obj.cells #[(.int .i64 0), (.int .i64 0)] 23)) = W5 at *
    refine (H2.out _).mono ?_
    rintro e W6 ⟨rfl, hb6⟩
    have HB6 := Lib.hid (HB5.out.trans ((hb6).mono HB5.out.size))
    have P0_6 := Lib.hid (P0_5.out.below (hb6) P0_5.out.lt)
    have P1_6 := Lib.hid (P1_5.out.below (hb6) P1_5.out.lt)
    have P2_6 := Lib.hid (P2_5.out.below (hb6) P2_5.out.lt)
    clear HB5 P0_5 P1_5 P2_5 hb6
    have lP0_6 := P0_6.out.lt
    have cP0_6_0 := P0_6.out.c0
    have cP0_6_1 := P0_6.out.c1
    have lP1_6 := P1_6.out.lt
    have cP1_6_0 := P1_6.out.c0
    have cP1_6_1 := P1_6.out.c1
    have lP2_6 := P2_6.out.lt
    have cP2_6_0 := P2_6.out.c0
    have cP2_6_1 := P2_6.out.c1
    have fP2_6_0 := P2_6.out.f0
    have fP2_6_1 := P2_6.out.f1
    go_wp2
    refine bodyPost_ret (v := .tuple #[.agg #[(.int .i64 0), (.int .i64 0)], .int .i64 2]) ?_ rfl ⟨rfl, ((HB6.out.setCell (p := ⟨w.heap.size + 2, 0, none⟩) (by simp) (.int .i64 0)).setCell (p := ⟨w.heap.size + 2, 1, none⟩) (by simp) (.int .i64 0))⟩
    have u0 := ((P2_6.out.set0 (.int .i64 0)).set1 (.int .i64 0)).c0
    have u1 := ((P2_6.out.set0 (.int .i64 0)).set1 (.int .i64 0)).c1
    rw [results_cell_tmp rfl]
    go_simp
  have R2 := right_iff.1 h2
  have R3 := part_n R2
  have HN := Lib.hid (fun W => rNeg_any c d W (by have := R3.1; omega) (by have := R3.2; omega))
  have H2 := Lib.hid (fun W => rRight_val c d true h2 W c1 c2 d1 d2)
  have HA := Lib.hid (fun W => rAdd_any a b (-c) d W a1 a2 b1 b2 (by have := R3.2; omega) (by have := R3.1; omega) d1 d2)
  have E1 : okB a b (-c) d = okB a b c d := by unfold okB; rw [right_neg]
  have E2 : a * d + -c * b = a * d - c * b := by rw [Int.neg_mul]; rfl
  rw [E1, E2] at HA
  clear h2 R2 R3 E1 E2
  generalize opN (okB a b c d) (a * d - c * b) (b * d) = rn at *
  generalize opD (okB a b c d) (a * d - c * b) (b * d) = rd at *
  generalize opE (okB a b c d) (a * d - c * b) (b * d) = re at *
  go_enter Try.func20, Try.ntmps20
  go_wp2_with fail
  have P0_7 := Lib.hid (show Cell2 (((w.alloc (Obj.cells #[(.int .i64 a), (.int .i64 b)] 23)).alloc (Obj.cells #[(.int .i64 c), (.int .i64 d)] 23)).alloc (Obj.cells #[(.int .i64 0), (.int .i64 0)] 23)) (w.heap.size) (.int .i64 a) (.int .i64 b) from by have q := Cell2.alloc w (.int .i64 a) (.int .i64 b) 23; exact q.below (N := w.heap.size + 1) (((Below.refl _ _).alloc (by simp <;> omega) (Obj.cells #[(.int .i64 c), (.int .i64 d)] 23)).alloc (by simp <;> omega) (Obj.cells #[(.int .i64 0), (.int .i64 0)] 23)) (by omega))
  have P1_7 := Lib.hid (show Cell2 (((w.alloc (Obj.cells #[(.int .i64 a), (.int .i64 b)] 23)).alloc (Obj.cells #[(.int .i64 c), (.int .i64 d)] 23)).alloc (Obj.cells #[(.int .i64 0), (.int .i64 0)] 23)) (w.heap.size + 1) (.int .i64 c) (.int .i64 d) from by have q := Cell2.alloc (w.alloc (Obj.cells #[(.int .i64 a), (.int .i64 b)] 23)) (.int .i64 c) (.int .i64 d) 23; try simp only [World.size_alloc] at q; exact q.below (N := w.heap.size + 1 + 1) ((Below.refl _ _).alloc (by simp <;> omega) (Obj.cells #[(.int .i64 0), (.int .i64 0)] 23)) (by omega))
  have P2_7 := Lib.hid (show Cell2 (((w.alloc (Obj.cells #[(.int .i64 a), (.int .i64 b)] 23)).alloc (Obj.cells #[(.int .i64 c), (.int .i64 d)] 23)).alloc (Obj.cells #[(.int .i64 0), (.int .i64 0)] 23)) (w.heap.size + 2) (.int .i64 0) (.int .i64 0) from by simpa using Cell2.alloc ((w.alloc (Obj.cells #[(.int .i64 a), (.int .i64 b)] 23)).alloc (Obj.cells #[(.int .i64 c), (.int .i64 d)] 23)) (.int .i64 0) (.int .i64 0) 23)
  have HB7 := Lib.hid ((((Below.refl w.heap.size w).alloc (Nat.le_refl _) (Obj.cells #[(.int .i64 a), (.int .i64 b)] 23)).alloc (by simp) (Obj.cells #[(.int .i64 c), (.int .i64 d)] 23)).alloc (by simp; omega) (Obj.cells #[(.int .i64 0), (.int .i64 0)] 23))
  generalize (((w.alloc (Obj.cells #[(.int .i64 a), (.int .i64 b)] 23)).alloc (Obj.cells #[(.int .i64 c), (.int .i64 d)] 23)).alloc (Obj.cells #[(.int .i64 0), (.int .i64 0)] 23)) = W7 at *
  refine (H2.out _).mono ?_
  rintro e W8 ⟨rfl, hb8⟩
  have HB8 := Lib.hid (HB7.out.trans ((hb8).mono HB7.out.size))
  have P0_8 := Lib.hid (P0_7.out.below (hb8) P0_7.out.lt)
  have P1_8 := Lib.hid (P1_7.out.below (hb8) P1_7.out.lt)
  have P2_8 := Lib.hid (P2_7.out.below (hb8) P2_7.out.lt)
  clear HB7 P0_7 P1_7 P2_7 hb8
  have lP0_8 := P0_8.out.lt
  have cP0_8_0 := P0_8.out.c0
  have cP0_8_1 := P0_8.out.c1
  have lP1_8 := P1_8.out.lt
  have cP1_8_0 := P1_8.out.c0
  have cP1_8_1 := P1_8.out.c1
  have lP2_8 := P2_8.out.lt
  have cP2_8_0 := P2_8.out.c0
  have cP2_8_1 := P2_8.out.c1
  go_wp2_with fail
  have HX := Lib.hid ((Below.refl W8.heap.size W8).drew)
  go_region_with (first | (go_at_call 40; refine (HN.out _).mono ?_; rintro e w1 ⟨rfl, hb⟩; have HY := Lib.hid (HX.out.trans (hb.mono HX.out.size)); have HQ0 := Lib.hid (P0_8.out.below HY.out P0_8.out.lt); have HQ1 := Lib.hid (P2_8.out.below HY.out P2_8.out.lt); have HB1' := Lib.hid (HB8.out.trans (HY.out.mono HB8.out.size)); have x0 := HQ0.out.c0; have x1 := HQ0.out.c1; have x4 := HQ0.out.lt; clear hb HY HX) | (go_at_call 18; refine (HA.out _).mono ?_; rintro e w2 ⟨rfl, hb⟩; have HQ2 := Lib.hid (HQ1.out.below hb HQ1.out.lt); have HB2 := Lib.hid (HB1'.out.trans (hb.mono HB1'.out.size)); have y0 := HQ2.out.c0; have y1 := HQ2.out.c1; have y2 := HQ2.out.f0; have y3 := HQ2.out.f1; have y4 := HQ2.out.lt; clear hb))
  all_goals (go_wp2; refine bodyPost_ret (v := .tuple #[.agg #[.int .i64 rn, .int .i64 rd], .int .i64 re]) ?_ rfl ⟨rfl, ((HB2.out.setCell (p := ⟨w.heap.size + 2, 0, none⟩) (by simp) (.int .i64 rn)).setCell (p := ⟨w.heap.size + 2, 1, none⟩) (by simp) (.int .i64 rd))⟩; have u0 := ((HQ2.out.set0 (.int .i64 rn)).set1 (.int .i64 rd)).c0; have u1 := ((HQ2.out.set0 (.int .i64 rn)).set1 (.int .i64 rd)).c1; rw [results_cell_tmp rfl]; go_simp)

end Go.Proofs.Ytmanlfkoannkoaa
