/- What Add, Sub, Mul and Quo of package frac and Sub of package accountingref03 return. -/
import Derived.Test.YtlndomnampcnfaaFrF
namespace Go.Proofs.Ytlndomnampcnfaa
open Go.RowKit Go.Sort
set_option linter.unusedVariables false

set_option maxHeartbeats 4000000 in
theorem rNeg_any (a b : Int) (w : World) (a1 : -9223372036854775808 < a) (a2 : a ≤ 9223372036854775807) :
    Calls Try.prog 23 #[.agg #[.int .i64 a, .int .i64 b]] w fun e w' => e = .returned (.agg #[.int .i64 (-a), .int .i64 b]) ∧ Below w.heap.size w w' := by
  go_enter Try.func23, Try.ntmps23
  go_wp2
  refine bodyPost_ret (v := .agg #[.int .i64 (-a), .int .i64 b]) ?_ rfl ⟨rfl, ((Below.refl _ _).alloc (Nat.le_refl _) _).alloc (by simp) _⟩
  rw [results_cell1 rfl]
  go_simp
set_option maxHeartbeats 4000000 in
theorem checked_any (K : Nat) (w : World) :
    Calls Try.prog 27 #[.func (.func K) #[] #[]] w fun e w' => e = .returned (.func (.func 43) #[] #[.pointer (some ⟨w.heap.size, 0, none⟩)]) ∧ w' = w.alloc (Obj.cells #[.func (.func K) #[] #[]] 61) := by
  go_enter Try.func27, Try.ntmps27
  go_wp2
  go_ret
  exact ⟨rfl, rfl⟩
theorem drawn_box (w : World) (a : Value) (t : TypeId) : Cell1 (w.alloc (Obj.cells #[a] t)).drew w.heap.size a ∧ Below w.heap.size w (w.alloc (Obj.cells #[a] t)).drew :=
  ⟨(Cell1.alloc w a t).below ((Below.refl (w.heap.size + 1) _).drew) (Nat.lt_succ_self _), ((Below.refl _ _).alloc (Nat.le_refl _) _).drew⟩

set_option maxRecDepth 100000 in
set_option maxHeartbeats 4000000 in
theorem fAdd_any (a b c d : Int) (w : World) (a1 : -9223372036854775808 ≤ a) (a2 : a ≤ 9223372036854775807) (b1 : -9223372036854775808 ≤ b) (b2 : b ≤ 9223372036854775807) (c1 : -9223372036854775808 ≤ c) (c2 : c ≤ 9223372036854775807) (d1 : -9223372036854775808 ≤ d) (d2 : d ≤ 9223372036854775807) :
    Calls Try.prog 11 #[.agg #[.int .i64 a, .int .i64 b], .agg #[.int .i64 c, .int .i64 d]] w fun e w' => e = .returned (.tuple #[.agg #[.int .i64 (opN (okB a b c d) (a * d + c * b) (b * d)), .int .i64 (opD (okB a b c d) (a * d + c * b) (b * d))], .int .i64 (opE (okB a b c d) (a * d + c * b) (b * d))]) ∧ Below w.heap.size w w' := by
  have HK := Lib.hid (fun B W hB => ckAdd_any a b c d B W a1 a2 b1 b2 c1 c2 d1 d2 hB)
  have HC := Lib.hid (fun W => checked_any 28 W)
  generalize opN (okB a b c d) (a * d + c * b) (b * d) = rn at *
  generalize opD (okB a b c d) (a * d + c * b) (b * d) = rd at *
  generalize opE (okB a b c d) (a * d + c * b) (b * d) = re at *
  go_enter Try.func11, Try.ntmps11
  go_wp2_with fail
  have P0_1 := Lib.hid (show Cell2 (((w.alloc (Obj.cells #[(.int .i64 a), (.int .i64 b)] 24)).alloc (Obj.cells #[(.int .i64 c), (.int .i64 d)] 24)).alloc (Obj.cells #[(.int .i64 0), (.int .i64 0)] 24)) (w.heap.size) (.int .i64 a) (.int .i64 b) from by have q := Cell2.alloc w (.int .i64 a) (.int .i64 b) 24; exact q.below (N := w.heap.size + 1) (((Below.refl _ _).alloc (by simp <;> omega) (Obj.cells #[(.int .i64 c), (.int .i64 d)] 24)).alloc (by simp <;> omega) (Obj.cells #[(.int .i64 0), (.int .i64 0)] 24)) (by omega))
  have P1_1 := Lib.hid (show Cell2 (((w.alloc (Obj.cells #[(.int .i64 a), (.int .i64 b)] 24)).alloc (Obj.cells #[(.int .i64 c), (.int .i64 d)] 24)).alloc (Obj.cells #[(.int .i64 0), (.int .i64 0)] 24)) (w.heap.size + 1) (.int .i64 c) (.int .i64 d) from by have q := Cell2.alloc (w.alloc (Obj.cells #[(.int .i64 a), (.int .i64 b)] 24)) (.int .i64 c) (.int .i64 d) 24; try simp only [World.size_alloc] at q; exact q.below (N := w.heap.size + 1 + 1) ((Below.refl _ _).alloc (by simp <;> omega) (Obj.cells #[(.int .i64 0), (.int .i64 0)] 24)) (by omega))
  have P2_1 := Lib.hid (show Cell2 (((w.alloc (Obj.cells #[(.int .i64 a), (.int .i64 b)] 24)).alloc (Obj.cells #[(.int .i64 c), (.int .i64 d)] 24)).alloc (Obj.cells #[(.int .i64 0), (.int .i64 0)] 24)) (w.heap.size + 2) (.int .i64 0) (.int .i64 0) from by simpa using Cell2.alloc ((w.alloc (Obj.cells #[(.int .i64 a), (.int .i64 b)] 24)).alloc (Obj.cells #[(.int .i64 c), (.int .i64 d)] 24)) (.int .i64 0) (.int .i64 0) 24)
  have HB1 := Lib.hid ((((Below.refl w.heap.size w).alloc (Nat.le_refl _) (Obj.cells #[(.int .i64 a), (.int .i64 b)] 24)).alloc (by simp) (Obj.cells #[(.int .i64 c), (.int .i64 d)] 24)).alloc (by simp; omega) (Obj.cells #[(.int .i64 0), (.int .i64 0)] 24))
  generalize (((w.alloc (Obj.cells #[(.int .i64 a), (.int .i64 b)] 24)).alloc (Obj.cells #[(.int .i64 c), (.int .i64 d)] 24)).alloc (Obj.cells #[(.int .i64 0), (.int .i64 0)] 24)) = W1 at *
  have lP0_1 := P0_1.out.lt
  have cP0_1_0 := P0_1.out.c0
  have cP0_1_1 := P0_1.out.c1
  have lP1_1 := P1_1.out.lt
  have cP1_1_0 := P1_1.out.c0
  have cP1_1_1 := P1_1.out.c1
  have lP2_1 := P2_1.out.lt
  have cP2_1_0 := P2_1.out.c0
  have cP2_1_1 := P2_1.out.c1
  have HX := Lib.hid (drawn_box W1 (.func (.func 28) #[] #[]) 61)
  go_region_with (first | (go_at_call 27; refine (HC.out _).mono ?_; rintro e w1 ⟨rfl, rfl⟩) | (go_at_call 43; refine (HK.out _ _ HX.out.1).mono ?_; rintro e w2 ⟨rfl, hb⟩; have HY := Lib.hid (HX.out.2.trans (hb.mono HX.out.2.size)); have HQ2 := Lib.hid (P2_1.out.below HY.out P2_1.out.lt); have HB2 := Lib.hid (HB1.out.trans (HY.out.mono HB1.out.size)); have y0 := HQ2.out.c0; have y1 := HQ2.out.c1; have y2 := HQ2.out.f0; have y3 := HQ2.out.f1; have y4 := HQ2.out.lt; clear hb HY HX))
  all_goals (go_wp2; refine bodyPost_ret (v := .tuple #[.agg #[.int .i64 rn, .int .i64 rd], .int .i64 re]) ?_ rfl ⟨rfl, ((HB2.out.setCell (p := ⟨w.heap.size + 2, 0, none⟩) (by simp) (.int .i64 rn)).setCell (p := ⟨w.heap.size + 2, 1, none⟩) (by simp) (.int .i64 rd))⟩; have u0 := ((HQ2.out.set0 (.int .i64 rn)).set1 (.int .i64 rd)).c0; have u1 := ((HQ2.out.set0 (.int .i64 rn)).set1 (.int .i64 rd)).c1; rw [results_cell_tmp rfl]; go_simp)

end Go.Proofs.Ytlndomnampcnfaa
