/- What Round and Scale of package accountingref07 return; the statement MoneyScales. -/
import Derived.Test.YtbiicdpmilplmaaDoorMoW
namespace Go.Proofs.YtbiicdpmilplmaaDoor
open Go.RowKit Go.Sort
set_option linter.unusedVariables false

set_option maxHeartbeats 1000000 in
theorem round_1_1p (A : Int) (w : World) (h1 : 0 ≤ A) (h2 : A ≤ 1000000000000000) :
    Calls Tryd.prog 29 #[.int .i64 A, .int .i64 1, .int .i64 1] w fun e w' => e = .returned (.int .i64 (rndV A 1 1)) ∧ Below w.heap.size w w' := by
  go_enter Tryd.func29, Tryd.ntmps29
  go_wp2_with fail
  go_quiet (fail)
  go_wp2
  all_goals (go_ret; refine ⟨ret_int ?_, below_drewN (Below.refl _ _) _⟩; unfold rndV rndUp; grind)
set_option maxHeartbeats 1000000 in
theorem round_1_1n (A : Int) (w : World) (h1 : 0 < A) (h2 : A ≤ 1000000000000000) :
    Calls Tryd.prog 29 #[.int .i64 (-A), .int .i64 1, .int .i64 1] w fun e w' => e = .returned (.int .i64 (rndV (-A) 1 1)) ∧ Below w.heap.size w w' := by
  have k1 : (-A) / 1 = -A := by omega
  have k2 : (-A) % 1 = 0 := by omega
  have K := Lib.hid (And.intro k1 k2)
  clear k1 k2
  go_enter Tryd.func29, Tryd.ntmps29
  go_wp2_with fail
  go_quiet (fail)
  go_wp2
  all_goals (go_ret; refine ⟨ret_int ?_, below_drewN (Below.refl _ _) _⟩; have k := K.out; unfold rndV rndUp; grind)
set_option maxHeartbeats 1000000 in
theorem round_1_2p (A : Int) (w : World) (h1 : 0 ≤ A) (h2 : A ≤ 1000000000000000) :
    Calls Tryd.prog 29 #[.int .i64 A, .int .i64 1, .int .i64 2] w fun e w' => e = .returned (.int .i64 (rndV A 1 2)) ∧ Below w.heap.size w w' := by
  go_enter Tryd.func29, Tryd.ntmps29
  go_wp2_with fail
  go_quiet (fail)
  go_wp2
  all_goals (go_ret; refine ⟨ret_int ?_, below_drewN (Below.refl _ _) _⟩; unfold rndV rndUp; grind)
set_option maxHeartbeats 1000000 in
theorem round_1_2n (A : Int) (w : World) (h1 : 0 < A) (h2 : A ≤ 1000000000000000) :
    Calls Tryd.prog 29 #[.int .i64 (-A), .int .i64 1, .int .i64 2] w fun e w' => e = .returned (.int .i64 (rndV (-A) 1 2)) ∧ Below w.heap.size w w' := by
  have k1 : (-A) / 1 = -A := by omega
  have k2 : (-A) % 1 = 0 := by omega
  have K := Lib.hid (And.intro k1 k2)
  clear k1 k2
  go_enter Tryd.func29, Tryd.ntmps29
  go_wp2_with fail
  go_quiet (fail)
  go_wp2
  all_goals (go_ret; refine ⟨ret_int ?_, below_drewN (Below.refl _ _) _⟩; have k := K.out; unfold rndV rndUp; grind)
set_option maxHeartbeats 1000000 in
theorem round_1_3p (A : Int) (w : World) (h1 : 0 ≤ A) (h2 : A ≤ 1000000000000000) :
    Calls Tryd.prog 29 #[.int .i64 A, .int .i64 1, .int .i64 3] w fun e w' => e = .returned (.int .i64 (rndV A 1 3)) ∧ Below w.heap.size w w' := by
  go_enter Tryd.func29, Tryd.ntmps29
  go_wp2_with fail
  go_quiet (fail)
  go_wp2
  all_goals (go_ret; refine ⟨ret_int ?_, below_drewN (Below.refl _ _) _⟩; unfold rndV rndUp; grind)
set_option maxHeartbeats 1000000 in
theorem round_1_3n (A : Int) (w : World) (h1 : 0 < A) (h2 : A ≤ 1000000000000000) :
    Calls Tryd.prog 29 #[.int .i64 (-A), .int .i64 1, .int .i64 3] w fun e w' => e = .returned (.int .i64 (rndV (-A) 1 3)) ∧ Below w.heap.size w w' := by
  have k1 : (-A) / 1 = -A := by omega
  have k2 : (-A) % 1 = 0 := by omega
  have K := Lib.hid (And.intro k1 k2)
  clear k1 k2
  go_enter Tryd.func29, Tryd.ntmps29
  go_wp2_with fail
  go_quiet (fail)
  go_wp2
  all_goals (go_ret; refine ⟨ret_int ?_, below_drewN (Below.refl _ _) _⟩; have k := K.out; unfold rndV rndUp; grind)
set_option maxHeartbeats 1000000 in
theorem round_1_4p (A : Int) (w : World) (h1 : 0 ≤ A) (h2 : A ≤ 1000000000000000) :
    Calls Tryd.prog 29 #[.int .i64 A, .int .i64 1, .int .i64 4] w fun e w' => e = .returned (.int .i64 (rndV A 1 4)) ∧ Below w.heap.size w w' := by
  go_enter Tryd.func29, Tryd.ntmps29
  go_wp2_with fail
  go_quiet (fail)
  go_wp2
  all_goals (go_ret; refine ⟨ret_int ?_, below_drewN (Below.refl _ _) _⟩; unfold rndV rndUp; grind)
set_option maxHeartbeats 1000000 in
theorem round_1_4n (A : Int) (w : World) (h1 : 0 < A) (h2 : A ≤ 1000000000000000) :
    Calls Tryd.prog 29 #[.int .i64 (-A), .int .i64 1, .int .i64 4] w fun e w' => e = .returned (.int .i64 (rndV (-A) 1 4)) ∧ Below w.heap.size w w' := by
  have k1 : (-A) / 1 = -A := by omega
  have k2 : (-A) % 1 = 0 := by omega
  have K := Lib.hid (And.intro k1 k2)
  clear k1 k2
  go_enter Tryd.func29, Tryd.ntmps29
  go_wp2_with fail
  go_quiet (fail)
  go_wp2
  all_goals (go_ret; refine ⟨ret_int ?_, below_drewN (Below.refl _ _) _⟩; have k := K.out; unfold rndV rndUp; grind)
set_option maxHeartbeats 1000000 in
theorem round_1_5p (A : Int) (w : World) (h1 : 0 ≤ A) (h2 : A ≤ 1000000000000000) :
    Calls Tryd.prog 29 #[.int .i64 A, .int .i64 1, .int .i64 5] w fun e w' => e = .returned (.int .i64 (rndV A 1 5)) ∧ Below w.heap.size w w' := by
  go_enter Tryd.func29, Tryd.ntmps29
  go_wp2_with fail
  go_quiet (fail)
  go_wp2
  all_goals (go_ret; refine ⟨ret_int ?_, below_drewN (Below.refl _ _) _⟩; unfold rndV rndUp; grind)
set_option maxHeartbeats 1000000 in
theorem round_1_5n (A : Int) (w : World) (h1 : 0 < A) (h2 : A ≤ 1000000000000000) :
    Calls Tryd.prog 29 #[.int .i64 (-A), .int .i64 1, .int .i64 5] w fun e w' => e = .returned (.int .i64 (rndV (-A) 1 5)) ∧ Below w.heap.size w w' := by
  have k1 : (-A) / 1 = -A := by omega
  have k2 : (-A) % 1 = 0 := by omega
  have K := Lib.hid (And.intro k1 k2)
  clear k1 k2
  go_enter Tryd.func29, Tryd.ntmps29
  go_wp2_with fail
  go_quiet (fail)
  go_wp2
  all_goals (go_ret; refine ⟨ret_int ?_, below_drewN (Below.refl _ _) _⟩; have k := K.out; unfold rndV rndUp; grind)
set_option maxHeartbeats 1000000 in
theorem round_10_1p (A : Int) (w : World) (h1 : 0 ≤ A) (h2 : A ≤ 1000000000000000) :
    Calls Tryd.prog 29 #[.int .i64 A, .int .i64 10, .int .i64 1] w fun e w' => e = .returned (.int .i64 (rndV A 10 1)) ∧ Below w.heap.size w w' := by
  go_enter Tryd.func29, Tryd.ntmps29
  go_wp2_with fail
  go_quiet (fail)
  go_wp2
  all_goals (go_ret; refine ⟨ret_int ?_, below_drewN (Below.refl _ _) _⟩; unfold rndV rndUp; grind)
set_option maxHeartbeats 1000000 in
theorem round_10_1n (A : Int) (w : World) (h1 : 0 < A) (h2 : A ≤ 1000000000000000) :
    Calls Tryd.prog 29 #[.int .i64 (-A), .int .i64 10, .int .i64 1] w fun e w' => e = .returned (.int .i64 (rndV (-A) 10 1)) ∧ Below w.heap.size w w' := by
  have e0 : wrap64 (-A.tdiv 10) = -(A / 10) := by rw [Int.tdiv_eq_ediv_of_nonneg (by omega)]; unfold wrap64; omega
  by_cases hr : A % 10 = 0
  · have K := Lib.hid (show (-A) / 10 = -(A / 10) ∧ (-A) % 10 = 0 by omega)
    go_enter Tryd.func29, Tryd.ntmps29
    go_wp2_with fail
    go_quiet (fail)
    go_wp2
    all_goals (go_ret; refine ⟨ret_int ?_, below_drewN (Below.refl _ _) _⟩; have k := K.out; unfold rndV rndUp; grind)
  · have K := Lib.hid (show (-A) / 10 = -(A / 10) - 1 ∧ (-A) % 10 = 10 - A % 10 ∧ 0 < A % 10 ∧ A % 10 < 10 by omega)
    have hr2 : 0 < A % 10 := by omega
    go_enter Tryd.func29, Tryd.ntmps29
    go_wp2_with fail
    go_quiet (fail)
    go_wp2
    all_goals (go_ret; refine ⟨ret_int ?_, below_drewN (Below.refl _ _) _⟩; have k := K.out; unfold rndV rndUp; grind)
set_option maxHeartbeats 1000000 in
theorem round_10_2p (A : Int) (w : World) (h1 : 0 ≤ A) (h2 : A ≤ 1000000000000000) :
    Calls Tryd.prog 29 #[.int .i64 A, .int .i64 10, .int .i64 2] w fun e w' => e = .returned (.int .i64 (rndV A 10 2)) ∧ Below w.heap.size w w' := by
  go_enter Tryd.func29, Tryd.ntmps29
  go_wp2_with fail
  go_quiet (fail)
  go_wp2
  all_goals (go_ret; refine ⟨ret_int ?_, below_drewN (Below.refl _ _) _⟩; unfold rndV rndUp; grind)
set_option maxHeartbeats 1000000 in
theorem round_10_2n (A : Int) (w : World) (h1 : 0 < A) (h2 : A ≤ 1000000000000000) :
    Calls Tryd.prog 29 #[.int .i64 (-A), .int .i64 10, .int .i64 2] w fun e w' => e = .returned (.int .i64 (rndV (-A) 10 2)) ∧ Below w.heap.size w w' := by
  have e0 : wrap64 (-A.tdiv 10) = -(A / 10) := by rw [Int.tdiv_eq_ediv_of_nonneg (by omega)]; unfold wrap64; omega
  by_cases hr : A % 10 = 0
  · have K := Lib.hid (show (-A) / 10 = -(A / 10) ∧ (-A) % 10 = 0 by omega)
    go_enter Tryd.func29, Tryd.ntmps29
    go_wp2_with fail
    go_quiet (fail)
    go_wp2
    all_goals (go_ret; refine ⟨ret_int ?_, below_drewN (Below.refl _ _) _⟩; have k := K.out; unfold rndV rndUp; grind)
  · have K := Lib.hid (show (-A) / 10 = -(A / 10) - 1 ∧ (-A) % 10 = 10 - A % 10 ∧ 0 < A % 10 ∧ A % 10 < 10 by omega)
    have hr2 : 0 < A % 10 := by omega
    go_enter Tryd.func29, Tryd.ntmps29
    go_wp2_with fail
    go_quiet (fail)
    go_wp2
    all_goals (go_ret; refine ⟨ret_int ?_, below_drewN (Below.refl _ _) _⟩; have k := K.out; unfold rndV rndUp; grind)
set_option maxHeartbeats 1000000 in
theorem round_10_3p (A : Int) (w : World) (h1 : 0 ≤ A) (h2 : A ≤ 1000000000000000) :
    Calls Tryd.prog 29 #[.int .i64 A, .int .i64 10, .int .i64 3] w fun e w' => e = .returned (.int .i64 (rndV A 10 3)) ∧ Below w.heap.size w w' := by
  go_enter Tryd.func29, Tryd.ntmps29
  go_wp2_with fail
  go_quiet (fail)
  go_wp2
  all_goals (go_ret; refine ⟨ret_int ?_, below_drewN (Below.refl _ _) _⟩; unfold rndV rndUp; grind)
set_option maxHeartbeats 1000000 in
theorem round_10_3n (A : Int) (w : World) (h1 : 0 < A) (h2 : A ≤ 1000000000000000) :
    Calls Tryd.prog 29 #[.int .i64 (-A), .int .i64 10, .int .i64 3] w fun e w' => e = .returned (.int .i64 (rndV (-A) 10 3)) ∧ Below w.heap.size w w' := by
  have e0 : wrap64 (-A.tdiv 10) = -(A / 10) := by rw [Int.tdiv_eq_ediv_of_nonneg (by omega)]; unfold wrap64; omega
  by_cases hr : A % 10 = 0
  · have K := Lib.hid (show (-A) / 10 = -(A / 10) ∧ (-A) % 10 = 0 by omega)
    go_enter Tryd.func29, Tryd.ntmps29
    go_wp2_with fail
    go_quiet (fail)
    go_wp2
    all_goals (go_ret; refine ⟨ret_int ?_, below_drewN (Below.refl _ _) _⟩; have k := K.out; unfold rndV rndUp; grind)
  · have K := Lib.hid (show (-A) / 10 = -(A / 10) - 1 ∧ (-A) % 10 = 10 - A % 10 ∧ 0 < A % 10 ∧ A % 10 < 10 by omega)
    have hr2 : 0 < A % 10 := by omega
    go_enter Tryd.func29, Tryd.ntmps29
    go_wp2_with fail
    go_quiet (fail)
    go_wp2
    all_goals (go_ret; refine ⟨ret_int ?_, below_drewN (Below.refl _ _) _⟩; have k := K.out; unfold rndV rndUp; grind)
set_option maxHeartbeats 1000000 in
theorem round_10_4p (A : Int) (w : World) (h1 : 0 ≤ A) (h2 : A ≤ 1000000000000000) :
    Calls Tryd.prog 29 #[.int .i64 A, .int .i64 10, .int .i64 4] w fun e w' => e = .returned (.int .i64 (rndV A 10 4)) ∧ Below w.heap.size w w' := by
  go_enter Tryd.func29, Tryd.ntmps29
  go_wp2_with fail
  go_quiet (fail)
  go_wp2
  all_goals (go_ret; refine ⟨ret_int ?_, below_drewN (Below.refl _ _) _⟩; unfold rndV rndUp; grind)
set_option maxHeartbeats 1000000 in
theorem round_10_4n (A : Int) (w : World) (h1 : 0 < A) (h2 : A ≤ 1000000000000000) :
    Calls Tryd.prog 29 #[.int .i64 (-A), .int .i64 10, .int .i64 4] w fun e w' => e = .returned (.int .i64 (rndV (-A) 10 4)) ∧ Below w.heap.size w w' := by
  have e0 : wrap64 (-A.tdiv 10) = -(A / 10) := by rw [Int.tdiv_eq_ediv_of_nonneg (by omega)]; unfold wrap64; omega
  by_cases hr : A % 10 = 0
  · have K := Lib.hid (show (-A) / 10 = -(A / 10) ∧ (-A) % 10 = 0 by omega)
    go_enter Tryd.func29, Tryd.ntmps29
    go_wp2_with fail
    go_quiet (fail)
    go_wp2
    all_goals (go_ret; refine ⟨ret_int ?_, below_drewN (Below.refl _ _) _⟩; have k := K.out; unfold rndV rndUp; grind)
  · have K := Lib.hid (show (-A) / 10 = -(A / 10) - 1 ∧ (-A) % 10 = 10 - A % 10 ∧ 0 < A % 10 ∧ A % 10 < 10 by omega)
    have hr2 : 0 < A % 10 := by omega
    go_enter Tryd.func29, Tryd.ntmps29
    go_wp2_with fail
    go_quiet (fail)
    go_wp2
    all_goals (go_ret; refine ⟨ret_int ?_, below_drewN (Below.refl _ _) _⟩; have k := K.out; unfold rndV rndUp; grind)
set_option maxHeartbeats 1000000 in
theorem round_10_5p (A : Int) (w : World) (h1 : 0 ≤ A) (h2 : A ≤ 1000000000000000) :
    Calls Tryd.prog 29 #[.int .i64 A, .int .i64 10, .int .i64 5] w fun e w' => e = .returned (.int .i64 (rndV A 10 5)) ∧ Below w.heap.size w w' := by
  go_enter Tryd.func29, Tryd.ntmps29
  go_wp2_with fail
  go_quiet (fail)
  go_wp2
  all_goals (go_ret; refine ⟨ret_int ?_, below_drewN (Below.refl _ _) _⟩; unfold rndV rndUp; grind)
set_option maxHeartbeats 1000000 in
theorem round_10_5n (A : Int) (w : World) (h1 : 0 < A) (h2 : A ≤ 1000000000000000) :
    Calls Tryd.prog 29 #[.int .i64 (-A), .int .i64 10, .int .i64 5] w fun e w' => e = .returned (.int .i64 (rndV (-A) 10 5)) ∧ Below w.heap.size w w' := by
  have e0 : wrap64 (-A.tdiv 10) = -(A / 10) := by rw [Int.tdiv_eq_ediv_of_nonneg (by omega)]; unfold wrap64; omega
  by_cases hr : A % 10 = 0
  · have K := Lib.hid (show (-A) / 10 = -(A / 10) ∧ (-A) % 10 = 0 by omega)
    go_enter Tryd.func29, Tryd.ntmps29
    go_wp2_with fail
    go_quiet (fail)
    go_wp2
    all_goals (go_ret; refine ⟨ret_int ?_, below_drewN (Below.refl _ _) _⟩; have k := K.out; unfold rndV rndUp; grind)
  · have K := Lib.hid (show (-A) / 10 = -(A / 10) - 1 ∧ (-A) % 10 = 10 - A % 10 ∧ 0 < A % 10 ∧ A % 10 < 10 by omega)
    have hr2 : 0 < A % 10 := by omega
    go_enter Tryd.func29, Tryd.ntmps29
    go_wp2_with fail
    go_quiet (fail)
    go_wp2
    all_goals (go_ret; refine ⟨ret_int ?_, below_drewN (Below.refl _ _) _⟩; have k := K.out; unfold rndV rndUp; grind)
set_option maxHeartbeats 1000000 in
theorem round_100_1p (A : Int) (w : World) (h1 : 0 ≤ A) (h2 : A ≤ 1000000000000000) :
    Calls Tryd.prog 29 #[.int .i64 A, .int .i64 100, .int .i64 1] w fun e w' => e = .returned (.int .i64 (rndV A 100 1)) ∧ Below w.heap.size w w' := by
  go_enter Tryd.func29, Tryd.ntmps29
  go_wp2_with fail
  go_quiet (fail)
  go_wp2
  all_goals (go_ret; refine ⟨ret_int ?_, below_drewN (Below.refl _ _) _⟩; unfold rndV rndUp; grind)
set_option maxHeartbeats 1000000 in
theorem round_100_1n (A : Int) (w : World) (h1 : 0 < A) (h2 : A ≤ 1000000000000000) :
    Calls Tryd.prog 29 #[.int .i64 (-A), .int .i64 100, .int .i64 1] w fun e w' => e = .returned (.int .i64 (rndV (-A) 100 1)) ∧ Below w.heap.size w w' := by
  have e0 : wrap64 (-A.tdiv 100) = -(A / 100) := by rw [Int.tdiv_eq_ediv_of_nonneg (by omega)]; unfold wrap64; omega
  by_cases hr : A % 100 = 0
  · have K := Lib.hid (show (-A) / 100 = -(A / 100) ∧ (-A) % 100 = 0 by omega)
    go_enter Tryd.func29, Tryd.ntmps29
    go_wp2_with fail
    go_quiet (fail)
    go_wp2
    all_goals (go_ret; refine ⟨ret_int ?_, below_drewN (Below.refl _ _) _⟩; have k := K.out; unfold rndV rndUp; grind)
  · have K := Lib.hid (show (-A) / 100 = -(A / 100) - 1 ∧ (-A) % 100 = 100 - A % 100 ∧ 0 < A % 100 ∧ A % 100 < 100 by omega)
    have hr2 : 0 < A % 100 := by omega
    go_enter Tryd.func29, Tryd.ntmps29
    go_wp2_with fail
    go_quiet (fail)
    go_wp2
    all_goals (go_ret; refine ⟨ret_int ?_, below_drewN (Below.refl _ _) _⟩; have k := K.out; unfold rndV rndUp; grind)
set_option maxHeartbeats 1000000 in
theorem round_100_2p (A : Int) (w : World) (h1 : 0 ≤ A) (h2 : A ≤ 1000000000000000) :
    Calls Tryd.prog 29 #[.int .i64 A, .int .i64 100, .int .i64 2] w fun e w' => e = .returned (.int .i64 (rndV A 100 2)) ∧ Below w.heap.size w w' := by
  go_enter Tryd.func29, Tryd.ntmps29
  go_wp2_with fail
  go_quiet (fail)
  go_wp2
  all_goals (go_ret; refine ⟨ret_int ?_, below_drewN (Below.refl _ _) _⟩; unfold rndV rndUp; grind)
set_option maxHeartbeats 1000000 in
theorem round_100_2n (A : Int) (w : World) (h1 : 0 < A) (h2 : A ≤ 1000000000000000) :
    Calls Tryd.prog 29 #[.int .i64 (-A), .int .i64 100, .int .i64 2] w fun e w' => e = .returned (.int .i64 (rndV (-A) 100 2)) ∧ Below w.heap.size w w' := by
  have e0 : wrap64 (-A.tdiv 100) = -(A / 100) := by rw [Int.tdiv_eq_ediv_of_nonneg (by omega)]; unfold wrap64; omega
  by_cases hr : A % 100 = 0
  · have K := Lib.hid (show (-A) / 100 = -(A / 100) ∧ (-A) % 100 = 0 by omega)
    go_enter Tryd.func29, Tryd.ntmps29
    go_wp2_with fail
    go_quiet (fail)
    go_wp2
    all_goals (go_ret; refine ⟨ret_int ?_, below_drewN (Below.refl _ _) _⟩; have k := K.out; unfold rndV rndUp; grind)
  · have K := Lib.hid (show (-A) / 100 = -(A / 100) - 1 ∧ (-A) % 100 = 100 - A % 100 ∧ 0 < A % 100 ∧ A % 100 < 100 by omega)
    have hr2 : 0 < A % 100 := by omega
    go_enter Tryd.func29, Tryd.ntmps29
    go_wp2_with fail
    go_quiet (fail)
    go_wp2
    all_goals (go_ret; refine ⟨ret_int ?_, below_drewN (Below.refl _ _) _⟩; have k := K.out; unfold rndV rndUp; grind)
set_option maxHeartbeats 1000000 in
theorem round_100_3p (A : Int) (w : World) (h1 : 0 ≤ A) (h2 : A ≤ 1000000000000000) :
    Calls Tryd.prog 29 #[.int .i64 A, .int .i64 100, .int .i64 3] w fun e w' => e = .returned (.int .i64 (rndV A 100 3)) ∧ Below w.heap.size w w' := by
  go_enter Tryd.func29, Tryd.ntmps29
  go_wp2_with fail
  go_quiet (fail)
  go_wp2
  all_goals (go_ret; refine ⟨ret_int ?_, below_drewN (Below.refl _ _) _⟩; unfold rndV rndUp; grind)
set_option maxHeartbeats 1000000 in
theorem round_100_3n (A : Int) (w : World) (h1 : 0 < A) (h2 : A ≤ 1000000000000000) :
    Calls Tryd.prog 29 #[.int .i64 (-A), .int .i64 100, .int .i64 3] w fun e w' => e = .returned (.int .i64 (rndV (-A) 100 3)) ∧ Below w.heap.size w w' := by
  have e0 : wrap64 (-A.tdiv 100) = -(A / 100) := by rw [Int.tdiv_eq_ediv_of_nonneg (by omega)]; unfold wrap64; omega
  by_cases hr : A % 100 = 0
  · have K := Lib.hid (show (-A) / 100 = -(A / 100) ∧ (-A) % 100 = 0 by omega)
    go_enter Tryd.func29, Tryd.ntmps29
    go_wp2_with fail
    go_quiet (fail)
    go_wp2
    all_goals (go_ret; refine ⟨ret_int ?_, below_drewN (Below.refl _ _) _⟩; have k := K.out; unfold rndV rndUp; grind)
  · have K := Lib.hid (show (-A) / 100 = -(A / 100) - 1 ∧ (-A) % 100 = 100 - A % 100 ∧ 0 < A % 100 ∧ A % 100 < 100 by omega)
    have hr2 : 0 < A % 100 := by omega
    go_enter Tryd.func29, Tryd.ntmps29
    go_wp2_with fail
    go_quiet (fail)
    go_wp2
    all_goals (go_ret; refine ⟨ret_int ?_, below_drewN (Below.refl _ _) _⟩; have k := K.out; unfold rndV rndUp; grind)
set_option maxHeartbeats 1000000 in
theorem round_100_4p (A : Int) (w : World) (h1 : 0 ≤ A) (h2 : A ≤ 1000000000000000) :
    Calls Tryd.prog 29 #[.int .i64 A, .int .i64 100, .int .i64 4] w fun e w' => e = .returned (.int .i64 (rndV A 100 4)) ∧ Below w.heap.size w w' := by
  go_enter Tryd.func29, Tryd.ntmps29
  go_wp2_with fail
  go_quiet (fail)
  go_wp2
  all_goals (go_ret; refine ⟨ret_int ?_, below_drewN (Below.refl _ _) _⟩; unfold rndV rndUp; grind)
set_option maxHeartbeats 1000000 in
theorem round_100_4n (A : Int) (w : World) (h1 : 0 < A) (h2 : A ≤ 1000000000000000) :
    Calls Tryd.prog 29 #[.int .i64 (-A), .int .i64 100, .int .i64 4] w fun e w' => e = .returned (.int .i64 (rndV (-A) 100 4)) ∧ Below w.heap.size w w' := by
  have e0 : wrap64 (-A.tdiv 100) = -(A / 100) := by rw [Int.tdiv_eq_ediv_of_nonneg (by omega)]; unfold wrap64; omega
  by_cases hr : A % 100 = 0
  · have K := Lib.hid (show (-A) / 100 = -(A / 100) ∧ (-A) % 100 = 0 by omega)
    go_enter Tryd.func29, Tryd.ntmps29
    go_wp2_with fail
    go_quiet (fail)
    go_wp2
    all_goals (go_ret; refine ⟨ret_int ?_, below_drewN (Below.refl _ _) _⟩; have k := K.out; unfold rndV rndUp; grind)
  · have K := Lib.hid (show (-A) / 100 = -(A / 100) - 1 ∧ (-A) % 100 = 100 - A % 100 ∧ 0 < A % 100 ∧ A % 100 < 100 by omega)
    have hr2 : 0 < A % 100 := by omega
    go_enter Tryd.func29, Tryd.ntmps29
    go_wp2_with fail
    go_quiet (fail)
    go_wp2
    all_goals (go_ret; refine ⟨ret_int ?_, below_drewN (Below.refl _ _) _⟩; have k := K.out; unfold rndV rndUp; grind)
set_option maxHeartbeats 1000000 in
theorem round_100_5p (A : Int) (w : World) (h1 : 0 ≤ A) (h2 : A ≤ 1000000000000000) :
    Calls Tryd.prog 29 #[.int .i64 A, .int .i64 100, .int .i64 5] w fun e w' => e = .returned (.int .i64 (rndV A 100 5)) ∧ Below w.heap.size w w' := by
  go_enter Tryd.func29, Tryd.ntmps29
  go_wp2_with fail
  go_quiet (fail)
  go_wp2
  all_goals (go_ret; refine ⟨ret_int ?_, below_drewN (Below.refl _ _) _⟩; unfold rndV rndUp; grind)
set_option maxHeartbeats 1000000 in
theorem round_100_5n (A : Int) (w : World) (h1 : 0 < A) (h2 : A ≤ 1000000000000000) :
    Calls Tryd.prog 29 #[.int .i64 (-A), .int .i64 100, .int .i64 5] w fun e w' => e = .returned (.int .i64 (rndV (-A) 100 5)) ∧ Below w.heap.size w w' := by
  have e0 : wrap64 (-A.tdiv 100) = -(A / 100) := by rw [Int.tdiv_eq_ediv_of_nonneg (by omega)]; unfold wrap64; omega
  by_cases hr : A % 100 = 0
  · have K := Lib.hid (show (-A) / 100 = -(A / 100) ∧ (-A) % 100 = 0 by omega)
    go_enter Tryd.func29, Tryd.ntmps29
    go_wp2_with fail
    go_quiet (fail)
    go_wp2
    all_goals (go_ret; refine ⟨ret_int ?_, below_drewN (Below.refl _ _) _⟩; have k := K.out; unfold rndV rndUp; grind)
  · have K := Lib.hid (show (-A) / 100 = -(A / 100) - 1 ∧ (-A) % 100 = 100 - A % 100 ∧ 0 < A % 100 ∧ A % 100 < 100 by omega)
    have hr2 : 0 < A % 100 := by omega
    go_enter Tryd.func29, Tryd.ntmps29
    go_wp2_with fail
    go_quiet (fail)
    go_wp2
    all_goals (go_ret; refine ⟨ret_int ?_, below_drewN (Below.refl _ _) _⟩; have k := K.out; unfold rndV rndUp; grind)
set_option maxHeartbeats 1000000 in
theorem round_1000_1p (A : Int) (w : World) (h1 : 0 ≤ A) (h2 : A ≤ 1000000000000000) :
    Calls Tryd.prog 29 #[.int .i64 A, .int .i64 1000, .int .i64 1] w fun e w' => e = .returned (.int .i64 (rndV A 1000 1)) ∧ Below w.heap.size w w' := by
  go_enter Tryd.func29, Tryd.ntmps29
  go_wp2_with fail
  go_quiet (fail)
  go_wp2
  all_goals (go_ret; refine ⟨ret_int ?_, below_drewN (Below.refl _ _) _⟩; unfold rndV rndUp; grind)
set_option maxHeartbeats 1000000 in
theorem round_1000_1n (A : Int) (w : World) (h1 : 0 < A) (h2 : A ≤ 1000000000000000) :
    Calls Tryd.prog 29 #[.int .i64 (-A), .int .i64 1000, .int .i64 1] w fun e w' => e = .returned (.int .i64 (rndV (-A) 1000 1)) ∧ Below w.heap.size w w' := by
  have e0 : wrap64 (-A.tdiv 1000) = -(A / 1000) := by rw [Int.tdiv_eq_ediv_of_nonneg (by omega)]; unfold wrap64; omega
  by_cases hr : A % 1000 = 0
  · have K := Lib.hid (show (-A) / 1000 = -(A / 1000) ∧ (-A) % 1000 = 0 by omega)
    go_enter Tryd.func29, Tryd.ntmps29
    go_wp2_with fail
    go_quiet (fail)
    go_wp2
    all_goals (go_ret; refine ⟨ret_int ?_, below_drewN (Below.refl _ _) _⟩; have k := K.out; unfold rndV rndUp; grind)
  · have K := Lib.hid (show (-A) / 1000 = -(A / 1000) - 1 ∧ (-A) % 1000 = 1000 - A % 1000 ∧ 0 < A % 1000 ∧ A % 1000 < 1000 by omega)
    have hr2 : 0 < A % 1000 := by omega
    go_enter Tryd.func29, Tryd.ntmps29
    go_wp2_with fail
    go_quiet (fail)
    go_wp2
    all_goals (go_ret; refine ⟨ret_int ?_, below_drewN (Below.refl _ _) _⟩; have k := K.out; unfold rndV rndUp; grind)
set_option maxHeartbeats 1000000 in
theorem round_1000_2p (A : Int) (w : World) (h1 : 0 ≤ A) (h2 : A ≤ 1000000000000000) :
    Calls Tryd.prog 29 #[.int .i64 A, .int .i64 1000, .int .i64 2] w fun e w' => e = .returned (.int .i64 (rndV A 1000 2)) ∧ Below w.heap.size w w' := by
  go_enter Tryd.func29, Tryd.ntmps29
  go_wp2_with fail
  go_quiet (fail)
  go_wp2
  all_goals (go_ret; refine ⟨ret_int ?_, below_drewN (Below.refl _ _) _⟩; unfold rndV rndUp; grind)
set_option maxHeartbeats 1000000 in
theorem round_1000_2n (A : Int) (w : World) (h1 : 0 < A) (h2 : A ≤ 1000000000000000) :
    Calls Tryd.prog 29 #[.int .i64 (-A), .int .i64 1000, .int .i64 2] w fun e w' => e = .returned (.int .i64 (rndV (-A) 1000 2)) ∧ Below w.heap.size w w' := by
  have e0 : wrap64 (-A.tdiv 1000) = -(A / 1000) := by rw [Int.tdiv_eq_ediv_of_nonneg (by omega)]; unfold wrap64; omega
  by_cases hr : A % 1000 = 0
  · have K := Lib.hid (show (-A) / 1000 = -(A / 1000) ∧ (-A) % 1000 = 0 by omega)
    go_enter Tryd.func29, Tryd.ntmps29
    go_wp2_with fail
    go_quiet (fail)
    go_wp2
    all_goals (go_ret; refine ⟨ret_int ?_, below_drewN (Below.refl _ _) _⟩; have k := K.out; unfold rndV rndUp; grind)
  · have K := Lib.hid (show (-A) / 1000 = -(A / 1000) - 1 ∧ (-A) % 1000 = 1000 - A % 1000 ∧ 0 < A % 1000 ∧ A % 1000 < 1000 by omega)
    have hr2 : 0 < A % 1000 := by omega
    go_enter Tryd.func29, Tryd.ntmps29
    go_wp2_with fail
    go_quiet (fail)
    go_wp2
    all_goals (go_ret; refine ⟨ret_int ?_, below_drewN (Below.refl _ _) _⟩; have k := K.out; unfold rndV rndUp; grind)
set_option maxHeartbeats 1000000 in
theorem round_1000_3p (A : Int) (w : World) (h1 : 0 ≤ A) (h2 : A ≤ 1000000000000000) :
    Calls Tryd.prog 29 #[.int .i64 A, .int .i64 1000, .int .i64 3] w fun e w' => e = .returned (.int .i64 (rndV A 1000 3)) ∧ Below w.heap.size w w' := by
  go_enter Tryd.func29, Tryd.ntmps29
  go_wp2_with fail
  go_quiet (fail)
  go_wp2
  all_goals (go_ret; refine ⟨ret_int ?_, below_drewN (Below.refl _ _) _⟩; unfold rndV rndUp; grind)
set_option maxHeartbeats 1000000 in
theorem round_1000_3n (A : Int) (w : World) (h1 : 0 < A) (h2 : A ≤ 1000000000000000) :
    Calls Tryd.prog 29 #[.int .i64 (-A), .int .i64 1000, .int .i64 3] w fun e w' => e = .returned (.int .i64 (rndV (-A) 1000 3)) ∧ Below w.heap.size w w' := by
  have e0 : wrap64 (-A.tdiv 1000) = -(A / 1000) := by rw [Int.tdiv_eq_ediv_of_nonneg (by omega)]; unfold wrap64; omega
  by_cases hr : A % 1000 = 0
  · have K := Lib.hid (show (-A) / 1000 = -(A / 1000) ∧ (-A) % 1000 = 0 by omega)
    go_enter Tryd.func29, Tryd.ntmps29
    go_wp2_with fail
    go_quiet (fail)
    go_wp2
    all_goals (go_ret; refine ⟨ret_int ?_, below_drewN (Below.refl _ _) _⟩; have k := K.out; unfold rndV rndUp; grind)
  · have K := Lib.hid (show (-A) / 1000 = -(A / 1000) - 1 ∧ (-A) % 1000 = 1000 - A % 1000 ∧ 0 < A % 1000 ∧ A % 1000 < 1000 by omega)
    have hr2 : 0 < A % 1000 := by omega
    go_enter Tryd.func29, Tryd.ntmps29
    go_wp2_with fail
    go_quiet (fail)
    go_wp2
    all_goals (go_ret; refine ⟨ret_int ?_, below_drewN (Below.refl _ _) _⟩; have k := K.out; unfold rndV rndUp; grind)
set_option maxHeartbeats 1000000 in
theorem round_1000_4p (A : Int) (w : World) (h1 : 0 ≤ A) (h2 : A ≤ 1000000000000000) :
    Calls Tryd.prog 29 #[.int .i64 A, .int .i64 1000, .int .i64 4] w fun e w' => e = .returned (.int .i64 (rndV A 1000 4)) ∧ Below w.heap.size w w' := by
  go_enter Tryd.func29, Tryd.ntmps29
  go_wp2_with fail
  go_quiet (fail)
  go_wp2
  all_goals (go_ret; refine ⟨ret_int ?_, below_drewN (Below.refl _ _) _⟩; unfold rndV rndUp; grind)
set_option maxHeartbeats 1000000 in
theorem round_1000_4n (A : Int) (w : World) (h1 : 0 < A) (h2 : A ≤ 1000000000000000) :
    Calls Tryd.prog 29 #[.int .i64 (-A), .int .i64 1000, .int .i64 4] w fun e w' => e = .returned (.int .i64 (rndV (-A) 1000 4)) ∧ Below w.heap.size w w' := by
  have e0 : wrap64 (-A.tdiv 1000) = -(A / 1000) := by rw [Int.tdiv_eq_ediv_of_nonneg (by omega)]; unfold wrap64; omega
  by_cases hr : A % 1000 = 0
  · have K := Lib.hid (show (-A) / 1000 = -(A / 1000) ∧ (-A) % 1000 = 0 by omega)
    go_enter Tryd.func29, Tryd.ntmps29
    go_wp2_with fail
    go_quiet (fail)
    go_wp2
    all_goals (go_ret; refine ⟨ret_int ?_, below_drewN (Below.refl _ _) _⟩; have k := K.out; unfold rndV rndUp; grind)
  · have K := Lib.hid (show (-A) / 1000 = -(A / 1000) - 1 ∧ (-A) % 1000 = 1000 - A % 1000 ∧ 0 < A % 1000 ∧ A % 1000 < 1000 by omega)
    have hr2 : 0 < A % 1000 := by omega
    go_enter Tryd.func29, Tryd.ntmps29
    go_wp2_with fail
    go_quiet (fail)
    go_wp2
    all_goals (go_ret; refine ⟨ret_int ?_, below_drewN (Below.refl _ _) _⟩; have k := K.out; unfold rndV rndUp; grind)
set_option maxHeartbeats 1000000 in
theorem round_1000_5p (A : Int) (w : World) (h1 : 0 ≤ A) (h2 : A ≤ 1000000000000000) :
    Calls Tryd.prog 29 #[.int .i64 A, .int .i64 1000, .int .i64 5] w fun e w' => e = .returned (.int .i64 (rndV A 1000 5)) ∧ Below w.heap.size w w' := by
  go_enter Tryd.func29, Tryd.ntmps29
  go_wp2_with fail
  go_quiet (fail)
  go_wp2
  all_goals (go_ret; refine ⟨ret_int ?_, below_drewN (Below.refl _ _) _⟩; unfold rndV rndUp; grind)
set_option maxHeartbeats 1000000 in
theorem round_1000_5n (A : Int) (w : World) (h1 : 0 < A) (h2 : A ≤ 1000000000000000) :
    Calls Tryd.prog 29 #[.int .i64 (-A), .int .i64 1000, .int .i64 5] w fun e w' => e = .returned (.int .i64 (rndV (-A) 1000 5)) ∧ Below w.heap.size w w' := by
  have e0 : wrap64 (-A.tdiv 1000) = -(A / 1000) := by rw [Int.tdiv_eq_ediv_of_nonneg (by omega)]; unfold wrap64; omega
  by_cases hr : A % 1000 = 0
  · have K := Lib.hid (show (-A) / 1000 = -(A / 1000) ∧ (-A) % 1000 = 0 by omega)
    go_enter Tryd.func29, Tryd.ntmps29
    go_wp2_with fail
    go_quiet (fail)
    go_wp2
    all_goals (go_ret; refine ⟨ret_int ?_, below_drewN (Below.refl _ _) _⟩; have k := K.out; unfold rndV rndUp; grind)
  · have K := Lib.hid (show (-A) / 1000 = -(A / 1000) - 1 ∧ (-A) % 1000 = 1000 - A % 1000 ∧ 0 < A % 1000 ∧ A % 1000 < 1000 by omega)
    have hr2 : 0 < A % 1000 := by omega
    go_enter Tryd.func29, Tryd.ntmps29
    go_wp2_with fail
    go_quiet (fail)
    go_wp2
    all_goals (go_ret; refine ⟨ret_int ?_, below_drewN (Below.refl _ _) _⟩; have k := K.out; unfold rndV rndUp; grind)
set_option maxHeartbeats 1000000 in
theorem round_10000_1p (A : Int) (w : World) (h1 : 0 ≤ A) (h2 : A ≤ 1000000000000000) :
    Calls Tryd.prog 29 #[.int .i64 A, .int .i64 10000, .int .i64 1] w fun e w' => e = .returned (.int .i64 (rndV A 10000 1)) ∧ Below w.heap.size w w' := by
  go_enter Tryd.func29, Tryd.ntmps29
  go_wp2_with fail
  go_quiet (fail)
  go_wp2
  all_goals (go_ret; refine ⟨ret_int ?_, below_drewN (Below.refl _ _) _⟩; unfold rndV rndUp; grind)
set_option maxHeartbeats 1000000 in
theorem round_10000_1n (A : Int) (w : World) (h1 : 0 < A) (h2 : A ≤ 1000000000000000) :
    Calls Tryd.prog 29 #[.int .i64 (-A), .int .i64 10000, .int .i64 1] w fun e w' => e = .returned (.int .i64 (rndV (-A) 10000 1)) ∧ Below w.heap.size w w' := by
  have e0 : wrap64 (-A.tdiv 10000) = -(A / 10000) := by rw [Int.tdiv_eq_ediv_of_nonneg (by omega)]; unfold wrap64; omega
  by_cases hr : A % 10000 = 0
  · have K := Lib.hid (show (-A) / 10000 = -(A / 10000) ∧ (-A) % 10000 = 0 by omega)
    go_enter Tryd.func29, Tryd.ntmps29
    go_wp2_with fail
    go_quiet (fail)
    go_wp2
    all_goals (go_ret; refine ⟨ret_int ?_, below_drewN (Below.refl _ _) _⟩; have k := K.out; unfold rndV rndUp; grind)
  · have K := Lib.hid (show (-A) / 10000 = -(A / 10000) - 1 ∧ (-A) % 10000 = 10000 - A % 10000 ∧ 0 < A % 10000 ∧ A % 10000 < 10000 by omega)
    have hr2 : 0 < A % 10000 := by omega
    go_enter Tryd.func29, Tryd.ntmps29
    go_wp2_with fail
    go_quiet (fail)
    go_wp2
    all_goals (go_ret; refine ⟨ret_int ?_, below_drewN (Below.refl _ _) _⟩; have k := K.out; unfold rndV rndUp; grind)
set_option maxHeartbeats 1000000 in
theorem round_10000_2p (A : Int) (w : World) (h1 : 0 ≤ A) (h2 : A ≤ 1000000000000000) :
    Calls Tryd.prog 29 #[.int .i64 A, .int .i64 10000, .int .i64 2] w fun e w' => e = .returned (.int .i64 (rndV A 10000 2)) ∧ Below w.heap.size w w' := by
  go_enter Tryd.func29, Tryd.ntmps29
  go_wp2_with fail
  go_quiet (fail)
  go_wp2
  all_goals (go_ret; refine ⟨ret_int ?_, below_drewN (Below.refl _ _) _⟩; unfold rndV rndUp; grind)
set_option maxHeartbeats 1000000 in
theorem round_10000_2n (A : Int) (w : World) (h1 : 0 < A) (h2 : A ≤ 1000000000000000) :
    Calls Tryd.prog 29 #[.int .i64 (-A), .int .i64 10000, .int .i64 2] w fun e w' => e = .returned (.int .i64 (rndV (-A) 10000 2)) ∧ Below w.heap.size w w' := by
  have e0 : wrap64 (-A.tdiv 10000) = -(A / 10000) := by rw [Int.tdiv_eq_ediv_of_nonneg (by omega)]; unfold wrap64; omega
  by_cases hr : A % 10000 = 0
  · have K := Lib.hid (show (-A) / 10000 = -(A / 10000) ∧ (-A) % 10000 = 0 by omega)
    go_enter Tryd.func29, Tryd.ntmps29
    go_wp2_with fail
    go_quiet (fail)
    go_wp2
    all_goals (go_ret; refine ⟨ret_int ?_, below_drewN (Below.refl _ _) _⟩; have k := K.out; unfold rndV rndUp; grind)
  · have K := Lib.hid (show (-A) / 10000 = -(A / 10000) - 1 ∧ (-A) % 10000 = 10000 - A % 10000 ∧ 0 < A % 10000 ∧ A % 10000 < 10000 by omega)
    have hr2 : 0 < A % 10000 := by omega
    go_enter Tryd.func29, Tryd.ntmps29
    go_wp2_with fail
    go_quiet (fail)
    go_wp2
    all_goals (go_ret; refine ⟨ret_int ?_, below_drewN (Below.refl _ _) _⟩; have k := K.out; unfold rndV rndUp; grind)
set_option maxHeartbeats 1000000 in
theorem round_10000_3p (A : Int) (w : World) (h1 : 0 ≤ A) (h2 : A ≤ 1000000000000000) :
    Calls Tryd.prog 29 #[.int .i64 A, .int .i64 10000, .int .i64 3] w fun e w' => e = .returned (.int .i64 (rndV A 10000 3)) ∧ Below w.heap.size w w' := by
  go_enter Tryd.func29, Tryd.ntmps29
  go_wp2_with fail
  go_quiet (fail)
  go_wp2
  all_goals (go_ret; refine ⟨ret_int ?_, below_drewN (Below.refl _ _) _⟩; unfold rndV rndUp; grind)
set_option maxHeartbeats 1000000 in
theorem round_10000_3n (A : Int) (w : World) (h1 : 0 < A) (h2 : A ≤ 1000000000000000) :
    Calls Tryd.prog 29 #[.int .i64 (-A), .int .i64 10000, .int .i64 3] w fun e w' => e = .returned (.int .i64 (rndV (-A) 10000 3)) ∧ Below w.heap.size w w' := by
  have e0 : wrap64 (-A.tdiv 10000) = -(A / 10000) := by rw [Int.tdiv_eq_ediv_of_nonneg (by omega)]; unfold wrap64; omega
  by_cases hr : A % 10000 = 0
  · have K := Lib.hid (show (-A) / 10000 = -(A / 10000) ∧ (-A) % 10000 = 0 by omega)
    go_enter Tryd.func29, Tryd.ntmps29
    go_wp2_with fail
    go_quiet (fail)
    go_wp2
    all_goals (go_ret; refine ⟨ret_int ?_, below_drewN (Below.refl _ _) _⟩; have k := K.out; unfold rndV rndUp; grind)
  · have K := Lib.hid (show (-A) / 10000 = -(A / 10000) - 1 ∧ (-A) % 10000 = 10000 - A % 10000 ∧ 0 < A % 10000 ∧ A % 10000 < 10000 by omega)
    have hr2 : 0 < A % 10000 := by omega
    go_enter Tryd.func29, Tryd.ntmps29
    go_wp2_with fail
    go_quiet (fail)
    go_wp2
    all_goals (go_ret; refine ⟨ret_int ?_, below_drewN (Below.refl _ _) _⟩; have k := K.out; unfold rndV rndUp; grind)
set_option maxHeartbeats 1000000 in
theorem round_10000_4p (A : Int) (w : World) (h1 : 0 ≤ A) (h2 : A ≤ 1000000000000000) :
    Calls Tryd.prog 29 #[.int .i64 A, .int .i64 10000, .int .i64 4] w fun e w' => e = .returned (.int .i64 (rndV A 10000 4)) ∧ Below w.heap.size w w' := by
  go_enter Tryd.func29, Tryd.ntmps29
  go_wp2_with fail
  go_quiet (fail)
  go_wp2
  all_goals (go_ret; refine ⟨ret_int ?_, below_drewN (Below.refl _ _) _⟩; unfold rndV rndUp; grind)
set_option maxHeartbeats 1000000 in
theorem round_10000_4n (A : Int) (w : World) (h1 : 0 < A) (h2 : A ≤ 1000000000000000) :
    Calls Tryd.prog 29 #[.int .i64 (-A), .int .i64 10000, .int .i64 4] w fun e w' => e = .returned (.int .i64 (rndV (-A) 10000 4)) ∧ Below w.heap.size w w' := by
  have e0 : wrap64 (-A.tdiv 10000) = -(A / 10000) := by rw [Int.tdiv_eq_ediv_of_nonneg (by omega)]; unfold wrap64; omega
  by_cases hr : A % 10000 = 0
  · have K := Lib.hid (show (-A) / 10000 = -(A / 10000) ∧ (-A) % 10000 = 0 by omega)
    go_enter Tryd.func29, Tryd.ntmps29
    go_wp2_with fail
    go_quiet (fail)
    go_wp2
    all_goals (go_ret; refine ⟨ret_int ?_, below_drewN (Below.refl _ _) _⟩; have k := K.out; unfold rndV rndUp; grind)
  · have K := Lib.hid (show (-A) / 10000 = -(A / 10000) - 1 ∧ (-A) % 10000 = 10000 - A % 10000 ∧ 0 < A % 10000 ∧ A % 10000 < 10000 by omega)
    have hr2 : 0 < A % 10000 := by omega
    go_enter Tryd.func29, Tryd.ntmps29
    go_wp2_with fail
    go_quiet (fail)
    go_wp2
    all_goals (go_ret; refine ⟨ret_int ?_, below_drewN (Below.refl _ _) _⟩; have k := K.out; unfold rndV rndUp; grind)
set_option maxHeartbeats 1000000 in
theorem round_10000_5p (A : Int) (w : World) (h1 : 0 ≤ A) (h2 : A ≤ 1000000000000000) :
    Calls Tryd.prog 29 #[.int .i64 A, .int .i64 10000, .int .i64 5] w fun e w' => e = .returned (.int .i64 (rndV A 10000 5)) ∧ Below w.heap.size w w' := by
  go_enter Tryd.func29, Tryd.ntmps29
  go_wp2_with fail
  go_quiet (fail)
  go_wp2
  all_goals (go_ret; refine ⟨ret_int ?_, below_drewN (Below.refl _ _) _⟩; unfold rndV rndUp; grind)
set_option maxHeartbeats 1000000 in
theorem round_10000_5n (A : Int) (w : World) (h1 : 0 < A) (h2 : A ≤ 1000000000000000) :
    Calls Tryd.prog 29 #[.int .i64 (-A), .int .i64 10000, .int .i64 5] w fun e w' => e = .returned (.int .i64 (rndV (-A) 10000 5)) ∧ Below w.heap.size w w' := by
  have e0 : wrap64 (-A.tdiv 10000) = -(A / 10000) := by rw [Int.tdiv_eq_ediv_of_nonneg (by omega)]; unfold wrap64; omega
  by_cases hr : A % 10000 = 0
  · have K := Lib.hid (show (-A) / 10000 = -(A / 10000) ∧ (-A) % 10000 = 0 by omega)
    go_enter Tryd.func29, Tryd.ntmps29
    go_wp2_with fail
    go_quiet (fail)
    go_wp2
    all_goals (go_ret; refine ⟨ret_int ?_, below_drewN (Below.refl _ _) _⟩; have k := K.out; unfold rndV rndUp; grind)
  · have K := Lib.hid (show (-A) / 10000 = -(A / 10000) - 1 ∧ (-A) % 10000 = 10000 - A % 10000 ∧ 0 < A % 10000 ∧ A % 10000 < 10000 by omega)
    have hr2 : 0 < A % 10000 := by omega
    go_enter Tryd.func29, Tryd.ntmps29
    go_wp2_with fail
    go_quiet (fail)
    go_wp2
    all_goals (go_ret; refine ⟨ret_int ?_, below_drewN (Below.refl _ _) _⟩; have k := K.out; unfold rndV rndUp; grind)
theorem round_any (a p m : Int) (w : World) (hp : p = 1 ∨ p = 10 ∨ p = 100 ∨ p = 1000 ∨ p = 10000) (m1 : 1 ≤ m) (m2 : m ≤ 5) (hs : sumO a) :
    Calls Tryd.prog 29 #[.int .i64 a, .int .i64 p, .int .i64 m] w fun e w' => e = .returned (.int .i64 (rndV a p m)) ∧ Below w.heap.size w w' := by
  have hm : m = 1 ∨ m = 2 ∨ m = 3 ∨ m = 4 ∨ m = 5 := by omega
  obtain ⟨s1, s2⟩ := hs
  by_cases h : a < 0
  · obtain ⟨A, rfl⟩ : ∃ A, a = -A := ⟨-a, by omega⟩
    rcases hp with rfl | rfl | rfl | rfl | rfl <;> rcases hm with rfl | rfl | rfl | rfl | rfl
    · exact round_1_1n A w (by omega) (by omega)
    · exact round_1_2n A w (by omega) (by omega)
    · exact round_1_3n A w (by omega) (by omega)
    · exact round_1_4n A w (by omega) (by omega)
    · exact round_1_5n A w (by omega) (by omega)
    · exact round_10_1n A w (by omega) (by omega)
    · exact round_10_2n A w (by omega) (by omega)
    · exact round_10_3n A w (by omega) (by omega)
    · exact round_10_4n A w (by omega) (by omega)
    · exact round_10_5n A w (by omega) (by omega)
    · exact round_100_1n A w (by omega) (by omega)
    · exact round_100_2n A w (by omega) (by omega)
    · exact round_100_3n A w (by omega) (by omega)
    · exact round_100_4n A w (by omega) (by omega)
    · exact round_100_5n A w (by omega) (by omega)
    · exact round_1000_1n A w (by omega) (by omega)
    · exact round_1000_2n A w (by omega) (by omega)
    · exact round_1000_3n A w (by omega) (by omega)
    · exact round_1000_4n A w (by omega) (by omega)
    · exact round_1000_5n A w (by omega) (by omega)
    · exact round_10000_1n A w (by omega) (by omega)
    · exact round_10000_2n A w (by omega) (by omega)
    · exact round_10000_3n A w (by omega) (by omega)
    · exact round_10000_4n A w (by omega) (by omega)
    · exact round_10000_5n A w (by omega) (by omega)
  · rcases hp with rfl | rfl | rfl | rfl | rfl <;> rcases hm with rfl | rfl | rfl | rfl | rfl
    · exact round_1_1p a w (by omega) (by omega)
    · exact round_1_2p a w (by omega) (by omega)
    · exact round_1_3p a w (by omega) (by omega)
    · exact round_1_4p a w (by omega) (by omega)
    · exact round_1_5p a w (by omega) (by omega)
    · exact round_10_1p a w (by omega) (by omega)
    · exact round_10_2p a w (by omega) (by omega)
    · exact round_10_3p a w (by omega) (by omega)
    · exact round_10_4p a w (by omega) (by omega)
    · exact round_10_5p a w (by omega) (by omega)
    · exact round_100_1p a w (by omega) (by omega)
    · exact round_100_2p a w (by omega) (by omega)
    · exact round_100_3p a w (by omega) (by omega)
    · exact round_100_4p a w (by omega) (by omega)
    · exact round_100_5p a w (by omega) (by omega)
    · exact round_1000_1p a w (by omega) (by omega)
    · exact round_1000_2p a w (by omega) (by omega)
    · exact round_1000_3p a w (by omega) (by omega)
    · exact round_1000_4p a w (by omega) (by omega)
    · exact round_1000_5p a w (by omega) (by omega)
    · exact round_10000_1p a w (by omega) (by omega)
    · exact round_10000_2p a w (by omega) (by omega)
    · exact round_10000_3p a w (by omega) (by omega)
    · exact round_10000_4p a w (by omega) (by omega)
    · exact round_10000_5p a w (by omega) (by omega)
end Go.Proofs.YtbiicdpmilplmaaDoor
