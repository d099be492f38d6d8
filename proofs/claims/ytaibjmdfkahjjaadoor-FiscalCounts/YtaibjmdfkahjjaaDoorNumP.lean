/- What num.Parse and the functions that it calls return, for every string. -/
import Derived.Test.YtaibjmdfkahjjaaDoorStr
import Derived.Test.YtaibjmdfkahjjaaDoorNumM
namespace Go.Proofs.YtaibjmdfkahjjaaDoor
open Go.RowKit
set_option linter.unusedVariables false

theorem add_yes (a b : Int) (w : World) (a1 : -9223372036854775808 ≤ a) (a2 : a ≤ 9223372036854775807) (b1 : -9223372036854775808 ≤ b) (b2 : b ≤ 9223372036854775807) (hf : fits (a + b) = true) :
    Calls Tryd.prog 60 #[.int .i64 a, .int .i64 b] w fun e w' => e = .returned (.tuple #[.int .i64 (a + b), .bool true]) ∧ w = w' := by
  have h := add_any a b w a1 a2 b1 b2
  unfold fit at h; rw [hf, if_pos rfl] at h; exact h
theorem add_no (a b : Int) (w : World) (a1 : -9223372036854775808 ≤ a) (a2 : a ≤ 9223372036854775807) (b1 : -9223372036854775808 ≤ b) (b2 : b ≤ 9223372036854775807) (hf : fits (a + b) = false) :
    Calls Tryd.prog 60 #[.int .i64 a, .int .i64 b] w fun e w' => e = .returned (.tuple #[.int .i64 0, .bool false]) ∧ w = w' := by
  have h := add_any a b w a1 a2 b1 b2
  unfold fit at h; rw [hf] at h; exact h
theorem fit_sgn_no {neg : Bool} {n : Nat} (h : fits (sgn neg n) = false) : fit (sgn neg n) = 0 := by unfold fit; rw [h]; rfl
theorem fit_sgn_yes {neg : Bool} {n : Nat} (h : fits (sgn neg n) = true) : fit (sgn neg n) = sgn neg n := by unfold fit; rw [h]; rfl

end Go.Proofs.YtaibjmdfkahjjaaDoor
