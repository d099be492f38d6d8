/- What roundsUp, signed, MulDiv, Div and Mod of package muldiv return, for all arguments. -/
import Derived.Test.YtkpdbhpmnegahaaDoorMdA
namespace Go.Proofs.YtkpdbhpmnegahaaDoor
open Go.RowKit
set_option linter.unusedVariables false

theorem ret_ints {a b c d : Int} (h : a = b) (k : c = d) : Ending.returned (.tuple #[.int .i64 a, .int .i64 c]) = .returned (.tuple #[.int .i64 b, .int .i64 d]) := by rw [h, k]

/-- a quotient that leaves the rest r is rounded away from zero. -/
def upB (mode : Int) (odd : Bool) (r d : Int) (neg : Bool) : Bool :=
  if mode = 2 then r != 0 else if mode = 3 then decide (d - r ≤ r) else if mode = 4 then decide (d - r < r) || (r == d - r) && odd else if mode = 5 then r != 0 && neg else false
/-- the quotient q, rounded, with its sign. -/
def sgV (q : Int) (up neg : Bool) : Int × Int :=
  if 9223372036854775808 < q then (0, 4)
  else if 9223372036854775808 < q + (if up then 1 else 0) ∨ q + (if up then 1 else 0) = 9223372036854775808 ∧ neg = false then (0, 4)
  else (if neg then -(q + (if up then 1 else 0)) else q + (if up then 1 else 0), 0)
/-- N / D, rounded. -/
def mdW (N D : Int) (neg : Bool) (mode : Int) : Int × Int := sgV (N / D) (upB mode (N / D % 2 != 0) (N % D) D neg) neg
def negB (a b c : Int) : Bool := decide (cmpI a 0 * cmpI b 0 * cmpI c 0 < 0)
/-- what MulDiv returns. -/
def mdV (a b c mode : Int) : Int × Int :=
  if mode < 1 ∨ 5 < mode then (0, 10) else if c = 0 then (0, 2) else mdW (absI a * absI b) (absI c) (negB a b c) mode

theorem long_div {h l d : Int} (d0 : 0 < d) : (h * 18446744073709551616 + l) / d = h / d * 18446744073709551616 + (h % d * 18446744073709551616 + l) / d ∧ (h * 18446744073709551616 + l) % d = (h % d * 18446744073709551616 + l) % d := by
  have e : h * 18446744073709551616 + l = (h % d * 18446744073709551616 + l) + d * (h / d * 18446744073709551616) := by
    have := Int.emod_add_mul_ediv h d
    rw [← Int.mul_assoc]
    generalize d * (h / d) = x at *
    omega
  constructor
  · rw [e, Int.add_mul_ediv_left _ _ (by omega : d ≠ 0)]; omega
  · rw [e, Int.add_mul_emod_self_left]

theorem upB_lt {mode r d : Int} {odd neg : Bool} : True := trivial
end Go.Proofs.YtkpdbhpmnegahaaDoor
