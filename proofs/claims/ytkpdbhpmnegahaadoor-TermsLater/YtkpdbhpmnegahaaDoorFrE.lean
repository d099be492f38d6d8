/- What the closures of Add, Sub, Mul and Quo of package frac return for small parts. -/
import Derived.Test.YtkpdbhpmnegahaaDoorFrD
namespace Go.Proofs.YtkpdbhpmnegahaaDoor
open Go.RowKit Go.Sort
set_option linter.unusedVariables false

/-- a part of a valid fraction. -/
def part (x : Int) : Prop := -1000000 ≤ x ∧ x ≤ 1000000
theorem mulB {x y : Int} (h : part x) (k : part y) : -1000000000000 ≤ x * y ∧ x * y ≤ 1000000000000 := by
  have h1 : x.natAbs ≤ 1000000 := by have := h.1; have := h.2; omega
  have h2 : y.natAbs ≤ 1000000 := by have := k.1; have := k.2; omega
  have h3 : (x * y).natAbs ≤ 1000000 * 1000000 := by rw [Int.natAbs_mul]; exact Nat.mul_le_mul h1 h2
  omega
end Go.Proofs.YtkpdbhpmnegahaaDoor
