/- What MulDiv, Div, Mod and Cmp of package accountingref02 return, for all arguments. -/
import Derived.Test.YtkpdbhpmnegahaaDoorMdR
namespace Go.Proofs.YtkpdbhpmnegahaaDoor
open Go.RowKit
set_option linter.unusedVariables false

theorem mod_sign {a b D : Int} (h : absI a * absI b % D ≠ 0) : decide (cmpI a 0 * cmpI b 0 < 0) = !(decide (a < 0) == decide (b < 0)) := by
  have ha : a ≠ 0 := by rintro rfl; apply h; simp [absI]
  have hb : b ≠ 0 := by rintro rfl; apply h; simp [absI]
  rcases (show a < 0 ∨ 0 < a by omega) with h | h <;> rcases (show b < 0 ∨ 0 < b by omega) with k | k
  · rw [neg_yes' h, neg_yes' k, cmp_lt h, cmp_lt k]; rfl
  · rw [neg_yes' h, neg_no' k, cmp_lt h, cmp_gt k]; rfl
  · rw [neg_no' h, neg_yes' k, cmp_gt h, cmp_lt k]; rfl
  · rw [neg_no' h, neg_no' k, cmp_gt h, cmp_gt k]; rfl
end Go.Proofs.YtkpdbhpmnegahaaDoor
