/- What MonthEnd of the packages days and accountingref04 returns. -/
import Derived.Test.YtaibjmdfkahjjaaDoorDyG
import Derived.IntWalk
namespace Go.Proofs.YtaibjmdfkahjjaaDoor
open Go.RowKit Go.Sort
set_option linter.unusedVariables false

theorem Valid.last {y m d : Int} (h : Valid y m d) : Valid y m (lenV y m) := by
  have := lenV_b (y := y) h.m.1 h.m.2
  obtain ⟨h1, h2, h3, h4⟩ := h
  exact ⟨h1, h2, by omega, Int.le_refl _⟩
theorem ofV_of {y m d : Int} (h : Valid y m d) : ofV y m d = ofN y m d := if_pos h
theorem ofE_of {y m d : Int} (h : Valid y m d) : ofE y m d = 0 := if_pos h

end Go.Proofs.YtaibjmdfkahjjaaDoor
