/- What Leap and Length of the packages days and accountingref04 return, and the table of the lengths of the months as the program's text lays it. -/
import Derived.Test.YtkpdbhpmnegahaaDoorSpec
import Derived.Test.YtkpdbhpmnegahaaDoorRows
import Derived.WalkKit
import Derived.Lib.Hide
import Derived.WalkSpells
import Derived.WalkLawsBesides
import Derived.ProofKit
import Derived.LaidMore
import Derived.OpenShut
import Derived.Stop.Joined
import Derived.Lib.LaidTab
import Derived.Deep.QuietTactic
import Derived.BigQuiet
namespace Go.Proofs.YtkpdbhpmnegahaaDoor
open Go.RowKit
set_option linter.unusedVariables false

/-- the lengths of the months of a year that is no leap year. -/
def monTab : List Int := [31, 28, 31, 30, 31, 30, 31, 31, 30, 31, 30, 31]
/-- the table lies in memory. -/
def Tab (w : World) : Prop := 0 < w.heap.size ∧ ∀ j, (h : j < 12) → w.cell? ⟨0, j, none⟩ = some (.int .i64 (monTab.getD j 0))
def laidL : List (String × DataW Unit) := [("accounting/days.lengths", Rows.laid_accounting_days_lengths)]
theorem gLen : Tryd.prog.globalNamed "accounting/days.lengths" = some 0 := by kernel_rfl
theorem tLen : (Tryd.prog.globals[0]?).map (·.type) = some 97 := by kernel_rfl

theorem tab_of_laid {W : World} (h : laidMetH Tryd.prog laidL W) : Tab W := by
  rw [MakeChecks.laidMetH_plain _ _ _ (by kernel_rfl)] at h
  obtain ⟨ps, ⟨g0, t0, cs0, f0, p0, q0, hg0, ht0, hv0, hd0, _⟩, _, _⟩ := h
  obtain rfl := Option.some.inj (gLen.symm.trans hg0)
  obtain rfl := Option.some.inj (tLen.symm.trans ht0)
  have hcs := Lib.cells_of_tab (k := .i64) (zs := monTab) Tryd.underlying97 Tryd.underlying3 (by kernel_rfl) (by kernel_rfl) hd0
  have hcell : ∀ j, (hj : j < 12) → W.cell? ⟨0, j, none⟩ = some (.int .i64 (monTab.getD j 0)) := by
    intro j hj
    have := World.var?_cell hg0 hv0 j
    rw [this]
    have e : cs0[j]? = cs0.toList[j]? := by simp
    rw [e, hcs]
    have hl : j < monTab.length := hj
    simp [List.getD, hl]
  refine ⟨?_, hcell⟩
  rcases Nat.lt_or_ge 0 W.heap.size with hl | hl
  · exact hl
  · have := hcell 0 (by omega)
    simp [World.cell?, Array.getElem?_eq_none hl] at this
end Go.Proofs.YtkpdbhpmnegahaaDoor
