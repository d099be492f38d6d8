/- The table of the powers of ten as the program's text lays it; what isDigits, isSum, Power and large return. -/
import Derived.Test.YtbiicdpmilplmaaDoorMoM
import Derived.OwnWalk
import Derived.Handy
import Derived.Laws.RangeAny
import Derived.Laws.RangeString
import Derived.Test.YtbiicdpmilplmaaDoorRows
import Derived.WalkKit
import Derived.Lib.Hide
import Derived.WalkSpells
import Derived.WalkLawsBesides
import Derived.ProofKit
import Derived.LaidMore
import Derived.OpenShut
import Derived.Stop.Joined
import Derived.Lib.LaidTab
import Derived.Deep.QuietTactic
import Derived.BigQuiet
namespace Go.Proofs.YtbiicdpmilplmaaDoor
open Go.RowKit
set_option linter.unusedVariables false

/-- the table lies in memory. -/
def Tab (w : World) : Prop := 0 < w.heap.size ∧ ∀ j, (h : j < 5) → w.cell? ⟨0, j, none⟩ = some (.int .i64 (tenT.getD j 0))
def laidL : List (String × DataW Unit) := [("accounting/money.tens", Rows.laid_accounting_money_tens)]
theorem gLen : Tryd.prog.globalNamed "accounting/money.tens" = some 0 := by kernel_rfl
theorem tLen : (Tryd.prog.globals[0]?).map (·.type) = some 49 := by kernel_rfl

theorem tab_of_laid {W : World} (h : laidMetH Tryd.prog laidL W) : Tab W := by
  rw [MakeChecks.laidMetH_plain _ _ _ (by kernel_rfl)] at h
  obtain ⟨ps, ⟨g0, t0, cs0, f0, p0, q0, hg0, ht0, hv0, hd0, _⟩, _, _⟩ := h
  obtain rfl := Option.some.inj (gLen.symm.trans hg0)
  obtain rfl := Option.some.inj (tLen.symm.trans ht0)
  have hcs := Lib.cells_of_tab (k := .i64) (zs := tenT) Tryd.underlying49 Tryd.underlying3 (by kernel_rfl) (by kernel_rfl) hd0
  have hcell : ∀ j, (hj : j < 5) → W.cell? ⟨0, j, none⟩ = some (.int .i64 (tenT.getD j 0)) := by
    intro j hj
    have := World.var?_cell hg0 hv0 j
    rw [this]
    have e : cs0[j]? = cs0.toList[j]? := by simp
    rw [e, hcs]
    have hl : j < tenT.length := hj
    simp [List.getD, hl]
  refine ⟨?_, hcell⟩
  rcases Nat.lt_or_ge 0 W.heap.size with hl | hl
  · exact hl
  · have := hcell 0 (by omega)
    simp [World.cell?, Array.getElem?_eq_none hl] at this

theorem Tab.below {w w' : World} (h : Tab w) (hb : Below w.heap.size w w') : Tab w' := by
  refine ⟨Nat.lt_of_lt_of_le h.1 hb.size, fun j hj => ?_⟩
  rw [hb.cell h.1]; exact h.2 j hj
set_option maxHeartbeats 400000 in
theorem isDigits_any (n : Int) (w : World) : Calls Tryd.prog 24 #[.int .i64 n] w fun e w' => e = .returned (.bool (decide (digO n))) ∧ w = w' := by
  by_cases h1 : n < 0
  · rw [decide_eq_false (by unfold digO; omega)]
    go_enter Tryd.func24, Tryd.ntmps24
    go_wp2
    go_ret
    exact ⟨rfl, rfl⟩
  by_cases h2 : n < 5
  · rw [decide_eq_true (by unfold digO; omega)]
    go_enter Tryd.func24, Tryd.ntmps24
    go_wp2
    go_ret
    exact ⟨rfl, rfl⟩
  · rw [decide_eq_false (by unfold digO; omega)]
    go_enter Tryd.func24, Tryd.ntmps24
    go_wp2
    go_ret
    exact ⟨rfl, rfl⟩
set_option maxHeartbeats 400000 in
theorem isSum_any (n : Int) (w : World) : Calls Tryd.prog 26 #[.int .i64 n] w fun e w' => e = .returned (.bool (decide (sumO n))) ∧ w = w' := by
  by_cases h1 : n < -1000000000000000
  · rw [decide_eq_false (by unfold sumO; omega)]
    go_enter Tryd.func26, Tryd.ntmps26
    go_wp2
    go_ret
    exact ⟨rfl, rfl⟩
  by_cases h2 : n ≤ 1000000000000000
  · rw [decide_eq_true (by unfold sumO; omega)]
    go_enter Tryd.func26, Tryd.ntmps26
    go_wp2
    go_ret
    exact ⟨rfl, rfl⟩
  · rw [decide_eq_false (by unfold sumO; omega)]
    go_enter Tryd.func26, Tryd.ntmps26
    go_wp2
    go_ret
    exact ⟨rfl, rfl⟩
set_option maxHeartbeats 400000 in
theorem large_any (n : Int) (w : World) : Calls Tryd.prog 28 #[.int .i64 n] w fun e w' => e = .returned (.bool (!decide (sumO n))) ∧ w = w' := by
  by_cases h1 : 1000000000000000 < n
  · rw [decide_eq_false (by unfold sumO; omega)]
    go_enter Tryd.func28, Tryd.ntmps28
    go_wp2
    go_ret
    exact ⟨rfl, rfl⟩
  by_cases h2 : n < -1000000000000000
  · rw [decide_eq_false (by unfold sumO; omega)]
    go_enter Tryd.func28, Tryd.ntmps28
    go_wp2
    go_ret
    exact ⟨rfl, rfl⟩
  · rw [decide_eq_true (by unfold sumO; omega)]
    go_enter Tryd.func28, Tryd.ntmps28
    go_wp2
    go_ret
    exact ⟨rfl, rfl⟩
theorem tenP_step {j : Nat} (h : j < 4) : tenP ((j + 1 : Nat) : Int) = tenP (j : Int) * 10 := by
  match j, h with
  | 0, _ => rfl
  | 1, _ => rfl
  | 2, _ => rfl
  | 3, _ => rfl
set_option maxHeartbeats 400000 in
theorem power_any (k : Int) (w : World) (h1 : 0 ≤ k) (h2 : k ≤ 4) : Calls Tryd.prog 19 #[.int .i64 k] w fun e w' => e = .returned (.int .i64 (tenP k)) ∧ w = w' := by
  go_enter Tryd.func19, Tryd.ntmps19
  go_wp2
  go_loop [3, 4] (fun p i => ∃ j : Nat, (j : Int) ≤ k ∧ i = .int .i64 (j : Int) ∧ p = .int .i64 (tenP (j : Int))) (fun _ i => (k - intOf i).toNat)
  case atStart => exact ⟨0, by omega, rfl, rfl⟩
  case round =>
    obtain ⟨j, hj, rfl, rfl⟩ := hrel
    have hb := tenP_is (k := (j : Int)) (by omega) (by omega)
    have hb1 : 1 ≤ tenP (j : Int) := by omega
    have hb2 : tenP (j : Int) ≤ 10000 := by omega
    clear hb
    by_cases hlt : (j : Int) < k
    · have HS := Lib.hid (tenP_step (j := j) (by omega))
      generalize tenP (j : Int) = P at *
      go_wp2
      go_round
      case rel => exact ⟨j + 1, by omega, by go_num, by rw [HS.out]⟩
      case measure => simp [intOf]; omega
    · have HJ := Lib.hid (show (j : Int) = k by omega)
      have HP := Lib.hid (show tenP (j : Int) = tenP k by rw [HJ.out])
      generalize tenP (j : Int) = P at *
      go_wp2
      go_ret
      exact ⟨by rw [← HP.out]; rfl, rfl⟩
end Go.Proofs.YtbiicdpmilplmaaDoor
