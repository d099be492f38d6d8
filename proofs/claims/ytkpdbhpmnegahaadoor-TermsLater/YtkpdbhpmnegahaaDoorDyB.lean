/- What Leap and Length of the packages days and accountingref04 return. -/
import Derived.Test.YtkpdbhpmnegahaaDoorDyA
namespace Go.Proofs.YtkpdbhpmnegahaaDoor
open Go.RowKit
set_option linter.unusedVariables false

def leapV (y : Int) : Bool := (y.tmod 4 == 0 && y.tmod 100 != 0) || y.tmod 400 == 0
def lenV (y m : Int) : Int := if m < 1 ∨ 12 < m then 0 else if m = 2 ∧ leapV y = true then 29 else monTab.getD (m - 1).toNat 0

theorem Tab.below {w w' : World} (h : Tab w) (hb : Below w.heap.size w w') : Tab w' := by
  refine ⟨Nat.lt_of_lt_of_le h.1 hb.size, fun j hj => ?_⟩
  rw [hb.cell (p := ⟨0, j, none⟩) h.1]; exact h.2 j hj

set_option maxHeartbeats 400000 in
theorem leap_any (y : Int) (w : World) (y1 : -9223372036854775808 ≤ y) (y2 : y ≤ 9223372036854775807) :
    Calls Tryd.prog 58 #[.int .i64 y] w fun e w' => e = .returned (.bool (leapV y)) ∧ w = w' := by
  unfold leapV
  by_cases h1 : y.tmod 4 = 0
  · by_cases h2 : y.tmod 100 = 0
    · have k1 : (y.tmod 4 == 0) = true := by simpa using h1
      have k2 : (y.tmod 100 != 0) = false := by simpa using h2
      rw [k1, k2]
      go_enter Tryd.func58, Tryd.ntmps58
      go_wp2
      go_ret
      exact ⟨by simp, rfl⟩
    · have k1 : (y.tmod 4 == 0) = true := by simpa using h1
      have k2 : (y.tmod 100 != 0) = true := by simpa using h2
      rw [k1, k2]
      go_enter Tryd.func58, Tryd.ntmps58
      go_wp2
      go_ret
      exact ⟨by simp, rfl⟩
  · have k1 : (y.tmod 4 == 0) = false := by simpa using h1
    rw [k1]
    go_enter Tryd.func58, Tryd.ntmps58
    go_wp2
    go_ret
    exact ⟨by simp, rfl⟩
set_option maxHeartbeats 400000 in
theorem length_any (y m : Int) (w : World) (h : Tab w) (y1 : -9223372036854775808 ≤ y) (y2 : y ≤ 9223372036854775807) (m1 : -9223372036854775808 ≤ m) (m2 : m ≤ 9223372036854775807) :
    Calls Tryd.prog 38 #[.int .i64 y, .int .i64 m] w fun e w' => e = .returned (.int .i64 (lenV y m)) ∧ w = w' := by
  unfold lenV
  by_cases h1 : m < 1
  · rw [if_pos (.inl h1)]
    go_enter Tryd.func38, Tryd.ntmps38
    go_wp2
    go_ret
    exact ⟨rfl, rfl⟩
  by_cases h2 : 12 < m
  · rw [if_pos (.inr h2)]
    go_enter Tryd.func38, Tryd.ntmps38
    go_wp2
    go_ret
    exact ⟨rfl, rfl⟩
  rw [if_neg (by omega)]
  have HL := Lib.hid (leap_any y w y1 y2)
  by_cases h3 : m = 2
  · subst h3
    have hc : w.cell? ⟨0, 1, none⟩ = some (.int .i64 28) := h.2 1 (by omega)
    generalize hly : leapV y = b at *
    cases b
    · rw [if_neg (by simp)]
      go_enter Tryd.func38, Tryd.ntmps38
      go_wp2_with fail
      refine HL.out.mono ?_
      rintro e w' ⟨rfl, rfl⟩
      go_wp2
      go_ret
      exact ⟨rfl, rfl⟩
    · rw [if_pos (by simp)]
      go_enter Tryd.func38, Tryd.ntmps38
      go_wp2_with fail
      refine HL.out.mono ?_
      rintro e w' ⟨rfl, rfl⟩
      go_wp2
      go_ret
      exact ⟨rfl, rfl⟩
  · have hc := h.2 (m.toNat - 1) (by omega)
    have e1 : (m - 1).toNat = m.toNat - 1 := by omega
    rw [e1]
    rw [if_neg (by omega)]
    have hb : (m == 2) = false := by simpa using h3
    go_enter Tryd.func38, Tryd.ntmps38
    go_wp2
    go_ret
    exact ⟨rfl, rfl⟩

theorem monV (j : Nat) (h : j < 12) : ([.int .i64 31, .int .i64 28, .int .i64 31, .int .i64 30, .int .i64 31, .int .i64 30, .int .i64 31, .int .i64 31, .int .i64 30, .int .i64 31, .int .i64 30, .int .i64 31] : List Value)[j]? = some (.int .i64 (monTab.getD j 0)) := by
  match j, h with
  | 0, _ | 1, _ | 2, _ | 3, _ | 4, _ | 5, _ | 6, _ | 7, _ | 8, _ | 9, _ | 10, _ | 11, _ => rfl
  | n + 12, h => omega

end Go.Proofs.YtkpdbhpmnegahaaDoor
