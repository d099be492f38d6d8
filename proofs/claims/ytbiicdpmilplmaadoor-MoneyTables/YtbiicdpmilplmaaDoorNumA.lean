/- What Add, Sub, Neg and Near of the packages num and accountingref01 return, for all integers of 64 bits. -/
import Derived.Test.YtbiicdpmilplmaaDoorSpec
import Derived.Test.YtbiicdpmilplmaaDoorChecked
import Derived.WalkKit
import Derived.Lib.Hide
import Derived.WalkSpells
import Derived.WalkLawsBesides
namespace Go.Proofs.YtbiicdpmilplmaaDoor
open Go.RowKit

set_option maxHeartbeats 400000 in
theorem rAdd_any (a b : Int) (w : World) (a1 : -9223372036854775808 ≤ a) (a2 : a ≤ 9223372036854775807) (b1 : -9223372036854775808 ≤ b) (b2 : b ≤ 9223372036854775807) :
    Calls Tryd.prog 48 #[.int .i64 a, .int .i64 b] w fun e w' => e = .returned (.tuple #[.int .i64 (fit (a + b)), .bool (fits (a + b))]) ∧ w = w' := by
  by_cases h1 : a + b < -9223372036854775808
  · rw [fit_not (.inl h1), fits_not (.inl h1)]
    have k1 : decide (0 < b) = false := by simp; omega
    have k2 : decide (b < 0) = true := by simp; omega
    have k3 : decide (a < -9223372036854775808 - b) = true := by simp; omega
    go_enter Tryd.func48, Tryd.ntmps48
    go_wp2
    go_ret2
    exact ⟨rfl, rfl⟩
  · by_cases h2 : 9223372036854775807 < a + b
    · rw [fit_not (.inr h2), fits_not (.inr h2)]
      have k1 : decide (0 < b) = true := by simp; omega
      have k3 : decide (9223372036854775807 - b < a) = true := by simp; omega
      go_enter Tryd.func48, Tryd.ntmps48
      go_wp2
      go_ret2
      exact ⟨rfl, rfl⟩
    · rw [fit_of (by omega) (by omega), fits_of (by omega) (by omega)]
      by_cases ka : 0 < b
      · have k1 : decide (0 < b) = true := by simp; omega
        have k2 : decide (b < 0) = false := by simp; omega
        have k3 : decide (9223372036854775807 - b < a) = false := by simp; omega
        go_enter Tryd.func48, Tryd.ntmps48
        go_wp2
        go_ret2
        exact ⟨rfl, rfl⟩
      · have k1 : decide (0 < b) = false := by simp; omega
        by_cases kb : b < 0
        · have k2 : decide (b < 0) = true := by simp; omega
          have k3 : decide (a < -9223372036854775808 - b) = false := by simp; omega
          go_enter Tryd.func48, Tryd.ntmps48
          go_wp2
          go_ret2
          exact ⟨rfl, rfl⟩
        · have k2 : decide (b < 0) = false := by simp; omega
          go_enter Tryd.func48, Tryd.ntmps48
          go_wp2
          go_ret2
          exact ⟨rfl, rfl⟩

/-- n, brought into the range from l to h. -/
def nearTo (n l h : Int) : Int := if n < l then l else if h < n then h else n

set_option maxHeartbeats 400000 in
theorem near_any (n l h : Int) (w : World) :
    Calls Tryd.prog 47 #[.int .i64 n, .int .i64 l, .int .i64 h] w fun e w' => e = .returned (.int .i64 (nearTo n l h)) ∧ w = w' := by
  unfold nearTo
  by_cases h1 : n < l
  · rw [if_pos h1]
    go_enter Tryd.func47, Tryd.ntmps47
    go_wp2
    go_ret
    exact ⟨rfl, rfl⟩
  · rw [if_neg h1]
    by_cases h2 : h < n
    · rw [if_pos h2]
      go_enter Tryd.func47, Tryd.ntmps47
      go_wp2
      go_ret
      exact ⟨rfl, rfl⟩
    · rw [if_neg h2]
      go_enter Tryd.func47, Tryd.ntmps47
      go_wp2
      go_ret
      exact ⟨rfl, rfl⟩

end Go.Proofs.YtbiicdpmilplmaaDoor
