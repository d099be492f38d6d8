/- What Add, Sub, Neg and Near of the packages num and accountingref01 return, for all integers of 64 bits. -/
import Derived.Test.YtkpdbhpmnegahaaDoorSpec
import Derived.Test.YtkpdbhpmnegahaaDoorChecked
import Derived.WalkKit
import Derived.Lib.Hide
import Derived.WalkSpells
import Derived.WalkLawsBesides
namespace Go.Proofs.YtkpdbhpmnegahaaDoor
open Go.RowKit

set_option maxHeartbeats 400000 in
theorem add_any (a b : Int) (w : World) (a1 : -9223372036854775808 ≤ a) (a2 : a ≤ 9223372036854775807) (b1 : -9223372036854775808 ≤ b) (b2 : b ≤ 9223372036854775807) :
    Calls Tryd.prog 90 #[.int .i64 a, .int .i64 b] w fun e w' => e = .returned (.tuple #[.int .i64 (fit (a + b)), .bool (fits (a + b))]) ∧ w = w' := by
  by_cases h1 : a + b < -9223372036854775808
  · rw [fit_not (.inl h1), fits_not (.inl h1)]
    have k1 : decide (a < 0) = true := by simp; omega
    have k2 : decide (b < 0) = true := by simp; omega
    have k3 : decide (wrap64 (a + b) < 0) = false := by rw [wrap64_under h1 (by omega)]; simp; omega
    go_enter Tryd.func90, Tryd.ntmps90
    go_wp2
    go_ret2
    exact ⟨rfl, rfl⟩
  · by_cases h2 : 9223372036854775807 < a + b
    · rw [fit_not (.inr h2), fits_not (.inr h2)]
      have k1 : decide (a < 0) = false := by simp; omega
      have k2 : decide (b < 0) = false := by simp; omega
      have k3 : decide (wrap64 (a + b) < 0) = true := by rw [wrap64_over h2 (by omega)]; simp; omega
      go_enter Tryd.func90, Tryd.ntmps90
      go_wp2
      go_ret2
      exact ⟨rfl, rfl⟩
    · rw [fit_of (by omega) (by omega), fits_of (by omega) (by omega)]
      by_cases ka : a < 0
      · have k1 : decide (a < 0) = true := by simp; omega
        by_cases kb : b < 0
        · have k2 : decide (b < 0) = true := by simp; omega
          have k3 : decide (a + b < 0) = true := by simp; omega
          go_enter Tryd.func90, Tryd.ntmps90
          go_wp2
          go_ret2
          exact ⟨rfl, rfl⟩
        · have k2 : decide (b < 0) = false := by simp; omega
          go_enter Tryd.func90, Tryd.ntmps90
          go_wp2
          go_ret2
          exact ⟨rfl, rfl⟩
      · have k1 : decide (a < 0) = false := by simp; omega
        by_cases kb : b < 0
        · have k2 : decide (b < 0) = true := by simp; omega
          go_enter Tryd.func90, Tryd.ntmps90
          go_wp2
          go_ret2
          exact ⟨rfl, rfl⟩
        · have k2 : decide (b < 0) = false := by simp; omega
          have k3 : decide (a + b < 0) = false := by simp; omega
          go_enter Tryd.func90, Tryd.ntmps90
          go_wp2
          go_ret2
          exact ⟨rfl, rfl⟩

set_option maxHeartbeats 400000 in
theorem sub_any (a b : Int) (w : World) (a1 : -9223372036854775808 ≤ a) (a2 : a ≤ 9223372036854775807) (b1 : -9223372036854775808 ≤ b) (b2 : b ≤ 9223372036854775807) :
    Calls Tryd.prog 102 #[.int .i64 a, .int .i64 b] w fun e w' => e = .returned (.tuple #[.int .i64 (fit (a - b)), .bool (fits (a - b))]) ∧ w = w' := by
  by_cases h1 : a - b < -9223372036854775808
  · rw [fit_not (.inl h1), fits_not (.inl h1)]
    have k1 : decide (a < 0) = true := by simp; omega
    have k2 : decide (b < 0) = false := by simp; omega
    have k3 : decide (wrap64 (a - b) < 0) = false := by rw [wrap64_under h1 (by omega)]; simp; omega
    go_enter Tryd.func102, Tryd.ntmps102
    go_wp2
    go_ret2
    exact ⟨rfl, rfl⟩
  · by_cases h2 : 9223372036854775807 < a - b
    · rw [fit_not (.inr h2), fits_not (.inr h2)]
      have k1 : decide (a < 0) = false := by simp; omega
      have k2 : decide (b < 0) = true := by simp; omega
      have k3 : decide (wrap64 (a - b) < 0) = true := by rw [wrap64_over h2 (by omega)]; simp; omega
      go_enter Tryd.func102, Tryd.ntmps102
      go_wp2
      go_ret2
      exact ⟨rfl, rfl⟩
    · rw [fit_of (by omega) (by omega), fits_of (by omega) (by omega)]
      by_cases ka : a < 0
      · have k1 : decide (a < 0) = true := by simp; omega
        by_cases kb : b < 0
        · have k2 : decide (b < 0) = true := by simp; omega
          go_enter Tryd.func102, Tryd.ntmps102
          go_wp2
          go_ret2
          exact ⟨rfl, rfl⟩
        · have k2 : decide (b < 0) = false := by simp; omega
          have k3 : decide (a - b < 0) = true := by simp; omega
          go_enter Tryd.func102, Tryd.ntmps102
          go_wp2
          go_ret2
          exact ⟨rfl, rfl⟩
      · have k1 : decide (a < 0) = false := by simp; omega
        by_cases kb : b < 0
        · have k2 : decide (b < 0) = true := by simp; omega
          have k3 : decide (a - b < 0) = false := by simp; omega
          go_enter Tryd.func102, Tryd.ntmps102
          go_wp2
          go_ret2
          exact ⟨rfl, rfl⟩
        · have k2 : decide (b < 0) = false := by simp; omega
          go_enter Tryd.func102, Tryd.ntmps102
          go_wp2
          go_ret2
          exact ⟨rfl, rfl⟩

set_option maxHeartbeats 400000 in
theorem neg_any (a : Int) (w : World) (a1 : -9223372036854775808 ≤ a) (a2 : a ≤ 9223372036854775807) :
    Calls Tryd.prog 100 #[.int .i64 a] w fun e w' => e = .returned (.tuple #[.int .i64 (fit (-a)), .bool (fits (-a))]) ∧ w = w' := by
  have e0 : (0 : Int) - a = -a := by omega
  have h := sub_any 0 a w (by omega) (by omega) a1 a2
  rw [e0] at h
  have H := Lib.hid h
  clear h e0
  go_enter Tryd.func100, Tryd.ntmps100
  go_wp2_with fail
  refine H.out.mono ?_
  rintro e w' ⟨rfl, rfl⟩
  go_wp2
  go_ret2
  exact ⟨rfl, rfl⟩

/-- n, brought into the range from l to h. -/
def nearTo (n l h : Int) : Int := if n < l then l else if h < n then h else n

end Go.Proofs.YtkpdbhpmnegahaaDoor
