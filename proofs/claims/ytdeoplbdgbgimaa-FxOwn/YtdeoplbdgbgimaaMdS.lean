/- What MulDiv, Div, Mod and Cmp of package accountingref02 return, for all arguments. -/
import Derived.Test.YtdeoplbdgbgimaaMdR
namespace Go.Proofs.Ytdeoplbdgbgimaa
open Go.RowKit
set_option linter.unusedVariables false

set_option maxHeartbeats 400000 in
theorem rMulDiv_kind (a b c mode : Int) (w : World) (h : mode < 1 ∨ 5 < mode) :
    Calls Try.prog 36 #[.int .i64 a, .int .i64 b, .int .i64 c, .int .i64 mode] w fun e w' => e = .returned (.tuple #[.int .i64 0, .int .i64 10]) ∧ w = w' := by
  rcases h with h | h
  · have k1 : decide (mode < 1) = true := by simpa using h
    go_enter Try.func36, Try.ntmps36
    go_wp2
    go_ret2
    exact ⟨rfl, rfl⟩
  · have k1 : decide (mode < 1) = false := by simp; omega
    have k2 : decide (5 < mode) = true := by simpa using h
    go_enter Try.func36, Try.ntmps36
    go_wp2
    go_ret2
    exact ⟨rfl, rfl⟩
set_option maxHeartbeats 400000 in
theorem rMulDiv_arg (a b mode : Int) (w : World) (m1 : 1 ≤ mode) (m2 : mode ≤ 5) :
    Calls Try.prog 36 #[.int .i64 a, .int .i64 b, .int .i64 0, .int .i64 mode] w fun e w' => e = .returned (.tuple #[.int .i64 0, .int .i64 2]) ∧ w = w' := by
  have k1 : decide (mode < 1) = false := by simp; omega
  have k2 : decide (5 < mode) = false := by simp; omega
  go_enter Try.func36, Try.ntmps36
  go_wp2
  go_ret2
  exact ⟨rfl, rfl⟩
theorem rMulDiv_any (a b c mode : Int) (w : World) (a1 : -9223372036854775808 ≤ a) (a2 : a ≤ 9223372036854775807) (b1 : -9223372036854775808 ≤ b) (b2 : b ≤ 9223372036854775807) (c1 : -9223372036854775808 ≤ c) (c2 : c ≤ 9223372036854775807) :
    Calls Try.prog 36 #[.int .i64 a, .int .i64 b, .int .i64 c, .int .i64 mode] w fun e w' => e = .returned (.tuple #[.int .i64 (mdV a b c mode).1, .int .i64 (mdV a b c mode).2]) ∧ w = w' := by
  unfold mdV
  by_cases h : mode < 1 ∨ 5 < mode
  · rw [if_pos h]; exact rMulDiv_kind a b c mode w h
  · rw [if_neg h]
    by_cases hc : c = 0
    · rw [if_pos hc]; subst hc; exact rMulDiv_arg a b mode w (by omega) (by omega)
    · rw [if_neg hc]; exact rMulDiv_walk a b c mode w a1 a2 b1 b2 c1 c2 (by omega) (by omega) hc _ (mdW_sign hc)
theorem mod_sign {a b D : Int} (h : absI a * absI b % D ≠ 0) : decide (cmpI a 0 * cmpI b 0 < 0) = !(decide (a < 0) == decide (b < 0)) := by
  have ha : a ≠ 0 := by rintro rfl; apply h; simp [absI]
  have hb : b ≠ 0 := by rintro rfl; apply h; simp [absI]
  rcases (show a < 0 ∨ 0 < a by omega) with h | h <;> rcases (show b < 0 ∨ 0 < b by omega) with k | k
  · rw [neg_yes' h, neg_yes' k, cmp_lt h, cmp_lt k]; rfl
  · rw [neg_yes' h, neg_no' k, cmp_lt h, cmp_gt k]; rfl
  · rw [neg_no' h, neg_yes' k, cmp_gt h, cmp_lt k]; rfl
  · rw [neg_no' h, neg_no' k, cmp_gt h, cmp_gt k]; rfl
end Go.Proofs.Ytdeoplbdgbgimaa
