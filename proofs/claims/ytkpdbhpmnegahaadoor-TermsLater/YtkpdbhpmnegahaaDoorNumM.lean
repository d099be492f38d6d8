/- What Mul of the packages num and accountingref01 returns, for all integers of 64 bits. -/
import Derived.Test.YtkpdbhpmnegahaaDoorNumA
namespace Go.Proofs.YtkpdbhpmnegahaaDoor
open Go.RowKit
set_option linter.unusedVariables false
/-- the absolute value. -/
def mag (a : Int) : Int := if a < 0 then -a else a
theorem mag_neg {a : Int} (h : a < 0) : mag a = -a := by unfold mag; rw [if_pos h]
theorem mag_pos {a : Int} (h : ¬ a < 0) : mag a = a := by unfold mag; rw [if_neg h]
theorem mag_size {a : Int} (h1 : -9223372036854775808 ≤ a) (h2 : a < 0) : IntKind.u64.wrap (IntKind.u64.wrap (18446744073709551615 - IntKind.u64.wrap a) + 1) = -a := by
  simp only [IntKind.wrap_u64]; omega

theorem ret_pair {a b : Int} {p : Bool} (h : a = b) : Ending.returned (.tuple #[.int .i64 a, .bool p]) = .returned (.tuple #[.int .i64 b, .bool p]) := by rw [h]
theorem mag_bd {a : Int} (a1 : -9223372036854775808 ≤ a) (a2 : a ≤ 9223372036854775807) : 0 ≤ mag a ∧ mag a ≤ 9223372036854775808 := by
  unfold mag; split <;> omega
theorem mag_mul_neg {a b : Int} (h : a < 0 ∧ 0 < b ∨ 0 < a ∧ b < 0) : a * b = -(mag a * mag b) := by
  rcases h with ⟨h, k⟩ | ⟨h, k⟩
  · rw [mag_neg h, mag_pos (by omega), Int.neg_mul, Int.neg_neg]
  · rw [mag_pos (by omega), mag_neg k, Int.mul_neg, Int.neg_neg]
theorem mag_mul_pos {a b : Int} (h : a < 0 ∧ b < 0 ∨ ¬ a < 0 ∧ ¬ b < 0) : a * b = mag a * mag b := by
  rcases h with ⟨h, k⟩ | ⟨h, k⟩
  · rw [mag_neg h, mag_neg k, Int.neg_mul_neg]
  · rw [mag_pos h, mag_pos k]
theorem wrap_neg {p : Int} (h1 : 0 ≤ p) (h2 : p ≤ 9223372036854775808) : wrap64 (-wrap64 (IntKind.u64.wrap p)) = -p := by
  simp only [IntKind.wrap_u64, wrap64]; omega
theorem mdWrap_pos {p : Int} (h1 : 0 ≤ p) (h2 : p ≤ 9223372036854775807) : wrap64 (IntKind.u64.wrap p) = p := by
  simp only [IntKind.wrap_u64, wrap64]; omega

/-- the test of num.Mul: a wrapped product, divided by a factor that is neither 0 nor -1, gives the other factor exactly if nothing was wrapped. -/
theorem mul_test {a b : Int} (a1 : -9223372036854775808 ≤ a) (a2 : a ≤ 9223372036854775807) (b1 : -9223372036854775808 ≤ b) (b2 : b ≤ 9223372036854775807) (h0 : b ≠ 0) (h1 : b ≠ -1) :
    wrap64 ((wrap64 (a * b)).tdiv b) = a ↔ fits (a * b) = true := by
  constructor
  · intro h
    rw [fits_iff]
    obtain ⟨n1, n2⟩ := wrap64_bd (a * b)
    obtain ⟨k, hk⟩ : ∃ k : Int, wrap64 (a * b) = a * b + k * 18446744073709551616 := by
      refine ⟨-((a * b + 9223372036854775808) / 18446744073709551616), ?_⟩
      unfold wrap64; omega
    generalize hn : wrap64 (a * b) = n at *
    have hq := Int.mul_tdiv_add_tmod n b
    have hb : (n.tmod b).natAbs < b.natAbs := by
      rw [Int.natAbs_tmod]; exact Nat.mod_lt _ (by omega)
    have hle : (n.tdiv b).natAbs ≤ n.natAbs := by rw [Int.natAbs_tdiv]; exact Nat.div_le_self _ _
    have hw : n.tdiv b = a := by
      by_cases e1 : n.tdiv b ≤ 9223372036854775807
      · rw [IntWalk.wrap64_in _ ⟨by omega, e1⟩] at h; exact h
      · exfalso
        have hq2 : (n.tdiv b).natAbs * b.natAbs ≤ n.natAbs := by rw [Int.natAbs_tdiv]; exact Nat.div_mul_le_self _ _
        have hb2 : b = 1 ∨ 2 ≤ b.natAbs := by omega
        rcases hb2 with e | e
        · subst e; rw [Int.tdiv_one] at e1; omega
        · have := Nat.mul_le_mul_left (n.tdiv b).natAbs e
          omega
    rw [hw, Int.mul_comm] at hq
    omega
  · intro h
    obtain ⟨f1, f2⟩ := fits_iff.1 h
    rw [IntWalk.wrap64_in _ ⟨f1, f2⟩, Int.mul_tdiv_cancel _ h0, IntWalk.wrap64_in _ ⟨a1, a2⟩]

set_option maxHeartbeats 400000 in
theorem mul_walk (a b : Int) (w : World) (h0 : ¬ b = 0) (k0 : (b == 0) = false) (k1 : (b == -1) = false) (p : Bool) (hp : (wrap64 ((wrap64 (a * b)).tdiv b) != a) = p) :
    Calls Tryd.prog 89 #[.int .i64 a, .int .i64 b] w fun e w' => e = .returned (if p then .tuple #[.int .i64 0, .bool false] else .tuple #[.int .i64 (wrap64 (a * b)), .bool true]) ∧ w = w' := by
  cases p
  all_goals simp only [if_true, if_false, Bool.false_eq_true]
  all_goals
    go_enter Tryd.func89, Tryd.ntmps89
    go_wp2
    go_ret2
    exact ⟨rfl, rfl⟩
set_option maxHeartbeats 400000 in
theorem mul_zero (a : Int) (w : World) :
    Calls Tryd.prog 89 #[.int .i64 a, .int .i64 0] w fun e w' => e = .returned (.tuple #[.int .i64 0, .bool true]) ∧ w = w' := by
  go_enter Tryd.func89, Tryd.ntmps89
  go_wp2
  go_ret2
  exact ⟨rfl, rfl⟩
set_option maxHeartbeats 400000 in
theorem mul_minus (a : Int) (w : World) (a1 : -9223372036854775808 ≤ a) (a2 : a ≤ 9223372036854775807) :
    Calls Tryd.prog 89 #[.int .i64 a, .int .i64 (-1)] w fun e w' => e = .returned (.tuple #[.int .i64 (fit (-a)), .bool (fits (-a))]) ∧ w = w' := by
  go_enter Tryd.func89, Tryd.ntmps89
  go_wp2_with fail
  refine (neg_any _ _ a1 a2).mono ?_
  rintro e w' ⟨rfl, rfl⟩
  go_wp2
  go_ret2
  exact ⟨rfl, rfl⟩
theorem mul_any (a b : Int) (w : World) (a1 : -9223372036854775808 ≤ a) (a2 : a ≤ 9223372036854775807) (b1 : -9223372036854775808 ≤ b) (b2 : b ≤ 9223372036854775807) :
    Calls Tryd.prog 89 #[.int .i64 a, .int .i64 b] w fun e w' => e = .returned (.tuple #[.int .i64 (fit (a * b)), .bool (fits (a * b))]) ∧ w = w' := by
  by_cases h0 : b = 0
  · subst h0
    rw [Int.mul_zero, fit_of (by omega) (by omega), fits_of (by omega) (by omega)]
    exact mul_zero a w
  · by_cases h1 : b = -1
    · subst h1
      rw [Int.mul_neg_one]
      exact mul_minus a w a1 a2
    · have ht := mul_test a1 a2 b1 b2 h0 h1
      cases hf : fits (a * b)
      · have hne : wrap64 ((wrap64 (a * b)).tdiv b) ≠ a := fun h => by rw [ht.1 h] at hf; cases hf
        refine (mul_walk a b w h0 (by simpa using h0) (by simpa using h1) true (by simpa using hne)).mono ?_
        rintro e w' ⟨rfl, rfl⟩
        unfold fit; rw [hf]
        exact ⟨rfl, rfl⟩
      · refine (mul_walk a b w h0 (by simpa using h0) (by simpa using h1) false (by simpa using ht.2 hf)).mono ?_
        rintro e w' ⟨rfl, rfl⟩
        obtain ⟨f1, f2⟩ := fits_iff.1 hf
        unfold fit; rw [hf, IntWalk.wrap64_in _ ⟨f1, f2⟩]
        exact ⟨rfl, rfl⟩
end Go.Proofs.YtkpdbhpmnegahaaDoor
