/- What the functions of package accountingref02 return, for all arguments. -/
import Derived.Test.YtkpdbhpmnegahaaDoorMdC
namespace Go.Proofs.YtkpdbhpmnegahaaDoor
open Go.RowKit
set_option linter.unusedVariables false

theorem results_three {fn : Func} {t u v : Tmp} (h : fn.results = #[.tmp t, .tmp u, .tmp v]) : True := trivial
theorem ret_u64x3 {a b c a' b' c' : Int} (h : a = a') (k : b = b') (l : c = c') : Ending.returned (.tuple #[.int .u64 a, .int .u64 b, .int .u64 c]) = .returned (.tuple #[.int .u64 a', .int .u64 b', .int .u64 c']) := by rw [h, k, l]
theorem u64_in {n : Int} (h0 : 0 ≤ n) (h1 : n ≤ 18446744073709551615) : IntKind.u64.wrap n = n := by rw [IntKind.wrap_u64]; omega

/-- what holds after i rounds of the division of N by c, bit by bit: h and l are what is left of N's bits, q the quotient so far, r the remainder. -/
def BInv (N c : Int) (i : Nat) (h l qh ql r : Int) : Prop :=
  (0 ≤ h ∧ h ≤ 18446744073709551615) ∧ (0 ≤ l ∧ l ≤ 18446744073709551615) ∧ (0 ≤ qh ∧ qh ≤ 18446744073709551615) ∧ (0 ≤ ql ∧ ql ≤ 18446744073709551615) ∧ (0 ≤ r ∧ r < c) ∧
  N * 2 ^ i = ((qh * 18446744073709551616 + ql) * c + r) * 340282366920938463463374607431768211456 + h * 18446744073709551616 + l ∧ (qh * 18446744073709551616 + ql) < 2 ^ i
theorem b_start {h l c : Int} (c0 : 0 < c) (h0 : 0 ≤ h) (h1 : h ≤ 18446744073709551615) (l0 : 0 ≤ l) (l1 : l ≤ 18446744073709551615) : BInv (h * 18446744073709551616 + l) c 0 h l 0 0 0 := by
  refine ⟨⟨h0, h1⟩, ⟨l0, l1⟩, by omega, by omega, by omega, by simp, by simp⟩
theorem b_step {N c h l qh ql r : Int} {i : Nat} (hi : i < 128) (k : BInv N c i h l qh ql r) (c1 : c ≤ 18446744073709551615) :
    (∀ b r2 : Int, (b = 0 ∧ 2 * r + h / 9223372036854775808 < c ∧ r2 = 2 * r + h / 9223372036854775808) ∨ (b = 1 ∧ c ≤ 2 * r + h / 9223372036854775808 ∧ r2 = 2 * r + h / 9223372036854775808 - c) →
      BInv N c (i + 1) ((2 * h + l / 9223372036854775808) % 18446744073709551616) (2 * l % 18446744073709551616) ((2 * qh + ql / 9223372036854775808) % 18446744073709551616) (2 * ql % 18446744073709551616 + b) r2) := by
  obtain ⟨⟨h0, h1⟩, ⟨l0, l1⟩, ⟨p0, p1⟩, ⟨q0, q1⟩, ⟨r0, rc⟩, e, qb⟩ := k
  intro b r2 hb
  have hp : (2 : Int) ^ (i + 1) = 2 ^ i * 2 := by rw [Int.pow_succ]
  have hq127 : (2 : Int) ^ i ≤ 170141183460469231731687303715884105728 := by
    have h1 : (2 : Int) ^ i ≤ 2 ^ 127 := by
      have : (2 ^ i : Nat) ≤ 2 ^ 127 := Nat.pow_le_pow_right (by decide) (by omega)
      exact_mod_cast this
    have h2 : (2 : Int) ^ 127 = 170141183460469231731687303715884105728 := by decide
    omega
  have hqh : qh ≤ 9223372036854775807 := by omega
  refine ⟨by omega, by omega, by omega, by omega, by omega, ?_, ?_⟩
  · rw [hp, ← Int.mul_assoc, e]
    have eq2 : ((2 * qh + ql / 9223372036854775808) % 18446744073709551616 * 18446744073709551616 + (2 * ql % 18446744073709551616 + b)) = (qh * 18446744073709551616 + ql) * 2 + b := by omega
    rw [eq2]
    have ec : ((qh * 18446744073709551616 + ql) * 2 + b) * c = (qh * 18446744073709551616 + ql) * c * 2 + b * c := by
      rw [Int.add_mul, Int.mul_assoc _ 2 c, Int.mul_comm 2 c, ← Int.mul_assoc]
    rw [ec]
    generalize (qh * 18446744073709551616 + ql) * c = x at *
    rcases hb with ⟨rfl, hb1, rfl⟩ | ⟨rfl, hb1, rfl⟩
    · rw [Int.zero_mul]; omega
    · rw [Int.one_mul]; omega
  · rw [hp]
    generalize (2 : Int) ^ i = P at *
    omega
theorem b_end {N c h l qh ql r : Int} (k : BInv N c 128 h l qh ql r) (c0 : 0 < c) (n0 : 0 ≤ N) : N / c = qh * 18446744073709551616 + ql ∧ N % c = r := by
  obtain ⟨⟨h0, h1⟩, ⟨l0, l1⟩, ⟨p0, p1⟩, ⟨q0, q1⟩, ⟨r0, rc⟩, e, qb⟩ := k
  have h2 : (2 : Int) ^ 128 = 340282366920938463463374607431768211456 := by decide
  rw [h2] at e
  have eN : N = (qh * 18446744073709551616 + ql) * c + r := by
    generalize (qh * 18446744073709551616 + ql) * c = x at *
    omega
  have hq : N / c = qh * 18446744073709551616 + ql := by
    rw [eN, Int.add_comm, Int.add_mul_ediv_right _ _ (by omega : c ≠ 0), Int.ediv_eq_zero_of_lt r0 rc, Int.zero_add]
  refine ⟨hq, ?_⟩
  have hm := Int.emod_add_mul_ediv N c
  rw [hq, Int.mul_comm c] at hm
  omega

theorem u64v {a b : Int} (h : a = b) : Value.int .u64 a = Value.int .u64 b := by rw [h]
theorem mdW_zero (D : Int) (neg : Bool) (mode : Int) (hD : 0 < D) : mdW 0 D neg mode = (0, 0) := by
  have e1 : (0 : Int) / D = 0 := Int.zero_ediv D
  have e2 : (0 : Int) % D = 0 := Int.zero_emod D
  unfold mdW
  rw [e1, e2]
  have hu : upB mode ((0 : Int) % 2 != 0) 0 D neg = false := by
    unfold upB
    have k1 : ¬ (D - 0 ≤ 0) := by omega
    have k2 : ¬ (D - 0 < 0) := by omega
    have k3 : ((0 : Int) == D - 0) = false := by rw [beq_eq_false_iff_ne]; omega
    simp only [k1, k2, k3, decide_false, Bool.false_or, Bool.false_and]
    simp
  rw [hu]
  unfold sgV
  cases neg <;> simp
/-- the sign as the reference computes it. -/
def rNegB (a b c : Int) : Bool := (decide (a < 0) != decide (b < 0)) != decide (c < 0)
theorem cmp_lt {a : Int} (h : a < 0) : cmpI a 0 = -1 := by unfold cmpI; rw [if_pos h]
theorem cmp_gt {a : Int} (h : 0 < a) : cmpI a 0 = 1 := by unfold cmpI; rw [if_neg (by omega), if_pos h]
theorem neg_yes' {a : Int} (h : a < 0) : decide (a < 0) = true := by simpa using h
theorem neg_no' {a : Int} (h : 0 < a) : decide (a < 0) = false := by simp; omega
theorem rNegB_is {a b c : Int} (ha : a ≠ 0) (hb : b ≠ 0) (hc : c ≠ 0) : rNegB a b c = negB a b c := by
  unfold rNegB negB
  rcases (show a < 0 ∨ 0 < a by omega) with h | h <;> rcases (show b < 0 ∨ 0 < b by omega) with k | k <;> rcases (show c < 0 ∨ 0 < c by omega) with l | l
  · rw [neg_yes' h, neg_yes' k, neg_yes' l, cmp_lt h, cmp_lt k, cmp_lt l]; rfl
  · rw [neg_yes' h, neg_yes' k, neg_no' l, cmp_lt h, cmp_lt k, cmp_gt l]; rfl
  · rw [neg_yes' h, neg_no' k, neg_yes' l, cmp_lt h, cmp_gt k, cmp_lt l]; rfl
  · rw [neg_yes' h, neg_no' k, neg_no' l, cmp_lt h, cmp_gt k, cmp_gt l]; rfl
  · rw [neg_no' h, neg_yes' k, neg_yes' l, cmp_gt h, cmp_lt k, cmp_lt l]; rfl
  · rw [neg_no' h, neg_yes' k, neg_no' l, cmp_gt h, cmp_lt k, cmp_gt l]; rfl
  · rw [neg_no' h, neg_no' k, neg_yes' l, cmp_gt h, cmp_gt k, cmp_lt l]; rfl
  · rw [neg_no' h, neg_no' k, neg_no' l, cmp_gt h, cmp_gt k, cmp_gt l]; rfl
theorem mdW_sign {a b c mode : Int} (hc : c ≠ 0) : mdW (absI a * absI b) (absI c) (rNegB a b c) mode = mdW (absI a * absI b) (absI c) (negB a b c) mode := by
  have zp : 0 < absI c := by unfold absI; split <;> omega
  by_cases ha : a = 0
  · subst ha
    have e : absI 0 * absI b = 0 := by simp [absI]
    rw [e, mdW_zero _ _ _ zp, mdW_zero _ _ _ zp]
  · by_cases hb : b = 0
    · subst hb
      have e : absI a * absI 0 = 0 := by simp [absI]
      rw [e, mdW_zero _ _ _ zp, mdW_zero _ _ _ zp]
    · rw [rNegB_is ha hb hc]
theorem odd_is (q : Int) : (q % 2 == 1) = (q % 2 != 0) := by
  rcases (show q % 2 = 0 ∨ q % 2 = 1 by omega) with h | h <;> rw [h] <;> rfl

end Go.Proofs.YtkpdbhpmnegahaaDoor
