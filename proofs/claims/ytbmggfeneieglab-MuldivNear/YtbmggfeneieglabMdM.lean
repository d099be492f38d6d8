/- Plain facts on the rounded quotient of a product, with no Go in sight: the quotient rounded down and the remainder make up the product; the other modes differ by at most one. -/
import Derived.Test.YtbmggfeneieglabMdL
namespace Go.Proofs.Ytbmggfeneieglab
open Go.RowKit
set_option linter.unusedVariables false

theorem absI_pos' {c : Int} (hc : c ≠ 0) : 0 < absI c := by unfold absI; split <;> omega
theorem sgV_bd (q : Int) (up neg : Bool) (h : 0 ≤ q) : -9223372036854775808 ≤ (sgV q up neg).1 ∧ (sgV q up neg).1 ≤ 9223372036854775807 := by
  unfold sgV
  have hz : 0 ≤ q + (if up then 1 else 0) := by cases up <;> simp <;> omega
  generalize q + (if up then 1 else 0) = z at *
  by_cases h1 : 9223372036854775808 < q
  · rw [if_pos h1]; simp
  · rw [if_neg h1]
    by_cases h2 : 9223372036854775808 < z ∨ z = 9223372036854775808 ∧ neg = false
    · rw [if_pos h2]; simp
    · rw [if_neg h2]
      cases neg <;> simp at h2 ⊢ <;> omega
theorem mdV_bd (a b c mode : Int) : -9223372036854775808 ≤ (mdV a b c mode).1 ∧ (mdV a b c mode).1 ≤ 9223372036854775807 := by
  unfold mdV
  split
  · simp
  · split
    · simp
    · rename_i hc
      exact sgV_bd _ _ _ (Int.ediv_nonneg (Int.mul_nonneg (absI_nonneg _) (absI_nonneg _)) (absI_nonneg _))
/-- the rounded quotient where it fits. -/
theorem sgV_ok {q : Int} {up neg : Bool} (h : (sgV q up neg).2 = 0) : (sgV q up neg).1 = if neg then -(q + (if up then 1 else 0)) else q + (if up then 1 else 0) := by
  unfold sgV at *
  generalize q + (if up then 1 else 0) = z at *
  by_cases h1 : 9223372036854775808 < q
  · rw [if_pos h1] at h; simp at h
  · rw [if_neg h1] at h ⊢
    by_cases h2 : 9223372036854775808 < z ∨ z = 9223372036854775808 ∧ neg = false
    · rw [if_pos h2] at h; simp at h
    · rw [if_neg h2]
theorem sgV_fits {q : Int} {up neg : Bool} (h0 : 0 ≤ q) (h : q ≤ 9223372036854775000) : (sgV q up neg).2 = 0 := by
  unfold sgV
  rw [if_neg (by omega)]
  have hz : q + (if up then 1 else 0) ≤ 9223372036854775001 := by cases up <;> simp <;> omega
  generalize q + (if up then 1 else 0) = z at *
  rw [if_neg (by omega)]
theorem mdV_in {a b c mode : Int} (m1 : 1 ≤ mode) (m2 : mode ≤ 5) (hc : c ≠ 0) : mdV a b c mode = sgV (absI (a * b) / absI c) (upB mode (absI (a * b) / absI c % 2 != 0) (absI (a * b) % absI c) (absI c) (negB a b c)) (negB a b c) := by
  unfold mdV
  rw [if_neg (by omega), if_neg hc, abs_mul]; rfl
theorem moV_in {a b c : Int} (hc : c ≠ 0) : moV a b c = (if absI (a * b) % absI c ≠ 0 ∧ cmpI (a * b) 0 < 0 then absI c - absI (a * b) % absI c else absI (a * b) % absI c, 0) := by
  unfold moV
  rw [if_neg hc, abs_mul, cmp_sign]
theorem negB_is (a b c : Int) : negB a b c = decide (cmpI (a * b) 0 * cmpI c 0 < 0) := by unfold negB; rw [cmp_sign]

/-- Floor and Mod, at a positive divisor. -/
theorem floor_mod {a b c : Int} (hc : 1 ≤ c) (h : (mdV a b c 5).2 = 0) :
    (moV a b c).2 = 0 ∧ 0 ≤ (moV a b c).1 ∧ (moV a b c).1 < c ∧ (mdV a b c 5).1 * c + (moV a b c).1 = a * b := by
  rw [mdV_in (by omega) (by omega) (by omega)] at h ⊢
  rw [moV_in (by omega)]
  rw [sgV_ok h]
  clear h
  have ec : absI c = c := absI_pos (by omega)
  have hcc : cmpI c 0 = 1 := cmp_gt (by omega)
  rw [negB_is, ec, hcc, Int.mul_one]
  generalize a * b = P at *
  have m0 := Int.emod_nonneg (absI P) (by omega : c ≠ 0)
  have m1 := Int.emod_lt_of_pos (absI P) (by omega : 0 < c)
  have m2 := Int.emod_add_mul_ediv (absI P) c
  rw [Int.mul_comm c] at m2
  generalize absI P / c = Q at *
  generalize absI P % c = R at *
  by_cases hp : P < 0
  · have e1 : cmpI P 0 = -1 := cmp_lt hp
    have e2 : absI P = -P := absI_neg hp
    rw [e1]
    rw [e2] at m2
    have hu : upB 5 (Q % 2 != 0) R c (decide ((-1 : Int) < 0)) = (R != 0) := by simp [upB]
    rw [hu]
    by_cases hR : R = 0
    · subst hR
      simp
      refine ⟨by omega, ?_⟩
      rw [Int.neg_mul]; omega
    · have hb : (R != 0) = true := by simpa using hR
      rw [hb]
      simp [hR]
      refine ⟨by omega, by omega, ?_⟩
      have e : -(Q + 1) * c = -(Q * c) - c := by rw [Int.neg_mul, Int.add_mul, Int.one_mul]; omega
      first
        | (rw [e]; omega)
        | (have e' : (-1 + -Q) * c = -(Q * c) - c := by rw [Int.add_mul, Int.neg_mul, Int.neg_mul, Int.one_mul]; omega
           rw [e']; omega)
  · have e2 : absI P = P := absI_pos hp
    rw [e2] at m2
    have e1 : ¬ cmpI P 0 < 0 := by unfold cmpI; rw [if_neg hp]; split <;> omega
    have hu : upB 5 (Q % 2 != 0) R c (decide (cmpI P 0 < 0)) = false := by simp [upB, e1]
    rw [hu]
    simp [e1]
    exact ⟨m0, m1, by omega⟩

theorem up_zero {mode D : Int} {odd neg : Bool} (hD : 0 < D) : upB mode odd 0 D neg = false := by
  unfold upB
  have k1 : ¬ (D - 0 ≤ 0) := by omega
  have k2 : ¬ (D - 0 < 0) := by omega
  have k3 : ((0 : Int) == D - 0) = false := by rw [beq_eq_false_iff_ne]; omega
  simp only [k1, k2, k3, decide_false, Bool.false_or, Bool.false_and]
  simp
/-- the modes beside Floor. -/
theorem modes_all {a b c q : Int} (hc : c ≠ 0) (h : (mdV a b c 5).2 = 0) (hq : (mdV a b c 5).1 = q) (q1 : -1000000000000000 ≤ q) (q2 : q ≤ 1000000000000000) :
    (∀ mode, 1 ≤ mode → mode ≤ 5 → (mdV a b c mode).2 = 0 ∧ ((mdV a b c mode).1 = q ∨ (mdV a b c mode).1 = q + 1)) ∧
    ((moV a b c).1 = 0 → ∀ mode, 1 ≤ mode → mode ≤ 5 → (mdV a b c mode).1 = q) ∧
    ((moV a b c).1 ≠ 0 → (mdV a b c 1).1 ≠ q ∨ (mdV a b c 2).1 ≠ q) := by
  have hD := absI_pos' hc
  rw [mdV_in (by omega) (by omega) hc] at h hq
  rw [sgV_ok h] at hq
  clear h
  have hmo := moV_in (a := a) (b := b) hc
  have hm : ∀ mode, 1 ≤ mode → mode ≤ 5 → mdV a b c mode = sgV (absI (a * b) / absI c) (upB mode (absI (a * b) / absI c % 2 != 0) (absI (a * b) % absI c) (absI c) (negB a b c)) (negB a b c) := fun mode h1 h2 => mdV_in h1 h2 hc
  have r0 := Int.emod_nonneg (absI (a * b)) (by omega : absI c ≠ 0)
  have r1 := Int.emod_lt_of_pos (absI (a * b)) hD
  have Q0 : 0 ≤ absI (a * b) / absI c := Int.ediv_nonneg (absI_nonneg _) (by omega)
  generalize absI (a * b) / absI c = Q at *
  generalize absI (a * b) % absI c = R at *
  generalize absI c = D at *
  generalize hn : negB a b c = neg at *
  have hQ : Q ≤ 9223372036854775000 := by
    cases neg <;> simp only [if_true, if_false, Bool.false_eq_true] at hq
    · generalize upB 5 (Q % 2 != 0) R D false = u at hq
      cases u <;> simp at hq <;> omega
    · generalize upB 5 (Q % 2 != 0) R D true = u at hq
      cases u <;> simp at hq <;> omega
  have hv : ∀ mode, 1 ≤ mode → mode ≤ 5 → (mdV a b c mode).2 = 0 ∧ (mdV a b c mode).1 = if neg then -(Q + (if upB mode (Q % 2 != 0) R D neg then 1 else 0)) else Q + (if upB mode (Q % 2 != 0) R D neg then 1 else 0) := by
    intro mode h1 h2
    rw [hm mode h1 h2]
    have hf := sgV_fits (up := upB mode (Q % 2 != 0) R D neg) (neg := neg) Q0 hQ
    exact ⟨hf, sgV_ok hf⟩
  have hrz : (moV a b c).1 = 0 ↔ R = 0 := by
    rw [hmo]
    constructor
    · intro h
      by_cases hR : R = 0
      · exact hR
      · simp only at h
        split at h <;> omega
    · intro h; subst h; simp
  by_cases hR : R = 0
  · subst hR
    have hu : ∀ mode : Int, upB mode (Q % 2 != 0) 0 D neg = false := fun mode => up_zero hD
    rw [hu] at hq
    refine ⟨fun mode h1 h2 => ?_, fun _ mode h1 h2 => ?_, fun h => absurd (hrz.2 rfl) h⟩
    · have := hv mode h1 h2
      rw [hu] at this
      exact ⟨this.1, .inl (this.2.trans hq)⟩
    · have := hv mode h1 h2
      rw [hu] at this
      exact this.2.trans hq
  · have hb : (R != 0) = true := by simpa using hR
    have h5 : upB 5 (Q % 2 != 0) R D neg = neg := by simp [upB, hb]
    rw [h5] at hq
    refine ⟨fun mode h1 h2 => ?_, fun h => absurd (hrz.1 h) hR, fun _ => ?_⟩
    · obtain ⟨e1, e2⟩ := hv mode h1 h2
      refine ⟨e1, ?_⟩
      rw [e2]
      cases neg
      · simp only [Bool.false_eq_true, if_false] at hq ⊢
        generalize upB mode (Q % 2 != 0) R D false = u
        cases u <;> simp <;> omega
      · simp only [if_true] at hq ⊢
        generalize upB mode (Q % 2 != 0) R D true = u
        cases u <;> simp <;> omega
    · have h1 : upB 1 (Q % 2 != 0) R D neg = false := by simp [upB]
      have h2 : upB 2 (Q % 2 != 0) R D neg = true := by simp [upB, hR]
      have v1 := (hv 1 (by omega) (by omega)).2
      have v2 := (hv 2 (by omega) (by omega)).2
      rw [h1] at v1
      rw [h2] at v2
      rw [v1, v2]
      cases neg <;> simp at hq ⊢ <;> omega
end Go.Proofs.Ytbmggfeneieglab
