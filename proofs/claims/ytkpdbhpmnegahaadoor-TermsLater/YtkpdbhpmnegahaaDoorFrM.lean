/- Facts on fractions in lowest terms: Make's answer depends on the value alone. No conditions. -/
import Derived.Test.YtkpdbhpmnegahaaDoorFrE
namespace Go.Proofs.YtkpdbhpmnegahaaDoor
open Go.RowKit Go.Sort
set_option linter.unusedVariables false

theorem mk_val {n d : Int} (h : mkE n d = 0) : d ≠ 0 ∧ ¬ Big n d ∧ mkN n d = (if decide (n < 0) = decide (d < 0) then (mkA n d : Int) else -(mkA n d : Int)) ∧ mkD n d = (mkB n d : Int) := by
  unfold mkE at h
  by_cases hd : d = 0
  · rw [if_pos hd] at h; omega
  · rw [if_neg hd] at h
    by_cases hb : Big n d
    · rw [if_pos hb] at h; omega
    · exact ⟨hd, hb, if_neg (by rintro (k | k); exact hd k; exact hb k), if_neg (by rintro (k | k); exact hd k; exact hb k)⟩
theorem mk_parts {n d : Int} (hd : d ≠ 0) : 0 < Nat.gcd n.natAbs d.natAbs ∧ n.natAbs = mkA n d * Nat.gcd n.natAbs d.natAbs ∧ d.natAbs = mkB n d * Nat.gcd n.natAbs d.natAbs ∧ Nat.gcd (mkA n d) (mkB n d) = 1 ∧ 1 ≤ mkB n d := by
  have hg : 0 < Nat.gcd n.natAbs d.natAbs := Nat.gcd_pos_of_pos_right _ (by omega)
  have e1 : n.natAbs = mkA n d * Nat.gcd n.natAbs d.natAbs := (Nat.div_mul_cancel (Nat.gcd_dvd_left _ _)).symm
  have e2 : d.natAbs = mkB n d * Nat.gcd n.natAbs d.natAbs := (Nat.div_mul_cancel (Nat.gcd_dvd_right _ _)).symm
  refine ⟨hg, e1, e2, Nat.coprime_div_gcd_div_gcd hg, ?_⟩
  rcases Nat.eq_zero_or_pos (mkB n d) with k | k
  · rw [k, Nat.zero_mul] at e2; omega
  · exact k
theorem sgn_mul (n : Int) : n = (if n < 0 then -1 else 1) * (n.natAbs : Int) := by split <;> omega
/-- an accepted answer is valid, and has the value. -/
theorem mk_right {n d : Int} (h : mkE n d = 0) : RightP (mkN n d) (mkD n d) ∧ mkN n d * d = n * mkD n d := by
  obtain ⟨hd, hb, hN, hD⟩ := mk_val h
  obtain ⟨hg, e1, e2, hc, h1⟩ := mk_parts (n := n) hd
  have hA : mkA n d ≤ 1000000 := Nat.not_lt.1 fun k => hb (.inl k)
  have hB : mkB n d ≤ 1000000 := Nat.not_lt.1 fun k => hb (.inr k)
  generalize Nat.gcd n.natAbs d.natAbs = g at *
  generalize mkA n d = A at *
  generalize mkB n d = B at *
  have E1 : (n.natAbs : Int) = (A : Int) * g := by rw [e1]; simp
  have E2 : (d.natAbs : Int) = (B : Int) * g := by rw [e2]; simp
  have ag : (0 : Int) ≤ (A : Int) * g := by rw [← E1]; omega
  have habs : (mkN n d).natAbs = A := by rw [hN]; split <;> omega
  refine ⟨⟨by omega, by omega, by rw [hN]; split <;> omega, by rw [hN]; split <;> omega, by rw [habs, hD]; simpa using hc⟩, ?_⟩
  rw [hN, hD]
  by_cases k1 : n < 0 <;> by_cases k2 : d < 0
  · have x1 : n = -((A : Int) * g) := by omega
    have x2 : d = -((B : Int) * g) := by omega
    rw [if_pos (by simp [k1, k2]), x1, x2]; grind
  · have x1 : n = -((A : Int) * g) := by omega
    have x2 : d = ((B : Int) * g) := by omega
    rw [if_neg (by simp [k1, k2]), x1, x2]; grind
  · have x1 : n = ((A : Int) * g) := by omega
    have x2 : d = -((B : Int) * g) := by omega
    rw [if_neg (by simp [k1, k2]), x1, x2]; grind
  · have x1 : n = ((A : Int) * g) := by omega
    have x2 : d = ((B : Int) * g) := by omega
    rw [if_pos (by simp [k1, k2]), x1, x2]; grind
/-- a value that a valid fraction has: Make returns this fraction. -/
theorem mk_of {n d a b : Int} (hr : RightP a b) (hd : d ≠ 0) (h : n * b = a * d) : mkN n d = a ∧ mkD n d = b ∧ mkE n d = 0 := by
  obtain ⟨r1, r2, r3, r4, hc⟩ := hr
  obtain ⟨hg, e1, e2, hc2, h1⟩ := mk_parts (n := n) hd
  have hn : n.natAbs * b.natAbs = a.natAbs * d.natAbs := by rw [← Int.natAbs_mul, ← Int.natAbs_mul, h]
  have hab : mkA n d * b.natAbs = a.natAbs * mkB n d := by
    generalize Nat.gcd n.natAbs d.natAbs = g at *
    rw [e1, e2] at hn
    have : (mkA n d * b.natAbs) * g = (a.natAbs * mkB n d) * g := by
      rw [Nat.mul_right_comm] at hn
      rw [hn, Nat.mul_assoc]
    exact Nat.eq_of_mul_eq_mul_right hg this
  have d1 : b.natAbs ∣ mkB n d := (Nat.Coprime.dvd_of_dvd_mul_left (show Nat.Coprime b.natAbs a.natAbs from (Nat.gcd_comm _ _).trans hc) ⟨mkA n d, by rw [← hab, Nat.mul_comm]⟩)
  have d2 : mkB n d ∣ b.natAbs := (Nat.Coprime.dvd_of_dvd_mul_left (show Nat.Coprime (mkB n d) (mkA n d) from (Nat.gcd_comm _ _).trans hc2) ⟨a.natAbs, by rw [hab, Nat.mul_comm]⟩)
  have eB : mkB n d = b.natAbs := Nat.dvd_antisymm d2 d1
  have eA : mkA n d = a.natAbs := by rw [eB] at hab; exact Nat.eq_of_mul_eq_mul_right (by omega) hab
  have hnb : ¬ Big n d := by unfold Big; rw [eA, eB]; omega
  have hE : mkE n d = 0 := (if_neg hd).trans (if_neg hnb)
  obtain ⟨_, _, hN, hD⟩ := mk_val hE
  refine ⟨?_, by rw [hD, eB]; omega, hE⟩
  rw [hN, eA]
  have hbp : 0 < b := by omega
  rcases Int.lt_trichotomy a 0 with ka | ka | ka
  · by_cases kd : d < 0
    · have : 0 < a * d := Int.mul_pos_of_neg_of_neg ka kd
      have hn0 : ¬ n < 0 := fun kn => by have := Int.mul_neg_of_neg_of_pos kn hbp; omega
      rw [if_neg (by simp [hn0, kd])]; omega
    · have : a * d < 0 := Int.mul_neg_of_neg_of_pos ka (by omega)
      have hn0 : n < 0 := by
        rcases Int.lt_or_le n 0 with k | k
        · exact k
        · have := Int.mul_nonneg k (Int.le_of_lt hbp); omega
      rw [if_neg (by simp [hn0, kd])]; omega
  · subst ka; split <;> simp
  · by_cases kd : d < 0
    · have : a * d < 0 := Int.mul_neg_of_pos_of_neg ka kd
      have hn0 : n < 0 := by
        rcases Int.lt_or_le n 0 with k | k
        · exact k
        · have := Int.mul_nonneg k (Int.le_of_lt hbp); omega
      rw [if_pos (by simp [hn0, kd])]; omega
    · have : 0 < a * d := Int.mul_pos ka (by omega)
      have hn0 : ¬ n < 0 := fun kn => by have := Int.mul_neg_of_neg_of_pos kn hbp; omega
      rw [if_pos (by simp [hn0, kd])]; omega
theorem mk_arg (n : Int) : mkN n 0 = 0 ∧ mkD n 0 = 0 ∧ mkE n 0 = 2 := ⟨if_pos (.inl rfl), if_pos (.inl rfl), if_pos rfl⟩
/-- the sign of an accepted answer over a positive denominator. -/
theorem mk_sign {n d : Int} (h : mkE n d = 0) (hd : 0 < d) : (mkN n d < 0 ↔ n < 0) ∧ (0 < mkN n d ↔ 0 < n) := by
  obtain ⟨hr, he⟩ := mk_right h
  obtain ⟨r1, _⟩ := hr
  generalize mkN n d = N at *
  generalize mkD n d = D at *
  constructor
  · constructor
    · intro k
      have := Int.mul_neg_of_neg_of_pos k hd
      rcases Int.lt_or_le n 0 with q | q
      · exact q
      · have := Int.mul_nonneg q (show (0 : Int) ≤ D by omega); omega
    · intro k
      have := Int.mul_neg_of_neg_of_pos k (show 0 < D by omega)
      rcases Int.lt_or_le N 0 with q | q
      · exact q
      · have := Int.mul_nonneg q (show (0 : Int) ≤ d by omega); omega
  · constructor
    · intro k
      have := Int.mul_pos k hd
      rcases Int.lt_or_le 0 n with q | q
      · exact q
      · have := Int.mul_nonpos_of_nonpos_of_nonneg q (show (0 : Int) ≤ D by omega); omega
    · intro k
      have := Int.mul_pos k (show 0 < D by omega)
      rcases Int.lt_or_le 0 N with q | q
      · exact q
      · have := Int.mul_nonpos_of_nonpos_of_nonneg q (show (0 : Int) ≤ d by omega); omega
/-- what an operation with checked arguments returns: numerator, denominator, error. -/
def opN (r : Bool) (n m : Int) : Int := if r then mkN n m else 0
def opD (r : Bool) (n m : Int) : Int := if r then mkD n m else 0
def opE (r : Bool) (n m : Int) : Int := if r then mkE n m else 2
def okB (a b c d : Int) : Bool := rightB a b && rightB c d
theorem right_iff {a b : Int} : rightB a b = true ↔ RightP a b := by unfold rightB; exact decide_eq_true_iff
theorem ok_iff {a b c d : Int} : okB a b c d = true ↔ RightP a b ∧ RightP c d := by unfold okB; rw [Bool.and_eq_true, right_iff, right_iff]
theorem ok_comm (a b c d : Int) : okB a b c d = okB c d a b := Bool.and_comm _ _
theorem right_neg (c d : Int) : rightB (-c) d = rightB c d := by
  have : rightB (-c) d = true ↔ rightB c d = true := by
    rw [right_iff, right_iff]
    unfold RightP
    rw [Int.natAbs_neg]
    constructor <;> rintro ⟨h1, h2, h3, h4, h5⟩ <;> exact ⟨h1, h2, by omega, by omega, h5⟩
  rwa [← Bool.eq_iff_iff] at this
theorem op_inv_add {a b c d : Int} (h : opE (okB a b c d) (a * d + c * b) (b * d) = 0) :
    opE (okB (opN (okB a b c d) (a * d + c * b) (b * d)) (opD (okB a b c d) (a * d + c * b) (b * d)) c d) (opN (okB a b c d) (a * d + c * b) (b * d) * d - c * opD (okB a b c d) (a * d + c * b) (b * d)) (opD (okB a b c d) (a * d + c * b) (b * d) * d) = 0 ∧
    opN (okB (opN (okB a b c d) (a * d + c * b) (b * d)) (opD (okB a b c d) (a * d + c * b) (b * d)) c d) (opN (okB a b c d) (a * d + c * b) (b * d) * d - c * opD (okB a b c d) (a * d + c * b) (b * d)) (opD (okB a b c d) (a * d + c * b) (b * d) * d) = a ∧
    opD (okB (opN (okB a b c d) (a * d + c * b) (b * d)) (opD (okB a b c d) (a * d + c * b) (b * d)) c d) (opN (okB a b c d) (a * d + c * b) (b * d) * d - c * opD (okB a b c d) (a * d + c * b) (b * d)) (opD (okB a b c d) (a * d + c * b) (b * d) * d) = b := by
  by_cases hk : okB a b c d = true
  · rw [hk] at h ⊢
    obtain ⟨ra, rc⟩ := ok_iff.1 hk
    unfold opE at h
    rw [if_pos rfl] at h
    obtain ⟨hr, he⟩ := mk_right h
    unfold opN opD opE
    rw [if_pos rfl, if_pos rfl]
    generalize mkN (a * d + c * b) (b * d) = S at *
    generalize mkD (a * d + c * b) (b * d) = T at *
    rw [ok_iff.2 ⟨hr, rc⟩, if_pos rfl, if_pos rfl, if_pos rfl]
    have := mk_of (n := S * d - c * T) (d := T * d) ra (by have := hr.1; have := rc.1; exact Int.ne_of_gt (Int.mul_pos (by omega) (by omega))) (by grind)
    exact ⟨this.2.2, this.1, this.2.1⟩
  · rw [Bool.not_eq_true] at hk; rw [hk] at h; simp [opE] at h
theorem op_inv_mul {a b c d : Int} (hc : c ≠ 0) (h : opE (okB a b c d) (a * c) (b * d) = 0) :
    opE (okB (opN (okB a b c d) (a * c) (b * d)) (opD (okB a b c d) (a * c) (b * d)) c d) (opN (okB a b c d) (a * c) (b * d) * d) (opD (okB a b c d) (a * c) (b * d) * c) = 0 ∧
    opN (okB (opN (okB a b c d) (a * c) (b * d)) (opD (okB a b c d) (a * c) (b * d)) c d) (opN (okB a b c d) (a * c) (b * d) * d) (opD (okB a b c d) (a * c) (b * d) * c) = a ∧
    opD (okB (opN (okB a b c d) (a * c) (b * d)) (opD (okB a b c d) (a * c) (b * d)) c d) (opN (okB a b c d) (a * c) (b * d) * d) (opD (okB a b c d) (a * c) (b * d) * c) = b := by
  by_cases hk : okB a b c d = true
  · rw [hk] at h ⊢
    obtain ⟨ra, rc⟩ := ok_iff.1 hk
    unfold opE at h
    rw [if_pos rfl] at h
    obtain ⟨hr, he⟩ := mk_right h
    unfold opN opD opE
    rw [if_pos rfl, if_pos rfl]
    generalize mkN (a * c) (b * d) = S at *
    generalize mkD (a * c) (b * d) = T at *
    rw [ok_iff.2 ⟨hr, rc⟩, if_pos rfl, if_pos rfl, if_pos rfl]
    have := mk_of (n := S * d) (d := T * c) ra (by have := hr.1; exact Int.mul_ne_zero (by omega) hc) (by grind)
    exact ⟨this.2.2, this.1, this.2.1⟩
  · rw [Bool.not_eq_true] at hk; rw [hk] at h; simp [opE] at h
end Go.Proofs.YtkpdbhpmnegahaaDoor
