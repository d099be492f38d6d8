/- Plain facts on continued fractions, with no Go in sight. -/
import Derived.Test.YtlndomnampcnfaaFuA
namespace Go.Proofs.Ytlndomnampcnfaa
set_option linter.unusedVariables false
set_option linter.unusedSimpArgs false

/-- n/d in lowest terms, if both parts are small. -/
def rdO (n d : Nat) : Option (Nat × Nat) := if n / Nat.gcd n d ≤ 1000000 ∧ d / Nat.gcd n d ≤ 1000000 then some (n / Nat.gcd n d, d / Nat.gcd n d) else none
structure CfI (n d a b p q r t : Nat) : Prop where
  hn : n = r * a + p * b
  hd : d = t * a + q * b
  det : (r : Int) * q - p * t = 1 ∨ (r : Int) * q - p * t = -1
theorem cf_start (n d : Nat) : CfI n d n d 0 1 1 0 := ⟨by omega, by omega, by left; simp⟩
theorem cf_step {n d a b p q r t : Nat} (h : CfI n d a b p q r t) : CfI n d b (a % b) r t (a / b * r + p) (a / b * t + q) := by
  have e := Nat.div_add_mod a b
  generalize a / b = D at *
  generalize a % b = R at *
  obtain ⟨h1, h2, h3⟩ := h
  subst e
  refine ⟨?_, ?_, ?_⟩
  · rw [h1]; grind
  · rw [h2]; grind
  · rcases h3 with h3 | h3
    · right; simp only [Int.natCast_add, Int.natCast_mul]; grind
    · left; simp only [Int.natCast_add, Int.natCast_mul]; grind
theorem gcd_dvd {n d a b p q r t : Nat} (h : CfI n d a b p q r t) : Nat.gcd n d ∣ a ∧ Nat.gcd n d ∣ b := by
  obtain ⟨h1, h2, h3⟩ := h
  have g1 : ((Nat.gcd n d : Nat) : Int) ∣ (n : Int) := Int.natCast_dvd_natCast.2 (Nat.gcd_dvd_left n d)
  have g2 : ((Nat.gcd n d : Nat) : Int) ∣ (d : Int) := Int.natCast_dvd_natCast.2 (Nat.gcd_dvd_right n d)
  generalize Nat.gcd n d = g at *
  have e1 : (n : Int) = r * a + p * b := by rw [h1]; simp
  have e2 : (d : Int) = t * a + q * b := by rw [h2]; simp
  have c1 : (n : Int) * q - d * p = (r * q - p * t) * a := by rw [e1, e2]; grind
  have c2 : (d : Int) * r - n * t = (r * q - p * t) * b := by rw [e1, e2]; grind
  have d1 : (g : Int) ∣ (n : Int) * q - d * p := Int.dvd_sub (Int.dvd_trans g1 (Int.dvd_mul_right _ _)) (Int.dvd_trans g2 (Int.dvd_mul_right _ _))
  have d2 : (g : Int) ∣ (d : Int) * r - n * t := Int.dvd_sub (Int.dvd_trans g2 (Int.dvd_mul_right _ _)) (Int.dvd_trans g1 (Int.dvd_mul_right _ _))
  rw [c1] at d1
  rw [c2] at d2
  rcases h3 with h3 | h3
  · rw [h3, Int.one_mul] at d1 d2
    exact ⟨Int.natCast_dvd_natCast.1 d1, Int.natCast_dvd_natCast.1 d2⟩
  · rw [h3, show (-1 : Int) * a = -a by omega] at d1
    rw [h3, show (-1 : Int) * b = -b by omega] at d2
    exact ⟨Int.natCast_dvd_natCast.1 (Int.dvd_neg.1 d1), Int.natCast_dvd_natCast.1 (Int.dvd_neg.1 d2)⟩
theorem cf_end {n d a p q r t : Nat} (h : CfI n d a 0 p q r t) (hd : 0 < d) : n / Nat.gcd n d = r ∧ d / Nat.gcd n d = t := by
  have hg := (gcd_dvd h).1
  have h1 : n = r * a := by have := h.hn; omega
  have h2 : d = t * a := by have := h.hd; omega
  have ha : 0 < a := by
    rcases Nat.eq_zero_or_pos a with z | z
    · rw [z] at h2; omega
    · exact z
  have e : Nat.gcd n d = a := Nat.dvd_antisymm hg (Nat.dvd_gcd (by rw [h1]; exact Nat.dvd_mul_left _ _) (by rw [h2]; exact Nat.dvd_mul_left _ _))
  rw [e]
  refine ⟨?_, ?_⟩
  · rw [h1]; exact Nat.mul_div_cancel _ ha
  · rw [h2]; exact Nat.mul_div_cancel _ ha
theorem cf_done {n d a p q r t : Nat} (h : CfI n d a 0 p q r t) (hd : 0 < d) (h1 : r ≤ 1000000) (h2 : t ≤ 1000000) : rdO n d = some (r, t) := by
  obtain ⟨e1, e2⟩ := cf_end h hd
  unfold rdO
  rw [e1, e2, if_pos ⟨h1, h2⟩]
theorem cf_big {n d a b p q r t D : Nat} (h : CfI n d a b p q r t) (hb : 0 < b) (hD : D ≤ a / b) (hm : 1000000 < D * r + p ∨ 1000000 < D * t + q) : rdO n d = none := by
  have h' := cf_step h
  have hg := (gcd_dvd h').1
  have hle := Nat.le_of_dvd hb hg
  have hn := h'.hn
  have hd := h'.hd
  have m1 : D * r ≤ a / b * r := Nat.mul_le_mul_right _ hD
  have m2 : D * t ≤ a / b * t := Nat.mul_le_mul_right _ hD
  have m3 : D * r + p ≤ a / b * r + p := by omega
  have m4 : D * t + q ≤ a / b * t + q := by omega
  clear m1 m2
  generalize a / b * r + p = R at *
  generalize a / b * t + q = T at *
  generalize a % b = c at *
  generalize hge : Nat.gcd n d = g at *
  unfold rdO
  rw [hge]
  have hgp : 0 < g := by
    rcases Nat.eq_zero_or_pos g with z | z
    · subst z
      have := Nat.zero_dvd.1 hg
      omega
    · exact z
  have k1 : R ≤ n / g := by
    rw [Nat.le_div_iff_mul_le hgp]
    have : R * g ≤ R * b := Nat.mul_le_mul_left _ hle
    omega
  have k2 : T ≤ d / g := by
    rw [Nat.le_div_iff_mul_le hgp]
    have : T * g ≤ T * b := Nat.mul_le_mul_left _ hle
    omega
  rw [if_neg (by omega)]
theorem cf_one {n d a b p q r t : Nat} (h : CfI n d a b p q r t) : 1 ≤ r ∨ 1 ≤ t := by
  rcases Nat.eq_zero_or_pos r with z | z
  · rcases Nat.eq_zero_or_pos t with y | y
    · have := h.det; rw [z, y] at this; simp at this
    · exact .inr y
  · exact .inl z
theorem cf_cap {n d a b p q r t : Nat} (h : CfI n d a b p q r t) : 1000000 < 1000001 * r + p ∨ 1000000 < 1000001 * t + q := by
  rcases cf_one h with z | z
  · left; omega
  · right; omega
theorem rdO_copr {n d x y : Nat} (hd : 0 < d) (h : rdO n d = some (x, y)) : Nat.gcd x y = 1 ∧ x ≤ 1000000 ∧ 1 ≤ y ∧ y ≤ 1000000 ∧ n * y = d * x := by
  unfold rdO at h
  by_cases hc : n / Nat.gcd n d ≤ 1000000 ∧ d / Nat.gcd n d ≤ 1000000
  · rw [if_pos hc] at h
    have h := Option.some.inj h
    have e1 : n / Nat.gcd n d = x := congrArg Prod.fst h
    have e2 : d / Nat.gcd n d = y := congrArg Prod.snd h
    have hg : 0 < Nat.gcd n d := Nat.gcd_pos_of_pos_right _ hd
    have c : Nat.gcd (n / Nat.gcd n d) (d / Nat.gcd n d) = 1 := by rw [Nat.gcd_div (Nat.gcd_dvd_left n d) (Nat.gcd_dvd_right n d)]; exact Nat.div_self hg
    rw [e1, e2] at c
    have q1 : x * Nat.gcd n d = n := by rw [← e1]; exact Nat.div_mul_cancel (Nat.gcd_dvd_left n d)
    have q2 : y * Nat.gcd n d = d := by rw [← e2]; exact Nat.div_mul_cancel (Nat.gcd_dvd_right n d)
    refine ⟨c, by omega, ?_, by omega, ?_⟩
    · rcases Nat.eq_zero_or_pos y with z | z
      · rw [z] at q2; omega
      · exact z
    · generalize Nat.gcd n d = g at *
      subst q1 q2
      grind
  · rw [if_neg hc] at h; cases h
end Go.Proofs.Ytlndomnampcnfaa
