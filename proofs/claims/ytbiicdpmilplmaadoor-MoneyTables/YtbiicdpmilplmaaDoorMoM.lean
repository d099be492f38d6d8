/- Amounts converted from one number of digits into another one, as plain integers. No conditions. -/
import Derived.Test.YtbiicdpmilplmaaDoorMdC
namespace Go.Proofs.YtbiicdpmilplmaaDoor
set_option linter.unusedVariables false

def rndUp (a p m : Int) : Bool :=
  if m = 1 then decide (a < 0 ∧ 0 < a % p) else if m = 2 then decide (0 < a ∧ 0 < a % p) else if m = 3 then decide (p < 2 * (a % p) ∨ 2 * (a % p) = p ∧ 0 < a) else if m = 4 then decide (p < 2 * (a % p) ∨ 2 * (a % p) = p ∧ a / p % 2 ≠ 0) else false
def rndV (a p m : Int) : Int := a / p + if rndUp a p m then 1 else 0
theorem abs_rel {a p : Int} (hp : p = 1 ∨ p = 10 ∨ p = 100 ∨ p = 1000 ∨ p = 10000) :
    (0 ≤ a ∧ absI a / p = a / p ∧ absI a % p = a % p ∧ (a = 0 → a % p = 0)) ∨ (a < 0 ∧ absI a % p = 0 ∧ a / p = -(absI a / p) ∧ a % p = 0) ∨ (a < 0 ∧ 0 < absI a % p ∧ a / p = -(absI a / p) - 1 ∧ a % p = p - absI a % p) := by
  unfold absI
  rcases hp with rfl | rfl | rfl | rfl | rfl <;> split <;> omega
theorem abs_b {a p : Int} (hp : p = 1 ∨ p = 10 ∨ p = 100 ∨ p = 1000 ∨ p = 10000) (h1 : -1000000000000000 ≤ a) (h2 : a ≤ 1000000000000000) :
    0 ≤ absI a / p ∧ absI a / p ≤ 1000000000000000 ∧ 0 ≤ absI a % p ∧ absI a % p < p := by
  unfold absI
  rcases hp with rfl | rfl | rfl | rfl | rfl <;> split <;> omega
theorem md_round {a p m : Int} (hp : p = 1 ∨ p = 10 ∨ p = 100 ∨ p = 1000 ∨ p = 10000) (m1 : 1 ≤ m) (m2 : m ≤ 5) (h1 : -1000000000000000 ≤ a) (h2 : a ≤ 1000000000000000) :
    mdW (absI a) p (decide (a < 0)) m = (rndV a p m, 0) := by
  have hr := abs_rel (a := a) hp
  have hb := abs_b hp h1 h2
  unfold mdW rndV rndUp
  generalize absI a / p = Q at *
  generalize absI a % p = R at *
  generalize a / p = q at *
  generalize a % p = r at *
  have hm : m = 1 ∨ m = 2 ∨ m = 3 ∨ m = 4 ∨ m = 5 := by omega
  unfold sgV upB
  rcases hm with rfl | rfl | rfl | rfl | rfl <;> grind

def tenT : List Int := [1, 10, 100, 1000, 10000]
def tenP (k : Int) : Int := tenT.getD k.toNat 0
theorem tenP_5 {k : Int} (h1 : 0 ≤ k) (h2 : k ≤ 4) : (k = 0 ∧ tenP k = 1) ∨ (k = 1 ∧ tenP k = 10) ∨ (k = 2 ∧ tenP k = 100) ∨ (k = 3 ∧ tenP k = 1000) ∨ (k = 4 ∧ tenP k = 10000) := by
  have : k = 0 ∨ k = 1 ∨ k = 2 ∨ k = 3 ∨ k = 4 := by omega
  rcases this with rfl | rfl | rfl | rfl | rfl <;> decide
theorem tenP_is {k : Int} (h1 : 0 ≤ k) (h2 : k ≤ 4) : tenP k = 1 ∨ tenP k = 10 ∨ tenP k = 100 ∨ tenP k = 1000 ∨ tenP k = 10000 := by
  have := tenP_5 h1 h2; omega
theorem tenP_mul {f t : Int} (f1 : 0 ≤ f) (f2 : f ≤ 4) (t1 : 0 ≤ t) (t2 : t ≤ f) : tenP f = tenP (f - t) * tenP t := by
  have : f = 0 ∨ f = 1 ∨ f = 2 ∨ f = 3 ∨ f = 4 := by omega
  have : t = 0 ∨ t = 1 ∨ t = 2 ∨ t = 3 ∨ t = 4 := by omega
  rcases ‹f = 0 ∨ _› with rfl | rfl | rfl | rfl | rfl <;> rcases ‹t = 0 ∨ _› with rfl | rfl | rfl | rfl | rfl <;> first | decide | omega
theorem up_scale (m : Int) (o : Bool) {r d t : Int} (n : Bool) (ht : 0 < t) (hr : 0 ≤ r) (hd : r < d) : upB m o (r * t) (d * t) n = upB m o r d n := by
  unfold upB
  have e0 : (r * t != 0) = (r != 0) := by
    by_cases h : r = 0
    · subst h; simp
    · have : r * t ≠ 0 := by intro h2; rcases Int.mul_eq_zero.1 h2 with k | k <;> omega
      rw [bne_iff_ne.2 this, bne_iff_ne.2 h]
  have e1 : decide (d * t - r * t ≤ r * t) = decide (d - r ≤ r) := by
    rw [← Int.sub_mul]; apply decide_eq_decide.2; exact Int.mul_le_mul_right ht
  have e2 : decide (d * t - r * t < r * t) = decide (d - r < r) := by
    rw [← Int.sub_mul]; apply decide_eq_decide.2; exact Int.mul_lt_mul_right ht
  have e3 : (r * t == d * t - r * t) = (r == d - r) := by
    rw [← Int.sub_mul]
    by_cases h : r = d - r
    · rw [← h]; simp
    · have : r * t ≠ (d - r) * t := by intro h2; exact h (Int.eq_of_mul_eq_mul_right (by omega) h2)
      rw [beq_eq_false_iff_ne.2 this, beq_eq_false_iff_ne.2 h]
  rw [e0, e1, e2, e3]
/-- converting into larger units: the common power of ten falls out. -/
theorem md_down {a p t m : Int} (n : Bool) (hp : 0 < p) (ht : 0 < t) (ha : 0 ≤ a) : mdW (a * t) (p * t) n m = mdW a p n m := by
  unfold mdW
  have e1 : a * t / (p * t) = a / p := Int.mul_ediv_mul_of_pos_left a p ht
  have e2 : a * t % (p * t) = a % p * t := by
    rw [Int.emod_def, e1, Int.emod_def, Int.sub_mul, Int.mul_assoc, Int.mul_comm t (a / p), ← Int.mul_assoc]
  rw [e1, e2, up_scale m _ n ht (Int.emod_nonneg _ (by omega)) (Int.emod_lt_of_pos _ hp)]

/-- converting into smaller units is exact. -/
theorem md_up {a k t m : Int} (n : Bool) (ht : 0 < t) (hk : 0 < k) (ha : 0 ≤ a) : mdW (a * (k * t)) t n m = sgV (a * k) false n := by
  unfold mdW
  have e1 : a * (k * t) / t = a * k := by rw [← Int.mul_assoc]; exact Int.mul_ediv_cancel _ (by omega)
  have e2 : a * (k * t) % t = 0 := by rw [← Int.mul_assoc]; exact Int.mul_emod_left _ _
  rw [e1, e2]
  congr 1
  unfold upB
  have h1 : decide (t - 0 ≤ 0) = false := by simp; omega
  have h2 : decide (t - 0 < 0) = false := by simp; omega
  have h3 : ((0 : Int) == t - 0) = false := by simp; omega
  rw [h1, h2, h3]
  simp
theorem rnd_b {a p m : Int} (hp : p = 1 ∨ p = 10 ∨ p = 100 ∨ p = 1000 ∨ p = 10000) (h1 : -1000000000000000 ≤ a) (h2 : a ≤ 1000000000000000) : -1000000000000000 ≤ rndV a p m ∧ rndV a p m ≤ 1000000000000000 := by
  unfold rndV
  have : rndUp a p m = true → 0 < a % p := by unfold rndUp; rcases hp with rfl | rfl | rfl | rfl | rfl <;> grind
  split
  · have := this ‹_›
    rcases hp with rfl | rfl | rfl | rfl | rfl <;> omega
  · rcases hp with rfl | rfl | rfl | rfl | rfl <;> omega
theorem rnd_back {a p m : Int} (hp : p = 1 ∨ p = 10 ∨ p = 100 ∨ p = 1000 ∨ p = 10000) (m1 : 1 ≤ m) (m2 : m ≤ 5) : rndV (a * p) p m = a := by
  unfold rndV
  have e1 : a * p / p = a := Int.mul_ediv_cancel _ (by omega)
  have e2 : a * p % p = 0 := Int.mul_emod_left _ _
  have : rndUp (a * p) p m = false := by unfold rndUp; rw [e1, e2]; grind
  rw [e1, this]; simp
theorem rnd_mono {a b p m : Int} (hp : p = 1 ∨ p = 10 ∨ p = 100 ∨ p = 1000 ∨ p = 10000) (m1 : 1 ≤ m) (m2 : m ≤ 5) (h : a ≤ b) : rndV a p m ≤ rndV b p m := by
  unfold rndV rndUp
  have hq : a / p < b / p ∨ (a / p = b / p ∧ a % p ≤ b % p) := by rcases hp with rfl | rfl | rfl | rfl | rfl <;> omega
  have z : (a < 0 ∧ 0 ≤ b → a / p < b / p) := by rcases hp with rfl | rfl | rfl | rfl | rfl <;> omega
  have z1 : (a ≤ 0 ∧ 0 < b ∧ a / p = b / p → a % p = 0) := by rcases hp with rfl | rfl | rfl | rfl | rfl <;> omega
  have hm : m = 1 ∨ m = 2 ∨ m = 3 ∨ m = 4 ∨ m = 5 := by omega
  generalize a / p = q at *
  generalize a % p = r at *
  generalize b / p = q' at *
  generalize b % p = r' at *
  rcases hm with rfl | rfl | rfl | rfl | rfl <;> grind
theorem rnd_near {a p m : Int} (hp : p = 1 ∨ p = 10 ∨ p = 100 ∨ p = 1000 ∨ p = 10000) (m1 : 1 ≤ m) (m2 : m ≤ 5) :
    (m = 1 → (0 ≤ a ∧ rndV a p m * p - a ≤ 0 ∧ -p < rndV a p m * p - a) ∨ (a ≤ 0 ∧ 0 ≤ rndV a p m * p - a ∧ rndV a p m * p - a < p)) ∧
    (m = 2 → (0 ≤ a ∧ 0 ≤ rndV a p m * p - a ∧ rndV a p m * p - a < p) ∨ (a ≤ 0 ∧ rndV a p m * p - a ≤ 0 ∧ -p < rndV a p m * p - a)) ∧
    (m = 5 → rndV a p m * p - a ≤ 0 ∧ -p < rndV a p m * p - a) ∧
    (m = 3 ∨ m = 4 → 2 * (rndV a p m * p - a) ≤ p ∧ -p ≤ 2 * (rndV a p m * p - a)) := by
  have e : ∀ z : Int, (a / p + z) * p - a = z * p - a % p := by
    intro z
    have := Int.emod_add_mul_ediv a p
    rw [Int.add_mul, Int.mul_comm (a / p) p]; omega
  unfold rndV
  rw [e]
  have hb : 0 ≤ a % p ∧ a % p < p := by rcases hp with rfl | rfl | rfl | rfl | rfl <;> omega
  have hz : a = 0 → a % p = 0 := by rcases hp with rfl | rfl | rfl | rfl | rfl <;> omega
  unfold rndUp
  generalize a / p = q at *
  generalize a % p = r at *
  have hm : m = 1 ∨ m = 2 ∨ m = 3 ∨ m = 4 ∨ m = 5 := by omega
  rcases hm with rfl | rfl | rfl | rfl | rfl <;> simp <;> grind

def digO (n : Int) : Prop := 0 ≤ n ∧ n ≤ 4
instance (n : Int) : Decidable (digO n) := by unfold digO; infer_instance
def sumO (a : Int) : Prop := -1000000000000000 ≤ a ∧ a ≤ 1000000000000000
instance (a : Int) : Decidable (sumO a) := by unfold sumO; infer_instance
theorem neg_is {a b c : Int} (hb : 0 < b) (hc : 0 < c) : negB a b c = decide (a < 0) := by
  unfold negB cmpI
  grind
theorem abs_pos {b : Int} (h : 0 < b) : absI b = b := by unfold absI; grind
theorem abs_nn (a : Int) : 0 ≤ absI a := by unfold absI; grind
theorem md_scale {a f t m : Int} (f1 : 0 ≤ f) (f2 : f ≤ 4) (t1 : 0 ≤ t) (t2 : t ≤ 4) (m1 : 1 ≤ m) (m2 : m ≤ 5) (ha : sumO a) :
    mdV a (tenP t) (tenP f) m = if t ≤ f then (rndV a (tenP (f - t)) m, 0) else sgV (absI a * tenP (t - f)) false (decide (a < 0)) := by
  have pf := tenP_is f1 f2
  have pt := tenP_is t1 t2
  unfold mdV
  rw [if_neg (by omega), if_neg (by omega), neg_is (by omega) (by omega), abs_pos (b := tenP t) (by omega), abs_pos (b := tenP f) (by omega)]
  by_cases h : t ≤ f
  · rw [if_pos h]
    have hp := tenP_is (k := f - t) (by omega) (by omega)
    rw [tenP_mul f1 f2 t1 h, md_down (a := absI a) (p := tenP (f - t)) (t := tenP t) _ (by omega) (by omega) (abs_nn a), md_round hp m1 m2 ha.1 ha.2]
  · rw [if_neg h]
    have hp := tenP_is (k := t - f) (by omega) (by omega)
    rw [tenP_mul t1 t2 f1 (by omega), md_up (a := absI a) (k := tenP (t - f)) (t := tenP f) _ (by omega) (by omega) (abs_nn a)]
theorem md_01 {m : Int} : mdV 0 1 1 m = if m < 1 ∨ 5 < m then (0, 10) else (0, 0) := by
  unfold mdV
  by_cases h : m < 1 ∨ 5 < m
  · rw [if_pos h, if_pos h]
  · rw [if_neg h, if_neg h, if_neg (by decide)]
    have := md_round (a := 0) (p := 1) (m := m) (.inl rfl) (by omega) (by omega) (by omega) (by omega)
    have e : rndV 0 1 m = 0 := by have := rnd_back (a := 0) (p := 1) (m := m) (.inl rfl) (by omega) (by omega); simpa using this
    rw [e] at this
    exact this
/-- what Scale returns. -/
def scV (a f t m : Int) : Int × Int :=
  if m < 1 ∨ 5 < m then (0, 10) else if ¬ (digO f ∧ digO t) then (0, 2) else if ¬ sumO a then (0, 4)
  else if t ≤ f then (rndV a (tenP (f - t)) m, 0) else if sumO (a * tenP (t - f)) then (a * tenP (t - f), 0) else (0, 4)
theorem sg_up {a k : Int} (hk : 1 ≤ k) (hk2 : k ≤ 10000) (ha : sumO a) : (sumO (a * k) → sgV (absI a * k) false (decide (a < 0)) = (a * k, 0)) ∧ (¬ sumO (a * k) → (sgV (absI a * k) false (decide (a < 0))).2 ≠ 0 ∨ ¬ sumO (sgV (absI a * k) false (decide (a < 0))).1) := by
  have e : absI a * k = if a < 0 then -(a * k) else a * k := by
    unfold absI
    split
    · rw [Int.neg_mul]
    · rfl
  rw [e]
  have s1 : a < 0 → a * k < 0 := fun h => Int.mul_neg_of_neg_of_pos h (by omega)
  have s2 : 0 ≤ a → 0 ≤ a * k := fun h => Int.mul_nonneg h (by omega)
  generalize a * k = z at *
  unfold sgV sumO
  grind
end Go.Proofs.YtbiicdpmilplmaaDoor
