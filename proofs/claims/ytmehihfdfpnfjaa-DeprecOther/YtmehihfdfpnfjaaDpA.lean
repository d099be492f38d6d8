/- The schedules of package deprec as values. Plain facts. -/
import Derived.Test.YtmehihfdfpnfjaaSpU
import Derived.Test.YtmehihfdfpnfjaaDpF
import Derived.Test.YtmehihfdfpnfjaaQs
namespace Go.Proofs.Ytmehihfdfpnfjaa
open Go.RowKit Go.Sort
set_option linter.unusedVariables false
set_option linter.unusedSimpArgs false

/-- D k / p, rounded to the nearest integer, halves to the even one. -/
def rE (D k p : Int) : Int := (mdV D k p 4).1
theorem negB_pos {a b c : Int} (ha : 0 ≤ a) (hb : 0 ≤ b) (hc : 0 ≤ c) : negB a b c = false := by
  have h : ∀ x : Int, 0 ≤ x → cmpI x 0 = 0 ∨ cmpI x 0 = 1 := fun x hx => by unfold cmpI; split <;> (try split) <;> omega
  unfold negB
  rcases h a ha with e | e <;> rcases h b hb with f | f <;> rcases h c hc with g | g <;> rw [e, f, g] <;> decide
theorem rE_near {D k p : Int} (hD : 0 ≤ D) (hk : 0 ≤ k) (hp : 1 ≤ p) (hx : D * k ≤ 1000000000000000) :
    mdV D k p 4 = (rE D k p, 0) ∧ -p ≤ 2 * (p * rE D k p) - 2 * (D * k) ∧ 2 * (p * rE D k p) - 2 * (D * k) ≤ p ∧ 0 ≤ rE D k p ∧ rE D k p ≤ 1000000000000001 := by
  have h0 : 0 ≤ D * k := Int.mul_nonneg hD hk
  have e : mdV D k p 4 = mdW (D * k) p false 4 := by
    unfold mdV
    rw [if_neg (by omega), if_neg (by omega), absI_pos (by omega), absI_pos (by omega), absI_pos (by omega), negB_pos hD hk (by omega)]
  unfold rE
  rw [e]
  generalize D * k = N at *
  have hq := Int.mul_ediv_add_emod N p
  have r0 := Int.emod_nonneg N (show p ≠ 0 by omega)
  have r1 := Int.emod_lt_of_pos N (show 0 < p by omega)
  have q0 := Int.ediv_nonneg h0 (show (0 : Int) ≤ p by omega)
  have q1 : N / p ≤ N := Int.ediv_le_self _ h0
  unfold mdW
  generalize N / p = q at *
  generalize N % p = r at *
  have hu : upB 4 (q % 2 != 0) r p false = (decide (p - r < r) || (r == p - r) && (q % 2 != 0)) := by unfold upB; simp
  rw [hu]
  generalize hb : (decide (p - r < r) || (r == p - r) && (q % 2 != 0)) = b
  have hs : sgV q b false = (q + (if b then 1 else 0), 0) := by
    unfold sgV
    rw [if_neg (by omega), if_neg (by cases b <;> simp <;> omega)]
    simp
  rw [hs]
  dsimp only
  refine ⟨rfl, ?_⟩
  have hm : p * (q + 1) = p * q + p := by rw [Int.mul_add, Int.mul_one]
  cases b with
  | true =>
    have : p - r ≤ r := by
      simp at hb
      omega
    simp only [if_true]
    rw [hm]
    omega
  | false =>
    have : r ≤ p - r := by
      simp at hb
      omega
    simp only [Bool.false_eq_true, if_false, Int.add_zero]
    omega
section
variable {c s p : Int}
theorem le_of_mul {p z : Int} (hp : 1 ≤ p) (h : -(2 * p) < 2 * (p * z)) : 0 ≤ z := by
  rcases Int.lt_or_le z 0 with hz | hz
  · have : p * z ≤ p * (-1) := Int.mul_le_mul_of_nonneg_left (by omega) (by omega)
    omega
  · exact hz
theorem le_of_mul1 {p z : Int} (hp : 1 ≤ p) (h : 2 * (p * z) < 4 * p) : z ≤ 1 := by
  rcases Int.lt_or_le 1 z with hz | hz
  · have : p * 2 ≤ p * z := Int.mul_le_mul_of_nonneg_left (by omega) (by omega)
    omega
  · exact hz
theorem mul_bd {D p : Int} {k : Nat} (hD : 0 ≤ D) (hD2 : D ≤ 1000000000000) (hp2 : p ≤ 200) (hk : (k : Int) ≤ p) : D * (k : Int) ≤ 1000000000000000 := by
  have h1 : D * (k : Int) ≤ D * 200 := Int.mul_le_mul_of_nonneg_left (by omega) hD
  omega
theorem rE_all {D p : Int} (hD : 0 ≤ D) (hD2 : D ≤ 1000000000000) (hp : 1 ≤ p) (hp2 : p ≤ 200) {k : Nat} (hk : (k : Int) ≤ p) :
    mdV D k p 4 = (rE D k p, 0) ∧ -p ≤ 2 * (p * rE D k p) - 2 * (D * k) ∧ 2 * (p * rE D k p) - 2 * (D * k) ≤ p ∧ 0 ≤ rE D k p ∧ rE D k p ≤ 1000000000000001 :=
  rE_near hD (by omega) hp (mul_bd hD hD2 hp2 hk)
theorem rE_zero {D p : Int} (hp : 1 ≤ p) : rE D 0 p = 0 := by
  unfold rE mdV
  rw [if_neg (by omega), if_neg (by omega)]
  have h1 : absI D * absI 0 = 0 := by rw [show absI 0 = 0 by decide]; omega
  rw [h1, absI_pos (show ¬ p < 0 by omega)]
  unfold mdW
  simp only [Int.zero_ediv, Int.zero_emod]
  have : upB 4 ((0 : Int) != 0) 0 p (negB D 0 p) = false := by unfold upB; simp; omega
  rw [this]
  unfold sgV
  simp
theorem rE_last {D p : Int} (hD : 0 ≤ D) (hD2 : D ≤ 1000000000000) (hp : 1 ≤ p) (hp2 : p ≤ 200) : rE D p p = D := by
  have h := rE_all hD hD2 hp hp2 (k := p.toNat) (by omega)
  rw [show (p.toNat : Int) = p by omega] at h
  obtain ⟨_, h1, h2, _⟩ := h
  generalize rE D p p = R at *
  have e : 2 * (p * R) - 2 * (D * p) = 2 * (p * (R - D)) := by rw [Int.mul_sub, Int.mul_comm D p]; omega
  rw [e] at h1 h2
  have a1 := le_of_mul (z := R - D) hp (by omega)
  have e2 : p * (R - D) = -(p * (D - R)) := by rw [← Int.mul_neg]; congr 1; omega
  have a2 := le_of_mul (z := D - R) hp (by omega)
  omega
theorem rE_mono {D p : Int} (hD : 0 ≤ D) (hD2 : D ≤ 1000000000000) (hp : 1 ≤ p) (hp2 : p ≤ 200) {k : Nat} (hk : (k : Int) + 1 ≤ p) : rE D k p ≤ rE D (k + 1) p := by
  by_cases h0 : D = 0
  · subst h0
    have h : ∀ j : Nat, (j : Int) ≤ p → rE 0 j p = 0 := fun j hj => by
      obtain ⟨_, h1, h2, h3, _⟩ := rE_all (Int.le_refl 0) hD2 hp hp2 hj
      generalize rE 0 j p = R at *
      rw [Int.zero_mul] at h1 h2
      have e2 : p * (-R) = -(p * R) := Int.mul_neg ..
      have a2 := le_of_mul (z := -R) hp (by omega)
      omega
    have e1 := h k (by omega)
    have e2 := h (k + 1) (by omega)
    rw [show ((k + 1 : Nat) : Int) = (k : Int) + 1 by omega] at e2
    omega
  · obtain ⟨_, h1, h2, _⟩ := rE_all hD hD2 hp hp2 (k := k) (by omega)
    obtain ⟨_, g1, g2, _⟩ := rE_all hD hD2 hp hp2 (k := k + 1) (by omega)
    rw [show ((k + 1 : Nat) : Int) = (k : Int) + 1 by omega] at g1 g2
    have e : D * ((k : Int) + 1) = D * k + D := by rw [Int.mul_add, Int.mul_one]
    rw [e] at g1 g2
    generalize rE D (k + 1) p = R' at *
    generalize rE D k p = R at *
    have e3 : p * (R' - R) = p * R' - p * R := Int.mul_sub ..
    have := le_of_mul (z := R' - R) hp (by omega)
    omega
theorem rE_even {D p : Int} (hD : 0 ≤ D) (hD2 : D ≤ 1000000000000) (hp : 1 ≤ p) (hp2 : p ≤ 200) {k : Nat} (hk : (k : Int) + 1 ≤ p) :
    -1 ≤ rE D (k + 1) p - rE D k p - rE D 1 p ∧ rE D (k + 1) p - rE D k p - rE D 1 p ≤ 1 := by
  obtain ⟨_, h1, h2, _⟩ := rE_all hD hD2 hp hp2 (k := k) (by omega)
  obtain ⟨_, g1, g2, _⟩ := rE_all hD hD2 hp hp2 (k := k + 1) (by omega)
  obtain ⟨_, f1, f2, _⟩ := rE_all hD hD2 hp hp2 (k := 1) (by omega)
  rw [show ((k + 1 : Nat) : Int) = (k : Int) + 1 by omega] at g1 g2
  rw [show ((1 : Nat) : Int) = 1 from rfl] at f1 f2
  have e : D * ((k : Int) + 1) = D * k + D := by rw [Int.mul_add, Int.mul_one]
  rw [e] at g1 g2
  rw [Int.mul_one] at f1 f2
  generalize rE D (k + 1) p = R' at *
  generalize rE D k p = R at *
  generalize rE D 1 p = Q at *
  have e3 : p * (R' - R - Q) = p * R' - p * R - p * Q := by rw [Int.mul_sub, Int.mul_sub]
  have e4 : p * (-(R' - R - Q)) = -(p * (R' - R - Q)) := Int.mul_neg ..
  have a1 := le_of_mul1 (z := R' - R - Q) hp (by omega)
  have a2 := le_of_mul1 (z := -(R' - R - Q)) hp (by omega)
  omega
end

/-- what the method Declining takes of the book value b, with r periods left. -/
def dA (part s b r : Int) : Int := min (b - s) (max part ((b - s) / r))
theorem dA_bd {part s b r : Int} (h : s ≤ b) (hr : 1 ≤ r) : 0 ≤ dA part s b r ∧ dA part s b r ≤ b - s := by
  have := Int.ediv_nonneg (show 0 ≤ b - s by omega) (show 0 ≤ r by omega)
  unfold dA
  omega
theorem dA_one {part s b : Int} : dA part s b 1 = b - s := by unfold dA; rw [Int.ediv_one]; omega
/-- the book value after i periods. -/
def dB (f : Int → Int) (c s p : Int) : Nat → Int
  | 0 => c
  | i + 1 => dB f c s p i - dA (f (dB f c s p i)) s (dB f c s p i) (p - i)
theorem dB_bd {f : Int → Int} {c s p : Int} (h : s ≤ c) : ∀ i : Nat, (i : Int) ≤ p → s ≤ dB f c s p i ∧ dB f c s p i ≤ c
  | 0, _ => ⟨h, Int.le_refl _⟩
  | i + 1, hi => by
    have h1 := dB_bd (f := f) (p := p) h i (by omega)
    have h2 := dA_bd (part := f (dB f c s p i)) (s := s) (b := dB f c s p i) (r := p - i) h1.1 (by omega)
    simp only [dB]
    omega
theorem dB_last {f : Int → Int} {c s p : Int} (hp : 1 ≤ p) : dB f c s p p.toNat = s := by
  obtain ⟨n, rfl⟩ : ∃ n : Nat, p = (n : Int) + 1 := ⟨(p - 1).toNat, by omega⟩
  rw [show ((n : Int) + 1).toNat = n + 1 by omega]
  simp only [dB]
  rw [show (n : Int) + 1 - n = 1 by omega, dA_one]
  omega
/-- sums of differences. -/
theorem sum_diff (g : Nat → Int) : ∀ n, ((List.range n).map (fun i => g (i + 1) - g i)).sum = g n - g 0
  | 0 => by simp
  | n + 1 => by
    rw [List.range_succ, List.map_append, List.sum_append, sum_diff g n]
    simp
    omega

/-! the errors of a plan -/
def unB (us : List Int) (p : Int) : Bool := us.all (fun z => decide (0 ≤ z) && decide (z ≤ 1000000000)) && us.any (fun z => decide (0 < z)) && decide ((us.length : Int) = p)
def rtB (a b : Int) : Bool := rightB a b && decide (0 < a) && decide (a < b)
def ckE (m c s p a b : Int) (us : List Int) : Int :=
  if m < 1 ∨ 4 < m then 10 else if c < 1 ∨ 1000000000000 < c ∨ s < 0 ∨ c < s ∨ p < 1 ∨ 200 < p then 3 else if m = 2 ∧ rtB a b = false then 2 else if m = 4 ∧ unB us p = false then 2 else 0
structure Good (m c s p a b : Int) (us : List Int) : Prop where
  m1 : 1 ≤ m
  m4 : m ≤ 4
  c1 : 1 ≤ c
  c2 : c ≤ 1000000000000
  s0 : 0 ≤ s
  sc : s ≤ c
  p1 : 1 ≤ p
  p2 : p ≤ 200
  rt : m = 2 → rtB a b = true
  un : m = 4 → unB us p = true
theorem good_of {m c s p a b : Int} {us : List Int} (h : ckE m c s p a b us = 0) : Good m c s p a b us := by
  unfold ckE at h
  by_cases h1 : m < 1 ∨ 4 < m
  · rw [if_pos h1] at h; omega
  · rw [if_neg h1] at h
    by_cases h2 : c < 1 ∨ 1000000000000 < c ∨ s < 0 ∨ c < s ∨ p < 1 ∨ 200 < p
    · rw [if_pos h2] at h; omega
    · rw [if_neg h2] at h
      by_cases h3 : m = 2 ∧ rtB a b = false
      · rw [if_pos h3] at h; omega
      · rw [if_neg h3] at h
        by_cases h4 : m = 4 ∧ unB us p = false
        · rw [if_pos h4] at h; omega
        · refine ⟨by omega, by omega, by omega, by omega, by omega, by omega, by omega, by omega, fun q => ?_, fun q => ?_⟩
          · cases e : rtB a b
            · exact absurd ⟨q, e⟩ h3
            · rfl
          · cases e : unB us p
            · exact absurd ⟨q, e⟩ h4
            · rfl
theorem ckE_bd (m c s p a b : Int) (us : List Int) : 0 ≤ ckE m c s p a b us ∧ ckE m c s p a b us ≤ 10 := by
  unfold ckE
  split
  · omega
  · split
    · omega
    · split
      · omega
      · split <;> omega
/-- differences of a list. -/
def dfL (g : Nat → Int) (n : Nat) : List Int := (List.range n).map (fun i => g (i + 1) - g i)
theorem dfL_len (g : Nat → Int) (n : Nat) : (dfL g n).length = n := by unfold dfL; simp
theorem dfL_at (g : Nat → Int) (n : Nat) {i : Nat} (h : i < (dfL g n).length) : (dfL g n)[i] = g (i + 1) - g i := by unfold dfL at h ⊢; simp
theorem dfL_snoc (g : Nat → Int) (n : Nat) : dfL g (n + 1) = dfL g n ++ [g (n + 1) - g n] := by unfold dfL; rw [List.range_succ, List.map_append]; rfl
theorem dfL_sum (g : Nat → Int) (n : Nat) : (dfL g n).sum = g n - g 0 := sum_diff g n
theorem dfL_ext {g h : Nat → Int} : ∀ {n : Nat}, (∀ i, i ≤ n → g i = h i) → dfL g n = dfL h n
  | 0, _ => rfl
  | n + 1, hh => by rw [dfL_snoc, dfL_snoc, dfL_ext (fun i hi => hh i (by omega)), hh n (by omega), hh (n + 1) (by omega)]
/-- the numbers from p to 1. -/
def fall (p : Int) : List Int := (List.range p.toNat).map (fun (i : Nat) => p - (i : Int))
theorem fall_len (p : Int) : (fall p).length = p.toNat := by unfold fall; simp
theorem fall_at (p : Int) {i : Nat} (h : i < (fall p).length) : (fall p)[i] = p - (i : Int) := by unfold fall at h ⊢; simp
theorem fall_mem {p z : Int} (h : z ∈ fall p) : 1 ≤ z ∧ z ≤ p := by
  obtain ⟨i, hi, rfl⟩ := List.getElem_of_mem h
  rw [fall_at]
  rw [fall_len] at hi
  omega
def paD (a b x : Int) : Int := (apV a b x 1).1
/-- what the methods Straight and Declining have taken after i periods. -/
def stG (c s p : Int) (i : Nat) : Int := rE (c - s) (i : Int) p
def dcG (a b c s p : Int) (i : Nat) : Int := c - dB (paD a b) c s p i
def scL (m c s p a b : Int) (us : List Int) : List Int :=
  if ckE m c s p a b us = 0 then
    (if m = 1 then dfL (stG c s p) p.toNat else if m = 2 then dfL (dcG a b c s p) p.toNat else if m = 3 then shO (c - s) (fall p) else shO (c - s) us)
  else []
theorem scL_bad {m c s p a b : Int} {us : List Int} (h : ¬ ckE m c s p a b us = 0) : scL m c s p a b us = [] := by unfold scL; rw [if_neg h]
/-- weights that are not too large have shares. -/
theorem shE_ok {x : Int} {zs : List Int} (hl : zs.length ≤ 200) (h0 : 0 < zs.length) (x0 : 0 ≤ x) (x1 : x ≤ 1000000000000) (hz : ∀ z ∈ zs, 0 ≤ z ∧ z ≤ 1000000000) (hp : ∃ z ∈ zs, 0 < z) : shE x zs = 0 := by
  unfold shE
  rw [if_neg (by omega), if_neg (by rw [sumOk_iff.2 ⟨by omega, by omega⟩]; simp)]
  have ha : zs.all (fun z => decide (0 ≤ z)) = true := List.all_eq_true.2 (fun z h => by simpa using (hz z h).1)
  have h2 : zs.sum ≤ zs.length * 1000000000 := sum_le 1000000000 zs (fun z h => (hz z h).2)
  have h3 : 0 < zs.sum := by
    have : ∀ l : List Int, (∀ z ∈ l, 0 ≤ z) → (∃ z ∈ l, 0 < z) → 0 < l.sum := by
      intro l
      induction l with
      | nil => intro _ h; obtain ⟨z, h, _⟩ := h; simp at h
      | cons y l ih =>
        intro h1 h2
        have hn : 0 ≤ l.sum := sum_pos (List.all_eq_true.2 (fun z h => by simpa using h1 z (List.mem_cons_of_mem _ h)))
        have hy := h1 y List.mem_cons_self
        obtain ⟨z, hz, hz2⟩ := h2
        rw [List.sum_cons]
        rcases List.mem_cons.1 hz with e | e
        · subst e; omega
        · have := ih (fun z h => h1 z (List.mem_cons_of_mem _ h)) ⟨z, e, hz2⟩
          omega
    exact this zs (fun z h => (hz z h).1) hp
  unfold wgV
  rw [ha]
  simp only [Bool.true_eq_false, if_false]
  rw [if_neg (by omega), if_neg (by omega)]
theorem fall_ok {x p : Int} (p1 : 1 ≤ p) (p2 : p ≤ 200) (x0 : 0 ≤ x) (x1 : x ≤ 1000000000000) : shE x (fall p) = 0 := by
  refine shE_ok (by rw [fall_len]; omega) (by rw [fall_len]; omega) x0 x1 (fun z h => ?_) ?_
  · have := fall_mem h; omega
  · have h0 : 0 < (fall p).length := by rw [fall_len]; omega
    exact ⟨(fall p)[0], List.getElem_mem h0, by rw [fall_at]; omega⟩
theorem unB_parts {us : List Int} {p : Int} (h : unB us p = true) : (∀ z ∈ us, 0 ≤ z ∧ z ≤ 1000000000) ∧ (∃ z ∈ us, 0 < z) ∧ (us.length : Int) = p := by
  unfold unB at h
  simp only [Bool.and_eq_true, List.all_eq_true, List.any_eq_true, decide_eq_true_eq] at h
  exact ⟨h.1.1, h.1.2, h.2⟩
theorem units_ok {x p : Int} {us : List Int} (p1 : 1 ≤ p) (p2 : p ≤ 200) (x0 : 0 ≤ x) (x1 : x ≤ 1000000000000) (h : unB us p = true) : shE x us = 0 := by
  obtain ⟨h1, h2, h3⟩ := unB_parts h
  exact shE_ok (by omega) (by omega) x0 x1 h1 h2
/-- there is an order of the weights. -/
def OrdS (m c s p : Int) (us : List Int) : Prop :=
  (m = 3 → Ord1 (c - s).natAbs (fall p).sum.toNat (wtN (fall p)) (fall p).length) ∧ (m = 4 → Ord1 (c - s).natAbs us.sum.toNat (wtN us) us.length)
/-- what is known of a schedule. -/
structure ScF (c s p : Int) (l : List Int) : Prop where
  len : l.length = p.toNat
  pos : ∀ z ∈ l, 0 ≤ z
  sum : l.sum = c - s
theorem ScF.le {c s p : Int} {l : List Int} (h : ScF c s p l) (k : Nat) : 0 ≤ (l.take k).sum ∧ (l.take k).sum ≤ c - s := by
  have ha : l.all (fun z => decide (0 ≤ z)) = true := List.all_eq_true.2 (fun z hz => by simpa using h.pos z hz)
  refine ⟨sum_pos (List.all_eq_true.2 (fun z hz => by simpa using h.pos z (List.mem_of_mem_take hz))), ?_⟩
  have := take_le ha k
  rw [h.sum] at this
  exact this
theorem ScF.at {c s p : Int} {l : List Int} (h : ScF c s p l) {k : Nat} (hk : k < l.length) : 0 ≤ l[k] ∧ l[k] ≤ c - s := by
  have h1 := h.pos _ (List.getElem_mem hk)
  have h2 := sum_snoc l hk
  have h3 := h.le k
  have h4 := h.le (k + 1)
  omega
theorem scF_df {c s p : Int} {g : Nat → Int} (h0 : g 0 = 0) (hl : g p.toNat = c - s) (hm : ∀ i, i < p.toNat → g i ≤ g (i + 1)) : ScF c s p (dfL g p.toNat) := by
  refine ⟨dfL_len _ _, fun z hz => ?_, by rw [dfL_sum, h0, hl]; omega⟩
  obtain ⟨i, hi, rfl⟩ := List.getElem_of_mem hz
  rw [dfL_at]
  rw [dfL_len] at hi
  have := hm i hi
  omega
theorem scF_sh {c s p : Int} {zs : List Int} (hs : s ≤ c) (hl : (zs.length : Int) = p) (he : shE (c - s) zs = 0) (ho : Ord1 (c - s).natAbs zs.sum.toNat (wtN zs) zs.length) : ScF c s p (shO (c - s) zs) := by
  refine ⟨by rw [shO_len he]; omega, fun z hz => ?_, shO_sum he ho⟩
  obtain ⟨i, hi, rfl⟩ := List.getElem_of_mem hz
  rw [shO_at he]
  unfold shV
  rw [if_neg (by omega)]
  omega
theorem stG_zero {c s p : Int} (hp : 1 ≤ p) : stG c s p 0 = 0 := by unfold stG; exact rE_zero hp
theorem dcG_next (a b c s p : Int) (i : Nat) : dcG a b c s p (i + 1) - dcG a b c s p i = dA (paD a b (dB (paD a b) c s p i)) s (dB (paD a b) c s p i) (p - i) := by
  unfold dcG; simp only [dB]; omega
theorem scF_of {m c s p a b : Int} {us : List Int} (h : ckE m c s p a b us = 0) (ho : OrdS m c s p us) : ScF c s p (scL m c s p a b us) := by
  have g := good_of h
  have hp1 := g.p1
  have hp2 := g.p2
  have hsc := g.sc
  have hc2 := g.c2
  have hs0 := g.s0
  unfold scL
  rw [if_pos h]
  by_cases h1 : m = 1
  · rw [if_pos h1]
    refine scF_df (stG_zero hp1) ?_ (fun i hi => ?_)
    · unfold stG
      rw [show (p.toNat : Int) = p by omega]
      exact rE_last (by omega) (by omega) hp1 hp2
    · unfold stG
      rw [show ((i + 1 : Nat) : Int) = (i : Int) + 1 by omega]
      exact rE_mono (by omega) (by omega) hp1 hp2 (by omega)
  · rw [if_neg h1]
    by_cases h2 : m = 2
    · rw [if_pos h2]
      refine scF_df (by unfold dcG dB; omega) ?_ (fun i hi => ?_)
      · unfold dcG; rw [dB_last hp1]
      · have h3 := dcG_next a b c s p i
        have h4 := dB_bd (f := paD a b) (p := p) hsc i (by omega)
        have h5 := dA_bd (part := paD a b (dB (paD a b) c s p i)) (s := s) (b := dB (paD a b) c s p i) (r := p - i) h4.1 (by omega)
        omega
    · rw [if_neg h2]
      by_cases h3 : m = 3
      · rw [if_pos h3]
        exact scF_sh hsc (by rw [fall_len]; omega) (fall_ok hp1 hp2 (by omega) (by omega)) (ho.1 h3)
      · rw [if_neg h3]
        have h4 : m = 4 := by have := g.m1; have := g.m4; omega
        obtain ⟨u1, u2, u3⟩ := unB_parts (g.un h4)
        exact scF_sh hsc u3 (units_ok hp1 hp2 (by omega) (by omega) (g.un h4)) (ho.2 h4)
end Go.Proofs.Ytmehihfdfpnfjaa
