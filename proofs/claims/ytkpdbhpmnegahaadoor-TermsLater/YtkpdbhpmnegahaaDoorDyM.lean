/- The calendar: the first day of a month, the day of a date, the date of a day. No word of the program here. -/
import Derived.Test.YtkpdbhpmnegahaaDoorDyB
namespace Go.Proofs.YtkpdbhpmnegahaaDoor
set_option linter.unusedVariables false

def dayM (k : Nat) : Int := lenV (1900 + ((k / 12 : Nat) : Int)) (((k % 12 : Nat) : Int) + 1)
def firstM : Nat → Int
  | 0 => 0
  | k + 1 => firstM k + dayM k
def leaps (y : Int) : Int := (y - 1).tdiv 4 - (y - 1).tdiv 100 + (y - 1).tdiv 400
def startV (y : Int) : Int := (y - 1900) * 365 + leaps y - 460
def Valid (y m d : Int) : Prop := 1900 ≤ y ∧ y ≤ 2199 ∧ 1 ≤ d ∧ d ≤ lenV y m
instance (y m d : Int) : Decidable (Valid y m d) := by unfold Valid; infer_instance
def mon (y m : Int) : Nat := ((y - 1900) * 12 + m - 1).toNat
def ofN (y m d : Int) : Int := firstM (mon y m) + d - 1
def IsDate (n y m d : Int) : Prop := Valid y m d ∧ ofN y m d = n

theorem lenV_out {y m : Int} (h : m < 1 ∨ 12 < m) : lenV y m = 0 := by unfold lenV; rw [if_pos h]
theorem lenV_b {y m : Int} (h1 : 1 ≤ m) (h2 : m ≤ 12) : 28 ≤ lenV y m ∧ lenV y m ≤ 31 := by
  unfold lenV
  rw [if_neg (by omega)]
  split
  · omega
  · have : ∀ j : Nat, j < 12 → 28 ≤ monTab.getD j 0 ∧ monTab.getD j 0 ≤ 31 := by decide
    exact this _ (by omega)
theorem lenV_all (y m : Int) : 0 ≤ lenV y m ∧ lenV y m ≤ 31 := by
  by_cases h : m < 1 ∨ 12 < m
  · rw [lenV_out h]; omega
  · have := lenV_b (y := y) (m := m) (by omega) (by omega); omega
theorem Valid.m {y m d : Int} (h : Valid y m d) : 1 ≤ m ∧ m ≤ 12 := by
  obtain ⟨_, _, h3, h4⟩ := h
  rcases Decidable.em (m < 1 ∨ 12 < m) with k | k
  · rw [lenV_out k] at h4; omega
  · omega
theorem Valid.d {y m d : Int} (h : Valid y m d) : 1 ≤ d ∧ d ≤ 31 := by
  have := lenV_all y m
  obtain ⟨_, _, h3, h4⟩ := h
  omega
theorem dayM_b (k : Nat) : 28 ≤ dayM k ∧ dayM k ≤ 31 := lenV_b (by omega) (by omega)
theorem firstM_mono {a b : Nat} (h : a ≤ b) : firstM a ≤ firstM b := by
  induction b with
  | zero => have : a = 0 := by omega
            subst this; exact Int.le_refl _
  | succ b ih =>
    rcases Nat.lt_or_ge a (b + 1) with k | k
    · have := ih (by omega)
      have := dayM_b b
      simp only [firstM]; omega
    · have : a = b + 1 := by omega
      subst this; exact Int.le_refl _
theorem firstM_b (k : Nat) : 28 * (k : Int) ≤ firstM k ∧ firstM k ≤ 31 * (k : Int) := by
  induction k with
  | zero => simp [firstM]
  | succ k ih => have := dayM_b k; simp only [firstM]; omega

/-- within a year. -/
def inYear (y : Int) : Nat → Int
  | 0 => 0
  | j + 1 => inYear y j + lenV y ((j : Int) + 1)
theorem firstM_in (k j : Nat) (h : j ≤ 12) : firstM (12 * k + j) = firstM (12 * k) + inYear (1900 + (k : Int)) j := by
  induction j with
  | zero => simp [inYear]
  | succ j ih =>
    have e1 : (12 * k + j) / 12 = k := by omega
    have e2 : (12 * k + j) % 12 = j := by omega
    have : firstM (12 * k + (j + 1)) = firstM (12 * k + j) + dayM (12 * k + j) := rfl
    rw [this, ih (by omega), dayM, e1, e2, inYear]; omega
theorem inYear_all (y : Int) : inYear y 12 = 365 + if leapV y = true then 1 else 0 := by
  simp only [inYear, lenV]
  by_cases h : leapV y = true <;> simp [h, monTab] <;> rfl
theorem leap_nat (y : Int) (h : 0 ≤ y) : (if leapV y = true then (1 : Int) else 0) = y / 4 - (y - 1) / 4 - (y / 100 - (y - 1) / 100) + (y / 400 - (y - 1) / 400) := by
  unfold leapV
  rw [Int.tmod_eq_emod_of_nonneg h, Int.tmod_eq_emod_of_nonneg h, Int.tmod_eq_emod_of_nonneg h]
  by_cases h1 : y % 4 = 0 <;> by_cases h2 : y % 100 = 0 <;> by_cases h3 : y % 400 = 0 <;> simp [h1, h2, h3] <;> omega
theorem leaps_of {y : Int} (h : 1 ≤ y) : leaps y = (y - 1) / 4 - (y - 1) / 100 + (y - 1) / 400 := by
  unfold leaps
  rw [Int.tdiv_eq_ediv_of_nonneg (by omega), Int.tdiv_eq_ediv_of_nonneg (by omega), Int.tdiv_eq_ediv_of_nonneg (by omega)]
theorem startV_step {y : Int} (h : 1 ≤ y) : startV (y + 1) = startV y + 365 + if leapV y = true then 1 else 0 := by
  unfold startV
  rw [leap_nat y (by omega), leaps_of h, leaps_of (by omega)]
  have e : y + 1 - 1 = y := by omega
  rw [e]; omega
theorem firstM_year (k : Nat) : firstM (12 * k) = startV (1900 + (k : Int)) := by
  induction k with
  | zero => rfl
  | succ k ih =>
    have e : 12 * (k + 1) = 12 * k + 12 := by omega
    rw [e, firstM_in k 12 (Nat.le_refl _), inYear_all, ih]
    have := startV_step (y := 1900 + (k : Int)) (by omega)
    have e2 : (1900 : Int) + ((k + 1 : Nat) : Int) = 1900 + (k : Int) + 1 := by omega
    rw [e2, this]; omega
theorem firstM_end : firstM 3600 = 109573 := by
  have := firstM_year 300
  rw [show (3600 : Nat) = 12 * 300 from rfl, this]; decide

theorem Valid.monE {y m d : Int} (h : Valid y m d) : (mon y m : Int) = (y - 1900) * 12 + m - 1 ∧ mon y m < 3600 := by
  have := h.m
  obtain ⟨h1, h2, _, _⟩ := h
  unfold mon; omega
theorem Valid.len {y m d : Int} (h : Valid y m d) : dayM (mon y m) = lenV y m := by
  have := h.m
  have := h.monE
  obtain ⟨h1, h2, _, _⟩ := h
  unfold dayM; congr 1 <;> omega
theorem IsDate.range {n y m d : Int} (h : IsDate n y m d) : 0 ≤ n ∧ n ≤ 109572 ∧ firstM (mon y m) ≤ n ∧ n < firstM (mon y m + 1) := by
  obtain ⟨hv, rfl⟩ := h
  have h1 := firstM_mono (a := 0) (b := mon y m) (by omega)
  have h2 := firstM_mono (a := mon y m + 1) (b := 3600) (by have := hv.monE; omega)
  rw [firstM_end] at h2
  have h3 : firstM (mon y m + 1) = firstM (mon y m) + dayM (mon y m) := rfl
  rw [hv.len] at h3
  obtain ⟨_, _, k3, k4⟩ := hv
  unfold ofN
  have : firstM 0 = 0 := rfl
  omega
theorem month_ex (n : Int) (h1 : 0 ≤ n) (K : Nat) (h2 : n < firstM K) : ∃ k, k < K ∧ firstM k ≤ n ∧ n < firstM (k + 1) := by
  induction K with
  | zero => simp [firstM] at h2; omega
  | succ K ih =>
    rcases Int.lt_or_le n (firstM K) with h | h
    · obtain ⟨k, hk, r⟩ := ih h; exact ⟨k, by omega, r⟩
    · exact ⟨K, by omega, h, h2⟩
theorem IsDate.ex {n : Int} (h1 : 0 ≤ n) (h2 : n ≤ 109572) : ∃ y m d, IsDate n y m d := by
  obtain ⟨k, hk, ha, hb⟩ := month_ex n h1 3600 (by rw [firstM_end]; omega)
  have hm : mon (1900 + ((k / 12 : Nat) : Int)) (((k % 12 : Nat) : Int) + 1) = k := by unfold mon; omega
  refine ⟨1900 + ((k / 12 : Nat) : Int), ((k % 12 : Nat) : Int) + 1, n - firstM k + 1, ⟨by omega, by omega, by omega, ?_⟩, ?_⟩
  · have : firstM (k + 1) = firstM k + dayM k := rfl
    unfold dayM at this; omega
  · unfold ofN; rw [hm]; omega
theorem month_uniq {n : Int} {a b : Nat} (a1 : firstM a ≤ n) (a2 : n < firstM (a + 1)) (b1 : firstM b ≤ n) (b2 : n < firstM (b + 1)) : a = b := by
  rcases Nat.lt_trichotomy a b with h | h | h
  · have := firstM_mono (a := a + 1) (b := b) h; omega
  · exact h
  · have := firstM_mono (a := b + 1) (b := a) h; omega
theorem IsDate.uniq {n y m d y' m' d' : Int} (h : IsDate n y m d) (h' : IsDate n y' m' d') : y = y' ∧ m = m' ∧ d = d' := by
  obtain ⟨_, _, a1, a2⟩ := h.range
  obtain ⟨_, _, b1, b2⟩ := h'.range
  have e := month_uniq a1 a2 b1 b2
  have p := h.1.monE
  have p' := h'.1.monE
  have q := h.1.m
  have q' := h'.1.m
  have r := h.2
  have r' := h'.2
  unfold ofN at r r'
  rw [e] at r
  omega
theorem ofN_year {y m d : Int} (h : Valid y m d) : ofN y m d = startV y + inYear y (m - 1).toNat + d - 1 := by
  have hm := h.m
  obtain ⟨h1, h2, _, _⟩ := h
  have e : mon y m = 12 * (y - 1900).toNat + (m - 1).toNat := by unfold mon; omega
  unfold ofN
  rw [e, firstM_in _ _ (by omega), firstM_year]
  have : (1900 : Int) + ((y - 1900).toNat : Int) = y := by omega
  rw [this]
theorem startV_b {y : Int} (h1 : 1900 ≤ y) (h2 : y ≤ 2300) : 0 ≤ startV y ∧ startV y ≤ 200000 ∧ 365 * (y - 1900) ≤ startV y ∧ startV y ≤ 366 * (y - 1900) := by
  unfold startV
  rw [leaps_of (by omega)]; omega
theorem startV_mono {a b : Int} (h1 : 1 ≤ a) (h : a < b) : startV a + 365 ≤ startV b := by
  have : ∀ k : Nat, startV a + 365 ≤ startV (a + 1 + (k : Int)) := by
    intro k
    induction k with
    | zero => have := startV_step h1; have e : a + 1 + ((0 : Nat) : Int) = a + 1 := by omega
              rw [e, this]; split <;> omega
    | succ k ih =>
      have := startV_step (y := a + 1 + (k : Int)) (by omega)
      have e : a + 1 + ((k + 1 : Nat) : Int) = a + 1 + (k : Int) + 1 := by omega
      rw [e, this]; split <;> omega
  have := this (b - a - 1).toNat
  have e : a + 1 + ((b - a - 1).toNat : Int) = b := by omega
  rw [e] at this; exact this
theorem IsDate.year {n y m d : Int} (h : IsDate n y m d) : startV y ≤ n ∧ n < startV (y + 1) := by
  have hm := h.1.m
  have hy := h.1
  obtain ⟨_, _, a1, a2⟩ := h.range
  have e := h.1.monE
  obtain ⟨h1, h2, _, _⟩ := hy
  have k1 := firstM_mono (a := 12 * (y - 1900).toNat) (b := mon y m) (by omega)
  have k2 := firstM_mono (a := mon y m + 1) (b := 12 * (y + 1 - 1900).toNat) (by omega)
  rw [firstM_year] at k1 k2
  have e1 : (1900 : Int) + ((y - 1900).toNat : Int) = y := by omega
  have e2 : (1900 : Int) + ((y + 1 - 1900).toNat : Int) = y + 1 := by omega
  rw [e1] at k1; rw [e2] at k2
  omega
end Go.Proofs.YtkpdbhpmnegahaaDoor
