/- Plain facts on decimal digits: trimmed numbers, their order, subtraction, division. No Go in sight. -/
import Derived.Test.YtlndomnampcnfaaFuI
namespace Go.Proofs.Ytlndomnampcnfaa
set_option linter.unusedVariables false
set_option linter.unusedSimpArgs false

/-- a number's digits, none for 0. -/
def dn (n : Nat) : List UInt8 := if n = 0 then [] else dg n
theorem dec_dn (n : Nat) : dec (dn n) = n := by
  unfold dn; split
  · rename_i h; rw [h]; rfl
  · exact dec_dg n
theorem dn_all (n : Nat) : (dn n).all dig = true := by
  unfold dn; split
  · rfl
  · exact dg_all n
theorem dn_zero : dn 0 = [] := rfl
theorem dn_nil {n : Nat} : dn n = [] ↔ n = 0 := by
  unfold dn
  constructor
  · intro h; split at h
    · assumption
    · exact absurd h (dg_ne n)
  · intro h; rw [if_pos h]
theorem dec_cons (c : UInt8) (l : List UInt8) : dec (c :: l) = (c.toNat - 48) * 10 ^ l.length + dec l := by
  have e : dec (c :: l) = dec [c] * 10 ^ l.length + dec l := dec_append [c] l
  rw [e]; simp [dec]
theorem dec_zero (l : List UInt8) : dec (48 :: l) = dec l := by rw [dec_cons]; simp
theorem dig_nat {c : UInt8} (h : dig c = true) : 48 ≤ c.toNat ∧ c.toNat ≤ 57 := by
  obtain ⟨a, b⟩ := dig_iff.1 h; omega
theorem all_cons' {c : UInt8} {l : List UInt8} (h : (c :: l).all dig = true) : dig c = true ∧ l.all dig = true := by
  simpa [List.all_cons, Bool.and_eq_true] using h
theorem dg_of : ∀ (k : Nat) (l : List UInt8), l.length = k → l ≠ [] → l.all dig = true → l.head? ≠ some 48 → dg (dec l) = l
  | 0, l, hk, hne, _, _ => absurd (List.length_eq_zero_iff.1 hk) hne
  | k + 1, l, hk, hne, hall, hh => by
    obtain ⟨l', c, rfl⟩ : ∃ l' c, l = l' ++ [c] := ⟨l.dropLast, l.getLast hne, (List.dropLast_concat_getLast hne).symm⟩
    have hl' : l'.length = k := by simpa using hk
    have hc : dig c = true := by
      rw [List.all_append] at hall; simp at hall; exact hall.2
    have ha : l'.all dig = true := by
      rw [List.all_append] at hall; simp only [Bool.and_eq_true] at hall; exact hall.1
    obtain ⟨c1, c2⟩ := dig_nat hc
    have ec : UInt8.ofNat (48 + (c.toNat - 48)) = c := by rw [show 48 + (c.toNat - 48) = c.toNat by omega]; exact UInt8.ofNat_toNat
    rw [dec_snoc]
    by_cases h0 : l' = []
    · subst h0
      have : dec ([] : List UInt8) = 0 := rfl
      rw [this, Nat.zero_mul, Nat.zero_add, dg_small (by omega), ec]; rfl
    · have hh' : l'.head? ≠ some 48 := by
        cases l' with
        | nil => exact absurd rfl h0
        | cons x t => simpa using hh
      have ih := dg_of k l' hl' h0 ha hh'
      have hp : 0 < dec l' := by
        cases l' with
        | nil => exact absurd rfl h0
        | cons x t => exact dec_head ha (fun e => hh' (by rw [e]; rfl))
      rw [dg_big (by omega), show (dec l' * 10 + (c.toNat - 48)) / 10 = dec l' by omega, show (dec l' * 10 + (c.toNat - 48)) % 10 = c.toNat - 48 by omega, ih, ec]
theorem dn_of {l : List UInt8} (h : l.all dig = true) (hh : l = [] ∨ l.head? ≠ some 48) : dn (dec l) = l := by
  rcases hh with rfl | hh
  · rfl
  · by_cases h0 : l = []
    · subst h0; rfl
    · have hp : 0 < dec l := by
        cases l with
        | nil => exact absurd rfl h0
        | cons x t => exact dec_head h (fun e => hh (by rw [e]; rfl))
      unfold dn
      rw [if_neg (by omega)]
      exact dg_of l.length l rfl h0 h hh
theorem dn_lt (n : Nat) : n < 10 ^ (dn n).length := by have := dec_lt (dn n) (dn_all n); rwa [dec_dn] at this
theorem dn_ge {n : Nat} (h : n ≠ 0) : 10 ^ ((dn n).length - 1) ≤ n := by
  have hd := dn_all n
  have he := dec_dn n
  have hh : dn n ≠ [] := fun e => h (dn_nil.1 e)
  have hh2 : (dn n).head? ≠ some 48 := by unfold dn; rw [if_neg h]; exact dg_head48 h
  cases hq : dn n with
  | nil => exact absurd hq hh
  | cons x t =>
    rw [hq] at hd he hh2
    obtain ⟨c1, c2⟩ := dig_nat (all_cons' hd).1
    have hx : x.toNat ≠ 48 := fun q => hh2 (by
      have : x = 48 := by rw [show (48 : UInt8) = UInt8.ofNat 48 from rfl, ← q]; exact (UInt8.ofNat_toNat).symm
      rw [this]; rfl)
    rw [dec_cons] at he
    have : 1 * 10 ^ t.length ≤ (x.toNat - 48) * 10 ^ t.length := Nat.mul_le_mul_right _ (by omega)
    simp only [List.length_cons, Nat.add_sub_cancel]
    omega
theorem dn_short {n m : Nat} (h : (dn n).length < (dn m).length) : n < m := by
  have hm : m ≠ 0 := fun e => by rw [e, dn_zero] at h; simp at h
  have h1 := dn_lt n
  have h2 := dn_ge hm
  have h3 : (10 : Nat) ^ (dn n).length ≤ 10 ^ ((dn m).length - 1) := Nat.pow_le_pow_right (by omega) (by omega)
  omega
theorem dn_len {n k : Nat} (h : n < 10 ^ k) : (dn n).length ≤ k := by
  by_cases h0 : n = 0
  · subst h0; simp [dn_zero]
  · have h2 := dn_ge h0
    apply Classical.byContradiction
    intro hc
    have h3 : (10 : Nat) ^ k ≤ 10 ^ ((dn n).length - 1) := Nat.pow_le_pow_right (by omega) (by omega)
    omega
theorem u8_lt {x y : UInt8} : x < y ↔ x.toNat < y.toNat := UInt8.lt_iff_toNat_lt
theorem bl_dec : ∀ (a b : List UInt8), a.all dig = true → b.all dig = true → a.length = b.length → Op.bytesLess a b = decide (dec a < dec b)
  | [], [], _, _, _ => rfl
  | [], y :: b, _, _, h => by simp at h
  | x :: a, [], _, _, h => by simp at h
  | x :: a, y :: b, ha, hb, h => by
    have hl : a.length = b.length := by simpa using h
    have ih := bl_dec a b (all_cons' ha).2 (all_cons' hb).2 hl
    obtain ⟨x1, x2⟩ := dig_nat (all_cons' ha).1
    obtain ⟨y1, y2⟩ := dig_nat (all_cons' hb).1
    have la := dec_lt a (all_cons' ha).2
    have lb := dec_lt b (all_cons' hb).2
    rw [dec_cons, dec_cons, hl]
    rw [hl] at la
    show (decide (x < y) || (x == y && Op.bytesLess a b)) = _
    generalize (10 : Nat) ^ b.length = P at *
    rcases Nat.lt_trichotomy x.toNat y.toNat with q | q | q
    · have h1 : decide (x < y) = true := decide_eq_true (u8_lt.2 q)
      have h2 : (x.toNat - 48 + 1) * P ≤ (y.toNat - 48) * P := Nat.mul_le_mul_right _ (by omega)
      rw [Nat.add_mul, Nat.one_mul] at h2
      rw [h1, Bool.true_or]
      exact (decide_eq_true (by omega)).symm
    · have e : x = y := UInt8.toNat_inj.1 q
      subst e
      have h1 : decide (x < x) = false := decide_eq_false (fun h => by have := u8_lt.1 h; omega)
      rw [h1, Bool.false_or, ih]
      simp
    · have h1 : decide (x < y) = false := decide_eq_false (fun h => by have := u8_lt.1 h; omega)
      have h3 : (x == y) = false := by
        apply Bool.eq_false_iff.2
        intro h; have := eq_of_beq h; subst this; omega
      have h2 : (y.toNat - 48 + 1) * P ≤ (x.toNat - 48) * P := Nat.mul_le_mul_right _ (by omega)
      rw [Nat.add_mul, Nat.one_mul] at h2
      rw [h1, h3, Bool.false_or, Bool.false_and]
      exact (decide_eq_false (by omega)).symm
/-! subtraction -/
def MinI (a b r : List UInt8) (i : Nat) (br : Int) : Prop := (dec r : Int) = dec (a.drop (a.length - i)) - dec (b.drop (b.length - i)) + br * (10 : Int) ^ i
theorem min_start (a b : List UInt8) : MinI a b [] 0 0 := by simp [MinI, dec]
theorem drop_step {a : List UInt8} {i p : Nat} (hp : a.length - (i + 1) = p) (hi : i < a.length) : a.drop p = a[p]'(by omega) :: a.drop (a.length - i) := by
  rw [List.drop_eq_getElem_cons (show p < a.length by omega), show p + 1 = a.length - i by omega]
theorem dec_step {a : List UInt8} {i p : Nat} (hp : a.length - (i + 1) = p) (hi : i < a.length) : dec (a.drop p) = ((a[p]'(by omega)).toNat - 48) * 10 ^ i + dec (a.drop (a.length - i)) := by
  rw [drop_step hp hi, dec_cons, List.length_drop, show a.length - (a.length - i) = i by omega]
theorem min_in {a b r : List UInt8} {i p q : Nat} {br br2 : Int} {c : UInt8} (h : MinI a b r i br) (hr : r.length = i) (hi : i < a.length) (hj : i < b.length) (hp : a.length - (i + 1) = p) (hq : b.length - (i + 1) = q)
    (hv : ((c.toNat - 48 : Nat) : Int) = (((a[p]'(by omega)).toNat - 48 : Nat) : Int) - br - (((b[q]'(by omega)).toNat - 48 : Nat) : Int) + br2 * 10) : MinI a b (c :: r) (i + 1) br2 := by
  unfold MinI at *
  rw [dec_cons, hp, hq, dec_step hp hi, dec_step hq hj, hr]
  simp only [Int.natCast_add, Int.natCast_mul, Int.natCast_pow, Int.pow_succ]
  rw [h, hv]
  grind
theorem min_out {a b r : List UInt8} {i p : Nat} {br br2 : Int} {c : UInt8} (h : MinI a b r i br) (hr : r.length = i) (hi : i < a.length) (hj : ¬ i < b.length) (hp : a.length - (i + 1) = p)
    (hv : ((c.toNat - 48 : Nat) : Int) = (((a[p]'(by omega)).toNat - 48 : Nat) : Int) - br + br2 * 10) : MinI a b (c :: r) (i + 1) br2 := by
  unfold MinI at *
  rw [show b.length - (i + 1) = 0 by omega]
  rw [show b.length - i = 0 by omega] at h
  rw [dec_cons, hp, dec_step hp hi, hr]
  simp only [Int.natCast_add, Int.natCast_mul, Int.natCast_pow, Int.pow_succ]
  rw [h, hv]
  grind
theorem min_end {a b r : List UInt8} {br : Int} (h : MinI a b r a.length br) (hr : r.length = a.length) (hd : r.all dig = true) (hb : b.length ≤ a.length) (hle : dec b ≤ dec a) (h0 : 0 ≤ br) : dec r = dec a - dec b := by
  unfold MinI at h
  rw [Nat.sub_self, show b.length - a.length = 0 by omega, List.drop_zero, List.drop_zero] at h
  have h1 := dec_lt r hd
  rw [hr] at h1
  have h2 : ((dec r : Nat) : Int) < (10 : Int) ^ a.length := by
    have q := Int.ofNat_lt.2 h1
    rw [Int.natCast_pow] at q
    exact q
  have hz : br = 0 := by
    apply Classical.byContradiction
    intro hc
    have h4 : 0 ≤ (10 : Int) ^ a.length := Int.le_of_lt (Int.pow_pos (by omega))
    have := Int.mul_le_mul_of_nonneg_right (show 1 ≤ br by omega) h4
    omega
  subst hz
  rw [Int.zero_mul] at h
  omega
/-! division -/
theorem div_next {T m d : Nat} (hm : 0 < m) : (T * 10 + d) / m = T / m * 10 + (T % m * 10 + d) / m ∧ (T * 10 + d) % m = (T % m * 10 + d) % m := by
  have e := Nat.div_add_mod T m
  have e2 : T * 10 + d = (T % m * 10 + d) + m * (T / m * 10) := by
    rw [← Nat.mul_assoc]; omega
  rw [e2]
  exact ⟨by rw [Nat.add_mul_div_left _ _ hm, Nat.add_comm], Nat.add_mul_mod_self_left _ _ _⟩
end Go.Proofs.Ytlndomnampcnfaa
