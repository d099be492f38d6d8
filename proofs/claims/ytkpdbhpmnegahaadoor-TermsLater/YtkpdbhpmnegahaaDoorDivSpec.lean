/- Plain facts on the long division of a number of two words, with no Go in sight. No conditions. -/
import Derived.Test.YtkpdbhpmnegahaaDoorSpec
import Derived.Laws.BitsLemmas
import Derived.PlainAid
namespace Go.Proofs.YtkpdbhpmnegahaaDoor
open Go.RowKit (wrap64)

/-- what holds of the trial quotient q and its remainder r in the division of u * 2^32 + d by Y, whose upper half is y1. -/
def KInv (u d Y y1 q r : Int) : Prop := q * y1 + r = u ∧ 0 ≤ r ∧ r < 4294967296 ∧ (u * 4294967296 + d) / Y ≤ q ∧ q ≤ 4294967297
/-- the divisor is normalized, and the dividend is small enough. -/
structure KPre (u d Y y1 y0 : Int) : Prop where
  hY : Y = y1 * 4294967296 + y0
  h1 : 2147483648 ≤ y1
  h2 : y1 ≤ 4294967295
  h3 : 0 ≤ y0
  h4 : y0 ≤ 4294967295
  hu : 0 ≤ u
  hu2 : u < Y
  hd : 0 ≤ d
  hd2 : d ≤ 4294967295

section
variable {u d Y y1 y0 q r : Int}
theorem KPre.pos (p : KPre u d Y y1 y0) : 0 < Y := by have := p.hY; have := p.h1; have := p.h3; omega
theorem mulY (p : KPre u d Y y1 y0) (q : Int) : q * Y = q * y1 * 4294967296 + q * y0 := by
  rw [p.hY, Int.mul_add, Int.mul_assoc]
theorem K_Q (p : KPre u d Y y1 y0) : 0 ≤ (u * 4294967296 + d) / Y ∧ (u * 4294967296 + d) / Y ≤ 4294967295 := by
  have hp := p.pos
  have := p.hu; have := p.hd; have := p.hu2; have := p.hd2
  refine ⟨Int.ediv_nonneg (by omega) (by omega), ?_⟩
  have : (u * 4294967296 + d) / Y < 4294967296 := Int.ediv_lt_of_lt_mul hp (by omega)
  omega
theorem K_R (p : KPre u d Y y1 y0) : 0 ≤ u * 4294967296 + d - (u * 4294967296 + d) / Y * Y ∧ u * 4294967296 + d - (u * 4294967296 + d) / Y * Y < Y := by
  have hp := p.pos
  have h1 := Int.emod_nonneg (u * 4294967296 + d) (by omega : Y ≠ 0)
  have h2 := Int.emod_lt_of_pos (u * 4294967296 + d) hp
  have h3 := Int.emod_add_mul_ediv (u * 4294967296 + d) Y
  rw [Int.mul_comm Y] at h3
  omega
theorem K_start (p : KPre u d Y y1 y0) : KInv u d Y y1 (u / y1) (u - u / y1 * y1) := by
  have hp := p.pos
  have q1 := p.h1; have q2 := p.h2; have q3 := p.h3; have q4 := p.h4; have q5 := p.hu; have q6 := p.hu2; have q7 := p.hd; have q8 := p.hd2
  have m1 := Int.emod_nonneg u (by omega : y1 ≠ 0)
  have m2 := Int.emod_lt_of_pos u (by omega : 0 < y1)
  have m3 := Int.emod_add_mul_ediv u y1
  rw [Int.mul_comm y1] at m3
  refine ⟨by omega, by omega, by omega, ?_, ?_⟩
  · have hq := K_Q p
    have hr := K_R p
    have hm := mulY p ((u * 4294967296 + d) / Y)
    generalize (u * 4294967296 + d) / Y = Q at *
    have hn : 0 ≤ Q * y0 := Int.mul_nonneg hq.1 q3
    exact (Int.le_ediv_iff_mul_le (by omega)).2 (by omega)
  · have hY := p.hY
    have : u / y1 < 4294967298 := Int.ediv_lt_of_lt_mul (by omega) (by omega)
    omega
theorem K_exit (p : KPre u d Y y1 y0) (k : KInv u d Y y1 q r) (h : q * y0 ≤ 4294967296 * r + d) : q = (u * 4294967296 + d) / Y := by
  obtain ⟨k1, k2, k3, k4, k5⟩ := k
  have hm := mulY p q
  have : q ≤ (u * 4294967296 + d) / Y := (Int.le_ediv_iff_mul_le p.pos).2 (by rw [hm]; omega)
  omega
theorem K_less (p : KPre u d Y y1 y0) (k : KInv u d Y y1 q r) (h : 4294967296 ≤ q ∨ 4294967296 * r + d < q * y0) : (u * 4294967296 + d) / Y ≤ q - 1 := by
  obtain ⟨k1, k2, k3, k4, k5⟩ := k
  rcases h with h | h
  · have := K_Q p; omega
  · have hm := mulY p q
    have : (u * 4294967296 + d) / Y < q := Int.ediv_lt_of_lt_mul p.pos (by rw [hm]; omega)
    omega
theorem K_next (p : KPre u d Y y1 y0) (k : KInv u d Y y1 q r) (h : 4294967296 ≤ q ∨ 4294967296 * r + d < q * y0) (hr : r + y1 < 4294967296) : KInv u d Y y1 (q - 1) (r + y1) := by
  have hl := K_less p k h
  obtain ⟨k1, k2, k3, k4, k5⟩ := k
  have e : (q - 1) * y1 = q * y1 - y1 := by rw [Int.sub_mul, Int.one_mul]
  have := p.h1
  exact ⟨by omega, by omega, hr, hl, by omega⟩
theorem K_break (p : KPre u d Y y1 y0) (k : KInv u d Y y1 q r) (h : 4294967296 ≤ q ∨ 4294967296 * r + d < q * y0) (hr : 4294967296 ≤ r + y1) : q - 1 = (u * 4294967296 + d) / Y := by
  have hl := K_less p k h
  obtain ⟨k1, k2, k3, k4, k5⟩ := k
  have hm := mulY p (q - 1)
  have e : (q - 1) * y1 = q * y1 - y1 := by rw [Int.sub_mul, Int.one_mul]
  have q3 := p.h3; have q4 := p.h4; have q7 := p.hd
  have hb : (q - 1) * y0 ≤ 4294967296 * 4294967295 := by
    by_cases h0 : 0 ≤ q - 1
    · exact Int.mul_le_mul (by omega) q4 q3 (by omega)
    · have := Int.mul_nonneg (a := -(q - 1)) (b := y0) (by omega) q3
      rw [Int.neg_mul] at this
      omega
  have : q - 1 ≤ (u * 4294967296 + d) / Y := (Int.le_ediv_iff_mul_le p.pos).2 (by rw [hm]; omega)
  omega
end

theorem u64_and_mask {n : Int} (h0 : 0 ≤ n) (h1 : n ≤ 18446744073709551615) : bits .and .u64 n 4294967295 = n % 4294967296 := by
  have hm : (BitVec.ofInt 64 4294967295).toNat = 2 ^ 32 - 1 := by decide
  have key : (BitVec.ofInt 64 n &&& BitVec.ofInt 64 4294967295).toNat = (n % ((2 ^ 64 : Nat) : Int)).toNat % 2 ^ 32 := by
    rw [BitVec.toNat_and, BitVec.toNat_ofInt, hm, Nat.and_two_pow_sub_one_eq_mod]
  show IntKind.u64.wrap ((BitVec.ofInt 64 n &&& BitVec.ofInt 64 4294967295).toNat : Nat) = n % 4294967296
  rw [key, IntKind.wrap_u64]
  omega
theorem pow_pos' (s : Nat) : (0 : Int) < 2 ^ s := Int.pow_pos (by decide)
theorem pow_split {s : Nat} (h : s ≤ 64) : (2 : Int) ^ s * 2 ^ (64 - s) = 18446744073709551616 := by
  rw [← Int.pow_add, show s + (64 - s) = 64 by omega]; rfl
theorem u64_join {hi lo : Int} {s : Nat} (hs : s ≤ 64) (h0 : 0 ≤ hi) (h1 : hi * 2 ^ s ≤ 18446744073709551615) (l0 : 0 ≤ lo) (l1 : lo ≤ 18446744073709551615) :
    bits .or .u64 (IntKind.u64.wrap (hi * 2 ^ s)) (lo / 2 ^ (64 - s)) = hi * 2 ^ s + lo / 2 ^ (64 - s) := by
  have hp := pow_pos' s
  have hp2 := pow_pos' (64 - s)
  have hsp := pow_split hs
  have hlt : lo / 2 ^ (64 - s) < 2 ^ s := Int.ediv_lt_of_lt_mul hp2 (by rw [hsp]; omega)
  have hl0 : 0 ≤ lo / 2 ^ (64 - s) := Int.ediv_nonneg l0 (by omega)
  have hh : 0 ≤ hi * 2 ^ s := Int.mul_nonneg h0 (by omega)
  have hw : IntKind.u64.wrap (hi * 2 ^ s) = hi * 2 ^ s := by rw [IntKind.wrap_u64]; omega
  rw [hw]
  have e : (2 : Int) ^ 64 = 18446744073709551616 := by decide
  have hw2 : ∀ n : Int, 0 ≤ n → n < 2 ^ 64 → IntKind.u64.wrap n = n := by
    intro n h0 h1
    rw [e] at h1
    rw [IntKind.wrap_u64]; omega
  have h64 : lo / 2 ^ (64 - s) < 2 ^ 64 := by
    have : (1 : Int) ≤ 2 ^ (64 - s) := by omega
    have h2 : (2 : Int) ^ s * 1 ≤ 2 ^ s * 2 ^ (64 - s) := Int.mul_le_mul_of_nonneg_left this (by omega)
    rw [hsp, Int.mul_one] at h2
    rw [e]; omega
  exact bits_join .u64 64 (by decide) hw2 s (hi * 2 ^ s) (lo / 2 ^ (64 - s)) hh (Int.mul_emod_left _ _) (by rw [e]; omega) hl0 hlt h64

/-- the two words of a number that is shifted to the left by s bits, and its division: what the long division comes to. -/
theorem div_final {hi lo y u v v1 v0 Y Q1 Q0 R1 R2 : Int} {s : Nat} (hs : s ≤ 64) (hy : 0 < y) (hu : u = hi * 2 ^ s + lo / 2 ^ (64 - s)) (hv : v = lo * 2 ^ s % 18446744073709551616)
    (hv1 : v = v1 * 4294967296 + v0) (hY : Y = y * 2 ^ s) (h1 : u * 4294967296 + v1 = Q1 * Y + R1) (h2 : R1 * 4294967296 + v0 = Q0 * Y + R2) (r0 : 0 ≤ R2) (r1 : R2 < Y) :
    (hi * 18446744073709551616 + lo) / y = Q1 * 4294967296 + Q0 ∧ (hi * 18446744073709551616 + lo) % y = R2 / 2 ^ s := by
  have hp := pow_pos' s
  have hp2 := pow_pos' (64 - s)
  have hsp := pow_split hs
  have hM : (hi * 18446744073709551616 + lo) * 2 ^ s = u * 18446744073709551616 + v := by
    have e1 : lo * 2 ^ s / 18446744073709551616 = lo / 2 ^ (64 - s) := by
      rw [← hsp, Int.mul_comm lo, Int.mul_ediv_mul_of_pos _ _ hp]
    have e2 := Int.emod_add_mul_ediv (lo * 2 ^ s) 18446744073709551616
    rw [e1] at e2
    rw [Int.add_mul, hu, hv]
    have e3 : hi * 18446744073709551616 * 2 ^ s = hi * 2 ^ s * 18446744073709551616 := by rw [Int.mul_assoc, Int.mul_comm 18446744073709551616, ← Int.mul_assoc]
    rw [e3]
    generalize hi * 2 ^ s = a at *
    generalize lo / 2 ^ (64 - s) = b at *
    generalize lo * 2 ^ s = c at *
    omega
  have hN : (hi * 18446744073709551616 + lo) * 2 ^ s = (Q1 * 4294967296 + Q0) * y * 2 ^ s + R2 := by
    rw [hM, Int.mul_assoc, ← hY, Int.add_mul]
    have e : Q1 * 4294967296 * Y = Q1 * Y * 4294967296 := by rw [Int.mul_assoc, Int.mul_comm 4294967296, ← Int.mul_assoc]
    rw [e]
    generalize Q1 * Y = a at *
    generalize Q0 * Y = b at *
    omega
  generalize hi * 18446744073709551616 + lo = N at *
  have hr : (N - (Q1 * 4294967296 + Q0) * y) * 2 ^ s = R2 := by rw [Int.sub_mul]; omega
  have hr0 : 0 ≤ N - (Q1 * 4294967296 + Q0) * y := by
    rcases Int.lt_or_le (N - (Q1 * 4294967296 + Q0) * y) 0 with h | h
    · have := Int.mul_neg_of_neg_of_pos h hp
      omega
    · exact h
  have hr1 : N - (Q1 * 4294967296 + Q0) * y < y := by
    rw [hY] at r1
    rw [← hr] at r1
    exact Int.lt_of_mul_lt_mul_right r1 (by omega)
  have hq : N / y = Q1 * 4294967296 + Q0 := by
    have h := Int.add_mul_ediv_right (N - (Q1 * 4294967296 + Q0) * y) (Q1 * 4294967296 + Q0) (by omega : y ≠ 0)
    rw [Int.ediv_eq_zero_of_lt hr0 hr1] at h
    rw [← Int.zero_add (Q1 * 4294967296 + Q0), ← h]
    congr 1; omega
  refine ⟨hq, ?_⟩
  have hm := Int.emod_add_mul_ediv N y
  rw [hq, Int.mul_comm y] at hm
  rw [← hr, Int.mul_ediv_cancel _ (by omega)]
  omega
end Go.Proofs.YtkpdbhpmnegahaaDoor
