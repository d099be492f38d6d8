/- What MulDiv, Div, Mod, compare and Cmp of package muldiv return, for all arguments. -/
import Derived.Test.YtmehihfdfpnfjaaMdB
namespace Go.Proofs.Ytmehihfdfpnfjaa
open Go.RowKit
set_option linter.unusedVariables false

set_option maxHeartbeats 400000 in
theorem mulDiv_kind (a b c mode : Int) (w : World) (h : mode < 1 ∨ 5 < mode) :
    Calls Try.prog 45 #[.int .i64 a, .int .i64 b, .int .i64 c, .int .i64 mode] w fun e w' => e = .returned (.tuple #[.int .i64 0, .int .i64 10]) ∧ Below w.heap.size w w' := by
  rcases h with h | h
  · have k1 : decide (mode < 1) = true := by simpa using h
    go_enter Try.func45, Try.ntmps45
    go_wp2
    go_ret2
    exact ⟨rfl, Below.refl _ _⟩
  · have k1 : decide (mode < 1) = false := by simp; omega
    have k2 : decide (5 < mode) = true := by simpa using h
    go_enter Try.func45, Try.ntmps45
    go_wp2
    go_ret2
    exact ⟨rfl, Below.refl _ _⟩
set_option maxHeartbeats 400000 in
theorem mulDiv_arg (a b mode : Int) (w : World) (m1 : 1 ≤ mode) (m2 : mode ≤ 5) :
    Calls Try.prog 45 #[.int .i64 a, .int .i64 b, .int .i64 0, .int .i64 mode] w fun e w' => e = .returned (.tuple #[.int .i64 0, .int .i64 2]) ∧ Below w.heap.size w w' := by
  have k1 : decide (mode < 1) = false := by simp; omega
  have k2 : decide (5 < mode) = false := by simp; omega
  go_enter Try.func45, Try.ntmps45
  go_wp2
  go_ret2
  exact ⟨rfl, Below.refl _ _⟩
theorem mulDiv_any (a b c mode : Int) (w : World) (a1 : -9223372036854775808 ≤ a) (a2 : a ≤ 9223372036854775807) (b1 : -9223372036854775808 ≤ b) (b2 : b ≤ 9223372036854775807) (c1 : -9223372036854775808 ≤ c) (c2 : c ≤ 9223372036854775807) :
    Calls Try.prog 45 #[.int .i64 a, .int .i64 b, .int .i64 c, .int .i64 mode] w fun e w' => e = .returned (.tuple #[.int .i64 (mdV a b c mode).1, .int .i64 (mdV a b c mode).2]) ∧ Below w.heap.size w w' := by
  unfold mdV
  by_cases h : mode < 1 ∨ 5 < mode
  · rw [if_pos h]; exact mulDiv_kind a b c mode w h
  · rw [if_neg h]
    by_cases hc : c = 0
    · rw [if_pos hc]; subst hc; exact mulDiv_arg a b mode w (by omega) (by omega)
    · rw [if_neg hc]; exact mulDiv_walk a b c mode w a1 a2 b1 b2 c1 c2 (by omega) (by omega) hc _ rfl
/-- the remainder, from 0 on. -/
def moV (a b c : Int) : Int × Int :=
  if c = 0 then (0, 2) else (if absI a * absI b % absI c ≠ 0 ∧ cmpI a 0 * cmpI b 0 < 0 then absI c - absI a * absI b % absI c else absI a * absI b % absI c, 0)
set_option maxHeartbeats 1000000 in
theorem mod_walk (a b c : Int) (w : World) (a1 : -9223372036854775808 ≤ a) (a2 : a ≤ 9223372036854775807) (b1 : -9223372036854775808 ≤ b) (b2 : b ≤ 9223372036854775807) (c1 : -9223372036854775808 ≤ c) (c2 : c ≤ 9223372036854775807) (hc : c ≠ 0) :
    Calls Try.prog 70 #[.int .i64 a, .int .i64 b, .int .i64 c] w fun e w' => e = .returned (.tuple #[.int .i64 (if absI a * absI b % absI c ≠ 0 ∧ cmpI a 0 * cmpI b 0 < 0 then absI c - absI a * absI b % absI c else absI a * absI b % absI c), .int .i64 0]) ∧ Below w.heap.size w w' := by
  obtain ⟨x0, x1⟩ := absI_bd a1 a2
  obtain ⟨y0, y1⟩ := absI_bd b1 b2
  obtain ⟨z0, z1⟩ := absI_bd c1 c2
  have zp : 0 < absI c := by unfold absI; split <;> omega
  have hN0 : 0 ≤ absI a * absI b := Int.mul_nonneg x0 y0
  have hN1 : absI a * absI b ≤ 9223372036854775808 * 9223372036854775808 := Int.mul_le_mul x1 y1 y0 (by omega)
  have HM := Lib.hid (fun W => mdMagnitude_any c W c1 c2)
  have HP := Lib.hid (fun W => product_any a b W a1 a2 b1 b2)
  have HS := Lib.hid (fun W => productSign_any a b W)
  generalize hD : absI c = D at *
  generalize hN : absI a * absI b = N at *
  obtain ⟨h, hh⟩ : ∃ h, N / 18446744073709551616 = h := ⟨_, rfl⟩
  obtain ⟨l, hl⟩ : ∃ l, N % 18446744073709551616 = l := ⟨_, rfl⟩
  rw [hh, hl] at HP
  have e : N = h * 18446744073709551616 + l := by omega
  obtain ⟨ld1, ld2⟩ := long_div (h := h) (l := l) zp
  rw [← e] at ld1 ld2
  have HD := Lib.hid (fun W => divide_any h l D W (by omega) (by omega) (by omega) (by omega) zp (by omega))
  have rr0 : 0 ≤ (h % D * 18446744073709551616 + l) % D := Int.emod_nonneg _ (by omega)
  have rr1 : (h % D * 18446744073709551616 + l) % D < D := Int.emod_lt_of_pos _ zp
  rw [ld2]
  clear ld1 ld2 e hh hl hN hD
  unfold DivRes at HD
  generalize h / D = q1 at *
  generalize (h % D * 18446744073709551616 + l) / D = q0 at *
  generalize (h % D * 18446744073709551616 + l) % D = r at *
  obtain ⟨p1, p2⟩ := cmp_mul_bd a b
  generalize cmpI a 0 * cmpI b 0 = s at *
  have k3 : (c == 0) = false := by simpa using hc
  clear hc
  by_cases hr : r = 0
  · subst hr
    rw [if_neg (by simp)]
    go_enter Try.func70, Try.ntmps70
    go_wp2_with fail
    refine (HM.out _).mono ?_
    rintro e w' ⟨rfl, rfl⟩
    go_wp2_with fail
    refine (HP.out _).mono ?_
    rintro e w1 ⟨rfl, hb1⟩
    go_wp2_with fail
    refine (HD.out _).mono ?_
    rintro e w2 ⟨rfl, hb2⟩
    go_wp2
    go_ret2
    exact ⟨rfl, hb1.trans ((hb2.mono hb1.size).trans ((Below.refl _ _).alloc (by have := hb2.size; have := hb1.size; omega) _))⟩
  · have k4 : (r != 0) = true := by simpa using hr
    by_cases hs : s < 0
    · rw [if_pos ⟨hr, hs⟩]
      have k5 : decide (s < 0) = true := by simpa using hs
      go_enter Try.func70, Try.ntmps70
      go_wp2_with fail
      refine (HM.out _).mono ?_
      rintro e w' ⟨rfl, rfl⟩
      go_wp2_with fail
      refine (HP.out _).mono ?_
      rintro e w1 ⟨rfl, hb1⟩
      go_wp2_with fail
      refine (HD.out _).mono ?_
      rintro e w2 ⟨rfl, hb2⟩
      go_wp2_with fail
      refine (HS.out _).mono ?_
      rintro e w' ⟨rfl, rfl⟩
      go_wp2
      go_ret2
      exact ⟨ret_ints (by first | rfl | (simp only [wrap64]; omega)) rfl, hb1.trans ((hb2.mono hb1.size).trans ((Below.refl _ _).alloc (by have := hb2.size; have := hb1.size; omega) _))⟩
    · rw [if_neg (by rintro ⟨_, h⟩; exact hs h)]
      have k5 : decide (s < 0) = false := by simpa using hs
      go_enter Try.func70, Try.ntmps70
      go_wp2_with fail
      refine (HM.out _).mono ?_
      rintro e w' ⟨rfl, rfl⟩
      go_wp2_with fail
      refine (HP.out _).mono ?_
      rintro e w1 ⟨rfl, hb1⟩
      go_wp2_with fail
      refine (HD.out _).mono ?_
      rintro e w2 ⟨rfl, hb2⟩
      go_wp2_with fail
      refine (HS.out _).mono ?_
      rintro e w' ⟨rfl, rfl⟩
      go_wp2
      go_ret2
      exact ⟨ret_ints (by first | rfl | (simp only [wrap64]; omega)) rfl, hb1.trans ((hb2.mono hb1.size).trans ((Below.refl _ _).alloc (by have := hb2.size; have := hb1.size; omega) _))⟩
set_option maxHeartbeats 400000 in
theorem mod_arg (a b : Int) (w : World) :
    Calls Try.prog 70 #[.int .i64 a, .int .i64 b, .int .i64 0] w fun e w' => e = .returned (.tuple #[.int .i64 0, .int .i64 2]) ∧ Below w.heap.size w w' := by
  go_enter Try.func70, Try.ntmps70
  go_wp2
  go_ret2
  exact ⟨rfl, Below.refl _ _⟩
theorem mod_any (a b c : Int) (w : World) (a1 : -9223372036854775808 ≤ a) (a2 : a ≤ 9223372036854775807) (b1 : -9223372036854775808 ≤ b) (b2 : b ≤ 9223372036854775807) (c1 : -9223372036854775808 ≤ c) (c2 : c ≤ 9223372036854775807) :
    Calls Try.prog 70 #[.int .i64 a, .int .i64 b, .int .i64 c] w fun e w' => e = .returned (.tuple #[.int .i64 (moV a b c).1, .int .i64 (moV a b c).2]) ∧ Below w.heap.size w w' := by
  unfold moV
  by_cases hc : c = 0
  · rw [if_pos hc]; subst hc; exact mod_arg a b w
  · rw [if_neg hc]; exact mod_walk a b c w a1 a2 b1 b2 c1 c2 hc

theorem compareU_quiet (a b : Int) (w : World) :
    Calls Try.prog 69 #[.int .u64 a, .int .u64 b] w fun e w' => e = .returned (.int .i64 (cmpI a b)) ∧ w' = w :=
  (compareU_any a b w).mono fun _ _ ⟨h, k⟩ => ⟨h, k.symm⟩
theorem quiet_more {P : Program} {f : FuncId} {args : Array Value} {w : World} {a n : Nat} {v : Value} (h : Calls P f args (w.drewN (a + n)) fun e w' => e = .returned v ∧ w' = w.drewN (a + n)) :
    Calls P f args (w.drewN (a + n)) fun e w'' => e = .returned v ∧ ∃ m, w'' = w.drewN (a + m) :=
  h.mono fun _ _ ⟨h1, h2⟩ => ⟨h1, n, h2⟩
/-- numbers of two words, compared. -/
def cmp2 (h1 l1 h2 l2 : Int) : Int := if h1 = h2 then cmpI l1 l2 else cmpI h1 h2
theorem cmp_sign (a b : Int) : cmpI a 0 * cmpI b 0 = cmpI (a * b) 0 := by
  rcases Int.lt_trichotomy a 0 with ha | ha | ha
  · rcases Int.lt_trichotomy b 0 with hb | hb | hb
    · have h := Int.mul_pos_of_neg_of_neg ha hb
      unfold cmpI; rw [if_pos ha, if_pos hb, if_neg (by omega), if_pos h]; rfl
    · subst hb; rw [Int.mul_zero]; unfold cmpI; simp
    · have h := Int.mul_neg_of_neg_of_pos ha hb
      unfold cmpI; rw [if_pos ha, if_neg (by omega), if_pos hb, if_pos h]; rfl
  · subst ha; rw [Int.zero_mul]; unfold cmpI; simp
  · rcases Int.lt_trichotomy b 0 with hb | hb | hb
    · have h := Int.mul_neg_of_pos_of_neg ha hb
      unfold cmpI; rw [if_neg (by omega), if_pos ha, if_pos hb, if_pos h]; rfl
    · subst hb; rw [Int.mul_zero]; unfold cmpI; simp
    · have h := Int.mul_pos ha hb
      unfold cmpI; rw [if_neg (by omega), if_pos ha, if_neg (by omega), if_pos hb, if_neg (by omega), if_pos h]; rfl
theorem abs_mul (a b : Int) : absI a * absI b = absI (a * b) := by
  rcases Int.lt_trichotomy a 0 with ha | ha | ha
  · rcases Int.lt_trichotomy b 0 with hb | hb | hb
    · have h := Int.mul_pos_of_neg_of_neg ha hb
      rw [absI_neg ha, absI_neg hb, absI_pos (by omega), Int.neg_mul_neg]
    · subst hb; simp [absI]
    · have h := Int.mul_neg_of_neg_of_pos ha hb
      rw [absI_neg ha, absI_pos (by omega), absI_neg h, Int.neg_mul]
  · subst ha; simp [absI]
  · rcases Int.lt_trichotomy b 0 with hb | hb | hb
    · have h := Int.mul_neg_of_pos_of_neg ha hb
      rw [absI_pos (by omega), absI_neg hb, absI_neg h, Int.mul_neg]
    · subst hb; simp [absI]
    · have h := Int.mul_pos ha hb
      rw [absI_pos (by omega), absI_pos (by omega), absI_pos (by omega)]
theorem cmp_words {M N : Int} (m0 : 0 ≤ M) (n0 : 0 ≤ N) : cmp2 (M / 18446744073709551616) (M % 18446744073709551616) (N / 18446744073709551616) (N % 18446744073709551616) = cmpI M N := by
  unfold cmp2 cmpI
  by_cases h : M / 18446744073709551616 = N / 18446744073709551616
  · rw [if_pos h]
    by_cases k : M < N
    · rw [if_pos k, if_pos (by omega)]
    · rw [if_neg k, if_neg (by omega)]
      by_cases k2 : N < M
      · rw [if_pos k2, if_pos (by omega)]
      · rw [if_neg k2, if_neg (by omega)]
  · rw [if_neg h]
    by_cases k : M < N
    · rw [if_pos k, if_pos (by omega)]
    · rw [if_neg k, if_neg (by omega)]
      by_cases k2 : N < M
      · rw [if_pos k2, if_pos (by omega)]
      · rw [if_neg k2, if_neg (by omega)]
theorem cmp_diff {M N : Int} (h : cmpI M 0 ≠ cmpI N 0) : cmpI (cmpI M 0) (cmpI N 0) = cmpI M N := by
  unfold cmpI at *
  repeat' split at h
  all_goals (repeat' split) <;> omega
theorem cmp_same_neg {M N : Int} (h : cmpI M 0 = cmpI N 0) (k : cmpI M 0 < 0) : -cmpI (absI M) (absI N) = cmpI M N := by
  unfold cmpI absI at *
  repeat' split at h
  all_goals (repeat' split) <;> omega
theorem cmp_same_pos {M N : Int} (h : cmpI M 0 = cmpI N 0) (k : ¬ cmpI M 0 < 0) : cmpI (absI M) (absI N) = cmpI M N := by
  unfold cmpI absI at *
  repeat' split at h
  all_goals (repeat' split) <;> omega
theorem absI_nonneg (a : Int) : 0 ≤ absI a := by unfold absI; split <;> omega

end Go.Proofs.Ytmehihfdfpnfjaa
