/- What MulDiv, Div, Mod, compare and Cmp of package muldiv return, for all arguments. -/
import Derived.Test.YtkpdbhpmnegahaaDoorMdB
namespace Go.Proofs.YtkpdbhpmnegahaaDoor
open Go.RowKit
set_option linter.unusedVariables false

/-- the remainder, from 0 on. -/
def moV (a b c : Int) : Int × Int :=
  if c = 0 then (0, 2) else (if absI a * absI b % absI c ≠ 0 ∧ cmpI a 0 * cmpI b 0 < 0 then absI c - absI a * absI b % absI c else absI a * absI b % absI c, 0)
theorem compareU_quiet (a b : Int) (w : World) :
    Calls Tryd.prog 80 #[.int .u64 a, .int .u64 b] w fun e w' => e = .returned (.int .i64 (cmpI a b)) ∧ w' = w :=
  (compareU_any a b w).mono fun _ _ ⟨h, k⟩ => ⟨h, k.symm⟩
theorem quiet_more {P : Program} {f : FuncId} {args : Array Value} {w : World} {a n : Nat} {v : Value} (h : Calls P f args (w.drewN (a + n)) fun e w' => e = .returned v ∧ w' = w.drewN (a + n)) :
    Calls P f args (w.drewN (a + n)) fun e w'' => e = .returned v ∧ ∃ m, w'' = w.drewN (a + m) :=
  h.mono fun _ _ ⟨h1, h2⟩ => ⟨h1, n, h2⟩
/-- numbers of two words, compared. -/
def cmp2 (h1 l1 h2 l2 : Int) : Int := if h1 = h2 then cmpI l1 l2 else cmpI h1 h2
set_option maxHeartbeats 1000000 in
theorem compare_any (h1 l1 h2 l2 : Int) (w : World) :
    Calls Tryd.prog 64 #[.agg #[.int .u64 h1, .int .u64 l1], .agg #[.int .u64 h2, .int .u64 l2]] w fun e w' => e = .returned (.int .i64 (cmp2 h1 l1 h2 l2)) ∧ Below w.heap.size w w' := by
  unfold cmp2
  by_cases hh : h1 = h2
  · rw [if_pos hh]
    have k : (h1 != h2) = false := by simpa using hh
    have k' : (h2 != h1) = false := by simpa using hh.symm
    subst hh
    by_cases hl : l1 = l2
    · have e0 : cmpI l1 l2 = 0 := by unfold cmpI; rw [if_neg (by omega), if_neg (by omega)]
      rw [e0]
      have k2 : (l1 != l2) = false := by simpa using hl
      clear hl e0
      go_enter Tryd.func64, Tryd.ntmps64
      go_wp2
      refine wp_loop_rounds 3 ?_
      rw [rounds_succ]
      go_wp2
      go_quiet (fail)
      go_wp2
      rw [rounds_succ]
      go_wp2
      go_quiet (fail)
      go_wp2
      rw [rounds_succ]
      go_wp2
      go_ret
      exact ⟨rfl, by repeat (first | exact ((Below.refl _ _).alloc (Nat.le_refl _) _).alloc (by simp) _ | refine below_drewNd ?_ _)⟩
    · have k2 : (l1 != l2) = true := by simpa using hl
      clear hl
      go_enter Tryd.func64, Tryd.ntmps64
      go_wp2
      refine wp_loop_rounds 3 ?_
      rw [rounds_succ]
      go_wp2
      go_quiet (fail)
      go_wp2
      rw [rounds_succ]
      go_wp2
      go_quiet (fail)
      go_wp2
      go_quiet ((go_at_call 80; exact quiet_more (compareU_quiet _ _ _)))
      go_wp2
      go_ret
      exact ⟨rfl, by repeat (first | exact ((Below.refl _ _).alloc (Nat.le_refl _) _).alloc (by simp) _ | refine below_drewNd ?_ _)⟩
  · rw [if_neg hh]
    have k : (h1 != h2) = true := by simpa using hh
    clear hh
    go_enter Tryd.func64, Tryd.ntmps64
    go_wp2
    refine wp_loop_rounds 3 ?_
    rw [rounds_succ]
    go_wp2
    go_quiet (fail)
    go_wp2
    go_quiet ((go_at_call 80; exact quiet_more (compareU_quiet _ _ _)))
    go_wp2
    go_ret
    exact ⟨rfl, by repeat (first | exact ((Below.refl _ _).alloc (Nat.le_refl _) _).alloc (by simp) _ | refine below_drewNd ?_ _)⟩

theorem cmp_sign (a b : Int) : cmpI a 0 * cmpI b 0 = cmpI (a * b) 0 := by
  rcases Int.lt_trichotomy a 0 with ha | ha | ha
  · rcases Int.lt_trichotomy b 0 with hb | hb | hb
    · have h := Int.mul_pos_of_neg_of_neg ha hb
      unfold cmpI; rw [if_pos ha, if_pos hb, if_neg (by omega), if_pos h]; rfl
    · subst hb; rw [Int.mul_zero]; unfold cmpI; simp
    · have h := Int.mul_neg_of_neg_of_pos ha hb
      unfold cmpI; rw [if_pos ha, if_neg (by omega), if_pos hb, if_pos h]; rfl
  · subst ha; rw [Int.zero_mul]; unfold cmpI; simp
  · rcases Int.lt_trichotomy b 0 with hb | hb | hb
    · have h := Int.mul_neg_of_pos_of_neg ha hb
      unfold cmpI; rw [if_neg (by omega), if_pos ha, if_pos hb, if_pos h]; rfl
    · subst hb; rw [Int.mul_zero]; unfold cmpI; simp
    · have h := Int.mul_pos ha hb
      unfold cmpI; rw [if_neg (by omega), if_pos ha, if_neg (by omega), if_pos hb, if_neg (by omega), if_pos h]; rfl
theorem abs_mul (a b : Int) : absI a * absI b = absI (a * b) := by
  rcases Int.lt_trichotomy a 0 with ha | ha | ha
  · rcases Int.lt_trichotomy b 0 with hb | hb | hb
    · have h := Int.mul_pos_of_neg_of_neg ha hb
      rw [absI_neg ha, absI_neg hb, absI_pos (by omega), Int.neg_mul_neg]
    · subst hb; simp [absI]
    · have h := Int.mul_neg_of_neg_of_pos ha hb
      rw [absI_neg ha, absI_pos (by omega), absI_neg h, Int.neg_mul]
  · subst ha; simp [absI]
  · rcases Int.lt_trichotomy b 0 with hb | hb | hb
    · have h := Int.mul_neg_of_pos_of_neg ha hb
      rw [absI_pos (by omega), absI_neg hb, absI_neg h, Int.mul_neg]
    · subst hb; simp [absI]
    · have h := Int.mul_pos ha hb
      rw [absI_pos (by omega), absI_pos (by omega), absI_pos (by omega)]
theorem cmp_words {M N : Int} (m0 : 0 ≤ M) (n0 : 0 ≤ N) : cmp2 (M / 18446744073709551616) (M % 18446744073709551616) (N / 18446744073709551616) (N % 18446744073709551616) = cmpI M N := by
  unfold cmp2 cmpI
  by_cases h : M / 18446744073709551616 = N / 18446744073709551616
  · rw [if_pos h]
    by_cases k : M < N
    · rw [if_pos k, if_pos (by omega)]
    · rw [if_neg k, if_neg (by omega)]
      by_cases k2 : N < M
      · rw [if_pos k2, if_pos (by omega)]
      · rw [if_neg k2, if_neg (by omega)]
  · rw [if_neg h]
    by_cases k : M < N
    · rw [if_pos k, if_pos (by omega)]
    · rw [if_neg k, if_neg (by omega)]
      by_cases k2 : N < M
      · rw [if_pos k2, if_pos (by omega)]
      · rw [if_neg k2, if_neg (by omega)]
theorem cmp_diff {M N : Int} (h : cmpI M 0 ≠ cmpI N 0) : cmpI (cmpI M 0) (cmpI N 0) = cmpI M N := by
  unfold cmpI at *
  repeat' split at h
  all_goals (repeat' split) <;> omega
theorem cmp_same_neg {M N : Int} (h : cmpI M 0 = cmpI N 0) (k : cmpI M 0 < 0) : -cmpI (absI M) (absI N) = cmpI M N := by
  unfold cmpI absI at *
  repeat' split at h
  all_goals (repeat' split) <;> omega
theorem cmp_same_pos {M N : Int} (h : cmpI M 0 = cmpI N 0) (k : ¬ cmpI M 0 < 0) : cmpI (absI M) (absI N) = cmpI M N := by
  unfold cmpI absI at *
  repeat' split at h
  all_goals (repeat' split) <;> omega
theorem absI_nonneg (a : Int) : 0 ≤ absI a := by unfold absI; split <;> omega

set_option maxHeartbeats 1000000 in
theorem cmp_any (a b c d : Int) (w : World) (a1 : -9223372036854775808 ≤ a) (a2 : a ≤ 9223372036854775807) (b1 : -9223372036854775808 ≤ b) (b2 : b ≤ 9223372036854775807) (c1 : -9223372036854775808 ≤ c) (c2 : c ≤ 9223372036854775807) (d1 : -9223372036854775808 ≤ d) (d2 : d ≤ 9223372036854775807) :
    Calls Tryd.prog 44 #[.int .i64 a, .int .i64 b, .int .i64 c, .int .i64 d] w fun e w' => e = .returned (.int .i64 (cmpI (a * b) (c * d))) ∧ Below w.heap.size w w' := by
  have HS1 := Lib.hid (fun W => productSign_any a b W)
  have HS2 := Lib.hid (fun W => productSign_any c d W)
  have HC := Lib.hid (fun W => compareI_any (cmpI (a * b) 0) (cmpI (c * d) 0) W)
  have HP1 := Lib.hid (fun W => product_any a b W a1 a2 b1 b2)
  have HP2 := Lib.hid (fun W => product_any c d W c1 c2 d1 d2)
  have HX := Lib.hid (fun W => compare_any (absI (a * b) / 18446744073709551616) (absI (a * b) % 18446744073709551616) (absI (c * d) / 18446744073709551616) (absI (c * d) % 18446744073709551616) W)
  rw [cmp_words (absI_nonneg _) (absI_nonneg _)] at HX
  rw [cmp_sign] at HS1 HS2
  rw [abs_mul] at HP1 HP2
  have D1 := Lib.hid (@cmp_diff (a * b) (c * d))
  have D2 := Lib.hid (@cmp_same_neg (a * b) (c * d))
  have D3 := Lib.hid (@cmp_same_pos (a * b) (c * d))
  have bd := cmpI_bd (absI (a * b)) (absI (c * d))
  obtain ⟨bd1, bd2⟩ := bd
  generalize cmpI (cmpI (a * b) 0) (cmpI (c * d) 0) = t at *
  generalize cmpI (absI (a * b)) (absI (c * d)) = u at *
  generalize absI (a * b) / 18446744073709551616 = x1 at *
  generalize absI (a * b) % 18446744073709551616 = x2 at *
  generalize absI (c * d) / 18446744073709551616 = y1 at *
  generalize absI (c * d) % 18446744073709551616 = y2 at *
  generalize cmpI (a * b) (c * d) = r at *
  generalize cmpI (a * b) 0 = p at *
  generalize cmpI (c * d) 0 = q at *
  clear a1 a2 b1 b2 c1 c2 d1 d2
  by_cases h : p = q
  · have k : (p != q) = false := by simpa using h
    by_cases hn : p < 0
    · have k2 : decide (p < 0) = true := by simpa using hn
      have HR := Lib.hid (D2.out h hn)
      clear h
      go_enter Tryd.func44, Tryd.ntmps44
      go_wp2_with fail
      refine (HS1.out _).mono ?_
      rintro e w' ⟨rfl, rfl⟩
      go_wp2_with fail
      refine (HS2.out _).mono ?_
      rintro e w' ⟨rfl, rfl⟩
      go_wp2_with fail
      refine (HP1.out _).mono ?_
      rintro e w1 ⟨rfl, hb1⟩
      go_wp2_with fail
      refine (HP2.out _).mono ?_
      rintro e w2 ⟨rfl, hb2⟩
      go_wp2_with fail
      refine (HX.out _).mono ?_
      rintro e w3 ⟨rfl, hb3⟩
      go_wp2
      go_ret
      exact ⟨ret_one HR.out, hb1.trans ((hb2.mono hb1.size).trans (hb3.mono (by have := hb1.size; have := hb2.size; omega)))⟩
    · have k2 : decide (p < 0) = false := by simpa using hn
      have HR := Lib.hid (D3.out h hn)
      clear h
      go_enter Tryd.func44, Tryd.ntmps44
      go_wp2_with fail
      refine (HS1.out _).mono ?_
      rintro e w' ⟨rfl, rfl⟩
      go_wp2_with fail
      refine (HS2.out _).mono ?_
      rintro e w' ⟨rfl, rfl⟩
      go_wp2_with fail
      refine (HP1.out _).mono ?_
      rintro e w1 ⟨rfl, hb1⟩
      go_wp2_with fail
      refine (HP2.out _).mono ?_
      rintro e w2 ⟨rfl, hb2⟩
      go_wp2_with fail
      refine (HX.out _).mono ?_
      rintro e w3 ⟨rfl, hb3⟩
      go_wp2
      go_ret
      exact ⟨ret_one HR.out, hb1.trans ((hb2.mono hb1.size).trans (hb3.mono (by have := hb1.size; have := hb2.size; omega)))⟩
  · have k : (p != q) = true := by simpa using h
    have HR := Lib.hid (D1.out h)
    go_enter Tryd.func44, Tryd.ntmps44
    go_wp2_with fail
    refine (HS1.out _).mono ?_
    rintro e w' ⟨rfl, rfl⟩
    go_wp2_with fail
    refine (HS2.out _).mono ?_
    rintro e w' ⟨rfl, rfl⟩
    go_wp2_with fail
    refine (HC.out _).mono ?_
    rintro e w' ⟨rfl, rfl⟩
    go_wp2
    go_ret
    exact ⟨ret_one HR.out, Below.refl _ _⟩
end Go.Proofs.YtkpdbhpmnegahaaDoor
