/- What Mul of the packages num and accountingref01 returns, for all integers of 64 bits. -/
import Derived.Test.YtkpdbhpmnegahaaGreatDoorNumA
namespace Go.Proofs.YtkpdbhpmnegahaaGreatDoor
open Go.RowKit
set_option linter.unusedVariables false
/-- the absolute value. -/
def mag (a : Int) : Int := if a < 0 then -a else a
theorem mag_neg {a : Int} (h : a < 0) : mag a = -a := by unfold mag; rw [if_pos h]
theorem mag_pos {a : Int} (h : ¬ a < 0) : mag a = a := by unfold mag; rw [if_neg h]
theorem mag_size {a : Int} (h1 : -9223372036854775808 ≤ a) (h2 : a < 0) : IntKind.u64.wrap (IntKind.u64.wrap (18446744073709551615 - IntKind.u64.wrap a) + 1) = -a := by
  simp only [IntKind.wrap_u64]; omega

set_option maxHeartbeats 400000 in
theorem rSize_any (a : Int) (w : World) (a1 : -9223372036854775808 ≤ a) (a2 : a ≤ 9223372036854775807) :
    Calls Tryz.prog 92 #[.int .i64 a] w fun e w' => e = .returned (.int .u64 (mag a)) ∧ w = w' := by
  by_cases h : a < 0
  · have e1 := mag_size a1 h
    rw [mag_neg h, ← e1]
    clear e1
    go_enter Tryz.func92, Tryz.ntmps92
    go_wp2
    go_ret
    exact ⟨rfl, rfl⟩
  · rw [mag_pos h]
    go_enter Tryz.func92, Tryz.ntmps92
    go_wp2
    go_ret
    exact ⟨rfl, rfl⟩

theorem ret_pair {a b : Int} {p : Bool} (h : a = b) : Ending.returned (.tuple #[.int .i64 a, .bool p]) = .returned (.tuple #[.int .i64 b, .bool p]) := by rw [h]
theorem mag_bd {a : Int} (a1 : -9223372036854775808 ≤ a) (a2 : a ≤ 9223372036854775807) : 0 ≤ mag a ∧ mag a ≤ 9223372036854775808 := by
  unfold mag; split <;> omega
theorem mag_mul_neg {a b : Int} (h : a < 0 ∧ 0 < b ∨ 0 < a ∧ b < 0) : a * b = -(mag a * mag b) := by
  rcases h with ⟨h, k⟩ | ⟨h, k⟩
  · rw [mag_neg h, mag_pos (by omega), Int.neg_mul, Int.neg_neg]
  · rw [mag_pos (by omega), mag_neg k, Int.mul_neg, Int.neg_neg]
theorem mag_mul_pos {a b : Int} (h : a < 0 ∧ b < 0 ∨ ¬ a < 0 ∧ ¬ b < 0) : a * b = mag a * mag b := by
  rcases h with ⟨h, k⟩ | ⟨h, k⟩
  · rw [mag_neg h, mag_neg k, Int.neg_mul_neg]
  · rw [mag_pos h, mag_pos k]
theorem wrap_neg {p : Int} (h1 : 0 ≤ p) (h2 : p ≤ 9223372036854775808) : wrap64 (-wrap64 (IntKind.u64.wrap p)) = -p := by
  simp only [IntKind.wrap_u64, wrap64]; omega
theorem mdWrap_pos {p : Int} (h1 : 0 ≤ p) (h2 : p ≤ 9223372036854775807) : wrap64 (IntKind.u64.wrap p) = p := by
  simp only [IntKind.wrap_u64, wrap64]; omega

set_option maxHeartbeats 400000 in
theorem rMul_neg (a b : Int) (w : World) (a1 : -9223372036854775808 ≤ a) (a2 : a ≤ 9223372036854775807) (b1 : -9223372036854775808 ≤ b) (b2 : b ≤ 9223372036854775807)
    (hs : a < 0 ∧ 0 < b ∨ 0 < a ∧ b < 0) :
    Calls Tryz.prog 60 #[.int .i64 a, .int .i64 b] w fun e w' => e = .returned (.tuple #[.int .i64 (fit (a * b)), .bool (fits (a * b))]) ∧ w = w' := by
  have hm := mag_mul_neg hs
  obtain ⟨x1, x2⟩ := mag_bd a1 a2
  obtain ⟨y0, y2⟩ := mag_bd b1 b2
  have y1 : 0 < mag b := by unfold mag; split <;> omega
  have hp : 0 ≤ mag a * mag b := Int.mul_nonneg x1 y0
  have hd : 9223372036854775808 / mag b < mag a ↔ 9223372036854775808 < mag a * mag b := Int.ediv_lt_iff_lt_mul y1
  clear y0
  by_cases hf : 9223372036854775808 < mag a * mag b
  · rw [fit_not (.inl (by omega)), fits_not (.inl (by omega))]
    have k := hd.2 hf
    have kk : decide (9223372036854775808 / mag b < mag a) = true := by simpa using k
    clear hd hf k hm hp
    rcases hs with ⟨s1, s2⟩ | ⟨s1, s2⟩
    · have k0 : decide (a < 0) = true := by simp; omega
      have k1 : decide (0 < b) = true := by simp; omega
      go_enter Tryz.func60, Tryz.ntmps60
      go_wp2_with fail
      refine (rSize_any _ _ a1 a2).mono ?_
      rintro e w' ⟨rfl, rfl⟩
      go_wp2_with fail
      refine (rSize_any _ _ b1 b2).mono ?_
      rintro e w' ⟨rfl, rfl⟩
      go_wp2
      go_ret2
      exact ⟨rfl, rfl⟩
    · have k0 : decide (a < 0) = false := by simp; omega
      have k1 : decide (0 < a) = true := by simp; omega
      have k2 : decide (b < 0) = true := by simp; omega
      go_enter Tryz.func60, Tryz.ntmps60
      go_wp2_with fail
      refine (rSize_any _ _ a1 a2).mono ?_
      rintro e w' ⟨rfl, rfl⟩
      go_wp2_with fail
      refine (rSize_any _ _ b1 b2).mono ?_
      rintro e w' ⟨rfl, rfl⟩
      go_wp2
      go_ret2
      exact ⟨rfl, rfl⟩
  · rw [fit_of (by omega) (by omega), fits_of (by omega) (by omega), hm, ← wrap_neg hp (by omega)]
    have k : ¬ 9223372036854775808 / mag b < mag a := fun h => hf (hd.1 h)
    have kk : decide (9223372036854775808 / mag b < mag a) = false := by simpa using k
    clear hd hf k hm hp
    rcases hs with ⟨s1, s2⟩ | ⟨s1, s2⟩
    · have k0 : decide (a < 0) = true := by simp; omega
      have k1 : decide (0 < b) = true := by simp; omega
      go_enter Tryz.func60, Tryz.ntmps60
      go_wp2_with fail
      refine (rSize_any _ _ a1 a2).mono ?_
      rintro e w' ⟨rfl, rfl⟩
      go_wp2_with fail
      refine (rSize_any _ _ b1 b2).mono ?_
      rintro e w' ⟨rfl, rfl⟩
      go_wp2
      go_ret2
      exact ⟨rfl, rfl⟩
    · have k0 : decide (a < 0) = false := by simp; omega
      have k1 : decide (0 < a) = true := by simp; omega
      have k2 : decide (b < 0) = true := by simp; omega
      go_enter Tryz.func60, Tryz.ntmps60
      go_wp2_with fail
      refine (rSize_any _ _ a1 a2).mono ?_
      rintro e w' ⟨rfl, rfl⟩
      go_wp2_with fail
      refine (rSize_any _ _ b1 b2).mono ?_
      rintro e w' ⟨rfl, rfl⟩
      go_wp2
      go_ret2
      exact ⟨rfl, rfl⟩

set_option maxHeartbeats 400000 in
theorem rMul_walk (a b : Int) (w : World) (a1 : -9223372036854775808 ≤ a) (a2 : a ≤ 9223372036854775807) (b1 : -9223372036854775808 ≤ b) (b2 : b ≤ 9223372036854775807)
    (x1 : 0 ≤ mag a) (x2 : mag a ≤ 9223372036854775808) (y1 : 0 < mag b) (y2 : mag b ≤ 9223372036854775808)
    (hn : ¬ (a < 0 ∧ 0 < b ∨ 0 < a ∧ b < 0)) (p : Bool) (hp : decide (9223372036854775807 / mag b < mag a) = p) :
    Calls Tryz.prog 60 #[.int .i64 a, .int .i64 b] w fun e w' => e = .returned (if p then .tuple #[.int .i64 0, .bool false] else .tuple #[.int .i64 (wrap64 (IntKind.u64.wrap (mag a * mag b))), .bool true]) ∧ w = w' := by
  have hb : b < 0 ∨ 0 < b := by
    rcases Int.lt_trichotomy b 0 with h | h | h
    · exact .inl h
    · subst h; simp [mag] at y1
    · exact .inr h
  cases p
  all_goals simp only [if_true, if_false, Bool.false_eq_true]
  all_goals
    by_cases ka : a < 0
    · have k0 : decide (a < 0) = true := by simp; omega
      have k1 : decide (0 < b) = false := by simp; omega
      have k2 : decide (0 < a) = false := by simp; omega
      have k3 : decide (b < 0) = true := by simp; omega
      clear hb hn
      go_enter Tryz.func60, Tryz.ntmps60
      go_wp2_with fail
      refine (rSize_any _ _ a1 a2).mono ?_
      rintro e w' ⟨rfl, rfl⟩
      go_wp2_with fail
      refine (rSize_any _ _ b1 b2).mono ?_
      rintro e w' ⟨rfl, rfl⟩
      go_wp2
      go_ret2
      exact ⟨rfl, rfl⟩
    · have k0 : decide (a < 0) = false := by simp; omega
      by_cases kc : 0 < a
      · have k2 : decide (0 < a) = true := by simp; omega
        have k3 : decide (b < 0) = false := by simp; omega
        clear hb hn
        go_enter Tryz.func60, Tryz.ntmps60
        go_wp2_with fail
        refine (rSize_any _ _ a1 a2).mono ?_
        rintro e w' ⟨rfl, rfl⟩
        go_wp2_with fail
        refine (rSize_any _ _ b1 b2).mono ?_
        rintro e w' ⟨rfl, rfl⟩
        go_wp2
        go_ret2
        exact ⟨rfl, rfl⟩
      · have k2 : decide (0 < a) = false := by simp; omega
        clear hb hn
        go_enter Tryz.func60, Tryz.ntmps60
        go_wp2_with fail
        refine (rSize_any _ _ a1 a2).mono ?_
        rintro e w' ⟨rfl, rfl⟩
        go_wp2_with fail
        refine (rSize_any _ _ b1 b2).mono ?_
        rintro e w' ⟨rfl, rfl⟩
        go_wp2
        go_ret2
        exact ⟨rfl, rfl⟩

set_option maxHeartbeats 400000 in
theorem rMul_zero (a : Int) (w : World) (a1 : -9223372036854775808 ≤ a) (a2 : a ≤ 9223372036854775807) :
    Calls Tryz.prog 60 #[.int .i64 a, .int .i64 0] w fun e w' => e = .returned (.tuple #[.int .i64 (wrap64 (IntKind.u64.wrap (mag a * mag 0))), .bool true]) ∧ w = w' := by
  obtain ⟨x1, x2⟩ := mag_bd a1 a2
  have y1 : decide (0 < mag 0) = false := by simp [mag]
  by_cases ka : a < 0
  · have k0 : decide (a < 0) = true := by simp; omega
    have k2 : decide (0 < a) = false := by simp; omega
    go_enter Tryz.func60, Tryz.ntmps60
    go_wp2_with fail
    refine (rSize_any _ _ a1 a2).mono ?_
    rintro e w' ⟨rfl, rfl⟩
    go_wp2_with fail
    refine (rSize_any 0 _ (by omega) (by omega)).mono ?_
    rintro e w' ⟨rfl, rfl⟩
    go_wp2
    go_ret2
    exact ⟨rfl, rfl⟩
  · have k0 : decide (a < 0) = false := by simp; omega
    by_cases kc : 0 < a
    · have k2 : decide (0 < a) = true := by simp; omega
      go_enter Tryz.func60, Tryz.ntmps60
      go_wp2_with fail
      refine (rSize_any _ _ a1 a2).mono ?_
      rintro e w' ⟨rfl, rfl⟩
      go_wp2_with fail
      refine (rSize_any 0 _ (by omega) (by omega)).mono ?_
      rintro e w' ⟨rfl, rfl⟩
      go_wp2
      go_ret2
      exact ⟨rfl, rfl⟩
    · have k2 : decide (0 < a) = false := by simp; omega
      go_enter Tryz.func60, Tryz.ntmps60
      go_wp2_with fail
      refine (rSize_any _ _ a1 a2).mono ?_
      rintro e w' ⟨rfl, rfl⟩
      go_wp2_with fail
      refine (rSize_any 0 _ (by omega) (by omega)).mono ?_
      rintro e w' ⟨rfl, rfl⟩
      go_wp2
      go_ret2
      exact ⟨rfl, rfl⟩

theorem rMul_any (a b : Int) (w : World) (a1 : -9223372036854775808 ≤ a) (a2 : a ≤ 9223372036854775807) (b1 : -9223372036854775808 ≤ b) (b2 : b ≤ 9223372036854775807) :
    Calls Tryz.prog 60 #[.int .i64 a, .int .i64 b] w fun e w' => e = .returned (.tuple #[.int .i64 (fit (a * b)), .bool (fits (a * b))]) ∧ w = w' := by
  by_cases hs : a < 0 ∧ 0 < b ∨ 0 < a ∧ b < 0
  · exact rMul_neg a b w a1 a2 b1 b2 hs
  · by_cases hb : b = 0
    · subst hb
      refine (rMul_zero a w a1 a2).mono ?_
      rintro e w' ⟨rfl, rfl⟩
      have e0 : mag a * mag 0 = 0 := by simp [mag]
      rw [Int.mul_zero, fit_of (by omega) (by omega), fits_of (by omega) (by omega), e0, mdWrap_pos (by omega) (by omega)]
      exact ⟨rfl, rfl⟩
    · obtain ⟨x1, x2⟩ := mag_bd a1 a2
      obtain ⟨y0, y2⟩ := mag_bd b1 b2
      have y1 : 0 < mag b := by unfold mag; split <;> omega
      have hp : 0 ≤ mag a * mag b := Int.mul_nonneg x1 y0
      have hd : 9223372036854775807 / mag b < mag a ↔ 9223372036854775807 < mag a * mag b := Int.ediv_lt_iff_lt_mul y1
      have hm : a * b = mag a * mag b := by
        by_cases ha : a = 0
        · subst ha; simp [mag]
        · exact mag_mul_pos (by omega)
      by_cases hf : 9223372036854775807 < mag a * mag b
      · refine (rMul_walk a b w a1 a2 b1 b2 x1 x2 y1 y2 hs true (by simpa using hd.2 hf)).mono ?_
        rintro e w' ⟨rfl, rfl⟩
        rw [fit_not (.inr (by omega)), fits_not (.inr (by omega))]
        exact ⟨rfl, rfl⟩
      · refine (rMul_walk a b w a1 a2 b1 b2 x1 x2 y1 y2 hs false (by simpa using fun h => hf (hd.1 h))).mono ?_
        rintro e w' ⟨rfl, rfl⟩
        rw [fit_of (by omega) (by omega), fits_of (by omega) (by omega), mdWrap_pos hp (by omega), hm]
        exact ⟨rfl, rfl⟩

/-- the test of num.Mul: a wrapped product, divided by a factor that is neither 0 nor -1, gives the other factor exactly if nothing was wrapped. -/
theorem mul_test {a b : Int} (a1 : -9223372036854775808 ≤ a) (a2 : a ≤ 9223372036854775807) (b1 : -9223372036854775808 ≤ b) (b2 : b ≤ 9223372036854775807) (h0 : b ≠ 0) (h1 : b ≠ -1) :
    wrap64 ((wrap64 (a * b)).tdiv b) = a ↔ fits (a * b) = true := by
  constructor
  · intro h
    rw [fits_iff]
    obtain ⟨n1, n2⟩ := wrap64_bd (a * b)
    obtain ⟨k, hk⟩ : ∃ k : Int, wrap64 (a * b) = a * b + k * 18446744073709551616 := by
      refine ⟨-((a * b + 9223372036854775808) / 18446744073709551616), ?_⟩
      unfold wrap64; omega
    generalize hn : wrap64 (a * b) = n at *
    have hq := Int.mul_tdiv_add_tmod n b
    have hb : (n.tmod b).natAbs < b.natAbs := by
      rw [Int.natAbs_tmod]; exact Nat.mod_lt _ (by omega)
    have hle : (n.tdiv b).natAbs ≤ n.natAbs := by rw [Int.natAbs_tdiv]; exact Nat.div_le_self _ _
    have hw : n.tdiv b = a := by
      by_cases e1 : n.tdiv b ≤ 9223372036854775807
      · rw [IntWalk.wrap64_in _ ⟨by omega, e1⟩] at h; exact h
      · exfalso
        have hq2 : (n.tdiv b).natAbs * b.natAbs ≤ n.natAbs := by rw [Int.natAbs_tdiv]; exact Nat.div_mul_le_self _ _
        have hb2 : b = 1 ∨ 2 ≤ b.natAbs := by omega
        rcases hb2 with e | e
        · subst e; rw [Int.tdiv_one] at e1; omega
        · have := Nat.mul_le_mul_left (n.tdiv b).natAbs e
          omega
    rw [hw, Int.mul_comm] at hq
    omega
  · intro h
    obtain ⟨f1, f2⟩ := fits_iff.1 h
    rw [IntWalk.wrap64_in _ ⟨f1, f2⟩, Int.mul_tdiv_cancel _ h0, IntWalk.wrap64_in _ ⟨a1, a2⟩]

set_option maxHeartbeats 400000 in
theorem mul_walk (a b : Int) (w : World) (h0 : ¬ b = 0) (k0 : (b == 0) = false) (k1 : (b == -1) = false) (p : Bool) (hp : (wrap64 ((wrap64 (a * b)).tdiv b) != a) = p) :
    Calls Tryz.prog 126 #[.int .i64 a, .int .i64 b] w fun e w' => e = .returned (if p then .tuple #[.int .i64 0, .bool false] else .tuple #[.int .i64 (wrap64 (a * b)), .bool true]) ∧ w = w' := by
  cases p
  all_goals simp only [if_true, if_false, Bool.false_eq_true]
  all_goals
    go_enter Tryz.func126, Tryz.ntmps126
    go_wp2
    go_ret2
    exact ⟨rfl, rfl⟩
set_option maxHeartbeats 400000 in
theorem mul_zero (a : Int) (w : World) :
    Calls Tryz.prog 126 #[.int .i64 a, .int .i64 0] w fun e w' => e = .returned (.tuple #[.int .i64 0, .bool true]) ∧ w = w' := by
  go_enter Tryz.func126, Tryz.ntmps126
  go_wp2
  go_ret2
  exact ⟨rfl, rfl⟩
set_option maxHeartbeats 400000 in
theorem mul_minus (a : Int) (w : World) (a1 : -9223372036854775808 ≤ a) (a2 : a ≤ 9223372036854775807) :
    Calls Tryz.prog 126 #[.int .i64 a, .int .i64 (-1)] w fun e w' => e = .returned (.tuple #[.int .i64 (fit (-a)), .bool (fits (-a))]) ∧ w = w' := by
  go_enter Tryz.func126, Tryz.ntmps126
  go_wp2_with fail
  refine (neg_any _ _ a1 a2).mono ?_
  rintro e w' ⟨rfl, rfl⟩
  go_wp2
  go_ret2
  exact ⟨rfl, rfl⟩
theorem mul_any (a b : Int) (w : World) (a1 : -9223372036854775808 ≤ a) (a2 : a ≤ 9223372036854775807) (b1 : -9223372036854775808 ≤ b) (b2 : b ≤ 9223372036854775807) :
    Calls Tryz.prog 126 #[.int .i64 a, .int .i64 b] w fun e w' => e = .returned (.tuple #[.int .i64 (fit (a * b)), .bool (fits (a * b))]) ∧ w = w' := by
  by_cases h0 : b = 0
  · subst h0
    rw [Int.mul_zero, fit_of (by omega) (by omega), fits_of (by omega) (by omega)]
    exact mul_zero a w
  · by_cases h1 : b = -1
    · subst h1
      rw [Int.mul_neg_one]
      exact mul_minus a w a1 a2
    · have ht := mul_test a1 a2 b1 b2 h0 h1
      cases hf : fits (a * b)
      · have hne : wrap64 ((wrap64 (a * b)).tdiv b) ≠ a := fun h => by rw [ht.1 h] at hf; cases hf
        refine (mul_walk a b w h0 (by simpa using h0) (by simpa using h1) true (by simpa using hne)).mono ?_
        rintro e w' ⟨rfl, rfl⟩
        unfold fit; rw [hf]
        exact ⟨rfl, rfl⟩
      · refine (mul_walk a b w h0 (by simpa using h0) (by simpa using h1) false (by simpa using ht.2 hf)).mono ?_
        rintro e w' ⟨rfl, rfl⟩
        obtain ⟨f1, f2⟩ := fits_iff.1 hf
        unfold fit; rw [hf, IntWalk.wrap64_in _ ⟨f1, f2⟩]
        exact ⟨rfl, rfl⟩
end Go.Proofs.YtkpdbhpmnegahaaGreatDoor
