/- What the functions of package accountingref02 return, for all arguments. -/
import Derived.Test.YtmehihfdfpnfjaaMdC
namespace Go.Proofs.Ytmehihfdfpnfjaa
open Go.RowKit
set_option linter.unusedVariables false

theorem results_three {fn : Func} {t u v : Tmp} (h : fn.results = #[.tmp t, .tmp u, .tmp v]) : True := trivial
theorem ret_u64x3 {a b c a' b' c' : Int} (h : a = a') (k : b = b') (l : c = c') : Ending.returned (.tuple #[.int .u64 a, .int .u64 b, .int .u64 c]) = .returned (.tuple #[.int .u64 a', .int .u64 b', .int .u64 c']) := by rw [h, k, l]
theorem u64_in {n : Int} (h0 : 0 ≤ n) (h1 : n ≤ 18446744073709551615) : IntKind.u64.wrap n = n := by rw [IntKind.wrap_u64]; omega

set_option maxHeartbeats 400000 in
theorem rMag_any (a : Int) (w : World) (a1 : -9223372036854775808 ≤ a) (a2 : a ≤ 9223372036854775807) :
    Calls Try.prog 52 #[.int .i64 a] w fun e w' => e = .returned (.int .u64 (absI a)) ∧ w = w' := by
  by_cases h : a < 0
  · rw [absI_neg h]
    go_enter Try.func52, Try.ntmps52
    go_wp2
    go_ret
    exact ⟨ret_one (by omega), rfl⟩
  · rw [absI_pos h]
    go_enter Try.func52, Try.ntmps52
    go_wp2
    go_ret
    exact ⟨rfl, rfl⟩

set_option maxHeartbeats 400000 in
theorem rWide_any (x y : Int) (w : World) (x0 : 0 ≤ x) (x1 : x ≤ 18446744073709551615) (y0 : 0 ≤ y) (y1 : y ≤ 18446744073709551615) :
    Calls Try.prog 51 #[.int .u64 x, .int .u64 y] w fun e w' => e = .returned (.tuple #[.int .u64 (x * y / 18446744073709551616), .int .u64 (x * y % 18446744073709551616)]) ∧ w = w' := by
  have hm := mul_split x y
  have ha := half_le (a := x / 4294967296) (b := y / 4294967296) (by omega) (by omega) (by omega) (by omega)
  have hb := half_le (a := x / 4294967296) (b := y % 4294967296) (by omega) (by omega) (by omega) (by omega)
  have hc := half_le (a := x % 4294967296) (b := y / 4294967296) (by omega) (by omega) (by omega) (by omega)
  have hd := half_le (a := x % 4294967296) (b := y % 4294967296) (by omega) (by omega) (by omega) (by omega)
  have HM := Lib.hid hm
  clear hm
  obtain ⟨ha0, ha1⟩ := ha
  obtain ⟨hb0, hb1⟩ := hb
  obtain ⟨hc0, hc1⟩ := hc
  obtain ⟨hd0, hd1⟩ := hd
  go_enter Try.func51, Try.ntmps51
  go_wp2
  go_ret2
  refine ⟨ret_u64s ?_ ?_, rfl⟩
  all_goals
    rw [HM.out]
    generalize (x / 4294967296) * (y / 4294967296) = a at *
    generalize (x / 4294967296) * (y % 4294967296) = b at *
    generalize (x % 4294967296) * (y / 4294967296) = c at *
    generalize (x % 4294967296) * (y % 4294967296) = d at *
    clear x0 x1 y0 y1
    omega

/-- what holds after i rounds of the division of N by c, bit by bit: h and l are what is left of N's bits, q the quotient so far, r the remainder. -/
def BInv (N c : Int) (i : Nat) (h l qh ql r : Int) : Prop :=
  (0 ≤ h ∧ h ≤ 18446744073709551615) ∧ (0 ≤ l ∧ l ≤ 18446744073709551615) ∧ (0 ≤ qh ∧ qh ≤ 18446744073709551615) ∧ (0 ≤ ql ∧ ql ≤ 18446744073709551615) ∧ (0 ≤ r ∧ r < c) ∧
  N * 2 ^ i = ((qh * 18446744073709551616 + ql) * c + r) * 340282366920938463463374607431768211456 + h * 18446744073709551616 + l ∧ (qh * 18446744073709551616 + ql) < 2 ^ i
theorem b_start {h l c : Int} (c0 : 0 < c) (h0 : 0 ≤ h) (h1 : h ≤ 18446744073709551615) (l0 : 0 ≤ l) (l1 : l ≤ 18446744073709551615) : BInv (h * 18446744073709551616 + l) c 0 h l 0 0 0 := by
  refine ⟨⟨h0, h1⟩, ⟨l0, l1⟩, by omega, by omega, by omega, by simp, by simp⟩
theorem b_step {N c h l qh ql r : Int} {i : Nat} (hi : i < 128) (k : BInv N c i h l qh ql r) (c1 : c ≤ 18446744073709551615) :
    (∀ b r2 : Int, (b = 0 ∧ 2 * r + h / 9223372036854775808 < c ∧ r2 = 2 * r + h / 9223372036854775808) ∨ (b = 1 ∧ c ≤ 2 * r + h / 9223372036854775808 ∧ r2 = 2 * r + h / 9223372036854775808 - c) →
      BInv N c (i + 1) ((2 * h + l / 9223372036854775808) % 18446744073709551616) (2 * l % 18446744073709551616) ((2 * qh + ql / 9223372036854775808) % 18446744073709551616) (2 * ql % 18446744073709551616 + b) r2) := by
  obtain ⟨⟨h0, h1⟩, ⟨l0, l1⟩, ⟨p0, p1⟩, ⟨q0, q1⟩, ⟨r0, rc⟩, e, qb⟩ := k
  intro b r2 hb
  have hp : (2 : Int) ^ (i + 1) = 2 ^ i * 2 := by rw [Int.pow_succ]
  have hq127 : (2 : Int) ^ i ≤ 170141183460469231731687303715884105728 := by
    have h1 : (2 : Int) ^ i ≤ 2 ^ 127 := by
      have : (2 ^ i : Nat) ≤ 2 ^ 127 := Nat.pow_le_pow_right (by decide) (by omega)
      exact_mod_cast this
    have h2 : (2 : Int) ^ 127 = 170141183460469231731687303715884105728 := by decide
    omega
  have hqh : qh ≤ 9223372036854775807 := by omega
  refine ⟨by omega, by omega, by omega, by omega, by omega, ?_, ?_⟩
  · rw [hp, ← Int.mul_assoc, e]
    have eq2 : ((2 * qh + ql / 9223372036854775808) % 18446744073709551616 * 18446744073709551616 + (2 * ql % 18446744073709551616 + b)) = (qh * 18446744073709551616 + ql) * 2 + b := by omega
    rw [eq2]
    have ec : ((qh * 18446744073709551616 + ql) * 2 + b) * c = (qh * 18446744073709551616 + ql) * c * 2 + b * c := by
      rw [Int.add_mul, Int.mul_assoc _ 2 c, Int.mul_comm 2 c, ← Int.mul_assoc]
    rw [ec]
    generalize (qh * 18446744073709551616 + ql) * c = x at *
    rcases hb with ⟨rfl, hb1, rfl⟩ | ⟨rfl, hb1, rfl⟩
    · rw [Int.zero_mul]; omega
    · rw [Int.one_mul]; omega
  · rw [hp]
    generalize (2 : Int) ^ i = P at *
    omega
theorem b_end {N c h l qh ql r : Int} (k : BInv N c 128 h l qh ql r) (c0 : 0 < c) (n0 : 0 ≤ N) : N / c = qh * 18446744073709551616 + ql ∧ N % c = r := by
  obtain ⟨⟨h0, h1⟩, ⟨l0, l1⟩, ⟨p0, p1⟩, ⟨q0, q1⟩, ⟨r0, rc⟩, e, qb⟩ := k
  have h2 : (2 : Int) ^ 128 = 340282366920938463463374607431768211456 := by decide
  rw [h2] at e
  have eN : N = (qh * 18446744073709551616 + ql) * c + r := by
    generalize (qh * 18446744073709551616 + ql) * c = x at *
    omega
  have hq : N / c = qh * 18446744073709551616 + ql := by
    rw [eN, Int.add_comm, Int.add_mul_ediv_right _ _ (by omega : c ≠ 0), Int.ediv_eq_zero_of_lt r0 rc, Int.zero_add]
  refine ⟨hq, ?_⟩
  have hm := Int.emod_add_mul_ediv N c
  rw [hq, Int.mul_comm c] at hm
  omega

theorem u64v {a b : Int} (h : a = b) : Value.int .u64 a = Value.int .u64 b := by rw [h]
set_option maxHeartbeats 1000000 in
theorem rDivide_any (h l c : Int) (w : World) (h0 : 0 ≤ h) (h1 : h ≤ 18446744073709551615) (l0 : 0 ≤ l) (l1 : l ≤ 18446744073709551615) (c0 : 0 < c) (c1 : c ≤ 18446744073709551615) :
    Calls Try.prog 53 #[.int .u64 h, .int .u64 l, .int .u64 c] w fun e w' => ∃ qh ql r : Int, e = .returned (.tuple #[.int .u64 qh, .int .u64 ql, .int .u64 r]) ∧ (0 ≤ qh ∧ qh ≤ 18446744073709551615) ∧ (0 ≤ ql ∧ ql ≤ 18446744073709551615) ∧ (h * 18446744073709551616 + l) / c = qh * 18446744073709551616 + ql ∧ (h * 18446744073709551616 + l) % c = r ∧ w = w' := by
  have HS := Lib.hid (b_start (c := c) c0 h0 h1 l0 l1)
  have hN : 0 ≤ h * 18446744073709551616 + l := by omega
  generalize h * 18446744073709551616 + l = N at *
  go_enter Try.func53, Try.ntmps53
  go_wp2
  go_loop [0, 1, 9, 10, 11, 12] (fun a b p q r i => ∃ (k : Nat) (x y u v z : Int), k ≤ 128 ∧ a = .int .u64 x ∧ b = .int .u64 y ∧ p = .int .u64 u ∧ q = .int .u64 v ∧ r = .int .u64 z ∧ i = .int .i64 k ∧ BInv N c k x y u v z) (fun _ _ _ _ _ i => 128 - (intOf i).toNat)
  case atStart => exact ⟨0, h, l, 0, 0, 0, by omega, rfl, rfl, rfl, rfl, rfl, rfl, HS.out⟩
  case round =>
    obtain ⟨k, x, y, u, v, z, hk, rfl, rfl, rfl, rfl, rfl, rfl, hinv⟩ := hrel
    have HI := Lib.hid hinv
    obtain ⟨⟨x0, x1⟩, ⟨y0, y1⟩, ⟨u0, u1⟩, ⟨v0, v1⟩, ⟨z0, zc⟩, he, hqb⟩ := hinv
    clear he hqb
    by_cases hlt : k < 128
    · have kk : decide ((k : Int) < 128) = true := by simp; omega
      have HB := Lib.hid (b_step hlt HI.out c1)
      by_cases ht : 9223372036854775808 ≤ z
      · have b1 : decide (9223372036854775808 ≤ z) = true := by simpa using ht
        go_wp2
        go_round
        case rel =>
          refine ⟨k + 1, _, _, _, _, _, by omega, u64v ?_, u64v ?_, u64v ?_, u64v ?_, u64v ?_, by go_num, HB.out 1 (2 * z + x / 9223372036854775808 - c) (.inr ⟨rfl, by omega, rfl⟩)⟩
          all_goals (first | rfl | omega | (simp only [IntKind.wrap_u64]; done) | (simp only [IntKind.wrap_u64]; omega))
        case measure => simp [intOf]; omega
      · have b1 : decide (9223372036854775808 ≤ z) = false := by simpa using ht
        by_cases hc : c ≤ 2 * z + x / 9223372036854775808
        · have b2 : decide (c ≤ 2 * z + x / 9223372036854775808) = true := by simpa using hc
          go_wp2
          go_round
          case rel =>
            refine ⟨k + 1, _, _, _, _, _, by omega, u64v ?_, u64v ?_, u64v ?_, u64v ?_, u64v ?_, by go_num, HB.out 1 (2 * z + x / 9223372036854775808 - c) (.inr ⟨rfl, by omega, rfl⟩)⟩
            all_goals (first | rfl | omega | (simp only [IntKind.wrap_u64]; done) | (simp only [IntKind.wrap_u64]; omega))
          case measure => simp [intOf]; omega
        · have b2 : decide (c ≤ 2 * z + x / 9223372036854775808) = false := by simpa using hc
          go_wp2
          go_round
          case rel =>
            refine ⟨k + 1, _, _, _, _, _, by omega, u64v ?_, u64v ?_, u64v ?_, u64v ?_, u64v ?_, by go_num, HB.out 0 (2 * z + x / 9223372036854775808) (.inl ⟨rfl, by omega, rfl⟩)⟩
            all_goals (first | rfl | omega | (simp only [IntKind.wrap_u64]; done) | (simp only [IntKind.wrap_u64]; omega))
          case measure => simp [intOf]; omega
    · have kk : decide ((k : Int) < 128) = false := by simp; omega
      have ek : k = 128 := by omega
      have HE : Hid (N / c = u * 18446744073709551616 + v ∧ N % c = z) := b_end (by rw [← ek]; exact HI.out) c0 hN
      clear ek
      go_wp2
      go_ret3
      exact ⟨u, v, z, rfl, ⟨u0, u1⟩, ⟨v0, v1⟩, HE.out.1, HE.out.2, rfl⟩

set_option maxHeartbeats 1000000 in
theorem rAway_any (mode : Int) (neg odd : Bool) (r d : Int) (w : World) (r0 : 0 ≤ r) (rd : r < d) (d1 : d ≤ 18446744073709551615) :
    Calls Try.prog 54 #[.int .i64 mode, .bool neg, .bool odd, .int .u64 r, .int .u64 d] w fun e w' => e = .returned (.bool (upB mode odd r d neg)) ∧ w = w' := by
  unfold upB
  have hr : (r != 0) = decide (0 < r) := by
    by_cases h : 0 < r
    · have : r ≠ 0 := by omega
      simp [h, this]
    · have : r = 0 := by omega
      simp [this]
  by_cases m2 : mode = 2
  · subst m2
    rw [if_pos rfl, hr]
    clear hr
    go_enter Try.func54, Try.ntmps54
    go_wp2
    go_ret
    exact ⟨rfl, rfl⟩
  · rw [if_neg m2]
    have b2 : (mode == 2) = false := by simpa using m2
    by_cases m3 : mode = 3
    · subst m3
      rw [if_pos rfl]
      clear hr
      go_enter Try.func54, Try.ntmps54
      go_wp2
      go_ret
      exact ⟨rfl, rfl⟩
    · rw [if_neg m3]
      have b3 : (mode == 3) = false := by simpa using m3
      by_cases m4 : mode = 4
      · subst m4
        rw [if_pos rfl]
        clear hr
        by_cases c1 : d - r < r
        · have k1 : decide (d - r < r) = true := by simpa using c1
          rw [k1]
          go_enter Try.func54, Try.ntmps54
          go_wp2
          go_ret
          exact ⟨rfl, rfl⟩
        · have k1 : decide (d - r < r) = false := by simpa using c1
          rw [k1]
          by_cases c2 : r = d - r
          · have k2 : (r == d - r) = true := by simpa using c2
            rw [k2]
            clear c2
            cases odd
            all_goals
              go_enter Try.func54, Try.ntmps54
              go_wp2
              go_ret
              exact ⟨rfl, rfl⟩
          · have k2 : (r == d - r) = false := by simpa using c2
            rw [k2]
            clear c2
            go_enter Try.func54, Try.ntmps54
            go_wp2
            go_ret
            exact ⟨rfl, rfl⟩
      · rw [if_neg m4]
        have b4 : (mode == 4) = false := by simpa using m4
        by_cases m5 : mode = 5
        · subst m5
          rw [if_pos rfl, hr]
          clear hr
          cases neg
          · rw [Bool.and_false]
            go_enter Try.func54, Try.ntmps54
            go_wp2
            go_ret
            exact ⟨rfl, rfl⟩
          · rw [Bool.and_true]
            go_enter Try.func54, Try.ntmps54
            go_wp2
            go_ret
            exact ⟨rfl, rfl⟩
        · rw [if_neg m5]
          have b5 : (mode == 5) = false := by simpa using m5
          clear hr
          go_enter Try.func54, Try.ntmps54
          go_wp2
          go_ret
          exact ⟨rfl, rfl⟩

theorem rDivide_is (h l c N : Int) (w : World) (h0 : 0 ≤ h) (h1 : h ≤ 18446744073709551615) (l0 : 0 ≤ l) (l1 : l ≤ 18446744073709551615) (c0 : 0 < c) (c1 : c ≤ 18446744073709551615) (hN : h * 18446744073709551616 + l = N) :
    Calls Try.prog 53 #[.int .u64 h, .int .u64 l, .int .u64 c] w fun e w' => e = .returned (.tuple #[.int .u64 (N / c / 18446744073709551616), .int .u64 (N / c % 18446744073709551616), .int .u64 (N % c)]) ∧ w = w' := by
  refine (rDivide_any h l c w h0 h1 l0 l1 c0 c1).mono ?_
  rintro e w' ⟨qh, ql, r, rfl, p1, p2, e1, e2, rfl⟩
  rw [hN] at e1 e2
  exact ⟨ret_u64x3 (by rw [e1]; omega) (by rw [e1]; omega) e2.symm, rfl⟩

theorem mdW_zero (D : Int) (neg : Bool) (mode : Int) (hD : 0 < D) : mdW 0 D neg mode = (0, 0) := by
  have e1 : (0 : Int) / D = 0 := Int.zero_ediv D
  have e2 : (0 : Int) % D = 0 := Int.zero_emod D
  unfold mdW
  rw [e1, e2]
  have hu : upB mode ((0 : Int) % 2 != 0) 0 D neg = false := by
    unfold upB
    have k1 : ¬ (D - 0 ≤ 0) := by omega
    have k2 : ¬ (D - 0 < 0) := by omega
    have k3 : ((0 : Int) == D - 0) = false := by rw [beq_eq_false_iff_ne]; omega
    simp only [k1, k2, k3, decide_false, Bool.false_or, Bool.false_and]
    simp
  rw [hu]
  unfold sgV
  cases neg <;> simp
/-- the sign as the reference computes it. -/
def rNegB (a b c : Int) : Bool := (decide (a < 0) != decide (b < 0)) != decide (c < 0)
theorem cmp_lt {a : Int} (h : a < 0) : cmpI a 0 = -1 := by unfold cmpI; rw [if_pos h]
theorem cmp_gt {a : Int} (h : 0 < a) : cmpI a 0 = 1 := by unfold cmpI; rw [if_neg (by omega), if_pos h]
theorem neg_yes' {a : Int} (h : a < 0) : decide (a < 0) = true := by simpa using h
theorem neg_no' {a : Int} (h : 0 < a) : decide (a < 0) = false := by simp; omega
theorem rNegB_is {a b c : Int} (ha : a ≠ 0) (hb : b ≠ 0) (hc : c ≠ 0) : rNegB a b c = negB a b c := by
  unfold rNegB negB
  rcases (show a < 0 ∨ 0 < a by omega) with h | h <;> rcases (show b < 0 ∨ 0 < b by omega) with k | k <;> rcases (show c < 0 ∨ 0 < c by omega) with l | l
  · rw [neg_yes' h, neg_yes' k, neg_yes' l, cmp_lt h, cmp_lt k, cmp_lt l]; rfl
  · rw [neg_yes' h, neg_yes' k, neg_no' l, cmp_lt h, cmp_lt k, cmp_gt l]; rfl
  · rw [neg_yes' h, neg_no' k, neg_yes' l, cmp_lt h, cmp_gt k, cmp_lt l]; rfl
  · rw [neg_yes' h, neg_no' k, neg_no' l, cmp_lt h, cmp_gt k, cmp_gt l]; rfl
  · rw [neg_no' h, neg_yes' k, neg_yes' l, cmp_gt h, cmp_lt k, cmp_lt l]; rfl
  · rw [neg_no' h, neg_yes' k, neg_no' l, cmp_gt h, cmp_lt k, cmp_gt l]; rfl
  · rw [neg_no' h, neg_no' k, neg_yes' l, cmp_gt h, cmp_gt k, cmp_lt l]; rfl
  · rw [neg_no' h, neg_no' k, neg_no' l, cmp_gt h, cmp_gt k, cmp_gt l]; rfl
theorem mdW_sign {a b c mode : Int} (hc : c ≠ 0) : mdW (absI a * absI b) (absI c) (rNegB a b c) mode = mdW (absI a * absI b) (absI c) (negB a b c) mode := by
  have zp : 0 < absI c := by unfold absI; split <;> omega
  by_cases ha : a = 0
  · subst ha
    have e : absI 0 * absI b = 0 := by simp [absI]
    rw [e, mdW_zero _ _ _ zp, mdW_zero _ _ _ zp]
  · by_cases hb : b = 0
    · subst hb
      have e : absI a * absI 0 = 0 := by simp [absI]
      rw [e, mdW_zero _ _ _ zp, mdW_zero _ _ _ zp]
    · rw [rNegB_is ha hb hc]
theorem odd_is (q : Int) : (q % 2 == 1) = (q % 2 != 0) := by
  rcases (show q % 2 = 0 ∨ q % 2 = 1 by omega) with h | h <;> rw [h] <;> rfl

set_option maxHeartbeats 2000000 in
theorem rMulDiv_walk (a b c mode : Int) (w : World) (a1 : -9223372036854775808 ≤ a) (a2 : a ≤ 9223372036854775807) (b1 : -9223372036854775808 ≤ b) (b2 : b ≤ 9223372036854775807) (c1 : -9223372036854775808 ≤ c) (c2 : c ≤ 9223372036854775807)
    (m1 : 1 ≤ mode) (m2 : mode ≤ 5) (hc : c ≠ 0) (v : Int × Int) (hv : mdW (absI a * absI b) (absI c) (rNegB a b c) mode = v) :
    Calls Try.prog 37 #[.int .i64 a, .int .i64 b, .int .i64 c, .int .i64 mode] w fun e w' => e = .returned (.tuple #[.int .i64 v.1, .int .i64 v.2]) ∧ w = w' := by
  obtain ⟨x0, x1⟩ := absI_bd a1 a2
  obtain ⟨y0, y1⟩ := absI_bd b1 b2
  obtain ⟨z0, z1⟩ := absI_bd c1 c2
  have zp : 0 < absI c := by unfold absI; split <;> omega
  have hN0 : 0 ≤ absI a * absI b := Int.mul_nonneg x0 y0
  have hN1 : absI a * absI b ≤ 9223372036854775808 * 9223372036854775808 := Int.mul_le_mul x1 y1 y0 (by omega)
  have HA := Lib.hid (rMag_any a w a1 a2)
  have HB := Lib.hid (rMag_any b w b1 b2)
  have HM := Lib.hid (rMag_any c w c1 c2)
  have HW := Lib.hid (rWide_any (absI a) (absI b) w x0 (by omega) y0 (by omega))
  unfold mdW at hv
  generalize hx : absI a = x at *
  generalize hy : absI b = y at *
  clear hx hy
  generalize hD : absI c = D at *
  generalize hN : x * y = N at *
  have HD := Lib.hid (rDivide_is (N / 18446744073709551616) (N % 18446744073709551616) D N w (by omega) (by omega) (by omega) (by omega) zp (by omega) (by omega))
  have r0 : 0 ≤ N % D := Int.emod_nonneg _ (by omega)
  have r1 : N % D < D := Int.emod_lt_of_pos _ zp
  have q0 : 0 ≤ N / D := Int.ediv_nonneg hN0 (by omega)
  have HU := Lib.hid (rAway_any mode (rNegB a b c) (N / D % 2 == 1) (N % D) D w r0 r1 (by omega))
  rw [odd_is] at HU
  generalize N / 18446744073709551616 = h at *
  generalize N % 18446744073709551616 = l at *
  generalize N % D = r at *
  generalize N / D = Q at *
  generalize hup : upB mode (Q % 2 != 0) r D (rNegB a b c) = up at *
  have k1 : decide (mode < 1) = false := by simp; omega
  have k2 : decide (5 < mode) = false := by simp; omega
  have k3 : (c == 0) = false := by simpa using hc
  have hneg : (!((!(decide (a < 0) == decide (b < 0))) == decide (c < 0))) = rNegB a b c := rfl
  generalize rNegB a b c = neg at *
  clear hup hN hD hc
  unfold sgV at hv
  by_cases hbig : 9223372036854775808 < Q
  · rw [if_pos hbig] at hv
    subst hv
    by_cases hh : Q / 18446744073709551616 = 0
    · rw [hh, show Q % 18446744073709551616 = Q by omega] at HD
      have b1 : decide (9223372036854775808 < Q) = true := by simpa using hbig
      clear hh
      go_enter Try.func37, Try.ntmps37
      go_wp2_with fail
      refine HA.out.mono ?_
      rintro e w' ⟨rfl, rfl⟩
      go_wp2_with fail
      refine HB.out.mono ?_
      rintro e w' ⟨rfl, rfl⟩
      go_wp2_with fail
      refine HW.out.mono ?_
      rintro e w' ⟨rfl, rfl⟩
      go_wp2_with fail
      refine HM.out.mono ?_
      rintro e w' ⟨rfl, rfl⟩
      go_wp2_with fail
      refine HD.out.mono ?_
      rintro e w' ⟨rfl, rfl⟩
      go_wp2
      go_ret2
      exact ⟨rfl, rfl⟩
    · have b1 : decide (0 < Q / 18446744073709551616) = true := by simp; omega
      generalize Q / 18446744073709551616 = qh at *
      generalize Q % 18446744073709551616 = ql at *
      go_enter Try.func37, Try.ntmps37
      go_wp2_with fail
      refine HA.out.mono ?_
      rintro e w' ⟨rfl, rfl⟩
      go_wp2_with fail
      refine HB.out.mono ?_
      rintro e w' ⟨rfl, rfl⟩
      go_wp2_with fail
      refine HW.out.mono ?_
      rintro e w' ⟨rfl, rfl⟩
      go_wp2_with fail
      refine HM.out.mono ?_
      rintro e w' ⟨rfl, rfl⟩
      go_wp2_with fail
      refine HD.out.mono ?_
      rintro e w' ⟨rfl, rfl⟩
      go_wp2
      go_ret2
      exact ⟨rfl, rfl⟩
  · rw [if_neg hbig] at hv
    rw [show Q / 18446744073709551616 = 0 by omega, show Q % 18446744073709551616 = Q by omega] at HD
    have b1 : decide (9223372036854775808 < Q) = false := by simpa using hbig
    have hodd := odd_is Q
    obtain ⟨z, hz⟩ : ∃ z : Int, Q + (if up then 1 else 0) = z := ⟨_, rfl⟩
    rw [hz] at hv
    have zb : 0 ≤ z ∧ z ≤ 9223372036854775809 := by cases up <;> simp at hz <;> omega
    obtain ⟨zb0, zb1⟩ := zb
    have hcase : (v = (0, 4) ∧ decide (9223372036854775808 < z) = true) ∨ (v = (0, 4) ∧ decide (9223372036854775808 < z) = false ∧ (z == 9223372036854775808) = true ∧ neg = false) ∨
        (decide (9223372036854775808 < z) = false ∧ (z == 9223372036854775808) = true ∧ neg = true ∧ v = (-9223372036854775808, 0)) ∨
        (decide (9223372036854775808 < z) = false ∧ (z == 9223372036854775808) = false ∧ z ≤ 9223372036854775807 ∧ neg = false ∧ v = (z, 0)) ∨ (decide (9223372036854775808 < z) = false ∧ (z == 9223372036854775808) = false ∧ z ≤ 9223372036854775807 ∧ neg = true ∧ v = (-z, 0)) := by
      by_cases o1 : 9223372036854775808 < z
      · rw [if_pos (.inl o1)] at hv; exact .inl ⟨hv.symm, by simpa using o1⟩
      · by_cases o2 : z = 9223372036854775808
        · cases neg
          · rw [if_pos (.inr ⟨o2, rfl⟩)] at hv; exact .inr (.inl ⟨hv.symm, by simpa using o1, by simpa using o2, rfl⟩)
          · rw [if_neg (by rintro (h | h); exact o1 h; cases h.2)] at hv
            exact .inr (.inr (.inl ⟨by simpa using o1, by simpa using o2, rfl, by rw [← hv, o2]; rfl⟩))
        · rw [if_neg (by rintro (h | h); exact o1 h; exact o2 h.1)] at hv
          cases neg
          · exact .inr (.inr (.inr (.inl ⟨by simpa using o1, by simpa using o2, by omega, rfl, hv.symm⟩)))
          · exact .inr (.inr (.inr (.inr ⟨by simpa using o1, by simpa using o2, by omega, rfl, hv.symm⟩)))
    clear hv
    have hz' : (up = true ∧ Q + 1 = z) ∨ (up = false ∧ Q = z) := by cases up <;> simp at hz <;> simp [hz]
    clear hz
    have HODD := Lib.hid hodd
    clear hodd hbig
    rcases hz' with ⟨rfl, hz⟩ | ⟨rfl, hz⟩
    · rcases hcase with ⟨rfl, o1⟩ | ⟨rfl, o1, o2, rfl⟩ | ⟨o1, o2, rfl, rfl⟩ | ⟨o1, o2, o3, rfl, rfl⟩ | ⟨o1, o2, o3, rfl, rfl⟩
      all_goals
        go_enter Try.func37, Try.ntmps37
        go_wp2_with fail
        refine HA.out.mono ?_
        rintro e w' ⟨rfl, rfl⟩
        go_wp2_with fail
        refine HB.out.mono ?_
        rintro e w' ⟨rfl, rfl⟩
        go_wp2_with fail
        refine HW.out.mono ?_
        rintro e w' ⟨rfl, rfl⟩
        go_wp2_with fail
        refine HM.out.mono ?_
        rintro e w' ⟨rfl, rfl⟩
        go_wp2_with fail
        refine HD.out.mono ?_
        rintro e w' ⟨rfl, rfl⟩
        go_wp2_with fail
        refine HM.out.mono ?_
        rintro e w' ⟨rfl, rfl⟩
        have hodd := HODD.out
        go_wp2_with fail
        refine HU.out.mono ?_
        rintro e w' ⟨rfl, rfl⟩
        clear hodd
        go_wp2
        go_ret2
        exact ⟨ret_ints (by first | rfl | (simp only [wrap64]; omega)) rfl, rfl⟩
    · subst hz
      rcases hcase with ⟨rfl, o1⟩ | ⟨rfl, o1, o2, rfl⟩ | ⟨o1, o2, rfl, rfl⟩ | ⟨o1, o2, o3, rfl, rfl⟩ | ⟨o1, o2, o3, rfl, rfl⟩
      · rw [o1] at b1; cases b1
      all_goals
        go_enter Try.func37, Try.ntmps37
        go_wp2_with fail
        refine HA.out.mono ?_
        rintro e w' ⟨rfl, rfl⟩
        go_wp2_with fail
        refine HB.out.mono ?_
        rintro e w' ⟨rfl, rfl⟩
        go_wp2_with fail
        refine HW.out.mono ?_
        rintro e w' ⟨rfl, rfl⟩
        go_wp2_with fail
        refine HM.out.mono ?_
        rintro e w' ⟨rfl, rfl⟩
        go_wp2_with fail
        refine HD.out.mono ?_
        rintro e w' ⟨rfl, rfl⟩
        go_wp2_with fail
        refine HM.out.mono ?_
        rintro e w' ⟨rfl, rfl⟩
        have hodd := HODD.out
        go_wp2_with fail
        refine HU.out.mono ?_
        rintro e w' ⟨rfl, rfl⟩
        clear hodd
        go_wp2
        go_ret2
        exact ⟨ret_ints (by first | rfl | (simp only [wrap64]; omega)) rfl, rfl⟩
end Go.Proofs.Ytmehihfdfpnfjaa
