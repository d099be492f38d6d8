/- What MulDiv, Div, Mod and Cmp of package accountingref02 return, for all arguments. -/
import Derived.Test.YtmehihfdfpnfjaaMdR
namespace Go.Proofs.Ytmehihfdfpnfjaa
open Go.RowKit
set_option linter.unusedVariables false

set_option maxHeartbeats 400000 in
theorem rMulDiv_kind (a b c mode : Int) (w : World) (h : mode < 1 ∨ 5 < mode) :
    Calls Try.prog 37 #[.int .i64 a, .int .i64 b, .int .i64 c, .int .i64 mode] w fun e w' => e = .returned (.tuple #[.int .i64 0, .int .i64 10]) ∧ w = w' := by
  rcases h with h | h
  · have k1 : decide (mode < 1) = true := by simpa using h
    go_enter Try.func37, Try.ntmps37
    go_wp2
    go_ret2
    exact ⟨rfl, rfl⟩
  · have k1 : decide (mode < 1) = false := by simp; omega
    have k2 : decide (5 < mode) = true := by simpa using h
    go_enter Try.func37, Try.ntmps37
    go_wp2
    go_ret2
    exact ⟨rfl, rfl⟩
set_option maxHeartbeats 400000 in
theorem rMulDiv_arg (a b mode : Int) (w : World) (m1 : 1 ≤ mode) (m2 : mode ≤ 5) :
    Calls Try.prog 37 #[.int .i64 a, .int .i64 b, .int .i64 0, .int .i64 mode] w fun e w' => e = .returned (.tuple #[.int .i64 0, .int .i64 2]) ∧ w = w' := by
  have k1 : decide (mode < 1) = false := by simp; omega
  have k2 : decide (5 < mode) = false := by simp; omega
  go_enter Try.func37, Try.ntmps37
  go_wp2
  go_ret2
  exact ⟨rfl, rfl⟩
theorem rMulDiv_any (a b c mode : Int) (w : World) (a1 : -9223372036854775808 ≤ a) (a2 : a ≤ 9223372036854775807) (b1 : -9223372036854775808 ≤ b) (b2 : b ≤ 9223372036854775807) (c1 : -9223372036854775808 ≤ c) (c2 : c ≤ 9223372036854775807) :
    Calls Try.prog 37 #[.int .i64 a, .int .i64 b, .int .i64 c, .int .i64 mode] w fun e w' => e = .returned (.tuple #[.int .i64 (mdV a b c mode).1, .int .i64 (mdV a b c mode).2]) ∧ w = w' := by
  unfold mdV
  by_cases h : mode < 1 ∨ 5 < mode
  · rw [if_pos h]; exact rMulDiv_kind a b c mode w h
  · rw [if_neg h]
    by_cases hc : c = 0
    · rw [if_pos hc]; subst hc; exact rMulDiv_arg a b mode w (by omega) (by omega)
    · rw [if_neg hc]; exact rMulDiv_walk a b c mode w a1 a2 b1 b2 c1 c2 (by omega) (by omega) hc _ (mdW_sign hc)
theorem mod_sign {a b D : Int} (h : absI a * absI b % D ≠ 0) : decide (cmpI a 0 * cmpI b 0 < 0) = !(decide (a < 0) == decide (b < 0)) := by
  have ha : a ≠ 0 := by rintro rfl; apply h; simp [absI]
  have hb : b ≠ 0 := by rintro rfl; apply h; simp [absI]
  rcases (show a < 0 ∨ 0 < a by omega) with h | h <;> rcases (show b < 0 ∨ 0 < b by omega) with k | k
  · rw [neg_yes' h, neg_yes' k, cmp_lt h, cmp_lt k]; rfl
  · rw [neg_yes' h, neg_no' k, cmp_lt h, cmp_gt k]; rfl
  · rw [neg_no' h, neg_yes' k, cmp_gt h, cmp_lt k]; rfl
  · rw [neg_no' h, neg_no' k, cmp_gt h, cmp_gt k]; rfl
set_option maxHeartbeats 1000000 in
theorem rMod_walk (a b c : Int) (w : World) (a1 : -9223372036854775808 ≤ a) (a2 : a ≤ 9223372036854775807) (b1 : -9223372036854775808 ≤ b) (b2 : b ≤ 9223372036854775807) (c1 : -9223372036854775808 ≤ c) (c2 : c ≤ 9223372036854775807) (hc : c ≠ 0) :
    Calls Try.prog 40 #[.int .i64 a, .int .i64 b, .int .i64 c] w fun e w' => e = .returned (.tuple #[.int .i64 (if absI a * absI b % absI c ≠ 0 ∧ cmpI a 0 * cmpI b 0 < 0 then absI c - absI a * absI b % absI c else absI a * absI b % absI c), .int .i64 0]) ∧ w = w' := by
  have hsg := @mod_sign a b (absI c)
  obtain ⟨x0, x1⟩ := absI_bd a1 a2
  obtain ⟨y0, y1⟩ := absI_bd b1 b2
  obtain ⟨z0, z1⟩ := absI_bd c1 c2
  have zp : 0 < absI c := by unfold absI; split <;> omega
  have hN0 : 0 ≤ absI a * absI b := Int.mul_nonneg x0 y0
  have hN1 : absI a * absI b ≤ 9223372036854775808 * 9223372036854775808 := Int.mul_le_mul x1 y1 y0 (by omega)
  have HA := Lib.hid (rMag_any a w a1 a2)
  have HB := Lib.hid (rMag_any b w b1 b2)
  have HM := Lib.hid (rMag_any c w c1 c2)
  have HW := Lib.hid (rWide_any (absI a) (absI b) w x0 (by omega) y0 (by omega))
  generalize hx : absI a = x at *
  generalize hy : absI b = y at *
  clear hx hy
  generalize hD : absI c = D at *
  generalize hN : x * y = N at *
  have HD := Lib.hid (rDivide_is (N / 18446744073709551616) (N % 18446744073709551616) D N w (by omega) (by omega) (by omega) (by omega) zp (by omega) (by omega))
  have r0 : 0 ≤ N % D := Int.emod_nonneg _ (by omega)
  have r1 : N % D < D := Int.emod_lt_of_pos _ zp
  generalize N / 18446744073709551616 = h at *
  generalize N % 18446744073709551616 = l at *
  generalize N % D = r at *
  generalize N / D / 18446744073709551616 = qh at *
  generalize N / D % 18446744073709551616 = ql at *
  clear hN hD
  have k3 : (c == 0) = false := by simpa using hc
  clear hc
  by_cases hr : r = 0
  · subst hr
    rw [if_neg (by simp)]
    clear hsg
    go_enter Try.func40, Try.ntmps40
    go_wp2_with fail
    refine HA.out.mono ?_
    rintro e w' ⟨rfl, rfl⟩
    go_wp2_with fail
    refine HB.out.mono ?_
    rintro e w' ⟨rfl, rfl⟩
    go_wp2_with fail
    refine HW.out.mono ?_
    rintro e w' ⟨rfl, rfl⟩
    go_wp2_with fail
    refine HM.out.mono ?_
    rintro e w' ⟨rfl, rfl⟩
    go_wp2_with fail
    refine HD.out.mono ?_
    rintro e w' ⟨rfl, rfl⟩
    go_wp2
    go_ret2
    exact ⟨rfl, rfl⟩
  · have hs := (hsg hr).symm
    have k4 : decide (0 < r) = true := by simp; omega
    clear hsg
    generalize cmpI a 0 * cmpI b 0 = s at *
    by_cases hss : s < 0
    · rw [if_pos ⟨hr, hss⟩]
      have k5 : decide (s < 0) = true := by simpa using hss
      rw [k5] at hs
      clear k5
      go_enter Try.func40, Try.ntmps40
      go_wp2_with fail
      refine HA.out.mono ?_
      rintro e w' ⟨rfl, rfl⟩
      go_wp2_with fail
      refine HB.out.mono ?_
      rintro e w' ⟨rfl, rfl⟩
      go_wp2_with fail
      refine HW.out.mono ?_
      rintro e w' ⟨rfl, rfl⟩
      go_wp2_with fail
      refine HM.out.mono ?_
      rintro e w' ⟨rfl, rfl⟩
      go_wp2_with fail
      refine HD.out.mono ?_
      rintro e w' ⟨rfl, rfl⟩
      go_wp2_with fail
      refine HM.out.mono ?_
      rintro e w' ⟨rfl, rfl⟩
      go_wp2
      go_ret2
      exact ⟨ret_ints (by first | rfl | (simp only [wrap64]; omega)) rfl, rfl⟩
    · rw [if_neg (by rintro ⟨_, h⟩; exact hss h)]
      have k5 : decide (s < 0) = false := by simpa using hss
      rw [k5] at hs
      clear k5
      go_enter Try.func40, Try.ntmps40
      go_wp2_with fail
      refine HA.out.mono ?_
      rintro e w' ⟨rfl, rfl⟩
      go_wp2_with fail
      refine HB.out.mono ?_
      rintro e w' ⟨rfl, rfl⟩
      go_wp2_with fail
      refine HW.out.mono ?_
      rintro e w' ⟨rfl, rfl⟩
      go_wp2_with fail
      refine HM.out.mono ?_
      rintro e w' ⟨rfl, rfl⟩
      go_wp2_with fail
      refine HD.out.mono ?_
      rintro e w' ⟨rfl, rfl⟩
      go_wp2
      go_ret2
      exact ⟨ret_ints (by first | rfl | (simp only [wrap64]; omega)) rfl, rfl⟩
set_option maxHeartbeats 400000 in
theorem rMod_arg (a b : Int) (w : World) :
    Calls Try.prog 40 #[.int .i64 a, .int .i64 b, .int .i64 0] w fun e w' => e = .returned (.tuple #[.int .i64 0, .int .i64 2]) ∧ w = w' := by
  go_enter Try.func40, Try.ntmps40
  go_wp2
  go_ret2
  exact ⟨rfl, rfl⟩
theorem rMod_any (a b c : Int) (w : World) (a1 : -9223372036854775808 ≤ a) (a2 : a ≤ 9223372036854775807) (b1 : -9223372036854775808 ≤ b) (b2 : b ≤ 9223372036854775807) (c1 : -9223372036854775808 ≤ c) (c2 : c ≤ 9223372036854775807) :
    Calls Try.prog 40 #[.int .i64 a, .int .i64 b, .int .i64 c] w fun e w' => e = .returned (.tuple #[.int .i64 (moV a b c).1, .int .i64 (moV a b c).2]) ∧ w = w' := by
  unfold moV
  by_cases hc : c = 0
  · rw [if_pos hc]; subst hc; exact rMod_arg a b w
  · rw [if_neg hc]; exact rMod_walk a b c w a1 a2 b1 b2 c1 c2 hc

end Go.Proofs.Ytmehihfdfpnfjaa
