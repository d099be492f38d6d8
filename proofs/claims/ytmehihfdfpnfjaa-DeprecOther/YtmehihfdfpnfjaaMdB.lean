/- What roundsUp, signed, MulDiv, Div and Mod of package muldiv return, for all arguments. -/
import Derived.Test.YtmehihfdfpnfjaaMdA
namespace Go.Proofs.Ytmehihfdfpnfjaa
open Go.RowKit
set_option linter.unusedVariables false

theorem ret_ints {a b c d : Int} (h : a = b) (k : c = d) : Ending.returned (.tuple #[.int .i64 a, .int .i64 c]) = .returned (.tuple #[.int .i64 b, .int .i64 d]) := by rw [h, k]

/-- a quotient that leaves the rest r is rounded away from zero. -/
def upB (mode : Int) (odd : Bool) (r d : Int) (neg : Bool) : Bool :=
  if mode = 2 then r != 0 else if mode = 3 then decide (d - r ≤ r) else if mode = 4 then decide (d - r < r) || (r == d - r) && odd else if mode = 5 then r != 0 && neg else false
/-- the quotient q, rounded, with its sign. -/
def sgV (q : Int) (up neg : Bool) : Int × Int :=
  if 9223372036854775808 < q then (0, 4)
  else if 9223372036854775808 < q + (if up then 1 else 0) ∨ q + (if up then 1 else 0) = 9223372036854775808 ∧ neg = false then (0, 4)
  else (if neg then -(q + (if up then 1 else 0)) else q + (if up then 1 else 0), 0)
/-- N / D, rounded. -/
def mdW (N D : Int) (neg : Bool) (mode : Int) : Int × Int := sgV (N / D) (upB mode (N / D % 2 != 0) (N % D) D neg) neg
def negB (a b c : Int) : Bool := decide (cmpI a 0 * cmpI b 0 * cmpI c 0 < 0)
/-- what MulDiv returns. -/
def mdV (a b c mode : Int) : Int × Int :=
  if mode < 1 ∨ 5 < mode then (0, 10) else if c = 0 then (0, 2) else mdW (absI a * absI b) (absI c) (negB a b c) mode

theorem long_div {h l d : Int} (d0 : 0 < d) : (h * 18446744073709551616 + l) / d = h / d * 18446744073709551616 + (h % d * 18446744073709551616 + l) / d ∧ (h * 18446744073709551616 + l) % d = (h % d * 18446744073709551616 + l) % d := by
  have e : h * 18446744073709551616 + l = (h % d * 18446744073709551616 + l) + d * (h / d * 18446744073709551616) := by
    have := Int.emod_add_mul_ediv h d
    rw [← Int.mul_assoc]
    generalize d * (h / d) = x at *
    omega
  constructor
  · rw [e, Int.add_mul_ediv_left _ _ (by omega : d ≠ 0)]; omega
  · rw [e, Int.add_mul_emod_self_left]

set_option maxHeartbeats 1000000 in
theorem roundsUp_any (mode : Int) (odd : Bool) (r d : Int) (neg : Bool) (w : World) (r0 : 0 ≤ r) (rd : r < d) (d1 : d ≤ 18446744073709551615) :
    Calls Try.prog 60 #[.int .i64 mode, .bool odd, .int .u64 r, .int .u64 d, .bool neg] w fun e w' => e = .returned (.bool (upB mode odd r d neg)) ∧ w = w' := by
  have H := Lib.hid (compareU_any r (d - r) w)
  unfold upB
  by_cases m2 : mode = 2
  · subst m2
    rw [if_pos rfl]
    go_enter Try.func60, Try.ntmps60
    go_wp2_with fail
    refine H.out.mono ?_
    rintro e w' ⟨rfl, rfl⟩
    go_wp2
    go_ret
    exact ⟨rfl, rfl⟩
  · rw [if_neg m2]
    have b2 : (mode == 2) = false := by simpa using m2
    by_cases m3 : mode = 3
    · subst m3
      rw [if_pos rfl]
      have hh : decide (0 ≤ cmpI r (d - r)) = decide (d - r ≤ r) := by
        unfold cmpI; split
        · have : ¬ (d - r ≤ r) := by omega
          simp [this]
        · split <;> simp <;> omega
      generalize cmpI r (d - r) = hf at *
      go_enter Try.func60, Try.ntmps60
      go_wp2_with fail
      refine H.out.mono ?_
      rintro e w' ⟨rfl, rfl⟩
      go_wp2
      go_ret
      exact ⟨by rw [← hh]; rfl, rfl⟩
    · rw [if_neg m3]
      have b3 : (mode == 3) = false := by simpa using m3
      by_cases m4 : mode = 4
      · subst m4
        rw [if_pos rfl]
        by_cases c1 : d - r < r
        · have e1 : cmpI r (d - r) = 1 := by unfold cmpI; rw [if_neg (by omega), if_pos c1]
          have e2 : (decide (d - r < r) || (r == d - r) && odd) = true := by simp [c1]
          rw [e2]
          rw [e1] at H
          clear e1 e2
          go_enter Try.func60, Try.ntmps60
          go_wp2_with fail
          refine H.out.mono ?_
          rintro e w' ⟨rfl, rfl⟩
          go_wp2
          go_ret
          exact ⟨rfl, rfl⟩
        · by_cases c2 : r = d - r
          · have e1 : cmpI r (d - r) = 0 := by unfold cmpI; rw [if_neg (by omega), if_neg c1]
            have e2 : (decide (d - r < r) || (r == d - r) && odd) = odd := by
              have : (r == d - r) = true := by simpa using c2
              rw [this]; simp [c1]
            rw [e2]
            rw [e1] at H
            clear e1 e2 c2
            cases odd
            all_goals
              go_enter Try.func60, Try.ntmps60
              go_wp2_with fail
              refine H.out.mono ?_
              rintro e w' ⟨rfl, rfl⟩
              go_wp2
              go_ret
              exact ⟨rfl, rfl⟩
          · have e1 : cmpI r (d - r) = -1 := by unfold cmpI; rw [if_pos (by omega)]
            have e2 : (decide (d - r < r) || (r == d - r) && odd) = false := by
              have : (r == d - r) = false := by simpa using c2
              rw [this]; simp [c1]
            rw [e2]
            rw [e1] at H
            clear e1 e2 c2
            go_enter Try.func60, Try.ntmps60
            go_wp2_with fail
            refine H.out.mono ?_
            rintro e w' ⟨rfl, rfl⟩
            go_wp2
            go_ret
            exact ⟨rfl, rfl⟩
      · rw [if_neg m4]
        have b4 : (mode == 4) = false := by simpa using m4
        by_cases m5 : mode = 5
        · subst m5
          rw [if_pos rfl]
          by_cases hr : r = 0
          · have br : (r != 0) = false := by simpa using hr
            rw [br]
            clear hr
            go_enter Try.func60, Try.ntmps60
            go_wp2_with fail
            refine H.out.mono ?_
            rintro e w' ⟨rfl, rfl⟩
            go_wp2
            go_ret
            exact ⟨rfl, rfl⟩
          · have br : (r != 0) = true := by simpa using hr
            rw [br]
            cases neg
            all_goals
              go_enter Try.func60, Try.ntmps60
              go_wp2_with fail
              refine H.out.mono ?_
              rintro e w' ⟨rfl, rfl⟩
              go_wp2
              go_ret
              exact ⟨rfl, rfl⟩
        · rw [if_neg m5]
          have b5 : (mode == 5) = false := by simpa using m5
          go_enter Try.func60, Try.ntmps60
          go_wp2_with fail
          refine H.out.mono ?_
          rintro e w' ⟨rfl, rfl⟩
          go_wp2
          go_ret
          exact ⟨rfl, rfl⟩

set_option maxHeartbeats 1000000 in
theorem signed_any (q1 q0 : Int) (up neg : Bool) (w : World) (h0 : 0 ≤ q1) (h1 : 0 ≤ q0) (h2 : q0 ≤ 18446744073709551615) :
    Calls Try.prog 61 #[.agg #[.int .u64 q1, .int .u64 q0], .bool up, .bool neg] w fun e w' => e = .returned (.tuple #[.int .i64 (sgV (q1 * 18446744073709551616 + q0) up neg).1, .int .i64 (sgV (q1 * 18446744073709551616 + q0) up neg).2]) ∧ Below w.heap.size w w' := by
  unfold sgV
  by_cases hq : q1 = 0
  · subst hq
    rw [Int.zero_mul, Int.zero_add]
    by_cases hb : 9223372036854775808 < q0
    · rw [if_pos hb]
      have k1 : decide (9223372036854775808 < q0) = true := by simpa using hb
      go_enter Try.func61, Try.ntmps61
      go_wp2
      go_ret2
      exact ⟨rfl, (Below.refl _ _).alloc (Nat.le_refl _) _⟩
    · rw [if_neg hb]
      have k1 : decide (9223372036854775808 < q0) = false := by simpa using hb
      have key : ∀ z : Int, q0 + (if up then 1 else 0) = z → 0 ≤ z ∧ z ≤ 9223372036854775809 := by
        intro z hz; cases up <;> simp at hz <;> omega
      by_cases ho : 9223372036854775808 < q0 + (if up then 1 else 0)
      · rw [if_pos (.inl ho)]
        cases up
        · simp at ho; omega
        · simp only [if_true] at ho
          have k2 : decide (9223372036854775808 < q0 + 1) = true := by simpa using ho
          clear key
          go_enter Try.func61, Try.ntmps61
          go_wp2
          go_ret2
          exact ⟨rfl, (Below.refl _ _).alloc (Nat.le_refl _) _⟩
      · cases neg
        · by_cases he : q0 + (if up then 1 else 0) = 9223372036854775808
          · rw [if_pos (.inr ⟨he, rfl⟩)]
            cases up
            · simp only [Bool.false_eq_true, if_false, Int.add_zero] at he ho
              subst he
              clear key
              go_enter Try.func61, Try.ntmps61
              go_wp2
              go_ret2
              exact ⟨rfl, (Below.refl _ _).alloc (Nat.le_refl _) _⟩
            · simp only [if_true] at he ho
              have k3 : (q0 + 1 == 9223372036854775808) = true := by simpa using he
              have k2 : decide (9223372036854775808 < q0 + 1) = false := by simpa using ho
              clear key he
              go_enter Try.func61, Try.ntmps61
              go_wp2
              go_ret2
              exact ⟨rfl, (Below.refl _ _).alloc (Nat.le_refl _) _⟩
          · rw [if_neg (by rintro (h | h); exact ho h; exact he h.1)]
            cases up
            · simp only [Bool.false_eq_true, if_false, Int.add_zero] at he ho ⊢
              have k3 : (q0 == 9223372036854775808) = false := by simpa using he
              have kk : q0 ≤ 9223372036854775807 := by omega
              clear key he
              go_enter Try.func61, Try.ntmps61
              go_wp2
              go_ret2
              exact ⟨ret_ints (by first | rfl | (simp only [wrap64]; omega)) rfl, (Below.refl _ _).alloc (Nat.le_refl _) _⟩
            · simp only [if_true, Bool.false_eq_true, if_false] at he ho ⊢
              have k3 : (q0 + 1 == 9223372036854775808) = false := by simpa using he
              have k2 : decide (9223372036854775808 < q0 + 1) = false := by simpa using ho
              have kk : q0 + 1 ≤ 9223372036854775807 := by omega
              clear key he
              go_enter Try.func61, Try.ntmps61
              go_wp2
              go_ret2
              exact ⟨ret_ints (by first | rfl | (simp only [wrap64]; omega)) rfl, (Below.refl _ _).alloc (Nat.le_refl _) _⟩
        · rw [if_neg (by rintro (h | h); exact ho h; cases h.2)]
          have hu : ∀ z : Int, 0 ≤ z → z ≤ 9223372036854775808 → wrap64 (IntKind.u64.wrap (-z)) = -z := by
            intro z z0 z1; simp only [IntKind.wrap_u64, wrap64]; omega
          cases up
          · simp only [Bool.false_eq_true, if_false, Int.add_zero, if_true] at ho ⊢
            have HU := Lib.hid (hu q0 h1 (by omega))
            clear key hu
            by_cases he : q0 = 9223372036854775808
            · have k3 : (q0 == 9223372036854775808) = true := by simpa using he
              clear he
              go_enter Try.func61, Try.ntmps61
              go_wp2
              go_ret2
              exact ⟨ret_ints HU.out rfl, (Below.refl _ _).alloc (Nat.le_refl _) _⟩
            · have k3 : (q0 == 9223372036854775808) = false := by simpa using he
              clear he
              go_enter Try.func61, Try.ntmps61
              go_wp2
              go_ret2
              exact ⟨ret_ints HU.out rfl, (Below.refl _ _).alloc (Nat.le_refl _) _⟩
          · simp only [if_true] at ho ⊢
            have HU := Lib.hid (hu (q0 + 1) (by omega) (by omega))
            have k2 : decide (9223372036854775808 < q0 + 1) = false := by simpa using ho
            clear key hu
            by_cases he : q0 + 1 = 9223372036854775808
            · have k3 : (q0 + 1 == 9223372036854775808) = true := by simpa using he
              clear he
              go_enter Try.func61, Try.ntmps61
              go_wp2
              go_ret2
              exact ⟨ret_ints HU.out rfl, (Below.refl _ _).alloc (Nat.le_refl _) _⟩
            · have k3 : (q0 + 1 == 9223372036854775808) = false := by simpa using he
              clear he
              go_enter Try.func61, Try.ntmps61
              go_wp2
              go_ret2
              exact ⟨ret_ints HU.out rfl, (Below.refl _ _).alloc (Nat.le_refl _) _⟩
  · rw [if_pos (by omega)]
    have k0 : (q1 != 0) = true := by simpa using hq
    go_enter Try.func61, Try.ntmps61
    go_wp2
    go_ret2
    exact ⟨rfl, (Below.refl _ _).alloc (Nat.le_refl _) _⟩

theorem upB_lt {mode r d : Int} {odd neg : Bool} : True := trivial
set_option maxHeartbeats 1000000 in
theorem mulDiv_walk (a b c mode : Int) (w : World) (a1 : -9223372036854775808 ≤ a) (a2 : a ≤ 9223372036854775807) (b1 : -9223372036854775808 ≤ b) (b2 : b ≤ 9223372036854775807) (c1 : -9223372036854775808 ≤ c) (c2 : c ≤ 9223372036854775807)
    (m1 : 1 ≤ mode) (m2 : mode ≤ 5) (hc : c ≠ 0) (v : Int × Int) (hv : mdW (absI a * absI b) (absI c) (negB a b c) mode = v) :
    Calls Try.prog 45 #[.int .i64 a, .int .i64 b, .int .i64 c, .int .i64 mode] w fun e w' => e = .returned (.tuple #[.int .i64 v.1, .int .i64 v.2]) ∧ Below w.heap.size w w' := by
  obtain ⟨x0, x1⟩ := absI_bd a1 a2
  obtain ⟨y0, y1⟩ := absI_bd b1 b2
  obtain ⟨z0, z1⟩ := absI_bd c1 c2
  have zp : 0 < absI c := by unfold absI; split <;> omega
  have hN0 : 0 ≤ absI a * absI b := Int.mul_nonneg x0 y0
  have hN1 : absI a * absI b ≤ 9223372036854775808 * 9223372036854775808 := Int.mul_le_mul x1 y1 y0 (by omega)
  have HM := Lib.hid (fun W => mdMagnitude_any c W c1 c2)
  have HP := Lib.hid (fun W => product_any a b W a1 a2 b1 b2)
  have HS := Lib.hid (fun W => productSign_any a b W)
  have HT := Lib.hid (fun W => sign_any c W)
  unfold mdW at hv
  generalize hD : absI c = D at *
  generalize hN : absI a * absI b = N at *
  obtain ⟨h, hh⟩ : ∃ h, N / 18446744073709551616 = h := ⟨_, rfl⟩
  obtain ⟨l, hl⟩ : ∃ l, N % 18446744073709551616 = l := ⟨_, rfl⟩
  rw [hh, hl] at HP
  have e : N = h * 18446744073709551616 + l := by omega
  obtain ⟨ld1, ld2⟩ := long_div (h := h) (l := l) zp
  rw [← e] at ld1 ld2
  have HD := Lib.hid (fun W => divide_any h l D W (by omega) (by omega) (by omega) (by omega) zp (by omega))
  have hq1 : 0 ≤ h / D := Int.ediv_nonneg (by omega) (by omega)
  have r0 : 0 ≤ h % D := Int.emod_nonneg _ (by omega)
  have r1 : h % D < D := Int.emod_lt_of_pos _ zp
  have hq0 : 0 ≤ (h % D * 18446744073709551616 + l) / D := Int.ediv_nonneg (by omega) (by omega)
  have hq2 : (h % D * 18446744073709551616 + l) / D < 18446744073709551616 := Int.ediv_lt_of_lt_mul zp (by omega)
  have rr0 : 0 ≤ (h % D * 18446744073709551616 + l) % D := Int.emod_nonneg _ (by omega)
  have rr1 : (h % D * 18446744073709551616 + l) % D < D := Int.emod_lt_of_pos _ zp
  rw [ld1, ld2] at hv
  clear ld1 ld2 e hh hl hN hD
  unfold DivRes at HD
  generalize h / D = q1 at *
  generalize (h % D * 18446744073709551616 + l) / D = q0 at *
  generalize (h % D * 18446744073709551616 + l) % D = r at *
  have hodd : ((q1 * 18446744073709551616 + q0) % 2 != 0) = (q0 % 2 != 0) := by
    have : (q1 * 18446744073709551616 + q0) % 2 = q0 % 2 := by omega
    rw [this]
  rw [hodd] at hv
  have HU := Lib.hid (fun W => roundsUp_any mode (q0 % 2 != 0) r D (negB a b c) W rr0 rr1 (by omega))
  generalize hup : upB mode (q0 % 2 != 0) r D (negB a b c) = up at *
  have HG := Lib.hid (fun W => signed_any q1 q0 up (negB a b c) W hq1 hq0 (by omega))
  rw [hv] at HG
  clear hv hodd hup
  obtain ⟨p1, p2⟩ := cmp_mul_bd a b
  obtain ⟨t1, t2⟩ := cmpI_bd c 0
  have hneg : negB a b c = decide (cmpI a 0 * cmpI b 0 * cmpI c 0 < 0) := rfl
  have hpb : -1 ≤ cmpI a 0 * cmpI b 0 * cmpI c 0 ∧ cmpI a 0 * cmpI b 0 * cmpI c 0 ≤ 1 := by
    unfold cmpI; repeat' split
    all_goals omega
  obtain ⟨pb1, pb2⟩ := hpb
  generalize negB a b c = neg at *
  generalize cmpI a 0 * cmpI b 0 = s at *
  generalize cmpI c 0 = t at *
  have k1 : decide (mode < 1) = false := by simp; omega
  have k2 : decide (5 < mode) = false := by simp; omega
  have k3 : (c == 0) = false := by simpa using hc
  have HN := Lib.hid hneg
  clear hneg
  clear hc
  go_enter Try.func45, Try.ntmps45
  go_wp2_with fail
  refine (HM.out _).mono ?_
  rintro e w' ⟨rfl, rfl⟩
  go_wp2_with fail
  refine (HP.out _).mono ?_
  rintro e w1 ⟨rfl, hb1⟩
  go_wp2_with fail
  refine (HD.out _).mono ?_
  rintro e w2 ⟨rfl, hb2⟩
  go_wp2_with fail
  refine (HS.out _).mono ?_
  rintro e w' ⟨rfl, rfl⟩
  go_wp2_with fail
  refine (HT.out _).mono ?_
  rintro e w' ⟨rfl, rfl⟩
  have hneg := HN.out.symm
  go_wp2_with fail
  refine (HU.out _).mono ?_
  rintro e w' ⟨rfl, rfl⟩
  clear hneg
  go_wp2_with fail
  refine (HG.out _).mono ?_
  rintro e w3 ⟨rfl, hb3⟩
  go_wp2
  go_ret2
  exact ⟨rfl, hb1.trans ((hb2.mono hb1.size).trans (((Below.refl _ _).alloc (by have := hb2.size; have := hb1.size; omega) _).trans (hb3.mono (by have := hb2.size; have := hb1.size; simp; omega))))⟩
end Go.Proofs.Ytmehihfdfpnfjaa
