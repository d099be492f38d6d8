/- The laws MuldivNegates, MuldivCancels and MuldivNear return true, for all integers of 64 bits. -/
import Derived.Test.YtbmggfeneieglabMdM
namespace Go.Proofs.Ytbmggfeneieglab
open Go.RowKit
set_option linter.unusedVariables false

theorem cmp_self_mul (c : Int) (hc : c ≠ 0) : cmpI c 0 * cmpI c 0 = 1 := by
  rcases (show c < 0 ∨ 0 < c by omega) with h | h
  · rw [cmp_lt h]; rfl
  · rw [cmp_gt h]; rfl
theorem cancel {a b mode : Int} (a1 : -9223372036854775808 ≤ a) (a2 : a ≤ 9223372036854775807) (m1 : 1 ≤ mode) (m2 : mode ≤ 5) (hb : b ≠ 0) : mdV a b b mode = (a, 0) ∧ moV a b b = (0, 0) := by
  have hD := absI_pos' hb
  have e1 : absI (a * b) / absI b = absI a := by rw [← abs_mul]; exact Int.mul_ediv_cancel _ (by omega)
  have e2 : absI (a * b) % absI b = 0 := by rw [← abs_mul]; exact Int.mul_emod_left _ _
  rw [mdV_in m1 m2 hb, moV_in hb, e1, e2, up_zero hD]
  refine ⟨?_, by simp⟩
  have hn : negB a b b = decide (a < 0) := by
    unfold negB
    rw [Int.mul_assoc, cmp_self_mul b hb, Int.mul_one]
    unfold cmpI
    by_cases h : a < 0
    · simp [h]
    · rw [if_neg h]; split <;> simp <;> omega
  rw [hn]
  unfold sgV
  by_cases h : a < 0
  · have k : decide (a < 0) = true := by simpa using h
    rw [k, absI_neg h, if_neg (by omega), if_neg (by simp; omega)]
    simp
  · have k : decide (a < 0) = false := by simpa using h
    rw [k, absI_pos h, if_neg (by omega), if_neg (by simp; omega)]
    simp
theorem mdV_kind {a b c mode : Int} (h : mode < 1 ∨ 5 < mode) : mdV a b c mode = (0, 10) := by unfold mdV; rw [if_pos h]
theorem mdV_arg {a b mode : Int} (m1 : 1 ≤ mode) (m2 : mode ≤ 5) : mdV a b 0 mode = (0, 2) := by unfold mdV; rw [if_neg (by omega), if_pos rfl]

set_option maxRecDepth 100000 in
set_option maxHeartbeats 2000000 in
theorem muldivCancels_walk (a b mode : Int) (w : World) (wa : (Lit.int .i64 a).wf = true) (wb : (Lit.int .i64 b).wf = true) (wc : (Lit.int .i64 mode).wf = true) :
    Calls Try.prog 4 #[.int .i64 a, .int .i64 b, .int .i64 mode] w fun e w' => e = .returned (.bool true) ∧ Below w.heap.size w w' := by
  obtain ⟨a1, a2⟩ := i64_range wa
  obtain ⟨b1, b2⟩ := i64_range wb
  clear wa wb wc
  have C1 := fun W => mulDiv_any a b b mode W a1 a2 b1 b2 b1 b2
  have C2 := Lib.hid (fun W => mod_any a b b W a1 a2 b1 b2 b1 b2)
  have C7 := Lib.hid (fun W => lives2_any W)
  by_cases hm : mode < 1 ∨ 5 < mode
  · rw [mdV_kind hm] at C1
    have C1 := Lib.hid C1
    generalize (moV a b b).1 = r at *
    generalize (moV a b b).2 = f at *
    have hk : decide (mode < 1) = true ∨ decide (mode < 1) = false ∧ decide (5 < mode) = true := by
      by_cases h : mode < 1
      · left; simpa using h
      · right; exact ⟨by simpa using h, by simp; omega⟩
    clear hm
    rcases hk with k1 | ⟨k1, k2⟩
    all_goals
      go_enter Try.func4, Try.ntmps4
      go_wp2_with fail
      refine (C1.out _).mono ?_
      rintro e w1 ⟨rfl, h1⟩
      go_wp2_with fail
      refine (C2.out _).mono ?_
      rintro e w2 ⟨rfl, h2⟩
      have g2 := below_next h1 h1.size h2
      go_wp2_with fail
      refine (C7.out _).mono ?_
      rintro e w3 ⟨rfl, h3⟩
      have g3 := below_next g2 g2.size h3
      go_wp2
      go_ret
      exact ⟨rfl, g3⟩
  · have k1 : decide (mode < 1) = false := by simp; omega
    have k2 : decide (5 < mode) = false := by simp; omega
    by_cases hb : b = 0
    · subst hb
      rw [mdV_arg (by omega) (by omega)] at C1
      have C1 := Lib.hid C1
      generalize (moV a 0 0).1 = r at *
      generalize (moV a 0 0).2 = f at *
      go_enter Try.func4, Try.ntmps4
      go_wp2_with fail
      refine (C1.out _).mono ?_
      rintro e w1 ⟨rfl, h1⟩
      go_wp2_with fail
      refine (C2.out _).mono ?_
      rintro e w2 ⟨rfl, h2⟩
      have g2 := below_next h1 h1.size h2
      go_wp2_with fail
      refine (C7.out _).mono ?_
      rintro e w3 ⟨rfl, h3⟩
      have g3 := below_next g2 g2.size h3
      go_wp2
      go_ret
      exact ⟨rfl, g3⟩
    · obtain ⟨e1, e2⟩ := cancel (mode := mode) a1 a2 (by omega) (by omega) hb
      rw [e1] at C1
      rw [e2] at C2
      have C1 := Lib.hid C1
      have k3 : (b == 0) = false := by simpa using hb
      clear e1 e2 hb
      go_enter Try.func4, Try.ntmps4
      go_wp2_with fail
      refine (C1.out _).mono ?_
      rintro e w1 ⟨rfl, h1⟩
      go_wp2_with fail
      refine (C2.out _).mono ?_
      rintro e w2 ⟨rfl, h2⟩
      have g2 := below_next h1 h1.size h2
      go_wp2_with fail
      refine (C7.out _).mono ?_
      rintro e w3 ⟨rfl, h3⟩
      have g3 := below_next g2 g2.size h3
      go_wp2
      go_ret
      exact ⟨rfl, g3⟩

theorem upB_side {mode r d : Int} {odd n1 n2 : Bool} (h : mode ≠ 5) : upB mode odd r d n1 = upB mode odd r d n2 := by
  unfold upB; simp [h]
theorem cmpI_neg (a : Int) : cmpI (-a) 0 = -cmpI a 0 := by
  unfold cmpI; repeat' split
  all_goals omega
theorem absI_negate (a : Int) : absI (-a) = absI a := by
  unfold absI; repeat' split
  all_goals omega
theorem mdV_ok {a b c mode : Int} (h : (mdV a b c mode).2 = 0) : 1 ≤ mode ∧ mode ≤ 5 ∧ c ≠ 0 := by
  unfold mdV at h
  split at h
  · simp at h
  · split at h
    · simp at h
    · rename_i h1 h2; exact ⟨by omega, by omega, h2⟩
theorem negate {a b c mode : Int} (he : (mdV a b c mode).2 = 0) (hf : (mdV (-a) b c mode).2 = 0) (h5 : mode ≠ 5) : (mdV a b c mode).1 = -(mdV (-a) b c mode).1 := by
  obtain ⟨m1, m2, hc⟩ := mdV_ok he
  rw [mdV_in m1 m2 hc] at he hf ⊢
  rw [mdV_in m1 m2 hc]
  rw [sgV_ok he, sgV_ok hf]
  clear he hf
  rw [Int.neg_mul, absI_negate]
  rw [upB_side (n2 := negB a b c) h5 (n1 := negB (-a) b c)]
  by_cases hz : a * b = 0
  · rw [hz]
    have e0 : absI 0 = 0 := rfl
    rw [e0, Int.zero_ediv, Int.zero_emod (absI c), up_zero (absI_pos' hc)]
    cases negB a b c <;> cases negB (-a) b c <;> simp
  · have hn : negB (-a) b c = !negB a b c := by
      rw [negB_is, negB_is, Int.neg_mul, cmpI_neg]
      rcases (show a * b < 0 ∨ 0 < a * b by omega) with h | h <;> rcases (show c < 0 ∨ 0 < c by omega) with k | k
      · rw [cmp_lt h, cmp_lt k]; rfl
      · rw [cmp_lt h, cmp_gt k]; rfl
      · rw [cmp_gt h, cmp_lt k]; rfl
      · rw [cmp_gt h, cmp_gt k]; rfl
    rw [hn]
    cases negB a b c <;> simp

set_option maxRecDepth 100000 in
set_option maxHeartbeats 2000000 in
theorem muldivNegates_walk (a b c d : Int) (w : World) (wa : (Lit.int .i64 a).wf = true) (wb : (Lit.int .i64 b).wf = true) (wc : (Lit.int .i64 c).wf = true) (wd : (Lit.int .i64 d).wf = true) :
    Calls Try.prog 3 #[.agg #[.int .i64 a, .int .i64 b, .int .i64 c, .int .i64 d]] w fun e w' => e = .returned (.bool true) ∧ Below w.heap.size w w' := by
  obtain ⟨a1, a2⟩ := i64_range wa
  obtain ⟨b1, b2⟩ := i64_range wb
  obtain ⟨c1, c2⟩ := i64_range wc
  clear wa wb wc wd
  have C1 := Lib.hid (fun W => mulDiv_any a b c d W a1 a2 b1 b2 c1 c2)
  have C7 := Lib.hid (fun W => lives2_any W)
  have hwr : ∃ a', wrap64 (-a) = a' ∧ -9223372036854775808 ≤ a' ∧ a' ≤ 9223372036854775807 ∧ (a' = -a ∨ a = -9223372036854775808 ∧ a' = a) := by
    refine ⟨_, rfl, ?_, ?_, ?_⟩ <;> unfold wrap64 <;> omega
  obtain ⟨a', hw, p1, p2, hcase⟩ := hwr
  have C2 := Lib.hid (fun W => mulDiv_any a' b c d W p1 p2 b1 b2 c1 c2)
  have hN : a' = -a → (mdV a b c d).2 = 0 → (mdV a' b c d).2 = 0 → d ≠ 5 → (mdV a b c d).1 = -(mdV a' b c d).1 := by
    intro h he hf h5
    rw [h] at hf ⊢
    exact negate he hf h5
  obtain ⟨n1, n2⟩ := mdV_bd a b c d
  obtain ⟨m1, m2⟩ := mdV_bd a' b c d
  generalize (mdV a b c d).1 = n at *
  generalize (mdV a b c d).2 = e at *
  generalize (mdV a' b c d).1 = m at *
  generalize (mdV a' b c d).2 = f at *
  have hall : (e != 0) = true ∨ (e != 0) = false ∧ (f != 0) = true ∨ (e != 0) = false ∧ (f != 0) = false ∧ (a == a') = true ∧ (a != 0) = true ∨
      (e != 0) = false ∧ (f != 0) = false ∧ ((a == a') = true ∧ (a != 0) = false ∨ (a == a') = false) ∧ (d == 5) = true ∨
      (e != 0) = false ∧ (f != 0) = false ∧ ((a == a') = true ∧ (a != 0) = false ∨ (a == a') = false) ∧ (d == 5) = false ∧ n = -m := by
    by_cases he : e = 0
    · by_cases hf : f = 0
      · by_cases h1 : a = a' ∧ a ≠ 0
        · exact .inr (.inr (.inl ⟨by simpa using he, by simpa using hf, by simpa using h1.1, by simpa using h1.2⟩))
        · have h1' : (a == a') = true ∧ (a != 0) = false ∨ (a == a') = false := by
            by_cases k : a = a'
            · left; exact ⟨by simpa using k, by simp; omega⟩
            · right; simpa using k
          have ha : a' = -a := by omega
          by_cases h5 : d = 5
          · exact .inr (.inr (.inr (.inl ⟨by simpa using he, by simpa using hf, h1', by simpa using h5⟩)))
          · exact .inr (.inr (.inr (.inr ⟨by simpa using he, by simpa using hf, h1', by simpa using h5, hN ha he hf h5⟩)))
      · exact .inr (.inl ⟨by simpa using he, by simpa using hf⟩)
    · exact .inl (by simpa using he)
  clear hN hcase a1 a2 b1 b2 c1 c2
  have hfin : ∀ W : World, True := fun _ => trivial
  clear hfin
  rcases hall with k1 | ⟨k1, k2⟩ | ⟨k1, k2, k3, k4⟩ | ⟨k1, k2, k3 | k3, k5⟩ | ⟨k1, k2, k3 | k3, k5, k6⟩
  all_goals try obtain ⟨k3, k4⟩ := k3
  all_goals try (have k7 : (n == wrap64 (-m)) = true := by rw [← k6, IntWalk.wrap64_in n ⟨n1, n2⟩]; simp)
  all_goals try (have k8 : (n == -m) = true := by rw [← k6]; simp)
  all_goals try clear k6
  all_goals
    go_enter Try.func3, Try.ntmps3
    go_wp2_with fail
    refine (C1.out _).mono ?_
    rintro e w1 ⟨rfl, h1⟩
    obtain ⟨hc1, hf1⟩ := bcell h1
    go_wp2_with fail
    refine (C2.out _).mono ?_
    rintro e w2 ⟨rfl, h2⟩
    have g2 := below_next h1 h1.size h2
    clear h2 hc1 hf1
    obtain ⟨hc2, hf2⟩ := bcell g2
    go_wp2_with fail
    refine (C7.out _).mono ?_
    rintro e w3 ⟨rfl, h3⟩
    have g3 := below_next g2 g2.size h3
    go_wp2
    go_ret
    exact ⟨rfl, ((Below.refl _ _).alloc (Nat.le_refl _) _).trans (g3.mono (by simp))⟩
end Go.Proofs.Ytbmggfeneieglab
