/- The law MuldivNear returns true, for all integers of 64 bits. -/
import Derived.Test.YtbmggfeneieglabMdY
namespace Go.Proofs.Ytbmggfeneieglab
open Go.RowKit
set_option linter.unusedVariables false

theorem wrap_diff {x y : Int} (h0 : -9223372036854775808 ≤ x - y) (h1 : x - y ≤ 9223372036854775807) : wrap64 (wrap64 x - wrap64 y) = x - y := by unfold wrap64; omega
theorem mdV_code4 {a b c mode : Int} (m1 : 1 ≤ mode) (m2 : mode ≤ 5) (hc : c ≠ 0) : (mdV a b c mode).2 = 0 ∨ (mdV a b c mode).2 = 4 := by
  rw [mdV_in m1 m2 hc]
  generalize upB mode (absI (a * b) / absI c % 2 != 0) (absI (a * b) % absI c) (absI c) (negB a b c) = up
  generalize absI (a * b) / absI c = q
  unfold sgV
  generalize q + (if up then 1 else 0) = z
  by_cases h1 : 9223372036854775808 < q
  · rw [if_pos h1]; exact .inr rfl
  · rw [if_neg h1]
    by_cases h2 : 9223372036854775808 < z ∨ z = 9223372036854775808 ∧ negB a b c = false
    · rw [if_pos h2]; exact .inr rfl
    · rw [if_neg h2]; exact .inl rfl
theorem up3 {r d : Int} {odd neg : Bool} : upB 3 odd r d neg = decide (d - r ≤ r) := by simp [upB]
theorem up4 {r d : Int} {odd neg : Bool} : upB 4 odd r d neg = (decide (d - r < r) || (r == d - r) && odd) := by simp [upB]
/-- Half and Even, at a positive divisor. -/
theorem near_half {a b c n m : Int} (hc : 1 ≤ c) (he : (mdV a b c 3).2 = 0) (hf : (mdV a b c 4).2 = 0) (hn : (mdV a b c 3).1 = n) (hm : (mdV a b c 4).1 = m) :
    (2 * (a * b - n * c) ≤ c ∧ -c ≤ 2 * (a * b - n * c)) ∧ (2 * (a * b - m * c) ≤ c ∧ -c ≤ 2 * (a * b - m * c)) ∧
    (n = m ∨ (∃ k, m = 2 * k) ∧ (2 * (a * b - n * c) = c ∨ 2 * (a * b - n * c) = -c)) := by
  rw [mdV_in (by omega) (by omega) (by omega)] at he hf hn hm
  rw [sgV_ok he] at hn
  rw [sgV_ok hf] at hm
  clear he hf
  have ec : absI c = c := absI_pos (by omega)
  have hcc : cmpI c 0 = 1 := cmp_gt (by omega)
  rw [negB_is, ec, hcc, Int.mul_one] at hn hm
  rw [up3] at hn
  rw [up4] at hm
  generalize a * b = P at *
  have m0 := Int.emod_nonneg (absI P) (by omega : c ≠ 0)
  have m1 := Int.emod_lt_of_pos (absI P) (by omega : 0 < c)
  have m2 := Int.emod_add_mul_ediv (absI P) c
  rw [Int.mul_comm c] at m2
  generalize absI P / c = Q at *
  generalize absI P % c = R at *
  have key : ∀ (s : Int) (u v : Int), (s = 1 ∨ s = -1) → P = s * absI P → (u = if decide (c - R ≤ R) = true then 1 else 0) → (v = if (decide (c - R < R) || (R == c - R) && (Q % 2 != 0)) = true then 1 else 0) → n = s * (Q + u) → m = s * (Q + v) →
      (2 * (P - n * c) ≤ c ∧ -c ≤ 2 * (P - n * c)) ∧ (2 * (P - m * c) ≤ c ∧ -c ≤ 2 * (P - m * c)) ∧ (n = m ∨ (∃ k, m = 2 * k) ∧ (2 * (P - n * c) = c ∨ 2 * (P - n * c) = -c)) := by
    intro s u v hs hP hu hv h1 h2
    have e1 : P - n * c = s * (R - u * c) := by
      rw [hP, ← m2, h1, Int.mul_assoc, ← Int.mul_sub, Int.add_mul]; congr 1; omega
    have e2 : P - m * c = s * (R - v * c) := by
      rw [hP, ← m2, h2, Int.mul_assoc, ← Int.mul_sub, Int.add_mul]; congr 1; omega
    rw [e1, e2]
    by_cases c1 : c - R ≤ R
    · have d1 : decide (c - R ≤ R) = true := by simpa using c1
      rw [d1, if_pos rfl] at hu
      subst hu
      by_cases c2 : c - R < R
      · have d2 : decide (c - R < R) = true := by simpa using c2
        rw [d2] at hv
        simp at hv
        subst hv
        rw [Int.one_mul]
        refine ⟨?_, ?_, .inl (by rw [h1, h2])⟩ <;> rcases hs with rfl | rfl <;> omega
      · have d2 : decide (c - R < R) = false := by simpa using c2
        have d3 : (R == c - R) = true := by simp; omega
        rw [d2, d3] at hv
        by_cases ho : Q % 2 = 0
        · have d4 : (Q % 2 != 0) = false := by simpa using ho
          rw [d4] at hv
          simp at hv
          subst hv
          rw [Int.one_mul, Int.zero_mul]
          refine ⟨?_, ?_, .inr ⟨⟨s * (Q / 2), ?_⟩, ?_⟩⟩
          · rcases hs with rfl | rfl <;> omega
          · rcases hs with rfl | rfl <;> omega
          · rw [h2]; rcases hs with rfl | rfl <;> omega
          · rcases hs with rfl | rfl <;> omega
        · have d4 : (Q % 2 != 0) = true := by simpa using ho
          rw [d4] at hv
          simp at hv
          subst hv
          rw [Int.one_mul]
          refine ⟨?_, ?_, .inl (by rw [h1, h2])⟩ <;> rcases hs with rfl | rfl <;> omega
    · have d1 : decide (c - R ≤ R) = false := by simpa using c1
      rw [d1] at hu
      simp at hu
      subst hu
      have d2 : decide (c - R < R) = false := by simp; omega
      have d3 : (R == c - R) = false := by simp; omega
      rw [d2, d3] at hv
      simp at hv
      subst hv
      rw [Int.zero_mul]
      refine ⟨?_, ?_, .inl (by rw [h1, h2])⟩ <;> rcases hs with rfl | rfl <;> omega
  by_cases hp : P < 0
  · have e1 : cmpI P 0 = -1 := cmp_lt hp
    have e2 : absI P = -P := absI_neg hp
    rw [e1] at hn hm
    refine key (-1) _ _ (.inr rfl) (by rw [e2]; omega) rfl rfl ?_ ?_
    · rw [← hn]; simp
    · rw [← hm]; simp
  · have e2 : absI P = P := absI_pos hp
    have e1 : decide (cmpI P 0 < 0) = false := by unfold cmpI; rw [if_neg hp]; split <;> simp
    rw [e1] at hn hm
    refine key 1 _ _ (.inl rfl) (by rw [e2]; omega) rfl rfl ?_ ?_
    · rw [← hn]; simp
    · rw [← hm]; simp

set_option maxRecDepth 100000 in
set_option maxHeartbeats 1000000 in
theorem muldivNear_out (a b c : Int) (w : World)
    (h : decide (c < 1) = true ∨ decide (c < 1) = false ∧ decide (1000000000000000 < c) = true ∨ decide (c < 1) = false ∧ decide (1000000000000000 < c) = false ∧ decide (1000000000000000 < a) = true ∨
      decide (c < 1) = false ∧ decide (1000000000000000 < c) = false ∧ decide (1000000000000000 < a) = false ∧ decide (a < -1000000000000000) = true ∨
      decide (c < 1) = false ∧ decide (1000000000000000 < c) = false ∧ decide (1000000000000000 < a) = false ∧ decide (a < -1000000000000000) = false ∧ decide (1000000 < b) = true ∨
      decide (c < 1) = false ∧ decide (1000000000000000 < c) = false ∧ decide (1000000000000000 < a) = false ∧ decide (a < -1000000000000000) = false ∧ decide (1000000 < b) = false ∧ decide (b < -1000000) = true) :
    Calls Try.prog 5 #[.int .i64 a, .int .i64 b, .int .i64 c] w fun e w' => e = .returned (.bool true) ∧ Below w.heap.size w w' := by
  have C7 := Lib.hid (fun W => lives2_any W)
  rcases h with k1 | ⟨k1, k2⟩ | ⟨k1, k2, k3⟩ | ⟨k1, k2, k3, k4⟩ | ⟨k1, k2, k3, k4, k5⟩ | ⟨k1, k2, k3, k4, k5, k6⟩
  all_goals
    go_enter Try.func5, Try.ntmps5
    go_wp2_with fail
    refine (C7.out _).mono ?_
    rintro e w1 ⟨rfl, h1⟩
    go_wp2
    go_ret
    exact ⟨rfl, h1⟩

set_option maxRecDepth 100000 in
set_option maxHeartbeats 3000000 in
theorem muldivNear_in (a b c : Int) (w : World) (c1 : 1 ≤ c) (c2 : c ≤ 1000000000000000) (a1 : -1000000000000000 ≤ a) (a2 : a ≤ 1000000000000000) (b1 : -1000000 ≤ b) (b2 : b ≤ 1000000) :
    Calls Try.prog 5 #[.int .i64 a, .int .i64 b, .int .i64 c] w fun e w' => e = .returned (.bool true) ∧ Below w.heap.size w w' := by
  have C1 := Lib.hid (fun W => mulDiv_any a b c 3 W (by omega) (by omega) (by omega) (by omega) (by omega) (by omega))
  have C2 := Lib.hid (fun W => mulDiv_any a b c 4 W (by omega) (by omega) (by omega) (by omega) (by omega) (by omega))
  have C7 := Lib.hid (fun W => lives2_any W)
  have hN := fun he hf => @near_half a b c _ _ c1 he hf rfl rfl
  have he4 := mdV_code4 (a := a) (b := b) (c := c) (mode := 3) (by omega) (by omega) (by omega)
  have hf4 := mdV_code4 (a := a) (b := b) (c := c) (mode := 4) (by omega) (by omega) (by omega)
  obtain ⟨n1, n2⟩ := mdV_bd a b c 3
  obtain ⟨m1, m2⟩ := mdV_bd a b c 4
  generalize (mdV a b c 3).1 = n at *
  generalize (mdV a b c 3).2 = e at *
  generalize (mdV a b c 4).1 = m at *
  generalize (mdV a b c 4).2 = f at *
  have k1 : decide (c < 1) = false := by simp; omega
  have k2 : decide (1000000000000000 < c) = false := by simp; omega
  have k3 : decide (1000000000000000 < a) = false := by simp; omega
  have k4 : decide (a < -1000000000000000) = false := by simp; omega
  have k5 : decide (1000000 < b) = false := by simp; omega
  have k6 : decide (b < -1000000) = false := by simp; omega
  rcases he4 with rfl | rfl
  · rcases hf4 with rfl | rfl
    · obtain ⟨⟨x1, x2⟩, ⟨y1, y2⟩, hfin⟩ := hN rfl rfl
      clear hN
      have ex : wrap64 (wrap64 (a * b) - wrap64 (n * c)) = a * b - n * c := wrap_diff (by omega) (by omega)
      have ey : wrap64 (wrap64 (a * b) - wrap64 (m * c)) = a * b - m * c := wrap_diff (by omega) (by omega)
      generalize a * b - n * c = x at *
      generalize a * b - m * c = y at *
      have t1 : decide (c < 2 * x) = false := by simp; omega
      have t2 : decide (2 * x < -c) = false := by simp; omega
      have t3 : decide (c < 2 * y) = false := by simp; omega
      have t4 : decide (2 * y < -c) = false := by simp; omega
      have hcase : (n == m) = true ∨ (n == m) = false ∧ (m.tmod 2 == 0) = true ∧ (2 * x == c) = true ∨ (n == m) = false ∧ (m.tmod 2 == 0) = true ∧ (2 * x == c) = false ∧ (2 * x == -c) = true := by
        by_cases h : n = m
        · left; simpa using h
        · rcases hfin with h' | ⟨⟨k, hk⟩, h'⟩
          · exact absurd h' h
          · have ht : m.tmod 2 = 0 := by rw [hk, Int.mul_comm]; exact Int.mul_tmod_left _ _
            rcases h' with h' | h'
            · exact .inr (.inl ⟨by simpa using h, by simpa using ht, by simpa using h'⟩)
            · exact .inr (.inr ⟨by simpa using h, by simpa using ht, by simp; omega, by simpa using h'⟩)
      clear hfin
      rcases hcase with g1 | ⟨g1, g2, g3⟩ | ⟨g1, g2, g3, g4⟩
      all_goals
        go_enter Try.func5, Try.ntmps5
        go_wp2_with fail
        refine (C1.out _).mono ?_
        rintro e w1 ⟨rfl, h1⟩
        go_wp2_with fail
        refine (C2.out _).mono ?_
        rintro e w2 ⟨rfl, h2⟩
        have g2 := below_next h1 h1.size h2
        go_wp2_with fail
        refine (C7.out _).mono ?_
        rintro e w3 ⟨rfl, h3⟩
        have g3 := below_next g2 g2.size h3
        go_wp2
        go_ret
        exact ⟨rfl, g3⟩
    · clear hN
      go_enter Try.func5, Try.ntmps5
      go_wp2_with fail
      refine (C1.out _).mono ?_
      rintro e w1 ⟨rfl, h1⟩
      go_wp2_with fail
      refine (C2.out _).mono ?_
      rintro e w2 ⟨rfl, h2⟩
      have g2 := below_next h1 h1.size h2
      go_wp2_with fail
      refine (C7.out _).mono ?_
      rintro e w3 ⟨rfl, h3⟩
      have g3 := below_next g2 g2.size h3
      go_wp2
      go_ret
      exact ⟨rfl, g3⟩
  · clear hN
    rcases hf4 with rfl | rfl
    all_goals
      go_enter Try.func5, Try.ntmps5
      go_wp2_with fail
      refine (C1.out _).mono ?_
      rintro e w1 ⟨rfl, h1⟩
      go_wp2_with fail
      refine (C2.out _).mono ?_
      rintro e w2 ⟨rfl, h2⟩
      have g2 := below_next h1 h1.size h2
      go_wp2_with fail
      refine (C7.out _).mono ?_
      rintro e w3 ⟨rfl, h3⟩
      have g3 := below_next g2 g2.size h3
      go_wp2
      go_ret
      exact ⟨rfl, g3⟩

theorem muldivNear_walk (a b c : Int) (w : World) (wa : (Lit.int .i64 a).wf = true) (wb : (Lit.int .i64 b).wf = true) (wc : (Lit.int .i64 c).wf = true) :
    Calls Try.prog 5 #[.int .i64 a, .int .i64 b, .int .i64 c] w fun e w' => e = .returned (.bool true) ∧ Below w.heap.size w w' := by
  by_cases h1 : c < 1
  · exact muldivNear_out a b c w (.inl (by simpa using h1))
  · by_cases h2 : 1000000000000000 < c
    · exact muldivNear_out a b c w (.inr (.inl ⟨by simpa using h1, by simpa using h2⟩))
    · by_cases h3 : 1000000000000000 < a
      · exact muldivNear_out a b c w (.inr (.inr (.inl ⟨by simpa using h1, by simpa using h2, by simpa using h3⟩)))
      · by_cases h4 : a < -1000000000000000
        · exact muldivNear_out a b c w (.inr (.inr (.inr (.inl ⟨by simpa using h1, by simpa using h2, by simpa using h3, by simpa using h4⟩))))
        · by_cases h5 : 1000000 < b
          · exact muldivNear_out a b c w (.inr (.inr (.inr (.inr (.inl ⟨by simpa using h1, by simpa using h2, by simpa using h3, by simpa using h4, by simpa using h5⟩)))))
          · by_cases h6 : b < -1000000
            · exact muldivNear_out a b c w (.inr (.inr (.inr (.inr (.inr ⟨by simpa using h1, by simpa using h2, by simpa using h3, by simpa using h4, by simpa using h5, by simpa using h6⟩)))))
            · exact muldivNear_in a b c w (by omega) (by omega) (by omega) (by omega) (by omega) (by omega)
end Go.Proofs.Ytbmggfeneieglab
