/- The laws NumAdds, NumTimes, NumInverse, NumNear and NumTexts return true, for all integers of 64 bits. -/
import Derived.Test.YtbmggfeneieglaaNumL
import Derived.Test.YtbmggfeneieglaaNumS
namespace Go.Proofs.Ytbmggfeneieglaa
open Go.RowKit
set_option linter.unusedVariables false

theorem i64_bd {a : Int} (h : (Lit.int .i64 a).wf = true) : -9223372036854775808 ≤ a ∧ a ≤ 9223372036854775807 := by
  simp [Lit.wf, IntKind.min, IntKind.max, IntKind.signed, IntKind.bits] at h; omega

set_option maxHeartbeats 400000 in
theorem numAdds_walk (a0 : Int) (a1 : Int) (w0 : (Lit.int .i64 a0).wf = true) (w1 : (Lit.int .i64 a1).wf = true) (w : World) :
    Calls Try.prog 3 #[.int .i64 a0, .int .i64 a1] w fun e w' => e = .returned (.bool true) ∧ Below w.heap.size w w' := by
  obtain ⟨x1, x2⟩ := i64_bd w0
  obtain ⟨y1, y2⟩ := i64_bd w1
  have A1 := Lib.hid (add_any a0 a1 w x1 x2 y1 y2)
  have A2 := Lib.hid (rAdd_any a0 a1 w x1 x2 y1 y2)
  have A3 := Lib.hid (sub_any a0 a1 w x1 x2 y1 y2)
  have A4 := Lib.hid (rSub_any a0 a1 w x1 x2 y1 y2)
  have A5 := Lib.hid (lives_any w)
  clear w0 w1 x1 x2 y1 y2
  generalize fit (a0 + a1) = s at *
  generalize fits (a0 + a1) = p at *
  generalize fit (a0 - a1) = d at *
  generalize fits (a0 - a1) = q at *
  go_enter Try.func3, Try.ntmps3
  go_wp2_with fail
  refine A1.out.mono ?_
  rintro e w' ⟨rfl, rfl⟩
  go_wp2_with fail
  refine A2.out.mono ?_
  rintro e w' ⟨rfl, rfl⟩
  go_wp2_with fail
  refine A3.out.mono ?_
  rintro e w' ⟨rfl, rfl⟩
  go_wp2_with fail
  refine A4.out.mono ?_
  rintro e w' ⟨rfl, rfl⟩
  go_wp2_with fail
  refine A5.out.mono ?_
  rintro e w' ⟨rfl, hb⟩
  go_wp2
  go_ret
  exact ⟨rfl, hb⟩

set_option maxHeartbeats 400000 in
theorem numTimes_walk (a0 : Int) (a1 : Int) (w0 : (Lit.int .i64 a0).wf = true) (w1 : (Lit.int .i64 a1).wf = true) (w : World) :
    Calls Try.prog 4 #[.int .i64 a0, .int .i64 a1] w fun e w' => e = .returned (.bool true) ∧ Below w.heap.size w w' := by
  obtain ⟨x1, x2⟩ := i64_bd w0
  obtain ⟨y1, y2⟩ := i64_bd w1
  have A1 := Lib.hid (mul_any a0 a1 w x1 x2 y1 y2)
  have A2 := Lib.hid (rMul_any a0 a1 w x1 x2 y1 y2)
  have A3 := Lib.hid (neg_any a0 w x1 x2)
  have A4 := Lib.hid (rNeg_any a0 w x1 x2)
  have A5 := Lib.hid (lives_any w)
  clear w0 w1 x1 x2 y1 y2
  generalize fit (a0 * a1) = s at *
  generalize fits (a0 * a1) = p at *
  generalize fit (-a0) = d at *
  generalize fits (-a0) = q at *
  go_enter Try.func4, Try.ntmps4
  go_wp2_with fail
  refine A1.out.mono ?_
  rintro e w' ⟨rfl, rfl⟩
  go_wp2_with fail
  refine A2.out.mono ?_
  rintro e w' ⟨rfl, rfl⟩
  go_wp2_with fail
  refine A3.out.mono ?_
  rintro e w' ⟨rfl, rfl⟩
  go_wp2_with fail
  refine A4.out.mono ?_
  rintro e w' ⟨rfl, rfl⟩
  go_wp2_with fail
  refine A5.out.mono ?_
  rintro e w' ⟨rfl, hb⟩
  go_wp2
  go_ret
  exact ⟨rfl, hb⟩

set_option maxHeartbeats 400000 in
theorem numNear_walk (a0 : Int) (a1 : Int) (a2 : Int) (w0 : (Lit.int .i64 a0).wf = true) (w1 : (Lit.int .i64 a1).wf = true) (w2 : (Lit.int .i64 a2).wf = true) (w : World) :
    Calls Try.prog 8 #[.int .i64 a0, .int .i64 a1, .int .i64 a2] w fun e w' => e = .returned (.bool true) ∧ Below w.heap.size w w' := by
  have A1 := Lib.hid (near_any a0 a1 a2 w)
  have A2 := Lib.hid (rNear_any a0 a1 a2 w)
  have A3 := near_any 5 1 3 w
  have e3 : nearTo 5 1 3 = 3 := by decide
  rw [e3] at A3
  have A3 := Lib.hid A3
  have A5 := Lib.hid (lives_any w)
  clear e3 w0 w1 w2
  generalize nearTo a0 a1 a2 = r at *
  go_enter Try.func8, Try.ntmps8
  go_wp2_with fail
  refine A1.out.mono ?_
  rintro e w' ⟨rfl, rfl⟩
  go_wp2_with fail
  refine A2.out.mono ?_
  rintro e w' ⟨rfl, rfl⟩
  go_wp2_with fail
  refine A3.out.mono ?_
  rintro e w' ⟨rfl, rfl⟩
  go_wp2_with fail
  refine A5.out.mono ?_
  rintro e w' ⟨rfl, hb⟩
  go_wp2
  go_ret
  exact ⟨rfl, hb⟩

theorem mul_yes (a b : Int) (w : World) (a1 : -9223372036854775808 ≤ a) (a2 : a ≤ 9223372036854775807) (b1 : -9223372036854775808 ≤ b) (b2 : b ≤ 9223372036854775807) (hf : fits (a * b) = true) :
    Calls Try.prog 20 #[.int .i64 a, .int .i64 b] w fun e w' => e = .returned (.tuple #[.int .i64 (a * b), .bool true]) ∧ w = w' := by
  have h := mul_any a b w a1 a2 b1 b2
  unfold fit at h; rw [hf, if_pos rfl] at h; exact h
theorem mul_no (a b : Int) (w : World) (a1 : -9223372036854775808 ≤ a) (a2 : a ≤ 9223372036854775807) (b1 : -9223372036854775808 ≤ b) (b2 : b ≤ 9223372036854775807) (hf : fits (a * b) = false) :
    Calls Try.prog 20 #[.int .i64 a, .int .i64 b] w fun e w' => e = .returned (.tuple #[.int .i64 0, .bool false]) ∧ w = w' := by
  have h := mul_any a b w a1 a2 b1 b2
  unfold fit at h; rw [hf] at h; exact h
theorem neg_yes (a : Int) (w : World) (a1 : -9223372036854775808 ≤ a) (a2 : a ≤ 9223372036854775807) (hf : fits (-a) = true) :
    Calls Try.prog 22 #[.int .i64 a] w fun e w' => e = .returned (.tuple #[.int .i64 (-a), .bool true]) ∧ w = w' := by
  have h := neg_any a w a1 a2
  unfold fit at h; rw [hf, if_pos rfl] at h; exact h
theorem neg_no (a : Int) (w : World) (a1 : -9223372036854775808 ≤ a) (a2 : a ≤ 9223372036854775807) (hf : fits (-a) = false) :
    Calls Try.prog 22 #[.int .i64 a] w fun e w' => e = .returned (.tuple #[.int .i64 0, .bool false]) ∧ w = w' := by
  have h := neg_any a w a1 a2
  unfold fit at h; rw [hf] at h; exact h
theorem sub_back (a b : Int) (w : World) (a1 : -9223372036854775808 ≤ a) (a2 : a ≤ 9223372036854775807) (b1 : -9223372036854775808 ≤ b) (b2 : b ≤ 9223372036854775807) (hf : fits (a + b) = true) :
    Calls Try.prog 17 #[.int .i64 (a + b), .int .i64 b] w fun e w' => e = .returned (.tuple #[.int .i64 a, .bool true]) ∧ w = w' := by
  obtain ⟨f1, f2⟩ := fits_iff.1 hf
  have h := sub_any (a + b) b w f1 f2 b1 b2
  have e : a + b - b = a := by omega
  rw [e, fit_of a1 a2, fits_of a1 a2] at h; exact h
theorem neg_back (a : Int) (w : World) (a1 : -9223372036854775808 ≤ a) (a2 : a ≤ 9223372036854775807) (hf : fits (-a) = true) :
    Calls Try.prog 22 #[.int .i64 (-a)] w fun e w' => e = .returned (.tuple #[.int .i64 a, .bool true]) ∧ w = w' := by
  obtain ⟨f1, f2⟩ := fits_iff.1 hf
  have h := neg_any (-a) w f1 f2
  have e : - -a = a := by omega
  rw [e, fit_of a1 a2, fits_of a1 a2] at h; exact h

set_option maxHeartbeats 1000000 in
theorem numInverse_walk (a0 : Int) (a1 : Int) (w0 : (Lit.int .i64 a0).wf = true) (w1 : (Lit.int .i64 a1).wf = true) (w : World) :
    Calls Try.prog 5 #[.int .i64 a0, .int .i64 a1] w fun e w' => e = .returned (.bool true) ∧ Below w.heap.size w w' := by
  obtain ⟨x1, x2⟩ := i64_bd w0
  obtain ⟨y1, y2⟩ := i64_bd w1
  have A5 := Lib.hid (lives_any w)
  clear w0 w1
  have hq : a1 ≠ 0 → (a0 * a1).tdiv a1 = a0 := fun h => Int.mul_tdiv_cancel _ h
  have hr : (a0 * a1).tmod a1 = 0 := Int.mul_tmod_left _ _
  have hsum : fits (a0 + a1) = true ∨ fits (a0 + a1) = false := by cases fits (a0 + a1) <;> simp
  have hprod : fits (a0 * a1) = false ∨ fits (a0 * a1) = true ∧ a1 = 0 ∨ fits (a0 * a1) = true ∧ a1 ≠ 0 := by
    cases fits (a0 * a1) <;> simp
    exact Decidable.em _
  have hneg : fits (-a0) = true ∨ fits (-a0) = false := by cases fits (-a0) <;> simp
  have HQ := Lib.hid hq
  have HR := Lib.hid hr
  clear hq hr
  rcases hsum with hs | hs
  · rcases hprod with hp | ⟨hp, hz⟩ | ⟨hp, hz⟩
    · rcases hneg with hn | hn
      · have C1 := Lib.hid (add_yes a0 a1 w x1 x2 y1 y2 hs)
        have C2 := Lib.hid (sub_back a0 a1 w x1 x2 y1 y2 hs)
        have C3 := Lib.hid (mul_no a0 a1 w x1 x2 y1 y2 hp)
        have C4 := Lib.hid (neg_yes a0 w x1 x2 hn)
        have C5 := Lib.hid (neg_back a0 w x1 x2 hn)
        generalize a0 * a1 = p at *
        generalize a0 + a1 = s at *
        generalize -a0 = g at *
        clear hs hp hn HQ HR
        go_enter Try.func5, Try.ntmps5
        go_wp2_with fail
        refine C1.out.mono ?_
        rintro e w' ⟨rfl, rfl⟩
        go_wp2_with fail
        refine C2.out.mono ?_
        rintro e w' ⟨rfl, rfl⟩
        go_wp2_with fail
        refine C3.out.mono ?_
        rintro e w' ⟨rfl, rfl⟩
        go_wp2_with fail
        refine C4.out.mono ?_
        rintro e w' ⟨rfl, rfl⟩
        go_wp2_with fail
        refine C5.out.mono ?_
        rintro e w' ⟨rfl, rfl⟩
        go_wp2_with fail
        refine A5.out.mono ?_
        rintro e w2 ⟨rfl, hb⟩
        go_wp2
        go_ret
        exact ⟨rfl, hb⟩
      · have C1 := Lib.hid (add_yes a0 a1 w x1 x2 y1 y2 hs)
        have C2 := Lib.hid (sub_back a0 a1 w x1 x2 y1 y2 hs)
        have C3 := Lib.hid (mul_no a0 a1 w x1 x2 y1 y2 hp)
        have C4 := Lib.hid (neg_no a0 w x1 x2 hn)
        generalize a0 * a1 = p at *
        generalize a0 + a1 = s at *
        generalize -a0 = g at *
        clear hs hp hn HQ HR
        go_enter Try.func5, Try.ntmps5
        go_wp2_with fail
        refine C1.out.mono ?_
        rintro e w' ⟨rfl, rfl⟩
        go_wp2_with fail
        refine C2.out.mono ?_
        rintro e w' ⟨rfl, rfl⟩
        go_wp2_with fail
        refine C3.out.mono ?_
        rintro e w' ⟨rfl, rfl⟩
        go_wp2_with fail
        refine C4.out.mono ?_
        rintro e w' ⟨rfl, rfl⟩
        go_wp2_with fail
        refine A5.out.mono ?_
        rintro e w2 ⟨rfl, hb⟩
        go_wp2
        go_ret
        exact ⟨rfl, hb⟩
    · rcases hneg with hn | hn
      · have C1 := Lib.hid (add_yes a0 a1 w x1 x2 y1 y2 hs)
        have C2 := Lib.hid (sub_back a0 a1 w x1 x2 y1 y2 hs)
        have C3 := Lib.hid (mul_yes a0 a1 w x1 x2 y1 y2 hp)
        have C4 := Lib.hid (neg_yes a0 w x1 x2 hn)
        have C5 := Lib.hid (neg_back a0 w x1 x2 hn)
        have hb0 : (a1 != 0) = false := by simpa using hz
        clear hz
        generalize a0 * a1 = p at *
        generalize a0 + a1 = s at *
        generalize -a0 = g at *
        clear hs hp hn HQ HR
        go_enter Try.func5, Try.ntmps5
        go_wp2_with fail
        refine C1.out.mono ?_
        rintro e w' ⟨rfl, rfl⟩
        go_wp2_with fail
        refine C2.out.mono ?_
        rintro e w' ⟨rfl, rfl⟩
        go_wp2_with fail
        refine C3.out.mono ?_
        rintro e w' ⟨rfl, rfl⟩
        go_wp2_with fail
        refine C4.out.mono ?_
        rintro e w' ⟨rfl, rfl⟩
        go_wp2_with fail
        refine C5.out.mono ?_
        rintro e w' ⟨rfl, rfl⟩
        go_wp2_with fail
        refine A5.out.mono ?_
        rintro e w2 ⟨rfl, hb⟩
        go_wp2
        go_ret
        exact ⟨rfl, hb⟩
      · have C1 := Lib.hid (add_yes a0 a1 w x1 x2 y1 y2 hs)
        have C2 := Lib.hid (sub_back a0 a1 w x1 x2 y1 y2 hs)
        have C3 := Lib.hid (mul_yes a0 a1 w x1 x2 y1 y2 hp)
        have C4 := Lib.hid (neg_no a0 w x1 x2 hn)
        have hb0 : (a1 != 0) = false := by simpa using hz
        clear hz
        generalize a0 * a1 = p at *
        generalize a0 + a1 = s at *
        generalize -a0 = g at *
        clear hs hp hn HQ HR
        go_enter Try.func5, Try.ntmps5
        go_wp2_with fail
        refine C1.out.mono ?_
        rintro e w' ⟨rfl, rfl⟩
        go_wp2_with fail
        refine C2.out.mono ?_
        rintro e w' ⟨rfl, rfl⟩
        go_wp2_with fail
        refine C3.out.mono ?_
        rintro e w' ⟨rfl, rfl⟩
        go_wp2_with fail
        refine C4.out.mono ?_
        rintro e w' ⟨rfl, rfl⟩
        go_wp2_with fail
        refine A5.out.mono ?_
        rintro e w2 ⟨rfl, hb⟩
        go_wp2
        go_ret
        exact ⟨rfl, hb⟩
    · rcases hneg with hn | hn
      · have C1 := Lib.hid (add_yes a0 a1 w x1 x2 y1 y2 hs)
        have C2 := Lib.hid (sub_back a0 a1 w x1 x2 y1 y2 hs)
        have C3 := Lib.hid (mul_yes a0 a1 w x1 x2 y1 y2 hp)
        have C4 := Lib.hid (neg_yes a0 w x1 x2 hn)
        have C5 := Lib.hid (neg_back a0 w x1 x2 hn)
        have hb0 : (a1 != 0) = true := by simpa using hz
        obtain ⟨p1, p2⟩ := fits_iff.1 hp
        have hq := HQ.out hz
        have hr := HR.out
        have hz' : ¬ a1 = 0 := hz
        generalize a0 * a1 = p at *
        generalize a0 + a1 = s at *
        generalize -a0 = g at *
        clear hs hp hn HQ HR
        go_enter Try.func5, Try.ntmps5
        go_wp2_with fail
        refine C1.out.mono ?_
        rintro e w' ⟨rfl, rfl⟩
        go_wp2_with fail
        refine C2.out.mono ?_
        rintro e w' ⟨rfl, rfl⟩
        go_wp2_with fail
        refine C3.out.mono ?_
        rintro e w' ⟨rfl, rfl⟩
        go_wp2_with fail
        refine C4.out.mono ?_
        rintro e w' ⟨rfl, rfl⟩
        go_wp2_with fail
        refine C5.out.mono ?_
        rintro e w' ⟨rfl, rfl⟩
        go_wp2_with fail
        refine A5.out.mono ?_
        rintro e w2 ⟨rfl, hb⟩
        go_wp2
        go_ret
        exact ⟨rfl, hb⟩
      · have C1 := Lib.hid (add_yes a0 a1 w x1 x2 y1 y2 hs)
        have C2 := Lib.hid (sub_back a0 a1 w x1 x2 y1 y2 hs)
        have C3 := Lib.hid (mul_yes a0 a1 w x1 x2 y1 y2 hp)
        have C4 := Lib.hid (neg_no a0 w x1 x2 hn)
        have hb0 : (a1 != 0) = true := by simpa using hz
        obtain ⟨p1, p2⟩ := fits_iff.1 hp
        have hq := HQ.out hz
        have hr := HR.out
        have hz' : ¬ a1 = 0 := hz
        generalize a0 * a1 = p at *
        generalize a0 + a1 = s at *
        generalize -a0 = g at *
        clear hs hp hn HQ HR
        go_enter Try.func5, Try.ntmps5
        go_wp2_with fail
        refine C1.out.mono ?_
        rintro e w' ⟨rfl, rfl⟩
        go_wp2_with fail
        refine C2.out.mono ?_
        rintro e w' ⟨rfl, rfl⟩
        go_wp2_with fail
        refine C3.out.mono ?_
        rintro e w' ⟨rfl, rfl⟩
        go_wp2_with fail
        refine C4.out.mono ?_
        rintro e w' ⟨rfl, rfl⟩
        go_wp2_with fail
        refine A5.out.mono ?_
        rintro e w2 ⟨rfl, hb⟩
        go_wp2
        go_ret
        exact ⟨rfl, hb⟩
  · rcases hprod with hp | ⟨hp, hz⟩ | ⟨hp, hz⟩
    · rcases hneg with hn | hn
      · have C1 := Lib.hid (add_no a0 a1 w x1 x2 y1 y2 hs)
        have C3 := Lib.hid (mul_no a0 a1 w x1 x2 y1 y2 hp)
        have C4 := Lib.hid (neg_yes a0 w x1 x2 hn)
        have C5 := Lib.hid (neg_back a0 w x1 x2 hn)
        generalize a0 * a1 = p at *
        generalize a0 + a1 = s at *
        generalize -a0 = g at *
        clear hs hp hn HQ HR
        go_enter Try.func5, Try.ntmps5
        go_wp2_with fail
        refine C1.out.mono ?_
        rintro e w' ⟨rfl, rfl⟩
        go_wp2_with fail
        refine C3.out.mono ?_
        rintro e w' ⟨rfl, rfl⟩
        go_wp2_with fail
        refine C4.out.mono ?_
        rintro e w' ⟨rfl, rfl⟩
        go_wp2_with fail
        refine C5.out.mono ?_
        rintro e w' ⟨rfl, rfl⟩
        go_wp2_with fail
        refine A5.out.mono ?_
        rintro e w2 ⟨rfl, hb⟩
        go_wp2
        go_ret
        exact ⟨rfl, hb⟩
      · have C1 := Lib.hid (add_no a0 a1 w x1 x2 y1 y2 hs)
        have C3 := Lib.hid (mul_no a0 a1 w x1 x2 y1 y2 hp)
        have C4 := Lib.hid (neg_no a0 w x1 x2 hn)
        generalize a0 * a1 = p at *
        generalize a0 + a1 = s at *
        generalize -a0 = g at *
        clear hs hp hn HQ HR
        go_enter Try.func5, Try.ntmps5
        go_wp2_with fail
        refine C1.out.mono ?_
        rintro e w' ⟨rfl, rfl⟩
        go_wp2_with fail
        refine C3.out.mono ?_
        rintro e w' ⟨rfl, rfl⟩
        go_wp2_with fail
        refine C4.out.mono ?_
        rintro e w' ⟨rfl, rfl⟩
        go_wp2_with fail
        refine A5.out.mono ?_
        rintro e w2 ⟨rfl, hb⟩
        go_wp2
        go_ret
        exact ⟨rfl, hb⟩
    · rcases hneg with hn | hn
      · have C1 := Lib.hid (add_no a0 a1 w x1 x2 y1 y2 hs)
        have C3 := Lib.hid (mul_yes a0 a1 w x1 x2 y1 y2 hp)
        have C4 := Lib.hid (neg_yes a0 w x1 x2 hn)
        have C5 := Lib.hid (neg_back a0 w x1 x2 hn)
        have hb0 : (a1 != 0) = false := by simpa using hz
        clear hz
        generalize a0 * a1 = p at *
        generalize a0 + a1 = s at *
        generalize -a0 = g at *
        clear hs hp hn HQ HR
        go_enter Try.func5, Try.ntmps5
        go_wp2_with fail
        refine C1.out.mono ?_
        rintro e w' ⟨rfl, rfl⟩
        go_wp2_with fail
        refine C3.out.mono ?_
        rintro e w' ⟨rfl, rfl⟩
        go_wp2_with fail
        refine C4.out.mono ?_
        rintro e w' ⟨rfl, rfl⟩
        go_wp2_with fail
        refine C5.out.mono ?_
        rintro e w' ⟨rfl, rfl⟩
        go_wp2_with fail
        refine A5.out.mono ?_
        rintro e w2 ⟨rfl, hb⟩
        go_wp2
        go_ret
        exact ⟨rfl, hb⟩
      · have C1 := Lib.hid (add_no a0 a1 w x1 x2 y1 y2 hs)
        have C3 := Lib.hid (mul_yes a0 a1 w x1 x2 y1 y2 hp)
        have C4 := Lib.hid (neg_no a0 w x1 x2 hn)
        have hb0 : (a1 != 0) = false := by simpa using hz
        clear hz
        generalize a0 * a1 = p at *
        generalize a0 + a1 = s at *
        generalize -a0 = g at *
        clear hs hp hn HQ HR
        go_enter Try.func5, Try.ntmps5
        go_wp2_with fail
        refine C1.out.mono ?_
        rintro e w' ⟨rfl, rfl⟩
        go_wp2_with fail
        refine C3.out.mono ?_
        rintro e w' ⟨rfl, rfl⟩
        go_wp2_with fail
        refine C4.out.mono ?_
        rintro e w' ⟨rfl, rfl⟩
        go_wp2_with fail
        refine A5.out.mono ?_
        rintro e w2 ⟨rfl, hb⟩
        go_wp2
        go_ret
        exact ⟨rfl, hb⟩
    · rcases hneg with hn | hn
      · have C1 := Lib.hid (add_no a0 a1 w x1 x2 y1 y2 hs)
        have C3 := Lib.hid (mul_yes a0 a1 w x1 x2 y1 y2 hp)
        have C4 := Lib.hid (neg_yes a0 w x1 x2 hn)
        have C5 := Lib.hid (neg_back a0 w x1 x2 hn)
        have hb0 : (a1 != 0) = true := by simpa using hz
        obtain ⟨p1, p2⟩ := fits_iff.1 hp
        have hq := HQ.out hz
        have hr := HR.out
        have hz' : ¬ a1 = 0 := hz
        generalize a0 * a1 = p at *
        generalize a0 + a1 = s at *
        generalize -a0 = g at *
        clear hs hp hn HQ HR
        go_enter Try.func5, Try.ntmps5
        go_wp2_with fail
        refine C1.out.mono ?_
        rintro e w' ⟨rfl, rfl⟩
        go_wp2_with fail
        refine C3.out.mono ?_
        rintro e w' ⟨rfl, rfl⟩
        go_wp2_with fail
        refine C4.out.mono ?_
        rintro e w' ⟨rfl, rfl⟩
        go_wp2_with fail
        refine C5.out.mono ?_
        rintro e w' ⟨rfl, rfl⟩
        go_wp2_with fail
        refine A5.out.mono ?_
        rintro e w2 ⟨rfl, hb⟩
        go_wp2
        go_ret
        exact ⟨rfl, hb⟩
      · have C1 := Lib.hid (add_no a0 a1 w x1 x2 y1 y2 hs)
        have C3 := Lib.hid (mul_yes a0 a1 w x1 x2 y1 y2 hp)
        have C4 := Lib.hid (neg_no a0 w x1 x2 hn)
        have hb0 : (a1 != 0) = true := by simpa using hz
        obtain ⟨p1, p2⟩ := fits_iff.1 hp
        have hq := HQ.out hz
        have hr := HR.out
        have hz' : ¬ a1 = 0 := hz
        generalize a0 * a1 = p at *
        generalize a0 + a1 = s at *
        generalize -a0 = g at *
        clear hs hp hn HQ HR
        go_enter Try.func5, Try.ntmps5
        go_wp2_with fail
        refine C1.out.mono ?_
        rintro e w' ⟨rfl, rfl⟩
        go_wp2_with fail
        refine C3.out.mono ?_
        rintro e w' ⟨rfl, rfl⟩
        go_wp2_with fail
        refine C4.out.mono ?_
        rintro e w' ⟨rfl, rfl⟩
        go_wp2_with fail
        refine A5.out.mono ?_
        rintro e w2 ⟨rfl, hb⟩
        go_wp2
        go_ret
        exact ⟨rfl, hb⟩

set_option maxHeartbeats 400000 in
theorem numTexts_walk (a0 : Int) (w0 : (Lit.int .i64 a0).wf = true) (w : World) :
    Calls Try.prog 9 #[.int .i64 a0] w fun e w' => e = .returned (.bool true) ∧ Below w.heap.size w w' := by
  obtain ⟨x1, x2⟩ := i64_bd w0
  have A1 := Lib.hid (text_any a0 w x1 x2)
  have A2 := Lib.hid (fun W : World => parse_is (textS a0) (-9223372036854775808) 9223372036854775807 W (by rw [textS_size]; have := text_len x1 x2; unfold maxLen; omega) _ _ (parse_text x1 x2))
  have A3 := Lib.hid (fun W : World => rText_any a0 W x1 x2)
  have A5 := Lib.hid (fun W : World => lives_any W)
  clear w0 x1 x2
  generalize textS a0 = S at *
  go_enter Try.func9, Try.ntmps9
  go_wp2_with fail
  refine A1.out.mono ?_
  rintro e w1 ⟨rfl, hb1⟩
  go_wp2_with fail
  refine (A2.out _).mono ?_
  rintro e w' ⟨rfl, rfl⟩
  go_wp2_with fail
  refine (A3.out _).mono ?_
  rintro e w' ⟨rfl, rfl⟩
  go_wp2_with fail
  refine (A5.out _).mono ?_
  rintro e w2 ⟨rfl, hb⟩
  go_wp2
  go_ret
  exact ⟨rfl, hb1.trans (hb.mono hb1.size)⟩

set_option maxHeartbeats 400000 in
theorem numParses_walk (a0 : ByteArray) (a1 : Int) (a2 : Int) (w0 : a0.size ≤ maxLen) (w1 : (Lit.int .i64 a1).wf = true) (w2 : (Lit.int .i64 a2).wf = true) (w : World) :
    Calls Try.prog 10 #[.string a0, .int .i64 a1, .int .i64 a2] w fun e w' => e = .returned (.bool true) ∧ Below w.heap.size w w' := by
  have A1 := Lib.hid (parse_any a0 a1 a2 w w0)
  have A2 := Lib.hid (rParse_any a0 a1 a2 w w0)
  have A5 := Lib.hid (lives_any w)
  unfold maxLen at w0
  have hbd : -9223372036854775808 ≤ (parseV a0 a1 a2).2 ∧ (parseV a0 a1 a2).2 ≤ 9223372036854775807 := by
    unfold parseV parseD; split
    · simp
    · split <;> simp
  obtain ⟨e1, e2⟩ := hbd
  generalize (parseV a0 a1 a2).1 = v at *
  generalize (parseV a0 a1 a2).2 = r at *
  clear w1 w2
  by_cases h : 400 < a0.size
  · go_enter Try.func10, Try.ntmps10
    go_wp2
    go_ret
    exact ⟨rfl, Below.refl _ _⟩
  · go_enter Try.func10, Try.ntmps10
    go_wp2_with fail
    refine A1.out.mono ?_
    rintro e w' ⟨rfl, rfl⟩
    go_wp2_with fail
    refine A2.out.mono ?_
    rintro e w' ⟨rfl, rfl⟩
    go_wp2_with fail
    refine A5.out.mono ?_
    rintro e w2 ⟨rfl, hb⟩
    go_wp2
    go_ret
    exact ⟨rfl, hb⟩
end Go.Proofs.Ytbmggfeneieglaa
