/- The laws MuldivReference and MuldivCompares return true, for all integers of 64 bits. -/
import Derived.Test.YtbmggfeneieglaaMdL
namespace Go.Proofs.Ytbmggfeneieglaa
open Go.RowKit
set_option linter.unusedVariables false

set_option maxHeartbeats 400000 in
theorem is_any (n e m f : Int) (w : World) (h : n = m) (k : e = f) (e1 : -9223372036854775808 ≤ e) (e2 : e ≤ 9223372036854775807) :
    Calls Try.prog 38 #[.int .i64 n, .int .i64 e, .int .i64 m, .int .i64 f] w fun r w' => r = .returned (.bool true) ∧ w = w' := by
  subst h k
  go_enter Try.func38, Try.ntmps38
  go_wp2
  go_ret
  exact ⟨rfl, rfl⟩
theorem mdV_code (a b c mode : Int) : 0 ≤ (mdV a b c mode).2 ∧ (mdV a b c mode).2 ≤ 10 := by
  unfold mdV mdW sgV; repeat' split
  all_goals simp
theorem moV_code (a b c : Int) : 0 ≤ (moV a b c).2 ∧ (moV a b c).2 ≤ 10 := by
  unfold moV; split <;> simp

set_option maxRecDepth 100000 in
set_option maxHeartbeats 2000000 in
theorem muldivReference_core (a b c d : Int) (a1 : -9223372036854775808 ≤ a) (a2 : a ≤ 9223372036854775807) (b1 : -9223372036854775808 ≤ b) (b2 : b ≤ 9223372036854775807) (c1 : -9223372036854775808 ≤ c) (c2 : c ≤ 9223372036854775807) (d1 : -9223372036854775808 ≤ d) (d2 : d ≤ 9223372036854775807) (w : World) :
    Calls Try.prog 11 #[.agg #[.int .i64 a, .int .i64 b, .int .i64 c, .int .i64 d]] w fun e w' => e = .returned (.bool true) ∧ Below w.heap.size w w' := by
  have C1 := Lib.hid (fun W => div_any a c d W a1 a2 c1 c2)
  have C2 := Lib.hid (fun W => rDiv_any a c d W a1 a2 c1 c2)
  have C3 := Lib.hid (fun W => mulDiv_any a b c d W a1 a2 b1 b2 c1 c2)
  have C4 := Lib.hid (fun W => rMulDiv_any a b c d W a1 a2 b1 b2 c1 c2)
  have C5 := Lib.hid (fun W => mod_any a b c W a1 a2 b1 b2 c1 c2)
  have C6 := Lib.hid (fun W => rMod_any a b c W a1 a2 b1 b2 c1 c2)
  have C7 := Lib.hid (fun W => lives2_any W)
  obtain ⟨p1, p2⟩ := mdV_code a 1 c d
  obtain ⟨q1, q2⟩ := mdV_code a b c d
  obtain ⟨r1, r2⟩ := moV_code a b c
  have I1 := Lib.hid (fun W => is_any (mdV a 1 c d).1 (mdV a 1 c d).2 _ _ W rfl rfl (by omega) (by omega))
  have I2 := Lib.hid (fun W => is_any (mdV a b c d).1 (mdV a b c d).2 _ _ W rfl rfl (by omega) (by omega))
  have I3 := Lib.hid (fun W => is_any (moV a b c).1 (moV a b c).2 _ _ W rfl rfl (by omega) (by omega))
  generalize (mdV a 1 c d).1 = v1 at *
  generalize (mdV a 1 c d).2 = v2 at *
  generalize (mdV a b c d).1 = v3 at *
  generalize (mdV a b c d).2 = v4 at *
  generalize (moV a b c).1 = v5 at *
  generalize (moV a b c).2 = v6 at *
  clear a1 a2 b1 b2 c1 c2 d1 d2
  go_enter Try.func11, Try.ntmps11
  go_wp2_with fail
  refine (C1.out _).mono ?_
  rintro e w1 ⟨rfl, h1⟩
  obtain ⟨hc1, hf1⟩ := bcell h1
  go_wp2_with fail
  refine (C2.out _).mono ?_
  rintro e w' ⟨rfl, rfl⟩
  go_wp2_with fail
  refine (C3.out _).mono ?_
  rintro e w2 ⟨rfl, h2⟩
  have g2 := below_next h1 h1.size h2
  clear h2 hc1 hf1
  obtain ⟨hc2, hf2⟩ := bcell g2
  go_wp2_with fail
  refine (C4.out _).mono ?_
  rintro e w' ⟨rfl, rfl⟩
  go_wp2_with fail
  refine (C5.out _).mono ?_
  rintro e w3 ⟨rfl, h3⟩
  have g3 := below_next g2 g2.size h3
  clear h3 hc2 hf2
  obtain ⟨hc3, hf3⟩ := bcell g3
  go_wp2_with fail
  refine (C6.out _).mono ?_
  rintro e w' ⟨rfl, rfl⟩
  go_wp2_with fail
  refine (I1.out _).mono ?_
  rintro e w' ⟨rfl, rfl⟩
  go_wp2_with fail
  refine (I2.out _).mono ?_
  rintro e w' ⟨rfl, rfl⟩
  go_wp2_with fail
  refine (I3.out _).mono ?_
  rintro e w' ⟨rfl, rfl⟩
  go_wp2_with fail
  refine (C7.out _).mono ?_
  rintro e w4 ⟨rfl, h4⟩
  have g4 := below_next g3 g3.size h4
  go_wp2
  go_ret
  exact ⟨rfl, ((Below.refl _ _).alloc (Nat.le_refl _) _).trans (g4.mono (by simp))⟩

theorem cmpI_swap (M N : Int) : cmpI N M = -cmpI M N := by
  unfold cmpI; repeat' split
  all_goals omega
theorem cmpI_self (M : Int) : cmpI M M = 0 := by unfold cmpI; simp

set_option maxRecDepth 100000 in
set_option maxHeartbeats 2000000 in
theorem muldivCompares_core (a b c d : Int) (a1 : -9223372036854775808 ≤ a) (a2 : a ≤ 9223372036854775807) (b1 : -9223372036854775808 ≤ b) (b2 : b ≤ 9223372036854775807) (c1 : -9223372036854775808 ≤ c) (c2 : c ≤ 9223372036854775807) (d1 : -9223372036854775808 ≤ d) (d2 : d ≤ 9223372036854775807) (w : World) :
    Calls Try.prog 12 #[.agg #[.int .i64 a, .int .i64 b, .int .i64 c, .int .i64 d]] w fun e w' => e = .returned (.bool true) ∧ Below w.heap.size w w' := by
  have C1 := Lib.hid (fun W => cmp_any a b c d W a1 a2 b1 b2 c1 c2 d1 d2)
  have C2 := Lib.hid (fun W => cmp_is c d a b W c1 c2 d1 d2 a1 a2 b1 b2 _ (cmpI_swap (a * b) (c * d)))
  have C3 := Lib.hid (fun W => cmp_is a b b a W a1 a2 b1 b2 b1 b2 a1 a2 0 (by rw [Int.mul_comm b a]; exact cmpI_self _))
  have C4 := Lib.hid (fun W => rCmp_any a b c d W a1 a2 b1 b2 c1 c2 d1 d2)
  have C7 := Lib.hid (fun W => lives2_any W)
  obtain ⟨s1, s2⟩ := cmpI_bd (a * b) (c * d)
  generalize cmpI (a * b) (c * d) = s at *
  have k1 : (-s != -s) = false := by simp
  clear a1 a2 b1 b2 c1 c2 d1 d2
  go_enter Try.func12, Try.ntmps12
  go_wp2_with fail
  refine (C1.out _).mono ?_
  rintro e w1 ⟨rfl, h1⟩
  obtain ⟨hc1, hf1⟩ := bcell h1
  go_wp2_with fail
  refine (C2.out _).mono ?_
  rintro e w2 ⟨rfl, h2⟩
  have g2 := below_next h1 h1.size h2
  clear h2 hc1 hf1
  obtain ⟨hc2, hf2⟩ := bcell g2
  go_wp2_with fail
  refine (C3.out _).mono ?_
  rintro e w3 ⟨rfl, h3⟩
  have g3 := below_next g2 g2.size h3
  clear h3 hc2 hf2
  obtain ⟨hc3, hf3⟩ := bcell g3
  go_wp2_with fail
  refine (C4.out _).mono ?_
  rintro e w' ⟨rfl, rfl⟩
  go_wp2_with fail
  refine (C7.out _).mono ?_
  rintro e w4 ⟨rfl, h4⟩
  have g4 := below_next g3 g3.size h4
  go_wp2
  go_ret
  exact ⟨rfl, ((Below.refl _ _).alloc (Nat.le_refl _) _).trans (g4.mono (by simp))⟩

theorem i64_range {a : Int} (h : (Lit.int .i64 a).wf = true) : -9223372036854775808 ≤ a ∧ a ≤ 9223372036854775807 := by
  simp [Lit.wf, IntKind.min, IntKind.max, IntKind.signed, IntKind.bits] at h; omega
theorem muldivReference_walk (a b c d : Int) (w : World) (wa : (Lit.int .i64 a).wf = true) (wb : (Lit.int .i64 b).wf = true) (wc : (Lit.int .i64 c).wf = true) (wd : (Lit.int .i64 d).wf = true) :
    Calls Try.prog 11 #[.agg #[.int .i64 a, .int .i64 b, .int .i64 c, .int .i64 d]] w fun e w' => e = .returned (.bool true) ∧ Below w.heap.size w w' :=
  muldivReference_core a b c d (i64_range wa).1 (i64_range wa).2 (i64_range wb).1 (i64_range wb).2 (i64_range wc).1 (i64_range wc).2 (i64_range wd).1 (i64_range wd).2 w
theorem muldivCompares_walk (a b c d : Int) (w : World) (wa : (Lit.int .i64 a).wf = true) (wb : (Lit.int .i64 b).wf = true) (wc : (Lit.int .i64 c).wf = true) (wd : (Lit.int .i64 d).wf = true) :
    Calls Try.prog 12 #[.agg #[.int .i64 a, .int .i64 b, .int .i64 c, .int .i64 d]] w fun e w' => e = .returned (.bool true) ∧ Below w.heap.size w w' :=
  muldivCompares_core a b c d (i64_range wa).1 (i64_range wa).2 (i64_range wb).1 (i64_range wb).2 (i64_range wc).1 (i64_range wc).2 (i64_range wd).1 (i64_range wd).2 w
end Go.Proofs.Ytbmggfeneieglaa
