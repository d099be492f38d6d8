/- What magnitude, sign, productSign, product, compare, divide, roundsUp and signed of package muldiv return. -/
import Derived.Test.YtmehihfdfpnfjaaDiv64
namespace Go.Proofs.Ytmehihfdfpnfjaa
open Go.RowKit
set_option linter.unusedVariables false

theorem ret_one {k : IntKind} {a b : Int} (h : a = b) : Ending.returned (.int k a) = .returned (.int k b) := by rw [h]
/-- the absolute value. -/
def absI (a : Int) : Int := if a < 0 then -a else a
theorem absI_neg {a : Int} (h : a < 0) : absI a = -a := by unfold absI; rw [if_pos h]
theorem absI_pos {a : Int} (h : ¬ a < 0) : absI a = a := by unfold absI; rw [if_neg h]
theorem absI_bd {a : Int} (a1 : -9223372036854775808 ≤ a) (a2 : a ≤ 9223372036854775807) : 0 ≤ absI a ∧ absI a ≤ 9223372036854775808 := by
  unfold absI; split <;> omega
/-- -1, 0 or 1, as a compares with b. -/
def cmpI (a b : Int) : Int := if a < b then -1 else if b < a then 1 else 0
theorem cmpI_bd (a b : Int) : -1 ≤ cmpI a b ∧ cmpI a b ≤ 1 := by unfold cmpI; split <;> (try split) <;> omega

set_option maxHeartbeats 400000 in
theorem mdMagnitude_any (a : Int) (w : World) (a1 : -9223372036854775808 ≤ a) (a2 : a ≤ 9223372036854775807) :
    Calls Try.prog 55 #[.int .i64 a] w fun e w' => e = .returned (.int .u64 (absI a)) ∧ w = w' := by
  by_cases h : a < 0
  · have e : IntKind.u64.wrap (-IntKind.u64.wrap a) = -a := by simp only [IntKind.wrap_u64]; omega
    rw [absI_neg h]
    go_enter Try.func55, Try.ntmps55
    go_wp2
    go_ret
    exact ⟨rfl, rfl⟩
  · rw [absI_pos h]
    go_enter Try.func55, Try.ntmps55
    go_wp2
    go_ret
    exact ⟨rfl, rfl⟩

set_option maxHeartbeats 400000 in
theorem compareI_any (a b : Int) (w : World) :
    Calls Try.prog 68 #[.int .i64 a, .int .i64 b] w fun e w' => e = .returned (.int .i64 (cmpI a b)) ∧ w = w' := by
  unfold cmpI
  by_cases h : a < b
  · rw [if_pos h]
    go_enter Try.func68, Try.ntmps68
    go_wp2
    go_ret
    exact ⟨rfl, rfl⟩
  · rw [if_neg h]
    by_cases h2 : b < a
    · rw [if_pos h2]
      go_enter Try.func68, Try.ntmps68
      go_wp2
      go_ret
      exact ⟨rfl, rfl⟩
    · rw [if_neg h2]
      go_enter Try.func68, Try.ntmps68
      go_wp2
      go_ret
      exact ⟨rfl, rfl⟩

set_option maxHeartbeats 400000 in
theorem compareU_any (a b : Int) (w : World) :
    Calls Try.prog 69 #[.int .u64 a, .int .u64 b] w fun e w' => e = .returned (.int .i64 (cmpI a b)) ∧ w = w' := by
  unfold cmpI
  by_cases h : a < b
  · rw [if_pos h]
    go_enter Try.func69, Try.ntmps69
    go_wp2
    go_ret
    exact ⟨rfl, rfl⟩
  · rw [if_neg h]
    by_cases h2 : b < a
    · rw [if_pos h2]
      go_enter Try.func69, Try.ntmps69
      go_wp2
      go_ret
      exact ⟨rfl, rfl⟩
    · rw [if_neg h2]
      go_enter Try.func69, Try.ntmps69
      go_wp2
      go_ret
      exact ⟨rfl, rfl⟩

set_option maxHeartbeats 400000 in
theorem sign_any (a : Int) (w : World) :
    Calls Try.prog 59 #[.int .i64 a] w fun e w' => e = .returned (.int .i64 (cmpI a 0)) ∧ w = w' := by
  have H := Lib.hid (compareI_any a 0 w)
  go_enter Try.func59, Try.ntmps59
  go_wp2_with fail
  refine H.out.mono ?_
  rintro e w' ⟨rfl, rfl⟩
  go_wp2
  go_ret
  exact ⟨rfl, rfl⟩
theorem cmp_mul_bd (a b : Int) : -1 ≤ cmpI a 0 * cmpI b 0 ∧ cmpI a 0 * cmpI b 0 ≤ 1 := by
  unfold cmpI; repeat' split
  all_goals omega
set_option maxHeartbeats 400000 in
theorem productSign_any (a b : Int) (w : World) :
    Calls Try.prog 58 #[.int .i64 a, .int .i64 b] w fun e w' => e = .returned (.int .i64 (cmpI a 0 * cmpI b 0)) ∧ w = w' := by
  have H := Lib.hid (sign_any a w)
  have H2 := Lib.hid (sign_any b w)
  obtain ⟨p1, p2⟩ := cmp_mul_bd a b
  generalize cmpI a 0 = s at *
  generalize cmpI b 0 = t at *
  go_enter Try.func58, Try.ntmps58
  go_wp2_with fail
  refine H.out.mono ?_
  rintro e w' ⟨rfl, rfl⟩
  go_wp2_with fail
  refine H2.out.mono ?_
  rintro e w' ⟨rfl, rfl⟩
  go_wp2
  go_ret
  exact ⟨rfl, rfl⟩

set_option maxHeartbeats 400000 in
theorem product_any (a b : Int) (w : World) (a1 : -9223372036854775808 ≤ a) (a2 : a ≤ 9223372036854775807) (b1 : -9223372036854775808 ≤ b) (b2 : b ≤ 9223372036854775807) :
    Calls Try.prog 57 #[.int .i64 a, .int .i64 b] w fun e w' => e = .returned (.agg #[.int .u64 (absI a * absI b / 18446744073709551616), .int .u64 (absI a * absI b % 18446744073709551616)]) ∧ Below w.heap.size w w' := by
  obtain ⟨x0, x1⟩ := absI_bd a1 a2
  obtain ⟨y0, y1⟩ := absI_bd b1 b2
  have H1 := Lib.hid (fun W => mdMagnitude_any a W a1 a2)
  have H2 := Lib.hid (fun W => mdMagnitude_any b W b1 b2)
  have H3 := Lib.hid (fun W => mul64_any (absI a) (absI b) W x0 (by omega) y0 (by omega))
  generalize absI a * absI b / 18446744073709551616 = h at *
  generalize absI a * absI b % 18446744073709551616 = l at *
  generalize absI a = x at *
  generalize absI b = y at *
  go_enter Try.func57, Try.ntmps57
  go_wp2_with fail
  refine (H1.out _).mono ?_
  rintro e w' ⟨rfl, rfl⟩
  go_wp2_with fail
  refine (H2.out _).mono ?_
  rintro e w' ⟨rfl, rfl⟩
  go_wp2_with fail
  refine (H3.out _).mono ?_
  rintro e w' ⟨rfl, rfl⟩
  go_wp2
  exact bodyPost_ret (v := .agg #[.int .u64 h, .int .u64 l]) (by simp [results, Try.results57, go_sem]) rfl ⟨rfl, by repeat (first | exact Below.refl _ _ | exact (Below.refl _ _).alloc (Nat.le_refl _) _)⟩

theorem bcell {W w1 : World} (hb : Below W.heap.size W w1) : (∀ b o, b < W.heap.size → w1.cell? ⟨b, o, none⟩ = W.cell? ⟨b, o, none⟩) ∧ (∀ b o, b < W.heap.size → w1.frozen? ⟨b, o, none⟩ = W.frozen? ⟨b, o, none⟩) :=
  ⟨fun b o h => hb.cell (p := ⟨b, o, none⟩) h, fun b o h => hb.frozen (p := ⟨b, o, none⟩) h⟩
/-- block g holds just the two values a and b, and may be written. -/
def Two (w : World) (g : Nat) (t : TypeId) (a b : Value) : Prop := w.heap[g]? = some (.cells #[a, b] t (0, 0))
theorem Two.c0 {w : World} {g : Nat} {t : TypeId} {a b : Value} (h : Two w g t a b) : w.cell? ⟨g, 0, none⟩ = some a := by
  rw [cell_of_row w g 0 _ t (0, 0) h]; rfl
theorem Two.c1 {w : World} {g : Nat} {t : TypeId} {a b : Value} (h : Two w g t a b) : w.cell? ⟨g, 1, none⟩ = some b := by
  rw [cell_of_row w g 1 _ t (0, 0) h]; rfl
theorem Two.set0 {w : World} {g : Nat} {t : TypeId} {a b : Value} (h : Two w g t a b) (u : Value) : Two (w.setCell ⟨g, 0, none⟩ u) g t u b := by
  unfold Two at h ⊢; simp [World.setCell, Array.getElem?_modify, h]
theorem Two.set1 {w : World} {g : Nat} {t : TypeId} {a b : Value} (h : Two w g t a b) (u : Value) : Two (w.setCell ⟨g, 1, none⟩ u) g t a u := by
  unfold Two at h ⊢; simp [World.setCell, Array.getElem?_modify, h]
theorem Two.below {B : Nat} {w w' : World} {g : Nat} {t : TypeId} {a b : Value} (h : Two w g t a b) (hb : Below B w w') (hg : g < B) : Two w' g t a b := (hb.block g hg).trans h
theorem Two.new (w : World) (t : TypeId) (a b : Value) : Two (w.alloc (.cells #[a, b] t)) w.heap.size t a b := heap_alloc_new w _
theorem Two.new2 (w : World) (o : Obj) (t : TypeId) (a b : Value) : Two ((w.alloc o).alloc (.cells #[a, b] t)) (w.heap.size + 1) t a b := by
  have h := Two.new (w.alloc o) t a b
  have e : (w.alloc o).heap.size = w.heap.size + 1 := by simp
  rw [e] at h; exact h
theorem divide_results {tmps : Array Value} {W : World} {g : Nat} {a b : Value} {r : Value} (h4 : tmps[4]?.getD undef = .pointer (some ⟨g, 0, none⟩)) (h5 : tmps[5]?.getD undef = r) (c0 : W.cell? ⟨g, 0, none⟩ = some a) (c1 : W.cell? ⟨g, 1, none⟩ = some b) :
    (results Try.f56 tmps).run Try.prog W = .ok (.tuple #[.agg #[a, b], r]) W := by
  simp [results, Try.results56, go_sem, h4, h5, c0, c1]
/-- the quotient's two words and the remainder of the long division. -/
def DivRes (h l d : Int) (w : World) (e : Ending) (w' : World) : Prop := e = .returned (.tuple #[.agg #[.int .u64 (h / d), .int .u64 ((h % d * 18446744073709551616 + l) / d)], .int .u64 ((h % d * 18446744073709551616 + l) % d)]) ∧ Below w.heap.size w w'
theorem divRes_of {h l d q1 q0 r : Int} {w w' : World} (e1 : q1 = h / d) (e2 : q0 = (h % d * 18446744073709551616 + l) / d) (e3 : r = (h % d * 18446744073709551616 + l) % d) (hb : Below w.heap.size w w') :
    DivRes h l d w (.returned (.tuple #[.agg #[.int .u64 q1, .int .u64 q0], .int .u64 r])) w' := by
  subst e1 e2 e3; exact ⟨rfl, hb⟩

set_option maxHeartbeats 1000000 in
theorem divide_a (h l d : Int) (w : World) (h0 : 0 ≤ h) (hd : h < d) (l0 : 0 ≤ l) (l1 : l ≤ 18446744073709551615) (d1 : d ≤ 18446744073709551615) :
    Calls Try.prog 56 #[.agg #[.int .u64 h, .int .u64 l], .int .u64 d] w (DivRes h l d w) := by
  have b1 : decide (h < d) = true := by simpa using hd
  have i0 : ∀ w, (Instr.index 75 (.agg #[.int .u64 h, .int .u64 l]) (.int .i64 0)).run Try.prog w = .ok (.int .u64 h) w := fun _ => by kernel_rfl
  have i1 : ∀ w, (Instr.index 75 (.agg #[.int .u64 h, .int .u64 l]) (.int .i64 1)).run Try.prog w = .ok (.int .u64 l) w := fun _ => by kernel_rfl
  have e1 : h / d = 0 := Int.ediv_eq_zero_of_lt h0 hd
  have e2 : h % d = h := Int.emod_eq_of_lt h0 hd
  have E1 := Lib.hid e1
  have E2 := Lib.hid e2
  clear e1 e2
  by_cases hz : h = 0 ∧ l < d
  · obtain ⟨rfl, hl⟩ := hz
    have b2 : decide (l < d) = true := by simpa using hl
    go_enter Try.func56, Try.ntmps56
    go_wp2
    go_step3
    go_wp2
    go_step3
    go_wp2
    refine wp_loop_rounds 3 ?_
    rw [rounds_succ]
    go_wp2_with fail
    rw [rounds_succ]
    go_wp2_with fail
    rw [rounds_succ]
    go_wp2_with fail
    rw [Exit.noGoto_ret]
    exact bodyPost_ret (v := .tuple #[.agg #[.int .u64 0, .int .u64 0], .int .u64 l]) (by simp [results, Try.results56, go_sem]) rfl (divRes_of E1.out.symm (by rw [E2.out, Int.zero_mul, Int.zero_add, Int.ediv_eq_zero_of_lt l0 hl]) (by rw [E2.out, Int.zero_mul, Int.zero_add, Int.emod_eq_of_lt l0 hl]) (((Below.refl _ _).alloc (Nat.le_refl _) _).alloc (by simp) _))
  · have hc : (h == 0) = false ∨ (h == 0) = true ∧ decide (l < d) = false := by
      by_cases e : h = 0
      · right; exact ⟨by simpa using e, by simp; omega⟩
      · left; simpa using e
    clear hz
    have HD := Lib.hid (fun W => div64_any h l d W h0 hd d1 l0 l1)
    generalize hq : (h * 18446744073709551616 + l) / d = q at *
    generalize hr : (h * 18446744073709551616 + l) % d = r at *
    have HQ := Lib.hid hq
    have HR := Lib.hid hr
    clear hq hr
    rcases hc with hc | ⟨hc, hc2⟩
    all_goals
      go_enter Try.func56, Try.ntmps56
      go_wp2
      go_step3
      go_wp2
      go_step3
      go_wp2
      refine wp_loop_rounds 3 ?_
      rw [rounds_succ]
      go_wp2_with fail
      rw [rounds_succ]
      go_wp2_with fail
      refine (HD.out _).mono ?_
      rintro e w1 ⟨rfl, hb⟩
      obtain ⟨hcl, hfz⟩ := bcell hb
      have hsz : w.heap.size + 1 < w1.heap.size := by have := hb.size; simp at this; omega
      have hbw : Below w.heap.size w w1 := (((Below.refl _ _).alloc (Nat.le_refl _) _).alloc (by simp) _).trans (hb.mono (by simp; omega))
      go_wp2_with fail
      rw [rounds_succ]
      go_wp2_with fail
      rw [Exit.noGoto_ret]
      have t1 : Two w1 (w.heap.size + 1) 75 (.int .u64 0) (.int .u64 0) := (Two.new2 w (.cells #[.int .u64 h, .int .u64 l] 75) 75 (.int .u64 0) (.int .u64 0)).below hb (by simp)
      have t2 := ((t1.set1 (.int .u64 q)).set0 (.int .u64 0)).set1 (.int .u64 q)
      exact bodyPost_ret (divide_results rfl rfl t2.c0 t2.c1) rfl (divRes_of E1.out.symm (by rw [E2.out, HQ.out]) (by rw [E2.out, HR.out]) (by repeat (first | exact hbw | refine Below.setCell ?_ (by simp) _)))

set_option maxHeartbeats 1000000 in
theorem divide_b (h l d : Int) (w : World) (hd : d ≤ h) (h1 : h ≤ 18446744073709551615) (l0 : 0 ≤ l) (l1 : l ≤ 18446744073709551615) (d0 : 0 < d) :
    Calls Try.prog 56 #[.agg #[.int .u64 h, .int .u64 l], .int .u64 d] w (DivRes h l d w) := by
  have b1 : decide (h < d) = false := by simpa using hd
  have i0 : ∀ w, (Instr.index 75 (.agg #[.int .u64 h, .int .u64 l]) (.int .i64 0)).run Try.prog w = .ok (.int .u64 h) w := fun _ => by kernel_rfl
  have i1 : ∀ w, (Instr.index 75 (.agg #[.int .u64 h, .int .u64 l]) (.int .i64 1)).run Try.prog w = .ok (.int .u64 l) w := fun _ => by kernel_rfl
  have m0 : 0 ≤ h % d := Int.emod_nonneg h (by omega)
  have m1 : h % d < d := Int.emod_lt_of_pos h d0
  have HD0 := Lib.hid (fun W => div64_any 0 h d W (by omega) d0 (by omega) (by omega) h1)
  rw [Int.zero_mul, Int.zero_add] at HD0
  have HD := Lib.hid (fun W => div64_any (h % d) l d W m0 m1 (by omega) l0 l1)
  have hc : ((h % d == 0) = true ∧ decide (l < d) = true) ∨ (h % d == 0) = false ∨ (h % d == 0) = true ∧ decide (l < d) = false := by
    by_cases e : h % d = 0
    · by_cases k : l < d
      · left; exact ⟨by simpa using e, by simpa using k⟩
      · right; right; exact ⟨by simpa using e, by simpa using k⟩
    · right; left; simpa using e
  have hres : (h % d == 0) = true ∧ decide (l < d) = true → 0 = (h % d * 18446744073709551616 + l) / d ∧ l = (h % d * 18446744073709551616 + l) % d := by
    rintro ⟨k1, k2⟩
    have e : h % d = 0 := by simpa using k1
    have k : l < d := by simpa using k2
    rw [e, Int.zero_mul, Int.zero_add]
    exact ⟨(Int.ediv_eq_zero_of_lt l0 k).symm, (Int.emod_eq_of_lt l0 k).symm⟩
  have HRes := Lib.hid hres
  clear hres
  generalize hq : (h % d * 18446744073709551616 + l) / d = q at *
  generalize hr : (h % d * 18446744073709551616 + l) % d = r at *
  have HQ := Lib.hid hq
  have HR := Lib.hid hr
  clear hq hr
  generalize hm : h % d = m at *
  have HM := Lib.hid hm
  generalize hp : h / d = p at *
  have HP := Lib.hid hp
  clear hm hp
  rcases hc with ⟨hc, hc2⟩ | hc | ⟨hc, hc2⟩
  · have HZ := Lib.hid (HRes.out ⟨hc, hc2⟩)
    go_enter Try.func56, Try.ntmps56
    go_wp2
    go_step3
    go_wp2
    go_step3
    go_wp2
    refine wp_loop_rounds 3 ?_
    rw [rounds_succ]
    go_wp2_with fail
    refine (HD0.out _).mono ?_
    rintro e w1 ⟨rfl, hb⟩
    obtain ⟨hcl, hfz⟩ := bcell hb
    have hsz : w.heap.size + 1 < w1.heap.size := by have := hb.size; simp at this; omega
    have hbw : Below w.heap.size w w1 := (((Below.refl _ _).alloc (Nat.le_refl _) _).alloc (by simp) _).trans (hb.mono (by simp; omega))
    go_wp2_with fail
    rw [rounds_succ]
    go_wp2_with fail
    rw [rounds_succ]
    go_wp2_with fail
    rw [Exit.noGoto_ret]
    have t1 : Two w1 (w.heap.size + 1) 75 (.int .u64 0) (.int .u64 0) := (Two.new2 w (.cells #[.int .u64 h, .int .u64 l] 75) 75 (.int .u64 0) (.int .u64 0)).below hb (by simp)
    have t2 := ((t1.set0 (.int .u64 p)).set0 (.int .u64 p)).set1 (.int .u64 0)
    refine bodyPost_ret (divide_results rfl rfl t2.c0 t2.c1) rfl (divRes_of HP.out.symm ?_ ?_ (by repeat (first | exact hbw | refine Below.setCell ?_ (by simp) _)))
    · rw [HM.out, HQ.out]; exact HZ.out.1
    · rw [HM.out, HR.out]; exact HZ.out.2
  all_goals
    go_enter Try.func56, Try.ntmps56
    go_wp2
    go_step3
    go_wp2
    go_step3
    go_wp2
    refine wp_loop_rounds 3 ?_
    rw [rounds_succ]
    go_wp2_with fail
    refine (HD0.out _).mono ?_
    rintro e w1 ⟨rfl, hb⟩
    obtain ⟨hcl, hfz⟩ := bcell hb
    have hsz : w.heap.size + 1 < w1.heap.size := by have := hb.size; simp at this; omega
    have hbw : Below w.heap.size w w1 := (((Below.refl _ _).alloc (Nat.le_refl _) _).alloc (by simp) _).trans (hb.mono (by simp; omega))
    go_wp2_with fail
    rw [rounds_succ]
    go_wp2_with fail
    refine (HD.out _).mono ?_
    rintro e w2 ⟨rfl, hb2⟩
    obtain ⟨hcl2, hfz2⟩ := bcell hb2
    have hsz2 : w.heap.size + 1 < w2.heap.size := by have := hb2.size; simp at this; omega
    go_wp2_with fail
    rw [rounds_succ]
    go_wp2_with fail
    rw [Exit.noGoto_ret]
    have t1 : Two w1 (w.heap.size + 1) 75 (.int .u64 0) (.int .u64 0) := (Two.new2 w (.cells #[.int .u64 h, .int .u64 l] 75) 75 (.int .u64 0) (.int .u64 0)).below hb (by simp)
    have t2 := (t1.set0 (.int .u64 p)).below hb2 (by simp; omega)
    have t3 := ((t2.set1 (.int .u64 q)).set0 (.int .u64 p)).set1 (.int .u64 q)
    have hbw2 : Below w.heap.size w w2 := (hbw.setCell (by simp) _).trans (hb2.mono (by simp; omega))
    exact bodyPost_ret (divide_results rfl rfl t3.c0 t3.c1) rfl (divRes_of HP.out.symm (by rw [HM.out, HQ.out]) (by rw [HM.out, HR.out]) (by repeat (first | exact hbw2 | refine Below.setCell ?_ (by simp) _)))

theorem divide_any (h l d : Int) (w : World) (h0 : 0 ≤ h) (h1 : h ≤ 18446744073709551615) (l0 : 0 ≤ l) (l1 : l ≤ 18446744073709551615) (d0 : 0 < d) (d1 : d ≤ 18446744073709551615) :
    Calls Try.prog 56 #[.agg #[.int .u64 h, .int .u64 l], .int .u64 d] w (DivRes h l d w) := by
  by_cases hd : h < d
  · exact divide_a h l d w h0 hd l0 l1 d1
  · exact divide_b h l d w (by omega) h1 l0 l1 d0
end Go.Proofs.Ytmehihfdfpnfjaa
