/- The statements MoneyBack, MoneyRounds and MoneyOrder of package accountinglaw07. -/
import Derived.Test.YtbiicdpmilplmaaDoorMoL
namespace Go.Proofs.YtbiicdpmilplmaaDoor
open Go.RowKit Go.Sort
set_option linter.unusedVariables false

theorem i64_bd {a : Int} (h : (Lit.int .i64 a).wf = true) : -9223372036854775808 ≤ a ∧ a ≤ 9223372036854775807 := by
  simp [Lit.wf, IntKind.min, IntKind.max, IntKind.signed, IntKind.bits] at h; omega
/-- Scale either fails, and then returns 0, or it returns what the chapter defines. -/
theorem sc_ways (a f t m : Int) : ((scV a f t m).1 = 0 ∧ (scV a f t m).2 ≠ 0 ∧ 0 ≤ (scV a f t m).2 ∧ (scV a f t m).2 ≤ 10) ∨ ((scV a f t m).2 = 0 ∧ 1 ≤ m ∧ m ≤ 5 ∧ digO f ∧ digO t ∧ sumO a ∧ sumO (scV a f t m).1 ∧ ((t ≤ f ∧ (scV a f t m).1 = rndV a (tenP (f - t)) m) ∨ (f < t ∧ (scV a f t m).1 = a * tenP (t - f)))) := by
  unfold scV
  split
  · left; exact ⟨rfl, by simp, by simp, by simp⟩
  · split
    · left; exact ⟨rfl, by simp, by simp, by simp⟩
    · rename_i hm hd
      have hd' : digO f ∧ digO t := by
        by_cases h : digO f ∧ digO t
        · exact h
        · exact absurd h hd
      split
      · left; exact ⟨rfl, by simp, by simp, by simp⟩
      · rename_i hs
        have hs' : sumO a := by
          by_cases h : sumO a
          · exact h
          · exact absurd h hs
        split
        · rename_i hle
          right
          have := hd'.1; have := hd'.2
          unfold digO at *
          exact ⟨rfl, by omega, by omega, by omega, by omega, hs', rnd_b (tenP_is (by omega) (by omega)) hs'.1 hs'.2, .inl ⟨hle, rfl⟩⟩
        · split
          · rename_i hle hk
            right
            exact ⟨rfl, by omega, by omega, hd'.1, hd'.2, hs', hk, .inr ⟨by omega, rfl⟩⟩
          · left; exact ⟨rfl, by simp, by simp, by simp⟩

set_option maxHeartbeats 2000000 in
theorem moneyBack_walk (a f t m : Int) (w : World) (ht : Tab w) (wa : (Lit.int .i64 a).wf = true) (wf : (Lit.int .i64 f).wf = true) (wt : (Lit.int .i64 t).wf = true) (wm : (Lit.int .i64 m).wf = true) :
    Calls Tryd.prog 5 #[.int .i64 a, .int .i64 f, .int .i64 t, .int .i64 m] w fun e w' => e = .returned (.bool true) ∧ Below w.heap.size w w' := by
  obtain ⟨a1, a2⟩ := i64_bd wa
  by_cases hlt : t < f
  · go_enter Tryd.func5, Tryd.ntmps5
    go_wp2
    go_ret
    exact ⟨rfl, Below.refl _ _⟩
  have H1 := Lib.hid (fun w ht => scale_any a f t m w ht a1 a2)
  have H9 := Lib.hid (fun w ht => lives_any w ht)
  rcases sc_ways a f t m with ⟨e1, e2, e3, e4⟩ | ⟨e1, m1, m2, hf, hd, hs, hs2, hv⟩
  · rw [e1] at H1
    have e5 : ((scV a f t m).2 != 0) = true := by simpa using e2
    generalize (scV a f t m).2 = E at *
    clear e1 e2
    go_enter Tryd.func5, Tryd.ntmps5
    go_wp2_with fail
    refine (H1.out _ ht).mono ?_
    rintro e W1 ⟨rfl, hb1⟩
    have HB1 := Lib.hid (hb1)
    clear hb1
    go_wp2_with fail
    refine (H9.out _ (ht.below HB1.out)).mono ?_
    rintro e W2 ⟨rfl, hb2⟩
    have HB2 := Lib.hid (HB1.out.trans ((hb2).mono HB1.out.size))
    clear HB1 hb2
    go_wp2
    go_ret
    exact ⟨rfl, HB2.out⟩
  · rw [e1] at H1
    have H2 := Lib.hid (fun w ht => scale_any (scV a f t m).1 t f m w ht (by unfold sumO at hs2; omega) (by unfold sumO at hs2; omega))
    have hb : scV (scV a f t m).1 t f m = (a, 0) := by
      have hp := tenP_is (k := t - f) (by unfold digO at *; omega) (by unfold digO at *; omega)
      have hx : (scV a f t m).1 = a * tenP (t - f) := by
        rcases hv with ⟨k, e⟩ | ⟨k, e⟩
        · obtain rfl : f = t := by omega
          rw [e]
          have h0 : f - f = 0 := by omega
          rw [h0]
          have := rnd_back (a := a) (p := 1) (m := m) (.inl rfl) m1 m2
          simpa [tenP, tenT] using this
        · exact e
      rw [hx] at hs2
      rw [hx]
      unfold scV
      rw [if_neg (by omega), if_neg (by simp [hf, hd]), if_neg (by simp [hs2]), if_pos (by omega), rnd_back hp m1 m2]
    rw [hb] at H2
    clear hb e1 hv hf hd hs m1 m2
    obtain ⟨z1, z2⟩ := hs2
    generalize (scV a f t m).1 = N at *
    go_enter Tryd.func5, Tryd.ntmps5
    go_wp2_with fail
    refine (H1.out _ ht).mono ?_
    rintro e W3 ⟨rfl, hb3⟩
    have HB3 := Lib.hid (hb3)
    clear hb3
    go_wp2_with fail
    refine (H2.out _ (ht.below HB3.out)).mono ?_
    rintro e W4 ⟨rfl, hb4⟩
    have HB4 := Lib.hid (HB3.out.trans ((hb4).mono HB3.out.size))
    clear HB3 hb4
    go_wp2_with fail
    refine (H9.out _ (ht.below HB4.out)).mono ?_
    rintro e W5 ⟨rfl, hb5⟩
    have HB5 := Lib.hid (HB4.out.trans ((hb5).mono HB4.out.size))
    clear HB4 hb5
    go_wp2
    go_ret
    exact ⟨rfl, HB5.out⟩

set_option maxHeartbeats 2000000 in
theorem moneyOrder_walk (a b f t m : Int) (w : World) (ht : Tab w) (wa : (Lit.int .i64 a).wf = true) (wb : (Lit.int .i64 b).wf = true) (wf : (Lit.int .i64 f).wf = true) (wt : (Lit.int .i64 t).wf = true) (wm : (Lit.int .i64 m).wf = true) :
    Calls Tryd.prog 7 #[.int .i64 a, .int .i64 b, .int .i64 f, .int .i64 t, .int .i64 m] w fun e w' => e = .returned (.bool true) ∧ Below w.heap.size w w' := by
  obtain ⟨a1, a2⟩ := i64_bd wa
  obtain ⟨b1, b2⟩ := i64_bd wb
  by_cases hlt : b < a
  · go_enter Tryd.func7, Tryd.ntmps7
    go_wp2
    go_ret
    exact ⟨rfl, Below.refl _ _⟩
  have H1 := Lib.hid (fun w ht => scale_any a f t m w ht a1 a2)
  have H2 := Lib.hid (fun w ht => scale_any b f t m w ht b1 b2)
  have H9 := Lib.hid (fun w ht => lives_any w ht)
  have HX := Lib.hid (show ((scV a f t m).2 != 0) = true ∨ ((scV a f t m).2 = 0 ∧ ((scV b f t m).2 != 0) = true) ∨ ((scV a f t m).2 = 0 ∧ (scV b f t m).2 = 0 ∧ (scV a f t m).1 ≤ (scV b f t m).1) from by
    rcases sc_ways a f t m with ⟨_, e2, _⟩ | ⟨e1, m1, m2, hf, hd, hs, hs2, hv⟩
    · left; simpa using e2
    · right
      rcases sc_ways b f t m with ⟨_, e2, _⟩ | ⟨e1', _, _, _, _, _, hs2', hv'⟩
      · left; exact ⟨e1, by simpa using e2⟩
      · right
        refine ⟨e1, e1', ?_⟩
        unfold digO at *
        rcases hv with ⟨k, e⟩ | ⟨k, e⟩
        · rcases hv' with ⟨k', e'⟩ | ⟨k', e'⟩
          · rw [e, e']; exact rnd_mono (tenP_is (by omega) (by omega)) m1 m2 (by omega)
          · omega
        · rcases hv' with ⟨k', e'⟩ | ⟨k', e'⟩
          · omega
          · rw [e, e']
            have hp := tenP_is (k := t - f) (by omega) (by omega)
            exact Int.mul_le_mul_of_nonneg_right (by omega) (by omega))
  generalize (scV a f t m).1 = X at *
  generalize (scV a f t m).2 = E at *
  generalize (scV b f t m).1 = Y at *
  generalize (scV b f t m).2 = F at *
  go_enter Tryd.func7, Tryd.ntmps7
  go_wp2_with fail
  refine (H1.out _ ht).mono ?_
  rintro e W6 ⟨rfl, hb6⟩
  have HB6 := Lib.hid (hb6)
  clear hb6
  go_wp2_with fail
  refine (H2.out _ (ht.below HB6.out)).mono ?_
  rintro e W7 ⟨rfl, hb7⟩
  have HB7 := Lib.hid (HB6.out.trans ((hb7).mono HB6.out.size))
  clear HB6 hb7
  rcases HX.out with h | ⟨rfl, h⟩ | ⟨rfl, rfl, h⟩
  · clear HX
    go_wp2_with fail
    refine (H9.out _ (ht.below HB7.out)).mono ?_
    rintro e W8 ⟨rfl, hb8⟩
    have HB8 := Lib.hid (HB7.out.trans ((hb8).mono HB7.out.size))
    clear HB7 hb8
    go_wp2
    go_ret
    exact ⟨rfl, HB8.out⟩
  · clear HX
    go_wp2_with fail
    refine (H9.out _ (ht.below HB7.out)).mono ?_
    rintro e W9 ⟨rfl, hb9⟩
    have HB9 := Lib.hid (HB7.out.trans ((hb9).mono HB7.out.size))
    clear HB7 hb9
    go_wp2
    go_ret
    exact ⟨rfl, HB9.out⟩
  · clear HX
    go_wp2_with fail
    refine (H9.out _ (ht.below HB7.out)).mono ?_
    rintro e W10 ⟨rfl, hb10⟩
    have HB10 := Lib.hid (HB7.out.trans ((hb10).mono HB7.out.size))
    clear HB7 hb10
    go_wp2
    go_ret
    exact ⟨rfl, HB10.out⟩
end Go.Proofs.YtbiicdpmilplmaaDoor
