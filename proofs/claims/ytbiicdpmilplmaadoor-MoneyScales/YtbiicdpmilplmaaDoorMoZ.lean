/- What Scale of package accountingref07 returns; the statement MoneyScales. -/
import Derived.Test.YtbiicdpmilplmaaDoorMoY
import Derived.Test.YtbiicdpmilplmaaDoorNumM
namespace Go.Proofs.YtbiicdpmilplmaaDoor
open Go.RowKit Go.Sort
set_option linter.unusedVariables false

set_option maxHeartbeats 2000000 in
theorem rScale_any (a f t m : Int) (w : World) (a1 : -9223372036854775808 ≤ a) (a2 : a ≤ 9223372036854775807) :
    Calls Tryd.prog 18 #[.int .i64 a, .int .i64 f, .int .i64 t, .int .i64 m] w fun e w' => e = .returned (.tuple #[.int .i64 (scV a f t m).1, .int .i64 (scV a f t m).2]) ∧ Below w.heap.size w w' := by
  unfold scV
  by_cases hm : m < 1 ∨ 5 < m
  · rw [if_pos hm]
    rcases hm with hm | hm
    · go_enter Tryd.func18, Tryd.ntmps18
      go_wp2
      go_ret2
      exact ⟨rfl, Below.refl _ _⟩
    · have hm2 : ¬ m < 1 := by omega
      go_enter Tryd.func18, Tryd.ntmps18
      go_wp2
      go_ret2
      exact ⟨rfl, Below.refl _ _⟩
  rw [if_neg hm]
  have m1 : 1 ≤ m := by omega
  have m2 : m ≤ 5 := by omega
  clear hm
  by_cases hd : digO f ∧ digO t
  · rw [if_neg (by simp [hd])]
    obtain ⟨⟨f1, f2⟩, t1, t2⟩ := hd
    have H1 := Lib.hid (fun w => large_any a w)
    by_cases hs : sumO a
    · rw [decide_eq_true hs] at H1
      rw [if_neg (by simp [hs])]
      by_cases hle : t ≤ f
      · rw [if_pos hle]
        have hp := tenP_is (k := f - t) (by omega) (by omega)
        have H2 := Lib.hid (fun w => power_any (f - t) w (by omega) (by omega))
        have H3 := Lib.hid (fun w => round_any a (tenP (f - t)) m w hp m1 m2 hs)
        clear hp hs
        generalize rndV a (tenP (f - t)) m = R at *
        generalize tenP (f - t) = P at *
        go_enter Tryd.func18, Tryd.ntmps18
        go_wp2_with fail
        refine (H1.out _).mono ?_
        rintro e w_ ⟨rfl, rfl⟩
        go_wp2_with fail
        refine (H2.out _).mono ?_
        rintro e w_ ⟨rfl, rfl⟩
        go_wp2_with fail
        refine (H3.out _).mono ?_
        rintro e W1 ⟨rfl, hb1⟩
        have HB1 := Lib.hid (hb1)
        clear hb1
        go_wp2
        go_ret2
        exact ⟨rfl, HB1.out⟩
      · rw [if_neg hle]
        have hp := tenP_is (k := t - f) (by omega) (by omega)
        have H2 := Lib.hid (fun w => power_any (t - f) w (by omega) (by omega))
        have H3 := Lib.hid (fun w => rMul_any a (tenP (t - f)) w a1 a2 (by omega) (by omega))
        have hf : sumO (a * tenP (t - f)) → fits (a * tenP (t - f)) = true ∧ fit (a * tenP (t - f)) = a * tenP (t - f) := fun h => ⟨fits_of (by unfold sumO at h; omega) (by unfold sumO at h; omega), fit_of (by unfold sumO at h; omega) (by unfold sumO at h; omega)⟩
        have hg : ¬ sumO (a * tenP (t - f)) → fits (a * tenP (t - f)) = true → ¬ sumO (fit (a * tenP (t - f))) := fun h k => by
          have := fits_iff.1 k
          rw [fit_of this.1 this.2]; exact h
        have H4 := Lib.hid (fun w => large_any (fit (a * tenP (t - f))) w)
        clear hp hs
        generalize a * tenP (t - f) = Z at *
        generalize tenP (t - f) = P at *
        by_cases hz : sumO Z
        · obtain ⟨k1, k2⟩ := hf hz
          rw [k2, decide_eq_true hz] at H4
          rw [k1, k2] at H3
          rw [if_pos hz]
          clear hf hg k1 k2 hz
          go_enter Tryd.func18, Tryd.ntmps18
          go_wp2_with fail
          refine (H1.out _).mono ?_
          rintro e w_ ⟨rfl, rfl⟩
          go_wp2_with fail
          refine (H2.out _).mono ?_
          rintro e w_ ⟨rfl, rfl⟩
          go_wp2_with fail
          refine (H3.out _).mono ?_
          rintro e w_ ⟨rfl, rfl⟩
          go_wp2_with fail
          refine (H4.out _).mono ?_
          rintro e w_ ⟨rfl, rfl⟩
          go_wp2
          go_ret2
          exact ⟨rfl, Below.refl _ _⟩
        · rw [if_neg hz]
          cases hk : fits Z
          · rw [hk] at H3
            clear hf hg hz hk H4
            generalize fit Z = Y at *
            go_enter Tryd.func18, Tryd.ntmps18
            go_wp2_with fail
            refine (H1.out _).mono ?_
            rintro e w_ ⟨rfl, rfl⟩
            go_wp2_with fail
            refine (H2.out _).mono ?_
            rintro e w_ ⟨rfl, rfl⟩
            go_wp2_with fail
            refine (H3.out _).mono ?_
            rintro e w_ ⟨rfl, rfl⟩
            go_wp2
            go_ret2
            exact ⟨rfl, Below.refl _ _⟩
          · rw [decide_eq_false (hg hz hk)] at H4
            rw [hk] at H3
            clear hf hg hz hk
            generalize fit Z = Y at *
            go_enter Tryd.func18, Tryd.ntmps18
            go_wp2_with fail
            refine (H1.out _).mono ?_
            rintro e w_ ⟨rfl, rfl⟩
            go_wp2_with fail
            refine (H2.out _).mono ?_
            rintro e w_ ⟨rfl, rfl⟩
            go_wp2_with fail
            refine (H3.out _).mono ?_
            rintro e w_ ⟨rfl, rfl⟩
            go_wp2_with fail
            refine (H4.out _).mono ?_
            rintro e w_ ⟨rfl, rfl⟩
            go_wp2
            go_ret2
            exact ⟨rfl, Below.refl _ _⟩
    · rw [decide_eq_false hs] at H1
      rw [if_pos (by simp [hs])]
      clear hs
      go_enter Tryd.func18, Tryd.ntmps18
      go_wp2_with fail
      refine (H1.out _).mono ?_
      rintro e w_ ⟨rfl, rfl⟩
      go_wp2
      go_ret2
      exact ⟨rfl, Below.refl _ _⟩
  · rw [if_pos (by simp only [hd, not_false_eq_true])]
    unfold digO at hd
    have hx : f < 0 ∨ (¬ f < 0 ∧ 4 < f) ∨ (¬ f < 0 ∧ ¬ 4 < f ∧ t < 0) ∨ (¬ f < 0 ∧ ¬ 4 < f ∧ ¬ t < 0 ∧ 4 < t) := by omega
    clear hd
    rcases hx with hx | ⟨x1, x2⟩ | ⟨x1, x2, x3⟩ | ⟨x1, x2, x3, x4⟩
    · go_enter Tryd.func18, Tryd.ntmps18
      go_wp2
      go_ret2
      exact ⟨rfl, Below.refl _ _⟩
    · go_enter Tryd.func18, Tryd.ntmps18
      go_wp2
      go_ret2
      exact ⟨rfl, Below.refl _ _⟩
    · go_enter Tryd.func18, Tryd.ntmps18
      go_wp2
      go_ret2
      exact ⟨rfl, Below.refl _ _⟩
    · go_enter Tryd.func18, Tryd.ntmps18
      go_wp2
      go_ret2
      exact ⟨rfl, Below.refl _ _⟩

set_option maxHeartbeats 2000000 in
theorem moneyScales_walk (a f t m : Int) (w : World) (ht : Tab w) (wa : (Lit.int .i64 a).wf = true) (wf : (Lit.int .i64 f).wf = true) (wt : (Lit.int .i64 t).wf = true) (wm : (Lit.int .i64 m).wf = true) :
    Calls Tryd.prog 4 #[.int .i64 a, .int .i64 f, .int .i64 t, .int .i64 m] w fun e w' => e = .returned (.bool true) ∧ Below w.heap.size w w' := by
  obtain ⟨a1, a2⟩ := i64_bd wa
  have H1 := Lib.hid (fun w ht => scale_any a f t m w ht a1 a2)
  have H2 := Lib.hid (fun w => rScale_any a f t m w a1 a2)
  have H9 := Lib.hid (fun w ht => lives_any w ht)
  generalize (scV a f t m).1 = X at *
  generalize (scV a f t m).2 = E at *
  go_enter Tryd.func4, Tryd.ntmps4
  go_wp2_with fail
  refine (H1.out _ ht).mono ?_
  rintro e W2 ⟨rfl, hb2⟩
  have HB2 := Lib.hid (hb2)
  clear hb2
  go_wp2_with fail
  refine (H2.out _).mono ?_
  rintro e W3 ⟨rfl, hb3⟩
  have HB3 := Lib.hid (HB2.out.trans ((hb3).mono HB2.out.size))
  clear HB2 hb3
  go_wp2_with fail
  refine (H9.out _ (ht.below HB3.out)).mono ?_
  rintro e W4 ⟨rfl, hb4⟩
  have HB4 := Lib.hid (HB3.out.trans ((hb4).mono HB3.out.size))
  clear HB3 hb4
  go_wp2
  go_ret
  exact ⟨rfl, HB4.out⟩
end Go.Proofs.YtbiicdpmilplmaaDoor
