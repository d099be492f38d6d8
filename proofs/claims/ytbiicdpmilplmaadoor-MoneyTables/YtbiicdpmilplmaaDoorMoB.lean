/- What Scale of package money returns. -/
import Derived.Test.YtbiicdpmilplmaaDoorMoA
import Derived.Lib.QuietBelow
import Derived.Deep.RegionWith
namespace Go.Proofs.YtbiicdpmilplmaaDoor
open Go.RowKit Go.Sort
set_option linter.unusedVariables false

set_option maxHeartbeats 2000000 in
theorem scale_any (a f t m : Int) (w : World) (ht : Tab w) (a1 : -9223372036854775808 ≤ a) (a2 : a ≤ 9223372036854775807) :
    Calls Tryd.prog 17 #[.int .i64 a, .int .i64 f, .int .i64 t, .int .i64 m] w fun e w' => e = .returned (.tuple #[.int .i64 (scV a f t m).1, .int .i64 (scV a f t m).2]) ∧ Below w.heap.size w w' := by
  have HD := Lib.hid (fun w => div_any 0 1 m w (by omega) (by omega) (by omega) (by omega))
  rw [md_01] at HD
  unfold scV
  by_cases hm : m < 1 ∨ 5 < m
  · rw [if_pos hm] at HD
    rw [if_pos hm]
    clear hm
    go_enter Tryd.func17, Tryd.ntmps17
    go_wp2_with fail
    refine (HD.out _).mono ?_
    rintro e W1 ⟨rfl, hb1⟩
    have HB1 := Lib.hid (hb1)
    clear hb1
    go_wp2
    go_ret2
    exact ⟨rfl, HB1.out⟩
  rw [if_neg hm] at HD
  rw [if_neg hm]
  have H1 := Lib.hid (fun w => isDigits_any f w)
  have H2 := Lib.hid (fun w => isDigits_any t w)
  by_cases hf : digO f
  · rw [decide_eq_true hf] at H1
    by_cases hd : digO t
    · rw [decide_eq_true hd] at H2
      rw [if_neg (by simp [hf, hd])]
      have H3 := Lib.hid (fun w => isSum_any a w)
      by_cases hs : sumO a
      · rw [decide_eq_true hs] at H3
        rw [if_neg (by simp [hs])]
        obtain ⟨f1, f2⟩ := hf
        obtain ⟨t1, t2⟩ := hd
        have pf := tenP_is f1 f2
        have pt := tenP_is t1 t2
        have H4 := Lib.hid (fun w => mulDiv_any a (tenP t) (tenP f) m w a1 a2 (by omega) (by omega) (by omega) (by omega))
        have e := md_scale (m := m) f1 f2 t1 t2 (by omega) (by omega) hs
        have c1 := fun (w : World) (h : Tab w) => h.2 t.toNat (by omega)
        have c2 := fun (w : World) (h : Tab w) => h.2 f.toNat (by omega)
        have HX := Lib.hid (show ((mdV a (tenP t) (tenP f) m).2 = 0 ∧ sumO (mdV a (tenP t) (tenP f) m).1 ∧ (if t ≤ f then (rndV a (tenP (f - t)) m, (0 : Int)) else if sumO (a * tenP (t - f)) then (a * tenP (t - f), 0) else (0, 4)) = ((mdV a (tenP t) (tenP f) m).1, 0)) ∨ (((mdV a (tenP t) (tenP f) m).2 ≠ 0 ∨ ¬ sumO (mdV a (tenP t) (tenP f) m).1) ∧ (if t ≤ f then (rndV a (tenP (f - t)) m, (0 : Int)) else if sumO (a * tenP (t - f)) then (a * tenP (t - f), 0) else (0, 4)) = (0, 4)) from by
          rw [e]
          by_cases h : t ≤ f
          · left
            rw [if_pos h]
            have hp := tenP_is (k := f - t) (by omega) (by omega)
            exact ⟨rfl, rnd_b hp hs.1 hs.2, by rw [if_pos h]⟩
          · rw [if_neg h]
            have hp := tenP_is (k := t - f) (by omega) (by omega)
            obtain ⟨s1, s2⟩ := sg_up (a := a) (k := tenP (t - f)) (by omega) (by omega) hs
            by_cases k : sumO (a * tenP (t - f))
            · left; rw [s1 k]; exact ⟨rfl, k, by rw [if_neg h, if_pos k]⟩
            · right; exact ⟨s2 k, by rw [if_neg h, if_neg k]⟩)
        generalize (if t ≤ f then (rndV a (tenP (f - t)) m, (0 : Int)) else if sumO (a * tenP (t - f)) then (a * tenP (t - f), 0) else (0, 4)) = R at *
        have d1 : tenT.getD t.toNat 0 = tenP t := rfl
        have d2 : tenT.getD f.toNat 0 = tenP f := rfl
        rw [d1] at c1
        rw [d2] at c2
        clear e hs hm d1 d2 pf pt
        have H5 := Lib.hid (fun w => isSum_any (mdV a (tenP t) (tenP f) m).1 w)
        generalize tenP t = TT at *
        generalize tenP f = TF at *
        generalize (mdV a TT TF m).1 = X1 at *
        generalize (mdV a TT TF m).2 = X2 at *
        go_enter Tryd.func17, Tryd.ntmps17
        go_wp2_with fail
        refine (HD.out _).mono ?_
        rintro e W2 ⟨rfl, hb2⟩
        have HB2 := Lib.hid (hb2)
        clear hb2
        have HTb := Lib.hid (ht.below HB2.out)
        have c1 := c1 _ HTb.out
        have c2 := c2 _ HTb.out
        go_wp2_with fail
        refine (H1.out _).mono ?_
        rintro e w_ ⟨rfl, rfl⟩
        go_wp2_with fail
        refine (H2.out _).mono ?_
        rintro e w_ ⟨rfl, rfl⟩
        go_wp2_with fail
        refine (H3.out _).mono ?_
        rintro e w_ ⟨rfl, rfl⟩
        go_wp2_with fail
        have l1 := cell_regrown c1
        have l2 := cell_regrown c2
        have t3 : t < 5 := by omega
        have f3 : f < 5 := by omega
        have c4 : ∀ dd os, Calls Tryd.prog 27 #[.int .i64 a, .int .i64 TT, .int .i64 TF, .int .i64 m] (grow (redrawn W2 dd) os) fun e w'' => e = .returned (.tuple #[.int .i64 X1, .int .i64 X2]) ∧ ∃ p : Regrown, w'' = grow (redrawn W2 p.d) p.os := fun dd os => Calls.regrown_of (H4.out _)
        refine wp_region_quiet_below (l := _) (by kernel_rfl) (by kernel_rfl) ?_
        repeat (first | go_big_quiet_step (first | (go_at_call 27; exact c4 _ _)))
        refine wpQuiet_nil ?_
        intro w2 hw'
        obtain ⟨⟨dq2, osq2⟩, hw''⟩ := hw'
        have hb2 := below_regrown W2 dq2 osq2
        rw [← hw''] at hb2
        clear hw'' l1 l2 c4
        have HB3 := Lib.hid (HB2.out.trans ((hb2).mono HB2.out.size))
        clear HB2 hb2
        rcases HX.out with ⟨rfl, g2, g3⟩ | ⟨g1, g3⟩
        · rw [decide_eq_true g2] at H5
          have HG := Lib.hid g3
          clear HX g3
          go_wp2_with fail
          refine (H5.out _).mono ?_
          rintro e w_ ⟨rfl, rfl⟩
          go_wp2
          go_ret2
          exact ⟨by rw [HG.out]; rfl, HB3.out⟩
        · have HG := Lib.hid g3
          clear HX g3
          by_cases g4 : X2 = 0
          · subst g4
            rw [decide_eq_false (by rcases g1 with g | g; exact absurd rfl g; exact g)] at H5
            clear g1
            go_wp2_with fail
            refine (H5.out _).mono ?_
            rintro e w_ ⟨rfl, rfl⟩
            go_wp2
            go_ret2
            exact ⟨by rw [HG.out]; rfl, HB3.out⟩
          · have g5 : (X2 != 0) = true := by simpa using g4
            clear g1 g4
            go_wp2
            go_ret2
            exact ⟨by rw [HG.out]; rfl, HB3.out⟩
      · rw [decide_eq_false hs] at H3
        rw [if_pos (by simp [hs])]
        clear hs hf hd hm
        go_enter Tryd.func17, Tryd.ntmps17
        go_wp2_with fail
        refine (HD.out _).mono ?_
        rintro e W4 ⟨rfl, hb4⟩
        have HB4 := Lib.hid (hb4)
        clear hb4
        go_wp2_with fail
        refine (H1.out _).mono ?_
        rintro e w_ ⟨rfl, rfl⟩
        go_wp2_with fail
        refine (H2.out _).mono ?_
        rintro e w_ ⟨rfl, rfl⟩
        go_wp2_with fail
        refine (H3.out _).mono ?_
        rintro e w_ ⟨rfl, rfl⟩
        go_wp2
        go_ret2
        exact ⟨rfl, HB4.out⟩
    · rw [decide_eq_false hd] at H2
      rw [if_pos (by simp [hd])]
      clear hf hd hm
      go_enter Tryd.func17, Tryd.ntmps17
      go_wp2_with fail
      refine (HD.out _).mono ?_
      rintro e W5 ⟨rfl, hb5⟩
      have HB5 := Lib.hid (hb5)
      clear hb5
      go_wp2_with fail
      refine (H1.out _).mono ?_
      rintro e w_ ⟨rfl, rfl⟩
      go_wp2_with fail
      refine (H2.out _).mono ?_
      rintro e w_ ⟨rfl, rfl⟩
      go_wp2
      go_ret2
      exact ⟨rfl, HB5.out⟩
  · rw [decide_eq_false hf] at H1
    rw [if_pos (by simp [hf])]
    clear hf hm H2
    go_enter Tryd.func17, Tryd.ntmps17
    go_wp2_with fail
    refine (HD.out _).mono ?_
    rintro e W6 ⟨rfl, hb6⟩
    have HB6 := Lib.hid (hb6)
    clear hb6
    go_wp2_with fail
    refine (H1.out _).mono ?_
    rintro e w_ ⟨rfl, rfl⟩
    go_wp2
    go_ret2
    exact ⟨rfl, HB6.out⟩
end Go.Proofs.YtbiicdpmilplmaaDoor
