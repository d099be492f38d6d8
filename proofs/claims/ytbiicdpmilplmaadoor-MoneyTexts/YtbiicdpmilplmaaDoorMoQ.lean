/- The statement MoneyTexts of package accountinglaw07. -/
import Derived.Test.YtbiicdpmilplmaaDoorMoV
namespace Go.Proofs.YtbiicdpmilplmaaDoor
open Go.RowKit Go.Sort
set_option linter.unusedVariables false

theorem rfText_yes (a d : Int) (w : World) (hs : sumO a) (hd : digO d) :
    Calls Tryd.prog 21 #[.int .i64 a, .int .i64 d] w fun e w' => e = .returned (.tuple #[.string (amtS a d), .int .i64 0]) ∧ Below w.heap.size w w' := by
  obtain ⟨s1, s2⟩ := hs
  obtain ⟨d1, d2⟩ := hd
  by_cases h : a < 0
  · obtain ⟨A, rfl⟩ : ∃ A, a = -A := ⟨-a, by omega⟩
    by_cases hz : d = 0
    · subst hz; exact rfText_n0 A w (by omega) (by omega)
    · exact rfText_nd A d w (by omega) (by omega) (by omega) d2
  · by_cases hz : d = 0
    · subst hz; exact rfText_p0 a w (by omega) (by omega)
    · exact rfText_pd a d w (by omega) (by omega) (by omega) d2
set_option maxHeartbeats 400000 in
theorem rfText_arg (a d : Int) (w : World) (hd : ¬ digO d) :
    Calls Tryd.prog 21 #[.int .i64 a, .int .i64 d] w fun e w' => e = .returned (.tuple #[.string ⟨#[]⟩, .int .i64 2]) ∧ Below w.heap.size w w' := by
  unfold digO at hd
  by_cases h : d < 0
  · clear hd
    go_enter Tryd.func21, Tryd.ntmps21
    go_wp2
    go_ret2
    exact ⟨rfl, Below.refl _ _⟩
  · have h4 : 4 < d := by omega
    clear hd
    go_enter Tryd.func21, Tryd.ntmps21
    go_wp2
    go_ret2
    exact ⟨rfl, Below.refl _ _⟩
set_option maxHeartbeats 400000 in
theorem rfText_over (a d : Int) (w : World) (hd : digO d) (hs : ¬ sumO a) :
    Calls Tryd.prog 21 #[.int .i64 a, .int .i64 d] w fun e w' => e = .returned (.tuple #[.string ⟨#[]⟩, .int .i64 4]) ∧ Below w.heap.size w w' := by
  have H1 := Lib.hid (fun w => large_any a w)
  rw [decide_eq_false hs] at H1
  obtain ⟨d1, d2⟩ := hd
  clear hs
  go_enter Tryd.func21, Tryd.ntmps21
  go_wp2_with fail
  refine (H1.out _).mono ?_
  rintro e w_ ⟨rfl, rfl⟩
  go_wp2
  go_ret2
  exact ⟨rfl, Below.refl _ _⟩
set_option maxHeartbeats 1000000 in
theorem moneyTexts_walk (a d : Int) (w : World) (ht : Tab w) (wa : (Lit.int .i64 a).wf = true) (wd : (Lit.int .i64 d).wf = true) :
    Calls Tryd.prog 8 #[.int .i64 a, .int .i64 d] w fun e w' => e = .returned (.bool true) ∧ Below w.heap.size w w' := by
  have H9 := Lib.hid (fun w ht => lives_any w ht)
  by_cases hd : digO d
  · by_cases hs : sumO a
    · have H1 := Lib.hid (fun w ht => mText_yes a d w ht hs hd)
      have H2 := Lib.hid (fun w => rfText_yes a d w hs hd)
      have H3 := Lib.hid (fun w => mParse_back a d w hs hd)
      clear hs hd
      generalize amtS a d = S at *
      go_enter Tryd.func8, Tryd.ntmps8
      go_wp2_with fail
      refine (H1.out _ ht).mono ?_
      rintro e W1 ⟨rfl, hb1⟩
      have HB1 := Lib.hid (hb1)
      clear hb1
      go_wp2_with fail
      refine (H2.out _).mono ?_
      rintro e W2 ⟨rfl, hb2⟩
      have HB2 := Lib.hid (HB1.out.trans ((hb2).mono HB1.out.size))
      clear HB1 hb2
      go_wp2_with fail
      refine (H9.out _ (ht.below HB2.out)).mono ?_
      rintro e W3 ⟨rfl, hb3⟩
      have HB3 := Lib.hid (HB2.out.trans ((hb3).mono HB2.out.size))
      clear HB2 hb3
      go_wp2_with fail
      refine (H3.out _).mono ?_
      rintro e W4 ⟨rfl, hb4⟩
      have HB4 := Lib.hid (HB3.out.trans ((hb4).mono HB3.out.size))
      clear HB3 hb4
      go_wp2
      go_ret
      exact ⟨rfl, HB4.out⟩
    · have H1 := Lib.hid (fun w => mText_over a d w hd hs)
      have H2 := Lib.hid (fun w => rfText_over a d w hd hs)
      clear hs hd
      go_enter Tryd.func8, Tryd.ntmps8
      go_wp2_with fail
      refine (H1.out _).mono ?_
      rintro e W5 ⟨rfl, hb5⟩
      have HB5 := Lib.hid (hb5)
      clear hb5
      go_wp2_with fail
      refine (H2.out _).mono ?_
      rintro e W6 ⟨rfl, hb6⟩
      have HB6 := Lib.hid (HB5.out.trans ((hb6).mono HB5.out.size))
      clear HB5 hb6
      go_wp2_with fail
      refine (H9.out _ (ht.below HB6.out)).mono ?_
      rintro e W7 ⟨rfl, hb7⟩
      have HB7 := Lib.hid (HB6.out.trans ((hb7).mono HB6.out.size))
      clear HB6 hb7
      go_wp2
      go_ret
      exact ⟨rfl, HB7.out⟩
  · have H1 := Lib.hid (fun w => mText_arg a d w hd)
    have H2 := Lib.hid (fun w => rfText_arg a d w hd)
    clear hd
    go_enter Tryd.func8, Tryd.ntmps8
    go_wp2_with fail
    refine (H1.out _).mono ?_
    rintro e W8 ⟨rfl, hb8⟩
    have HB8 := Lib.hid (hb8)
    clear hb8
    go_wp2_with fail
    refine (H2.out _).mono ?_
    rintro e W9 ⟨rfl, hb9⟩
    have HB9 := Lib.hid (HB8.out.trans ((hb9).mono HB8.out.size))
    clear HB8 hb9
    go_wp2_with fail
    refine (H9.out _ (ht.below HB9.out)).mono ?_
    rintro e W10 ⟨rfl, hb10⟩
    have HB10 := Lib.hid (HB9.out.trans ((hb10).mono HB9.out.size))
    clear HB9 hb10
    go_wp2
    go_ret
    exact ⟨rfl, HB10.out⟩
end Go.Proofs.YtbiicdpmilplmaaDoor
