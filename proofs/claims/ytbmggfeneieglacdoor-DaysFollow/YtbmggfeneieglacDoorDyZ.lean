/- The statement DaysFollow of package accountinglaw04. -/
import Derived.Test.YtbmggfeneieglacDoorDyY
namespace Go.Proofs.YtbmggfeneieglacDoor
open Go.RowKit Go.Sort
set_option linter.unusedVariables false

/-- the next day's date. -/
theorem next_day {n y m d : Int} (h : IsDate n y m d) (hd : d < lenV y m) : IsDate (n + 1) y m (d + 1) := by
  obtain ⟨⟨h1, h2, h3, h4⟩, rfl⟩ := h
  exact ⟨⟨h1, h2, by omega, by omega⟩, by unfold ofN; omega⟩
theorem next_month {n y m d : Int} (h : IsDate n y m d) (hd : ¬ d < lenV y m) (hm : m < 12) : IsDate (n + 1) y (m + 1) 1 := by
  have hl := h.1.len
  have hm1 := h.1.m
  have hl2 := lenV_b (y := y) (m := m + 1) (by omega) (by omega)
  have hk := h.1.monE
  obtain ⟨⟨h1, h2, h3, h4⟩, rfl⟩ := h
  refine ⟨⟨h1, h2, by omega, by omega⟩, ?_⟩
  have e : mon y (m + 1) = mon y m + 1 := by unfold mon; omega
  unfold ofN
  rw [e, firstM, hl]; omega
theorem next_year {n y m d : Int} (h : IsDate n y m d) (hn : n < 109572) (hd : ¬ d < lenV y m) (hm : ¬ m < 12) : IsDate (n + 1) (y + 1) 1 1 := by
  have hl := h.1.len
  have hm1 := h.1.m
  have hl2 := lenV_b (y := y + 1) (m := 1) (by omega) (by omega)
  have hk := h.1.monE
  have hr := h.range
  have e : mon (y + 1) 1 = mon y m + 1 := by have := h.1.1; unfold mon; omega
  have hy : y + 1 ≤ 2199 := by
    rcases Int.lt_or_le y 2199 with k | k
    · omega
    · exfalso
      have : mon y m + 1 = 3600 := by have := h.1.2.1; omega
      have h3 := h.2
      have h5 := h.1.2.2.2
      have h6 : firstM (mon y m + 1) = firstM (mon y m) + dayM (mon y m) := rfl
      rw [this, firstM_end, hl] at h6
      unfold ofN at h3; omega
  obtain ⟨⟨h1, h2, h3, h4⟩, rfl⟩ := h
  refine ⟨⟨by omega, hy, by omega, by omega⟩, ?_⟩
  unfold ofN
  rw [e, firstM, hl]; omega

set_option maxHeartbeats 4000000 in
theorem daysFollow_main (n y m d y' m' d' : Int) (w : World) (ht : Tab w) (n1 : 0 ≤ n) (n2 : n < 109572) (hA : IsDate n y m d) (hB : IsDate (n + 1) y' m' d')
    (hc : (d < lenV y m ∧ y' = y ∧ m' = m ∧ d' = d + 1) ∨ (¬ d < lenV y m ∧ m < 12 ∧ y' = y ∧ m' = m + 1 ∧ d' = 1) ∨ (¬ d < lenV y m ∧ ¬ m < 12 ∧ y' = y + 1 ∧ m' = 1 ∧ d' = 1)) :
    Calls Tryd.prog 8 #[.int .i64 n] w fun e w' => e = .returned (.bool true) ∧ Below w.heap.size w w' := by
  have H1 := Lib.hid (fun w ht => date_any n y m d w ht hA)
  have H2 := Lib.hid (fun w ht => date_any (n + 1) y' m' d' w ht hB)
  have H3 := Lib.hid (fun w => weekday_any (n + 1) w (by omega) (by omega))
  have H4 := Lib.hid (fun w => weekday_any n w (by omega) (by omega))
  rw [if_pos (by omega)] at H3 H4
  have hm := hA.1.m
  have hd := hA.1.d
  have HL := Lib.hid (fun w ht => length_q y m w ht (by have := hA.1.1; omega) (by have := hA.1.2.1; omega) (by omega) (by omega))
  have H7 := Lib.hid (fun w ht => lives_any w ht)
  have hq := eqSame y' m' d'
  have hy := hA.1.1
  have hy2 := hA.1.2.1
  clear hA hB
  generalize lenV y m = L at *
  go_enter Tryd.func8, Tryd.ntmps8
  go_wp2_with fail
  refine (H1.out _ ht).mono ?_
  rintro e w1 ⟨rfl, hb⟩
  have HB1 := Lib.hid hb
  clear hb
  go_wp2_with fail
  have HC1 := Lib.hid (Cell3.alloc w1 (.int .i64 y) (.int .i64 m) (.int .i64 d) 23)
  have HBa := Lib.hid (HB1.out.alloc HB1.out.size (Obj.cells #[.int .i64 y, .int .i64 m, .int .i64 d] 23))
  generalize w1.alloc (Obj.cells #[.int .i64 y, .int .i64 m, .int .i64 d] 23) = W1 at *
  refine (H2.out _ (ht.below HBa.out)).mono ?_
  rintro e w2 ⟨rfl, hb⟩
  have HB2 := Lib.hid (HBa.out.trans (hb.mono HBa.out.size))
  have HC2 := Lib.hid (HC1.out.below hb HC1.out.lt)
  clear hb
  go_wp2_with fail
  have HCb := Lib.hid (Cell3.alloc w2 (.int .i64 y') (.int .i64 m') (.int .i64 d') 23)
  have HBb := Lib.hid (HB2.out.alloc HB2.out.size (Obj.cells #[.int .i64 y', .int .i64 m', .int .i64 d'] 23))
  have HCc := Lib.hid (HC2.out.below ((Below.refl _ _).alloc (Nat.le_refl _) (Obj.cells #[.int .i64 y', .int .i64 m', .int .i64 d'] 23)) HC2.out.lt)
  generalize w2.alloc (Obj.cells #[.int .i64 y', .int .i64 m', .int .i64 d'] 23) = W2 at *
  have HTb := Lib.hid (ht.below HBb.out)
  refine (H3.out _).mono ?_
  rintro e w3 ⟨rfl, rfl⟩
  go_wp2_with fail
  refine (H4.out _).mono ?_
  rintro e w3 ⟨rfl, rfl⟩
  have c0 := HCb.out.c0
  have c1 := HCb.out.c1
  have c2 := HCb.out.c2
  have g0 := HCc.out.c0
  have g1 := HCc.out.c1
  have g2 := HCc.out.c2
  go_wp2_with fail
  rcases hc with ⟨k1, rfl, rfl, rfl⟩ | ⟨k1, k2, rfl, rfl, rfl⟩ | ⟨k1, k2, rfl, rfl, rfl⟩
  · go_quiet ((go_at_call 22; exact Calls.quiet_of_same (HL.out _ (HTb.out.drewN _))))
    go_wp2_with fail
    refine (H7.out _ (HTb.out.drewN _)).mono ?_
    rintro e w3 ⟨rfl, hb⟩
    go_wp2
    go_ret
    exact ⟨rfl, (below_drewN HBb.out _).trans (hb.mono HBb.out.size)⟩
  · go_quiet ((go_at_call 22; exact Calls.quiet_of_same (HL.out _ (HTb.out.drewN _))))
    go_wp2_with fail
    refine (H7.out _ (HTb.out.drewN _)).mono ?_
    rintro e w3 ⟨rfl, hb⟩
    go_wp2
    go_ret
    exact ⟨rfl, (below_drewN HBb.out _).trans (hb.mono HBb.out.size)⟩
  · go_quiet ((go_at_call 22; exact Calls.quiet_of_same (HL.out _ (HTb.out.drewN _))))
    go_wp2_with fail
    refine (H7.out _ (HTb.out.drewN _)).mono ?_
    rintro e w3 ⟨rfl, hb⟩
    go_wp2
    go_ret
    exact ⟨rfl, (below_drewN HBb.out _).trans (hb.mono HBb.out.size)⟩

set_option maxHeartbeats 400000 in
theorem daysFollow_walk (n : Int) (w : World) (ht : Tab w) (wn : (Lit.int .i64 n).wf = true) :
    Calls Tryd.prog 8 #[.int .i64 n] w fun e w' => e = .returned (.bool true) ∧ Below w.heap.size w w' := by
  obtain ⟨n1, n2⟩ := i64_bd wn
  by_cases h1 : n < 0
  · have q1 : decide (n < 0) = true := decide_eq_true h1
    go_enter Tryd.func8, Tryd.ntmps8
    go_wp2
    go_ret
    exact ⟨rfl, Below.refl _ _⟩
  by_cases h2 : 109572 ≤ n
  · have q2 : decide (109572 ≤ n) = true := decide_eq_true h2
    go_enter Tryd.func8, Tryd.ntmps8
    go_wp2
    go_ret
    exact ⟨rfl, Below.refl _ _⟩
  obtain ⟨y, m, d, hA⟩ := IsDate.ex (n := n) (by omega) (by omega)
  by_cases k1 : d < lenV y m
  · exact daysFollow_main n y m d _ _ _ w ht (by omega) (by omega) hA (next_day hA k1) (.inl ⟨k1, rfl, rfl, rfl⟩)
  by_cases k2 : m < 12
  · exact daysFollow_main n y m d _ _ _ w ht (by omega) (by omega) hA (next_month hA k1 k2) (.inr (.inl ⟨k1, k2, rfl, rfl, rfl⟩))
  · exact daysFollow_main n y m d _ _ _ w ht (by omega) (by omega) hA (next_year hA (by omega) k1 k2) (.inr (.inr ⟨k1, k2, rfl, rfl, rfl⟩))
end Go.Proofs.YtbmggfeneieglacDoor
