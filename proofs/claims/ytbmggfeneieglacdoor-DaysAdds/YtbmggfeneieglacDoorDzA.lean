/- What AddMonths of package accountingref04 returns. -/
import Derived.Test.YtbmggfeneieglacDoorDyY
namespace Go.Proofs.YtbmggfeneieglacDoor
open Go.RowKit Go.Sort
set_option linter.unusedVariables false

set_option maxHeartbeats 4000000 in
theorem rAddMonths_no (n k : Int) (w : World) (n1 : -9223372036854775808 ≤ n) (n2 : n ≤ 9223372036854775807) (h : n < 0 ∨ 109572 < n) :
    Calls Tryd.prog 25 #[.int .i64 n, .int .i64 k] w fun e w' => e = .returned (.tuple #[.int .i64 0, .int .i64 11]) ∧ Below w.heap.size w w' := by
  have HD := Lib.hid (fun w => rDate_no n w n1 n2 h)
  clear h
  go_enter Tryd.func25, Tryd.ntmps25
  go_wp2_with fail
  refine (HD.out _).mono ?_
  rintro e w' ⟨rfl, hb⟩
  have HB := Lib.hid hb
  clear hb
  go_wp2
  go_ret2
  exact ⟨rfl, (HB.out.alloc HB.out.size _)⟩

set_option maxHeartbeats 4000000 in
theorem rAddMonths_any (n y m d k : Int) (w : World) (h : IsDate n y m d) (k1 : -9223372036854775808 ≤ k) (k2 : k ≤ 9223372036854775807) :
    Calls Tryd.prog 25 #[.int .i64 n, .int .i64 k] w fun e w' => e = .returned (.tuple #[.int .i64 (addV y m d k), .int .i64 (addE y m k)]) ∧ Below w.heap.size w w' := by
  have HD := Lib.hid (fun w => rDate_any n y m d w h)
  obtain ⟨n1, n2, n3, n4⟩ := h.range
  have hm := h.1.m
  have hd := h.1.d
  have HV := Lib.hid h.1
  obtain ⟨v1, v2, v3, v4⟩ := h.1
  clear h n3 n4
  unfold addV addE
  have HZ := Lib.hid (show addK y m k = (y - 1900) * 12 + m - 1 + k from rfl)
  have HDV := Lib.hid (fun h1 h2 => addD_valid (k := k) HV.out h1 h2)
  have hzm : addK y m k ≤ 3599 + k := by rw [HZ.out]; omega
  have hzl : k ≤ addK y m k := by rw [HZ.out]; omega
  unfold addD at *
  by_cases ha : k < -3600
  · rw [if_neg (by omega), if_neg (by omega)]
    have q1 : decide (k < -3600) = true := decide_eq_true ha
    go_enter Tryd.func25, Tryd.ntmps25
    go_wp2_with fail
    refine (HD.out _).mono ?_
    rintro e w1 ⟨rfl, hb⟩
    have HB := Lib.hid hb
    clear hb
    go_wp2
    go_ret2
    exact ⟨rfl, (HB.out.alloc HB.out.size _)⟩
  by_cases hb : 3600 < k
  · rw [if_neg (by omega), if_neg (by omega)]
    have q2 : decide (3600 < k) = true := decide_eq_true hb
    go_enter Tryd.func25, Tryd.ntmps25
    go_wp2_with fail
    refine (HD.out _).mono ?_
    rintro e w1 ⟨rfl, hb⟩
    have HB := Lib.hid hb
    clear hb
    go_wp2
    go_ret2
    exact ⟨rfl, (HB.out.alloc HB.out.size _)⟩
  by_cases hz : addK y m k < 0
  · rw [if_neg (by omega), if_neg (by omega)]
    have hz' : (y - 1900) * 12 + m - 1 + k < 0 := hz
    clear HZ hzm hzl hz HDV
    go_enter Tryd.func25, Tryd.ntmps25
    go_wp2_with fail
    refine (HD.out _).mono ?_
    rintro e w1 ⟨rfl, hb⟩
    have HB := Lib.hid hb
    clear hb
    go_wp2
    go_ret2
    exact ⟨rfl, (HB.out.alloc HB.out.size _)⟩
  by_cases hy : 3600 ≤ addK y m k
  · rw [if_neg (by omega), if_neg (by omega)]
    have hz' : 3600 ≤ (y - 1900) * 12 + m - 1 + k := hy
    clear HZ hzm hzl hz HDV
    go_enter Tryd.func25, Tryd.ntmps25
    go_wp2_with fail
    refine (HD.out _).mono ?_
    rintro e w1 ⟨rfl, hb⟩
    have HB := Lib.hid hb
    clear hb
    go_wp2
    go_ret2
    exact ⟨rfl, (HB.out.alloc HB.out.size _)⟩
  rw [if_pos (show 0 ≤ addK y m k ∧ addK y m k < 3600 by omega), if_pos (show 0 ≤ addK y m k ∧ addK y m k < 3600 by omega)]
  have HDW := Lib.hid (HDV.out (by omega) (by omega))
  have hz1 : 0 ≤ (y - 1900) * 12 + m - 1 + k := by have := HZ.out; omega
  have hz2 : (y - 1900) * 12 + m - 1 + k < 3600 := by have := HZ.out; omega
  clear hz hy hzm hzl HDV
  rw [HZ.out] at HDW ⊢
  clear HZ
  have eZ : ∃ z, z = (y - 1900) * 12 + m - 1 + k := ⟨_, rfl⟩
  obtain ⟨z, ez⟩ := eZ
  rw [← ez] at HDW hz1 hz2 ⊢
  have hl := lenV_b (y := 1900 + z / 12) (m := z % 12 + 1) (by omega) (by omega)
  have HL := Lib.hid (fun w => rLength_any (1900 + z / 12) (z % 12 + 1) w (by omega) (by omega) (by omega) (by omega))
  have HO := Lib.hid (fun w => rOf_any (1900 + z / 12) (z % 12 + 1) (if lenV (1900 + z / 12) (z % 12 + 1) < d then lenV (1900 + z / 12) (z % 12 + 1) else d) w (by omega) (by omega) (by omega) (by omega) (by split <;> omega) (by split <;> omega))
  rw [ofV_of HDW.out, ofE_of HDW.out] at HO
  clear HDW
  have EZ := Lib.hid ez
  have w1 : (y - 1900) * 12 + m - 1 + k = z := ez.symm
  clear ez
  by_cases hd2 : lenV (1900 + z / 12) (z % 12 + 1) < d
  · rw [if_pos hd2] at HO ⊢
    generalize ofN (1900 + z / 12) (z % 12 + 1) (lenV (1900 + z / 12) (z % 12 + 1)) = R at *
    generalize lenV (1900 + z / 12) (z % 12 + 1) = L at *
    go_enter Tryd.func25, Tryd.ntmps25
    go_wp2_with fail
    refine (HD.out _).mono ?_
    rintro e w1 ⟨rfl, hb⟩
    have HB := Lib.hid hb
    clear hb
    go_wp2_with fail
    have HC := Lib.hid (Cell3.alloc w1 (.int .i64 y) (.int .i64 m) (.int .i64 d) 23)
    have HBa := Lib.hid (HB.out.alloc HB.out.size (Obj.cells #[.int .i64 y, .int .i64 m, .int .i64 d] 23))
    have HBz := Lib.hid (show w.heap.size ≤ w1.heap.size from HB.out.size)
    generalize w1.alloc (Obj.cells #[.int .i64 y, .int .i64 m, .int .i64 d] 23) = W at *
    have l2 := cell_regrown HC.out.c2
    have cL : ∀ dd os, Calls Tryd.prog 23 #[.int .i64 (1900 + z / 12), .int .i64 (z % 12 + 1)] (grow (redrawn W dd) os) fun e w'' => e = .returned (.int .i64 L) ∧ ∃ p : Regrown, w'' = grow (redrawn W p.d) p.os := fun dd os => Calls.regrown_of (HL.out _)
    have qd : decide (L < d) = true := decide_eq_true hd2
    refine wp_region_quiet_below (l := _) (by kernel_rfl) (by kernel_rfl) ?_
    repeat (first | go_big_quiet_step (exact cL _ _) | quiet_step (exact cL _ _))
    refine wpQuiet_nil ?_
    intro w2 hw'
    obtain ⟨⟨dq2, osq2⟩, hw''⟩ := hw'
    have hb2 := below_regrown W dq2 osq2
    rw [← hw''] at hb2
    clear hw'' l2 cL
    have HC2 := Lib.hid (HC.out.below hb2 HC.out.lt)
    have HB2 := Lib.hid (HBa.out.trans (hb2.mono HBa.out.size))
    clear hb2
    go_wp2_with fail
    refine (HL.out _).mono ?_
    rintro e w3 ⟨rfl, hb3⟩
    have HC3 := Lib.hid (HC2.out.below hb3 HC2.out.lt)
    have HB3 := Lib.hid (HB2.out.trans (hb3.mono HB2.out.size))
    clear hb3
    have c2 := HC3.out.c2
    have f2 := HC3.out.f2
    have e2 := (HC3.out.set2 (.int .i64 L)).c2
    go_wp2_with fail
    have HB4 := Lib.hid (HB3.out.setCell (p := ⟨w1.heap.size, 2, none⟩) HBz.out (.int .i64 L))
    refine (HO.out _).mono ?_
    rintro e w4 ⟨rfl, hb4⟩
    go_wp2
    go_ret2
    exact ⟨rfl, HB4.out.trans (hb4.mono HB4.out.size)⟩
  · rw [if_neg hd2] at HO ⊢
    generalize ofN (1900 + z / 12) (z % 12 + 1) d = R at *
    generalize lenV (1900 + z / 12) (z % 12 + 1) = L at *
    go_enter Tryd.func25, Tryd.ntmps25
    go_wp2_with fail
    refine (HD.out _).mono ?_
    rintro e w1 ⟨rfl, hb⟩
    have HB := Lib.hid hb
    clear hb
    go_wp2_with fail
    have HC := Lib.hid (Cell3.alloc w1 (.int .i64 y) (.int .i64 m) (.int .i64 d) 23)
    have HBa := Lib.hid (HB.out.alloc HB.out.size (Obj.cells #[.int .i64 y, .int .i64 m, .int .i64 d] 23))
    have HBz := Lib.hid (show w.heap.size ≤ w1.heap.size from HB.out.size)
    generalize w1.alloc (Obj.cells #[.int .i64 y, .int .i64 m, .int .i64 d] 23) = W at *
    have l2 := cell_regrown HC.out.c2
    have cL : ∀ dd os, Calls Tryd.prog 23 #[.int .i64 (1900 + z / 12), .int .i64 (z % 12 + 1)] (grow (redrawn W dd) os) fun e w'' => e = .returned (.int .i64 L) ∧ ∃ p : Regrown, w'' = grow (redrawn W p.d) p.os := fun dd os => Calls.regrown_of (HL.out _)
    have qd : decide (L < d) = false := decide_eq_false (by omega)
    refine wp_region_quiet_below (l := _) (by kernel_rfl) (by kernel_rfl) ?_
    repeat (first | go_big_quiet_step (exact cL _ _) | quiet_step (exact cL _ _))
    refine wpQuiet_nil ?_
    intro w2 hw'
    obtain ⟨⟨dq2, osq2⟩, hw''⟩ := hw'
    have hb2 := below_regrown W dq2 osq2
    rw [← hw''] at hb2
    clear hw'' l2 cL
    have HC2 := Lib.hid (HC.out.below hb2 HC.out.lt)
    have HB2 := Lib.hid (HBa.out.trans (hb2.mono HBa.out.size))
    clear hb2
    have c2 := HC2.out.c2
    go_wp2_with fail
    refine (HO.out _).mono ?_
    rintro e w4 ⟨rfl, hb4⟩
    go_wp2
    go_ret2
    exact ⟨rfl, HB2.out.trans (hb4.mono HB2.out.size)⟩

set_option maxHeartbeats 4000000 in
theorem daysAdds_main (n k x e : Int) (w : World) (ht : Tab w)
    (H1 : Hid (∀ w, Tab w → Calls Tryd.prog 24 #[.int .i64 n, .int .i64 k] w fun r w' => r = .returned (.tuple #[.int .i64 x, .int .i64 e]) ∧ Below w.heap.size w w'))
    (H2 : Hid (∀ w, Calls Tryd.prog 25 #[.int .i64 n, .int .i64 k] w fun r w' => r = .returned (.tuple #[.int .i64 x, .int .i64 e]) ∧ Below w.heap.size w w')) :
    Calls Tryd.prog 6 #[.int .i64 n, .int .i64 k] w fun e w' => e = .returned (.bool true) ∧ Below w.heap.size w w' := by
  have H7 := Lib.hid (fun w ht => lives_any w ht)
  go_enter Tryd.func6, Tryd.ntmps6
  go_wp2_with fail
  refine (H1.out _ ht).mono ?_
  rintro e w1 ⟨rfl, hb⟩
  have HB1 := Lib.hid hb
  clear hb
  go_wp2_with fail
  refine (H2.out _).mono ?_
  rintro e w2 ⟨rfl, hb⟩
  have HB2 := Lib.hid (HB1.out.trans (hb.mono HB1.out.size))
  clear hb
  go_wp2_with fail
  refine (H7.out _ (ht.below HB2.out)).mono ?_
  rintro e w3 ⟨rfl, hb⟩
  go_wp2
  go_ret
  exact ⟨rfl, HB2.out.trans (hb.mono HB2.out.size)⟩
theorem daysAdds_walk (n k : Int) (w : World) (ht : Tab w) (wn : (Lit.int .i64 n).wf = true) (wk : (Lit.int .i64 k).wf = true) :
    Calls Tryd.prog 6 #[.int .i64 n, .int .i64 k] w fun e w' => e = .returned (.bool true) ∧ Below w.heap.size w w' := by
  obtain ⟨n1, n2⟩ := i64_bd wn
  obtain ⟨k1, k2⟩ := i64_bd wk
  by_cases h : 0 ≤ n ∧ n ≤ 109572
  · obtain ⟨y, m, d, hd⟩ := IsDate.ex h.1 h.2
    exact daysAdds_main n k _ _ w ht (Lib.hid fun w ht => addMonths_any n y m d k w ht hd k1 k2) (Lib.hid fun w => rAddMonths_any n y m d k w hd k1 k2)
  · have h' : n < 0 ∨ 109572 < n := by omega
    exact daysAdds_main n k _ _ w ht (Lib.hid fun w ht => addMonths_no n k w n1 n2 h') (Lib.hid fun w => rAddMonths_no n k w n1 n2 h')
end Go.Proofs.YtbmggfeneieglacDoor
