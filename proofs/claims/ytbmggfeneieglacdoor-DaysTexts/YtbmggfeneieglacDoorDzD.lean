/- The statement DaysTexts of package accountinglaw04. -/
import Derived.Test.YtbmggfeneieglacDoorDzC
namespace Go.Proofs.YtbmggfeneieglacDoor
open Go.RowKit Go.Sort
set_option linter.unusedVariables false

theorem cut_list (A B C : List UInt8) (hA : A.length = 4) (hB : B.length = 2) (hC : C.length = 2) :
    (A ++ [45] ++ B ++ [45] ++ C).length = 10 ∧ ((A ++ [45] ++ B ++ [45] ++ C).take 4).drop 0 = A ∧ ((A ++ [45] ++ B ++ [45] ++ C).take 7).drop 5 = B ∧ ((A ++ [45] ++ B ++ [45] ++ C).take 10).drop 8 = C ∧
    (A ++ [45] ++ B ++ [45] ++ C)[4]? = some 45 ∧ (A ++ [45] ++ B ++ [45] ++ C)[7]? = some 45 := by
  match A, B, C, hA, hB, hC with
  | [a, b, c, d], [e, f], [g, h], _, _, _ => simp
theorem dayS_list {y m d : Int} (hy : 0 ≤ y) (hm1 : 0 ≤ m) (hm2 : m ≤ 99) (hd1 : 0 ≤ d) (hd2 : d ≤ 99) : (dayS y m d).toList = dg y.toNat ++ [45] ++ twoL m.toNat ++ [45] ++ twoL d.toNat := by
  unfold dayS
  rw [app_list, app_list, app_list, app_list, textS_list, two_list hm1 hm2, two_list hd1 hd2, text_nat hy, toList_mk [45]]
theorem dg4 {n : Nat} (h1 : 1000 ≤ n) (h2 : n ≤ 9999) : (dg n).length = 4 := by
  rw [dg_big (by omega), dg_big (by omega), dg_big (by omega), dg_small (by omega)]; rfl
theorem twoL_all {n : Nat} (h : n ≤ 99) : (twoL n).all dig = true ∧ dec (twoL n) = n := by
  unfold twoL
  constructor
  · simp only [List.all_cons, List.all_nil, Bool.and_true, Bool.and_eq_true]
    constructor <;> (apply dig_yes <;> rw [byte48add (by omega)] <;> omega)
  · unfold dec
    simp only [List.foldl_cons, List.foldl_nil]
    rw [byte48add (by omega), byte48add (by omega)]; omega
theorem parse_day {n y m d : Int} (h : IsDate n y m d) : pdV (dayS y m d) = n ∧ pdE (dayS y m d) = 0 := by
  have hm := h.1.m
  have hd := h.1.d
  have hy := h.1.1
  have hy2 := h.1.2.1
  have hl := dayS_list (y := y) (m := m) (d := d) (by omega) (by omega) (by omega) (by omega) (by omega)
  have hA := dg4 (n := y.toNat) (by omega) (by omega)
  obtain ⟨c1, c2, c3, c4, c5, c6⟩ := cut_list (dg y.toNat) (twoL m.toNat) (twoL d.toNat) hA rfl rfl
  have r1 : rdO ((dayS y m d).extract 0 4) = true := by unfold rdO; rw [ext_list, hl, c2]; exact dg_all _
  have r2 : rdO ((dayS y m d).extract 5 7) = true := by unfold rdO; rw [ext_list, hl, c3]; exact (twoL_all (by omega)).1
  have r3 : rdO ((dayS y m d).extract 8 10) = true := by unfold rdO; rw [ext_list, hl, c4]; exact (twoL_all (by omega)).1
  have hp : pdO (dayS y m d) := ⟨by rw [← bytes_len, hl, c1], by rw [hl, c5], by rw [hl, c6], r1, r2, r3⟩
  have v1 : rdV ((dayS y m d).extract 0 4) = y := by unfold rdV; rw [if_pos r1, ext_list, hl, c2, dec_dg]; omega
  have v2 : rdV ((dayS y m d).extract 5 7) = m := by unfold rdV; rw [if_pos r2, ext_list, hl, c3, (twoL_all (by omega)).2]; omega
  have v3 : rdV ((dayS y m d).extract 8 10) = d := by unfold rdV; rw [if_pos r3, ext_list, hl, c4, (twoL_all (by omega)).2]; omega
  unfold pdV pdE
  rw [if_pos hp, if_pos hp, v1, v2, v3, ofV_of h.1, ofE_of h.1]
  exact ⟨h.2, rfl⟩

set_option maxHeartbeats 4000000 in
theorem daysTexts_yes (n : Int) (S : ByteArray) (w : World) (ht : Tab w)
    (H1 : Hid (∀ w, Tab w → Calls Tryd.prog 26 #[.int .i64 n] w fun e w' => e = .returned (.tuple #[.string S, .int .i64 0]) ∧ Below w.heap.size w w'))
    (H2 : Hid (∀ w, Calls Tryd.prog 27 #[.int .i64 n] w fun e w' => e = .returned (.tuple #[.string S, .int .i64 0]) ∧ Below w.heap.size w w'))
    (H3 : Hid (∀ w, Tab w → Calls Tryd.prog 28 #[.string S] w fun e w' => e = .returned (.tuple #[.int .i64 n, .int .i64 0]) ∧ Below w.heap.size w w')) :
    Calls Tryd.prog 9 #[.int .i64 n] w fun e w' => e = .returned (.bool true) ∧ Below w.heap.size w w' := by
  have H7 := Lib.hid (fun w ht => lives_any w ht)
  go_enter Tryd.func9, Tryd.ntmps9
  go_wp2_with fail
  refine (H1.out _ ht).mono ?_
  rintro e w1 ⟨rfl, hb⟩
  have HB1 := Lib.hid hb
  clear hb
  go_wp2_with fail
  refine (H2.out _).mono ?_
  rintro e w2 ⟨rfl, hb⟩
  have HB2 := Lib.hid (HB1.out.trans (hb.mono HB1.out.size))
  clear hb
  go_wp2_with fail
  refine (H7.out _ (ht.below HB2.out)).mono ?_
  rintro e w3 ⟨rfl, hb⟩
  have HB3 := Lib.hid (HB2.out.trans (hb.mono HB2.out.size))
  clear hb
  go_wp2_with fail
  refine (H3.out _ (ht.below HB3.out)).mono ?_
  rintro e w4 ⟨rfl, hb⟩
  go_wp2
  go_ret
  exact ⟨rfl, HB3.out.trans (hb.mono HB3.out.size)⟩
set_option maxHeartbeats 4000000 in
theorem daysTexts_no (n : Int) (w : World) (ht : Tab w)
    (H1 : Hid (∀ w, Tab w → Calls Tryd.prog 26 #[.int .i64 n] w fun e w' => e = .returned (.tuple #[.string ⟨#[]⟩, .int .i64 11]) ∧ Below w.heap.size w w'))
    (H2 : Hid (∀ w, Calls Tryd.prog 27 #[.int .i64 n] w fun e w' => e = .returned (.tuple #[.string ⟨#[]⟩, .int .i64 11]) ∧ Below w.heap.size w w')) :
    Calls Tryd.prog 9 #[.int .i64 n] w fun e w' => e = .returned (.bool true) ∧ Below w.heap.size w w' := by
  have H7 := Lib.hid (fun w ht => lives_any w ht)
  go_enter Tryd.func9, Tryd.ntmps9
  go_wp2_with fail
  refine (H1.out _ ht).mono ?_
  rintro e w1 ⟨rfl, hb⟩
  have HB1 := Lib.hid hb
  clear hb
  go_wp2_with fail
  refine (H2.out _).mono ?_
  rintro e w2 ⟨rfl, hb⟩
  have HB2 := Lib.hid (HB1.out.trans (hb.mono HB1.out.size))
  clear hb
  go_wp2_with fail
  refine (H7.out _ (ht.below HB2.out)).mono ?_
  rintro e w3 ⟨rfl, hb⟩
  go_wp2
  go_ret
  exact ⟨rfl, HB2.out.trans (hb.mono HB2.out.size)⟩
theorem dayS_size {y m d : Int} (h : Valid y m d) : (dayS y m d).size ≤ maxLen := by
  have hm := h.m
  have hd := h.d
  have z1 := textS_size21 (n := y) (by have := h.1; omega) (by have := h.2.1; omega)
  have z2 := twoS_size (n := m) (by omega) (by omega)
  have z3 := twoS_size (n := d) (by omega) (by omega)
  unfold dayS maxLen
  simp only [ByteArray.size_append]
  show _ + 1 + _ + 1 + _ ≤ _
  omega
theorem daysTexts_walk (n : Int) (w : World) (ht : Tab w) (wn : (Lit.int .i64 n).wf = true) :
    Calls Tryd.prog 9 #[.int .i64 n] w fun e w' => e = .returned (.bool true) ∧ Below w.heap.size w w' := by
  obtain ⟨n1, n2⟩ := i64_bd wn
  by_cases h : 0 ≤ n ∧ n ≤ 109572
  · obtain ⟨y, m, d, hd⟩ := IsDate.ex h.1 h.2
    have H3 := fun w ht => dayParse_any (dayS y m d) w ht (dayS_size hd.1)
    rw [(parse_day hd).1, (parse_day hd).2] at H3
    exact daysTexts_yes n _ w ht (Lib.hid fun w ht => dayText_any n y m d w ht hd) (Lib.hid fun w => rDayText_any n y m d w hd) (Lib.hid H3)
  · have h' : n < 0 ∨ 109572 < n := by omega
    exact daysTexts_no n w ht (Lib.hid fun w ht => dayText_no n w n1 n2 h') (Lib.hid fun w => rDayText_no n w n1 n2 h')
end Go.Proofs.YtbmggfeneieglacDoor
