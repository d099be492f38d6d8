/- The chapter's examples hold: lives of package accountinglaw04 returns true. -/
import Derived.Test.YtbmggfeneieglacDoorDyL
namespace Go.Proofs.YtbmggfeneieglacDoor
open Go.RowKit Go.Sort
set_option linter.unusedVariables false

theorem ext_list (s : ByteArray) (a b : Nat) : (s.extract a b).toList = (s.toList.take b).drop a := by
  rw [ByteArray.toList_eq, ByteArray.toList_eq]
  simp [ByteArray.data_extract, Array.toList_extract, List.extract, List.drop_take]
theorem v1 : Valid 2000 2 29 := by decide
theorem v2 : Valid 2001 2 28 := by decide
theorem i1 : IsDate 36583 2000 2 29 := ⟨v1, by rw [ofN_year v1]; decide⟩
theorem i2 : IsDate 36948 2001 2 28 := ⟨v2, by rw [ofN_year v2]; decide⟩
theorem lvA : addV 2000 2 29 12 = 36948 := by
  unfold addV
  rw [if_pos (by decide)]
  have e1 : addD 2000 2 29 12 = 28 := by decide
  rw [e1]
  exact i2.2
theorem lvB : addE 2000 2 12 = 0 := by decide
theorem lvP : pdE ⟨#[50, 48, 48, 49, 45, 48, 50, 45, 50, 57]⟩ = 11 := by
  have hl := toList_mk [50, 48, 48, 49, 45, 48, 50, 45, 50, 57]
  have h1 : rdO ((⟨#[50, 48, 48, 49, 45, 48, 50, 45, 50, 57]⟩ : ByteArray).extract 0 4) = true := by unfold rdO; rw [ext_list, hl]; decide
  have h2 : rdO ((⟨#[50, 48, 48, 49, 45, 48, 50, 45, 50, 57]⟩ : ByteArray).extract 5 7) = true := by unfold rdO; rw [ext_list, hl]; decide
  have h3 : rdO ((⟨#[50, 48, 48, 49, 45, 48, 50, 45, 50, 57]⟩ : ByteArray).extract 8 10) = true := by unfold rdO; rw [ext_list, hl]; decide
  have hp : pdO ⟨#[50, 48, 48, 49, 45, 48, 50, 45, 50, 57]⟩ := by
    refine ⟨by decide, ?_, ?_, h1, h2, h3⟩ <;> rw [hl] <;> decide
  unfold pdE
  rw [if_pos hp]
  unfold rdV
  rw [if_pos h1, if_pos h2, if_pos h3, ext_list, ext_list, ext_list, hl]
  decide
theorem lvS : ((dayS 2001 2 28).toList == [50, 48, 48, 49, 45, 48, 50, 45, 50, 56]) = true := by
  unfold dayS twoS
  rw [if_pos (by decide), if_neg (by decide)]
  rw [app_list, app_list, app_list, app_list, app_list, textS_list, textS_list, textS_list, toList_mk, toList_mk]
  unfold text
  rw [if_neg (by decide), if_neg (by decide), if_neg (by decide)]
  simp [dg]

set_option maxHeartbeats 4000000 in
theorem lives_any (w : World) (ht : Tab w) :
    Calls Tryd.prog 13 #[] w fun e w' => e = .returned (.bool true) ∧ Below w.heap.size w w' := by
  have H1 := Lib.hid (fun w ht => of_any 2000 2 29 w ht (by omega) (by omega) (by omega) (by omega) (by omega) (by omega))
  rw [ofV_of v1, ofE_of v1, i1.2] at H1
  have H2 := Lib.hid (fun w ht => addMonths_any 36583 2000 2 29 12 w ht i1 (by omega) (by omega))
  rw [lvA, lvB] at H2
  have H3 := Lib.hid (fun w ht => dayText_any 36948 2001 2 28 w ht i2)
  have H4 := Lib.hid (fun w ht => dayParse_any ⟨#[50, 48, 48, 49, 45, 48, 50, 45, 50, 57]⟩ w ht (by decide))
  rw [lvP] at H4
  have H5 := Lib.hid (fun w => weekday_any 36583 w (by omega) (by omega))
  rw [if_pos (by omega)] at H5
  have hS := lvS
  generalize dayS 2001 2 28 = S at *
  generalize pdV ⟨#[50, 48, 48, 49, 45, 48, 50, 45, 50, 57]⟩ = PV at *
  go_enter Tryd.func13, Tryd.ntmps13
  go_wp2_with fail
  refine (H1.out _ ht).mono ?_
  rintro e w1 ⟨rfl, hb1⟩
  have HB1 := Lib.hid hb1
  have HT1 := Lib.hid (ht.below hb1)
  clear hb1
  go_wp2_with fail
  refine (H2.out _ HT1.out).mono ?_
  rintro e w2 ⟨rfl, hb2⟩
  have HB2 := Lib.hid (HB1.out.trans (hb2.mono HB1.out.size))
  have HT2 := Lib.hid (HT1.out.below hb2)
  clear hb2
  go_wp2_with fail
  refine (H3.out _ HT2.out).mono ?_
  rintro e w3 ⟨rfl, hb3⟩
  have HB3 := Lib.hid (HB2.out.trans (hb3.mono HB2.out.size))
  have HT3 := Lib.hid (HT2.out.below hb3)
  clear hb3
  go_wp2_with fail
  refine (H4.out _ HT3.out).mono ?_
  rintro e w4 ⟨rfl, hb4⟩
  have HB4 := Lib.hid (HB3.out.trans (hb4.mono HB3.out.size))
  clear hb4
  go_wp2_with fail
  refine (H5.out _).mono ?_
  rintro e w5 ⟨rfl, rfl⟩
  go_wp2
  go_ret
  exact ⟨rfl, HB4.out⟩
end Go.Proofs.YtbmggfeneieglacDoor
