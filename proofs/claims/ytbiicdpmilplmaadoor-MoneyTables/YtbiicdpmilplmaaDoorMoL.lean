/- The chapter's examples hold. -/
import Derived.Test.YtbiicdpmilplmaaDoorMoF
namespace Go.Proofs.YtbiicdpmilplmaaDoor
open Go.RowKit Go.Sort
set_option linter.unusedVariables false

theorem ext_list (s : ByteArray) (a b : Nat) : (s.extract a b).toList = (s.toList.take b).drop a := by
  rw [ByteArray.toList_eq, ByteArray.toList_eq, ByteArray.data_extract, Array.toList_extract]
  simp [List.extract, List.drop_take]
theorem app_list2 (a b : ByteArray) : (a ++ b).toList = a.toList ++ b.toList := by
  rw [ByteArray.toList_eq, ByteArray.toList_eq, ByteArray.toList_eq, ByteArray.data_append]; simp
theorem lvT : (amtS (-5) 2).toList = [45, 48, 46, 48, 53] := by
  have e : amtS (-5) 2 = ⟨#[45]⟩ ++ (textS 0 ++ (⟨#[46]⟩ ++ (textS 105).extract 1 (textS 105).size)) := rfl
  have e1 : (⟨#[45]⟩ : ByteArray).toList = [45] := toList_mk [45]
  have e2 : (⟨#[46]⟩ : ByteArray).toList = [46] := toList_mk [46]
  have t0 : text 0 = [48] := by unfold text; rw [if_neg (by decide)]; simp [dg]
  have t1 : text 105 = [49, 48, 53] := by unfold text; rw [if_neg (by decide)]; simp [dg]
  rw [e, app_list2, app_list2, app_list2, ext_list, textS_size, textS_list, textS_list, e1, e2, t0, t1]
  decide
theorem lvA : isNeg (⟨#[49, 50, 51, 52, 46, 53, 48]⟩ : ByteArray).toList = false := by rw [toList_mk [49, 50, 51, 52, 46, 53, 48]]; decide
theorem lvB : restOf ⟨#[49, 50, 51, 52, 46, 53, 48]⟩ = ⟨#[49, 50, 51, 52, 46, 53, 48]⟩ := restOf_no lvA
theorem lvC : rsF ⟨#[49, 50, 51, 52, 46, 53, 48]⟩ 2 := by
  refine ⟨by decide, ?_, ?_⟩
  · rw [toList_mk [49, 50, 51, 52, 46, 53, 48]]; decide
  · intro j h _
    have h7 : j < 7 := h
    match j, h7 with
    | 0, _ => exact .inr ⟨by decide, rfl⟩
    | 1, _ => exact .inr ⟨by decide, rfl⟩
    | 2, _ => exact .inr ⟨by decide, rfl⟩
    | 3, _ => exact .inr ⟨by decide, rfl⟩
    | 4, _ => exact .inl ⟨by decide, rfl⟩
    | 5, _ => exact .inr ⟨by decide, rfl⟩
    | 6, _ => exact .inr ⟨by decide, rfl⟩
theorem lvD : rsV ⟨#[49, 50, 51, 52, 46, 53, 48]⟩ 2 = 123450 := by
  unfold rsV dl
  rw [toList_mk [49, 50, 51, 52, 46, 53, 48]]
  decide
theorem lvE : isNeg (⟨#[45, 48, 46, 48, 48]⟩ : ByteArray).toList = true := by rw [toList_mk [45, 48, 46, 48, 48]]; decide
theorem lvF : restOf ⟨#[45, 48, 46, 48, 48]⟩ = ⟨#[48, 46, 48, 48]⟩ := by rw [restOf_yes lvE]; rfl
theorem lvG : rsF ⟨#[48, 46, 48, 48]⟩ 2 := by
  refine ⟨by decide, ?_, ?_⟩
  · rw [toList_mk [48, 46, 48, 48]]; decide
  · intro j h _
    have h7 : j < 4 := h
    match j, h7 with
    | 0, _ => exact .inr ⟨by decide, rfl⟩
    | 1, _ => exact .inl ⟨by decide, rfl⟩
    | 2, _ => exact .inr ⟨by decide, rfl⟩
    | 3, _ => exact .inr ⟨by decide, rfl⟩
theorem lvH : rsV ⟨#[48, 46, 48, 48]⟩ 2 = 0 := by
  unfold rsV dl
  rw [toList_mk [48, 46, 48, 48]]
  decide
theorem lvI : codeB ⟨#[69, 85, 82]⟩ = true := by unfold codeB; rw [toList_mk [69, 85, 82]]; decide
theorem lvJ : codeB ⟨#[69, 85, 49]⟩ = false := by unfold codeB; rw [toList_mk [69, 85, 49]]; decide
theorem lvK : scV (-125) 2 1 4 = (-12, 0) := by decide

set_option maxHeartbeats 2000000 in
theorem lives_any (w : World) (ht : Tab w) :
    Calls Tryd.prog 16 #[] w fun e w' => e = .returned (.bool true) ∧ Below w.heap.size w w' := by
  have H1 := Lib.hid (fun w ht => mText_2n 5 w ht (by omega) (by omega))
  have H2 := Lib.hid (fun w => mParse_ok ⟨#[49, 50, 51, 52, 46, 53, 48]⟩ 2 w (by decide) (by decide) (by rw [lvB]; exact lvC) (by rw [lvB, lvD]; decide) (by rw [lvA]; simp))
  rw [lvA, lvB, lvD] at H2
  simp only [Bool.false_eq_true, if_false] at H2
  have H3 := Lib.hid (fun w ht => scale_any (-125) 2 1 4 w ht (by omega) (by omega))
  rw [lvK] at H3
  have H4 := Lib.hid (fun w => mParse_form ⟨#[45, 48, 46, 48, 48]⟩ 2 w (by decide) (by decide) (.inr ⟨by rw [lvF]; exact lvG, lvE, by rw [lvF]; exact lvH⟩))
  have H5 := Lib.hid (fun w => code_any ⟨#[69, 85, 82]⟩ w (by decide))
  rw [lvI] at H5
  have H6 := Lib.hid (fun w => code_any ⟨#[69, 85, 49]⟩ w (by decide))
  rw [lvJ] at H6
  have hS : ((amtS (-5) 2).toList == [45, 48, 46, 48, 53]) = true := by rw [lvT]; decide
  generalize amtS (-5) 2 = S at *
  go_enter Tryd.func16, Tryd.ntmps16
  go_wp2_with fail
  refine (H1.out _ ht).mono ?_
  rintro e W1 ⟨rfl, hb1⟩
  have HB1 := Lib.hid (hb1)
  clear hb1
  go_wp2_with fail
  refine (H2.out _).mono ?_
  rintro e W2 ⟨rfl, hb2⟩
  have HB2 := Lib.hid (HB1.out.trans ((hb2).mono HB1.out.size))
  clear HB1 hb2
  go_wp2_with fail
  refine (H3.out _ (ht.below HB2.out)).mono ?_
  rintro e W3 ⟨rfl, hb3⟩
  have HB3 := Lib.hid (HB2.out.trans ((hb3).mono HB2.out.size))
  clear HB2 hb3
  go_wp2_with fail
  refine (H4.out _).mono ?_
  rintro e W4 ⟨rfl, hb4⟩
  have HB4 := Lib.hid (HB3.out.trans ((hb4).mono HB3.out.size))
  clear HB3 hb4
  go_wp2_with fail
  refine (H5.out _).mono ?_
  rintro e W5 ⟨rfl, hb5⟩
  have HB5 := Lib.hid (HB4.out.trans ((hb5).mono HB4.out.size))
  clear HB4 hb5
  go_wp2_with fail
  refine (H6.out _).mono ?_
  rintro e W6 ⟨rfl, hb6⟩
  have HB6 := Lib.hid (HB5.out.trans ((hb6).mono HB5.out.size))
  clear HB5 hb6
  go_wp2
  go_ret
  exact ⟨rfl, HB6.out⟩
end Go.Proofs.YtbiicdpmilplmaaDoor
