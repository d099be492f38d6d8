/- What Cmp, Apply and Text of the packages frac and accountingref03 return. -/
import Derived.Test.YtkpdbhpmnegahaaDoorFrF
import Derived.Test.YtkpdbhpmnegahaaDoorMdC
import Derived.Test.YtkpdbhpmnegahaaDoorMdS
import Derived.Test.YtkpdbhpmnegahaaDoorNumT
import Derived.Test.YtkpdbhpmnegahaaDoorNumR
namespace Go.Proofs.YtkpdbhpmnegahaaDoor
open Go.RowKit Go.Sort
set_option linter.unusedVariables false

theorem cmpI_islt {x y : Int} (h : x < y) : cmpI x y = -1 := by unfold cmpI; rw [if_pos h]
theorem cmpI_iseq {x y : Int} (h : x = y) : cmpI x y = 0 := by unfold cmpI; rw [if_neg (by omega), if_neg (by omega)]
theorem cmpI_isgt {x y : Int} (h : y < x) : cmpI x y = 1 := by unfold cmpI; rw [if_neg (by omega), if_pos h]
def cpV (a b c d : Int) : Int := if okB a b c d then cmpI (a * d) (c * b) else 0
def apV (a b n m : Int) : Int × Int := if rightB a b then mdV a n b m else (0, 2)
def txS (a b : Int) : ByteArray := if rightB a b then (if b = 1 then textS a else textS a ++ (⟨#[47]⟩ ++ textS b)) else ⟨#[]⟩
def txE (a b : Int) : Int := if rightB a b then 0 else 2

set_option maxRecDepth 100000 in
set_option maxHeartbeats 4000000 in
theorem cmpF_any (a b c d : Int) (w : World) (a1 : -9223372036854775808 ≤ a) (a2 : a ≤ 9223372036854775807) (b1 : -9223372036854775808 ≤ b) (b2 : b ≤ 9223372036854775807) (c1 : -9223372036854775808 ≤ c) (c2 : c ≤ 9223372036854775807) (d1 : -9223372036854775808 ≤ d) (d2 : d ≤ 9223372036854775807) :
    Calls Tryd.prog 30 #[.agg #[.int .i64 a, .int .i64 b], .agg #[.int .i64 c, .int .i64 d]] w fun e w' => e = .returned (.int .i64 (cpV a b c d)) ∧ Below w.heap.size w w' := by
  by_cases h1 : rightB a b = true
  case neg =>
    have h1' : rightB a b = false := by simpa using h1
    rw [show cpV a b c d = 0 from by unfold cpV; rw [ok_no1 h1']; rfl]
    have H1 := Lib.hid (fun W => right_val a b false h1' W a1 a2 b1 b2)
    clear h1 h1'
    go_enter Tryd.func30, Tryd.ntmps30
    go_wp2_with fail
    have P0_1 := Lib.hid (show Cell2 ((w.alloc (Obj.cells #[(.int .i64 a), (.int .i64 b)] 35)).alloc (Obj.cells #[(.int .i64 c), (.int .i64 d)] 35)) (w.heap.size) (.int .i64 a) (.int .i64 b) from by have q := Cell2.alloc w (.int .i64 a) (.int .i64 b) 35; exact q.below (N := w.heap.size + 1) ((Below.refl _ _).alloc (by simp <;> omega) (Obj.cells #[(.int .i64 c), (.int .i64 d)] 35)) (by omega))
    have P1_1 := Lib.hid (show Cell2 ((w.alloc (Obj.cells #[(.int .i64 a), (.int .i64 b)] 35)).alloc (Obj.cells #[(.int .i64 c), (.int .i64 d)] 35)) (w.heap.size + 1) (.int .i64 c) (.int .i64 d) from by simpa using Cell2.alloc (w.alloc (Obj.cells #[(.int .i64 a), (.int .i64 b)] 35)) (.int .i64 c) (.int .i64 d) 35)
    have HB1 := Lib.hid (((Below.refl w.heap.size w).alloc (Nat.le_refl _) (Obj.cells #[(.int .i64 a), (.int .i64 b)] 35)).alloc (by simp) (Obj.cells #[(.int .i64 c), (.int .i64 d)] 35))
    generalize ((w.alloc (Obj.cells #[(.int .i64 a), (.int .i64 b)] 35)).alloc (Obj.cells #[(.int .i64 c), (.int .i64 d)] 35)) = W1 at *
    refine (H1.out _).mono ?_
    rintro e W2 ⟨rfl, hb2⟩
    have HB2 := Lib.hid (HB1.out.trans ((hb2).mono HB1.out.size))
    have P0_2 := Lib.hid (P0_1.out.below (hb2) P0_1.out.lt)
    have P1_2 := Lib.hid (P1_1.out.below (hb2) P1_1.out.lt)
    clear HB1 P0_1 P1_1 hb2
    have lP0_2 := P0_2.out.lt
    have cP0_2_0 := P0_2.out.c0
    have cP0_2_1 := P0_2.out.c1
    have lP1_2 := P1_2.out.lt
    have cP1_2_0 := P1_2.out.c0
    have cP1_2_1 := P1_2.out.c1
    go_wp2
    go_ret
    exact ⟨rfl, HB2.out⟩
  by_cases h2 : rightB c d = true
  case neg =>
    have h2' : rightB c d = false := by simpa using h2
    rw [show cpV a b c d = 0 from by unfold cpV; rw [ok_no2 h2']; rfl]
    have H1 := Lib.hid (fun W => right_val a b true h1 W a1 a2 b1 b2)
    have H2 := Lib.hid (fun W => right_val c d false h2' W c1 c2 d1 d2)
    clear h1 h2 h2'
    go_enter Tryd.func30, Tryd.ntmps30
    go_wp2_with fail
    have P0_3 := Lib.hid (show Cell2 ((w.alloc (Obj.cells #[(.int .i64 a), (.int .i64 b)] 35)).alloc (Obj.cells #[(.int .i64 c), (.int .i64 d)] 35)) (w.heap.size) (.int .i64 a) (.int .i64 b) from by have q := Cell2.alloc w (.int .i64 a) (.int .i64 b) 35; exact q.below (N := w.heap.size + 1) ((Below.refl _ _).alloc (by simp <;> omega) (Obj.cells #[(.int .i64 c), (.int .i64 d)] 35)) (by omega))
    have P1_3 := Lib.hid (show Cell2 ((w.alloc (Obj.cells #[(.int .i64 a), (.int .i64 b)] 35)).alloc (Obj.cells #[(.int .i64 c), (.int .i64 d)] 35)) (w.heap.size + 1) (.int .i64 c) (.int .i64 d) from by simpa using Cell2.alloc (w.alloc (Obj.cells #[(.int .i64 a), (.int .i64 b)] 35)) (.int .i64 c) (.int .i64 d) 35)
    have HB3 := Lib.hid (((Below.refl w.heap.size w).alloc (Nat.le_refl _) (Obj.cells #[(.int .i64 a), (.int .i64 b)] 35)).alloc (by simp) (Obj.cells #[(.int .i64 c), (.int .i64 d)] 35))
    generalize ((w.alloc (Obj.cells #[(.int .i64 a), (.int .i64 b)] 35)).alloc (Obj.cells #[(.int .i64 c), (.int .i64 d)] 35)) = W3 at *
    refine (H1.out _).mono ?_
    rintro e W4 ⟨rfl, hb4⟩
    have HB4 := Lib.hid (HB3.out.trans ((hb4).mono HB3.out.size))
    have P0_4 := Lib.hid (P0_3.out.below (hb4) P0_3.out.lt)
    have P1_4 := Lib.hid (P1_3.out.below (hb4) P1_3.out.lt)
    clear HB3 P0_3 P1_3 hb4
    have lP0_4 := P0_4.out.lt
    have cP0_4_0 := P0_4.out.c0
    have cP0_4_1 := P0_4.out.c1
    have lP1_4 := P1_4.out.lt
    have cP1_4_0 := P1_4.out.c0
    have cP1_4_1 := P1_4.out.c1
    go_wp2_with fail
    clear lP0_4 cP0_4_0 cP0_4_1 lP1_4 cP1_4_0 cP1_4_1
    refine (H2.out _).mono ?_
    rintro e W5 ⟨rfl, hb5⟩
    have HB5 := Lib.hid (HB4.out.trans ((hb5).mono HB4.out.size))
    have P0_5 := Lib.hid (P0_4.out.below (hb5) P0_4.out.lt)
    have P1_5 := Lib.hid (P1_4.out.below (hb5) P1_4.out.lt)
    clear HB4 P0_4 P1_4 hb5
    have lP0_5 := P0_5.out.lt
    have cP0_5_0 := P0_5.out.c0
    have cP0_5_1 := P0_5.out.c1
    have lP1_5 := P1_5.out.lt
    have cP1_5_0 := P1_5.out.c0
    have cP1_5_1 := P1_5.out.c1
    go_wp2
    go_ret
    exact ⟨rfl, HB5.out⟩
  rw [show cpV a b c d = cmpI (a * d) (c * b) from by unfold cpV; rw [ok_yes h1 h2]; rfl]
  have H1 := Lib.hid (fun W => right_val a b true h1 W a1 a2 b1 b2)
  have H2 := Lib.hid (fun W => right_val c d true h2 W c1 c2 d1 d2)
  have HM := Lib.hid (fun W => cmp_any a d c b W a1 a2 d1 d2 c1 c2 b1 b2)
  clear h1 h2
  generalize cmpI (a * d) (c * b) = r at *
  go_enter Tryd.func30, Tryd.ntmps30
  go_wp2_with fail
  have P0_6 := Lib.hid (show Cell2 ((w.alloc (Obj.cells #[(.int .i64 a), (.int .i64 b)] 35)).alloc (Obj.cells #[(.int .i64 c), (.int .i64 d)] 35)) (w.heap.size) (.int .i64 a) (.int .i64 b) from by have q := Cell2.alloc w (.int .i64 a) (.int .i64 b) 35; exact q.below (N := w.heap.size + 1) ((Below.refl _ _).alloc (by simp <;> omega) (Obj.cells #[(.int .i64 c), (.int .i64 d)] 35)) (by omega))
  have P1_6 := Lib.hid (show Cell2 ((w.alloc (Obj.cells #[(.int .i64 a), (.int .i64 b)] 35)).alloc (Obj.cells #[(.int .i64 c), (.int .i64 d)] 35)) (w.heap.size + 1) (.int .i64 c) (.int .i64 d) from by simpa using Cell2.alloc (w.alloc (Obj.cells #[(.int .i64 a), (.int .i64 b)] 35)) (.int .i64 c) (.int .i64 d) 35)
  have HB6 := Lib.hid (((Below.refl w.heap.size w).alloc (Nat.le_refl _) (Obj.cells #[(.int .i64 a), (.int .i64 b)] 35)).alloc (by simp) (Obj.cells #[(.int .i64 c), (.int .i64 d)] 35))
  generalize ((w.alloc (Obj.cells #[(.int .i64 a), (.int .i64 b)] 35)).alloc (Obj.cells #[(.int .i64 c), (.int .i64 d)] 35)) = W6 at *
  refine (H1.out _).mono ?_
  rintro e W7 ⟨rfl, hb7⟩
  have HB7 := Lib.hid (HB6.out.trans ((hb7).mono HB6.out.size))
  have P0_7 := Lib.hid (P0_6.out.below (hb7) P0_6.out.lt)
  have P1_7 := Lib.hid (P1_6.out.below (hb7) P1_6.out.lt)
  clear HB6 P0_6 P1_6 hb7
  have lP0_7 := P0_7.out.lt
  have cP0_7_0 := P0_7.out.c0
  have cP0_7_1 := P0_7.out.c1
  have lP1_7 := P1_7.out.lt
  have cP1_7_0 := P1_7.out.c0
  have cP1_7_1 := P1_7.out.c1
  go_wp2_with fail
  clear lP0_7 cP0_7_0 cP0_7_1 lP1_7 cP1_7_0 cP1_7_1
  refine (H2.out _).mono ?_
  rintro e W8 ⟨rfl, hb8⟩
  have HB8 := Lib.hid (HB7.out.trans ((hb8).mono HB7.out.size))
  have P0_8 := Lib.hid (P0_7.out.below (hb8) P0_7.out.lt)
  have P1_8 := Lib.hid (P1_7.out.below (hb8) P1_7.out.lt)
  clear HB7 P0_7 P1_7 hb8
  have lP0_8 := P0_8.out.lt
  have cP0_8_0 := P0_8.out.c0
  have cP0_8_1 := P0_8.out.c1
  have lP1_8 := P1_8.out.lt
  have cP1_8_0 := P1_8.out.c0
  have cP1_8_1 := P1_8.out.c1
  go_wp2_with fail
  clear lP0_8 cP0_8_0 cP0_8_1 lP1_8 cP1_8_0 cP1_8_1
  refine (HM.out _).mono ?_
  rintro e W9 ⟨rfl, hb9⟩
  have HB9 := Lib.hid (HB8.out.trans ((hb9).mono HB8.out.size))
  have P0_9 := Lib.hid (P0_8.out.below (hb9) P0_8.out.lt)
  have P1_9 := Lib.hid (P1_8.out.below (hb9) P1_8.out.lt)
  clear HB8 P0_8 P1_8 hb9
  go_wp2
  go_ret
  exact ⟨rfl, HB9.out⟩

set_option maxRecDepth 100000 in
set_option maxHeartbeats 4000000 in
theorem textF_any (a b : Int) (w : World) (a1 : -9223372036854775808 ≤ a) (a2 : a ≤ 9223372036854775807) (b1 : -9223372036854775808 ≤ b) (b2 : b ≤ 9223372036854775807) :
    Calls Tryd.prog 13 #[.agg #[.int .i64 a, .int .i64 b]] w fun e w' => e = .returned (.tuple #[.string (txS a b), .int .i64 (txE a b)]) ∧ Below w.heap.size w w' := by
  by_cases h1 : rightB a b = true
  case neg =>
    have h1' : rightB a b = false := by simpa using h1
    rw [show txS a b = ⟨#[]⟩ from by unfold txS; rw [h1']; rfl, show txE a b = 2 from by unfold txE; rw [h1']; rfl]
    have H1 := Lib.hid (fun W => right_val a b false h1' W a1 a2 b1 b2)
    clear h1 h1'
    go_enter Tryd.func13, Tryd.ntmps13
    go_wp2_with fail
    have P0_38 := Lib.hid (show Cell2 (w.alloc (Obj.cells #[(.int .i64 a), (.int .i64 b)] 35)) (w.heap.size) (.int .i64 a) (.int .i64 b) from by simpa using Cell2.alloc w (.int .i64 a) (.int .i64 b) 35)
    have HB38 := Lib.hid ((Below.refl w.heap.size w).alloc (Nat.le_refl _) (Obj.cells #[(.int .i64 a), (.int .i64 b)] 35))
    generalize (w.alloc (Obj.cells #[(.int .i64 a), (.int .i64 b)] 35)) = W38 at *
    refine (H1.out _).mono ?_
    rintro e W39 ⟨rfl, hb39⟩
    have HB39 := Lib.hid (HB38.out.trans ((hb39).mono HB38.out.size))
    have P0_39 := Lib.hid (P0_38.out.below (hb39) P0_38.out.lt)
    clear HB38 P0_38 hb39
    have lP0_39 := P0_39.out.lt
    have cP0_39_0 := P0_39.out.c0
    have cP0_39_1 := P0_39.out.c1
    go_wp2
    go_ret2
    exact ⟨rfl, HB39.out⟩
  rw [show txE a b = 0 from by unfold txE; rw [h1]; rfl, show txS a b = (if b = 1 then textS a else textS a ++ (⟨#[47]⟩ ++ textS b)) from by unfold txS; rw [h1]; rfl]
  have H1 := Lib.hid (fun W => right_val a b true h1 W a1 a2 b1 b2)
  have HA := Lib.hid (fun W => text_any a W a1 a2)
  have HT := Lib.hid (fun W => text_any b W b1 b2)
  clear h1
  have sA : (textS a).size ≤ 21 := by rw [textS_size]; exact text_len a1 a2
  have sB : (textS b).size ≤ 21 := by rw [textS_size]; exact text_len b1 b2
  generalize textS a = A at *
  generalize textS b = B at *
  by_cases hb : b = 1
  · rw [if_pos hb]
    have hb' : (b != 1) = false := by simpa using hb
    clear hb
    go_enter Tryd.func13, Tryd.ntmps13
    go_wp2_with fail
    have P0_40 := Lib.hid (show Cell2 (w.alloc (Obj.cells #[(.int .i64 a), (.int .i64 b)] 35)) (w.heap.size) (.int .i64 a) (.int .i64 b) from by simpa using Cell2.alloc w (.int .i64 a) (.int .i64 b) 35)
    have HB40 := Lib.hid ((Below.refl w.heap.size w).alloc (Nat.le_refl _) (Obj.cells #[(.int .i64 a), (.int .i64 b)] 35))
    generalize (w.alloc (Obj.cells #[(.int .i64 a), (.int .i64 b)] 35)) = W40 at *
    refine (H1.out _).mono ?_
    rintro e W41 ⟨rfl, hb41⟩
    have HB41 := Lib.hid (HB40.out.trans ((hb41).mono HB40.out.size))
    have P0_41 := Lib.hid (P0_40.out.below (hb41) P0_40.out.lt)
    clear HB40 P0_40 hb41
    have lP0_41 := P0_41.out.lt
    have cP0_41_0 := P0_41.out.c0
    have cP0_41_1 := P0_41.out.c1
    go_wp2_with fail
    clear lP0_41 cP0_41_0 cP0_41_1
    refine (HA.out _).mono ?_
    rintro e W42 ⟨rfl, hb42⟩
    have HB42 := Lib.hid (HB41.out.trans ((hb42).mono HB41.out.size))
    have P0_42 := Lib.hid (P0_41.out.below (hb42) P0_41.out.lt)
    clear HB41 P0_41 hb42
    have lP0_42 := P0_42.out.lt
    have cP0_42_0 := P0_42.out.c0
    have cP0_42_1 := P0_42.out.c1
    go_wp2
    go_ret2
    exact ⟨rfl, HB42.out⟩
  · rw [if_neg hb]
    have hb' : (b != 1) = true := by simpa using hb
    clear hb
    go_enter Tryd.func13, Tryd.ntmps13
    go_wp2_with fail
    have P0_43 := Lib.hid (show Cell2 (w.alloc (Obj.cells #[(.int .i64 a), (.int .i64 b)] 35)) (w.heap.size) (.int .i64 a) (.int .i64 b) from by simpa using Cell2.alloc w (.int .i64 a) (.int .i64 b) 35)
    have HB43 := Lib.hid ((Below.refl w.heap.size w).alloc (Nat.le_refl _) (Obj.cells #[(.int .i64 a), (.int .i64 b)] 35))
    generalize (w.alloc (Obj.cells #[(.int .i64 a), (.int .i64 b)] 35)) = W43 at *
    refine (H1.out _).mono ?_
    rintro e W44 ⟨rfl, hb44⟩
    have HB44 := Lib.hid (HB43.out.trans ((hb44).mono HB43.out.size))
    have P0_44 := Lib.hid (P0_43.out.below (hb44) P0_43.out.lt)
    clear HB43 P0_43 hb44
    have lP0_44 := P0_44.out.lt
    have cP0_44_0 := P0_44.out.c0
    have cP0_44_1 := P0_44.out.c1
    go_wp2_with fail
    clear lP0_44 cP0_44_0 cP0_44_1
    refine (HA.out _).mono ?_
    rintro e W45 ⟨rfl, hb45⟩
    have HB45 := Lib.hid (HB44.out.trans ((hb45).mono HB44.out.size))
    have P0_45 := Lib.hid (P0_44.out.below (hb45) P0_44.out.lt)
    clear HB44 P0_44 hb45
    have lP0_45 := P0_45.out.lt
    have cP0_45_0 := P0_45.out.c0
    have cP0_45_1 := P0_45.out.c1
    go_wp2_with fail
    clear lP0_45 cP0_45_0 cP0_45_1
    refine (HT.out _).mono ?_
    rintro e W46 ⟨rfl, hb46⟩
    have HB46 := Lib.hid (HB45.out.trans ((hb46).mono HB45.out.size))
    have P0_46 := Lib.hid (P0_45.out.below (hb46) P0_45.out.lt)
    clear HB45 P0_45 hb46
    go_wp2
    go_ret2
    exact ⟨rfl, HB46.out⟩

end Go.Proofs.YtkpdbhpmnegahaaDoor
