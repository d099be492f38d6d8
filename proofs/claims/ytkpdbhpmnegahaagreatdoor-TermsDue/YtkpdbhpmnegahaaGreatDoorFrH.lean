/- What Cmp, Apply and Text of the packages frac and accountingref03 return. -/
import Derived.Test.YtkpdbhpmnegahaaGreatDoorFrF
import Derived.Test.YtkpdbhpmnegahaaGreatDoorMdC
import Derived.Test.YtkpdbhpmnegahaaGreatDoorMdS
import Derived.Test.YtkpdbhpmnegahaaGreatDoorNumT
import Derived.Test.YtkpdbhpmnegahaaGreatDoorNumR
namespace Go.Proofs.YtkpdbhpmnegahaaGreatDoor
open Go.RowKit Go.Sort
set_option linter.unusedVariables false

theorem cmpI_islt {x y : Int} (h : x < y) : cmpI x y = -1 := by unfold cmpI; rw [if_pos h]
theorem cmpI_iseq {x y : Int} (h : x = y) : cmpI x y = 0 := by unfold cmpI; rw [if_neg (by omega), if_neg (by omega)]
theorem cmpI_isgt {x y : Int} (h : y < x) : cmpI x y = 1 := by unfold cmpI; rw [if_neg (by omega), if_pos h]
def cpV (a b c d : Int) : Int := if okB a b c d then cmpI (a * d) (c * b) else 0
def apV (a b n m : Int) : Int × Int := if rightB a b then mdV a n b m else (0, 2)
def txS (a b : Int) : ByteArray := if rightB a b then (if b = 1 then textS a else textS a ++ (⟨#[47]⟩ ++ textS b)) else ⟨#[]⟩
def txE (a b : Int) : Int := if rightB a b then 0 else 2

set_option maxRecDepth 100000 in
set_option maxHeartbeats 4000000 in
theorem cmpF_any (a b c d : Int) (w : World) (a1 : -9223372036854775808 ≤ a) (a2 : a ≤ 9223372036854775807) (b1 : -9223372036854775808 ≤ b) (b2 : b ≤ 9223372036854775807) (c1 : -9223372036854775808 ≤ c) (c2 : c ≤ 9223372036854775807) (d1 : -9223372036854775808 ≤ d) (d2 : d ≤ 9223372036854775807) :
    Calls Tryz.prog 47 #[.agg #[.int .i64 a, .int .i64 b], .agg #[.int .i64 c, .int .i64 d]] w fun e w' => e = .returned (.int .i64 (cpV a b c d)) ∧ Below w.heap.size w w' := by
  by_cases h1 : rightB a b = true
  case neg =>
    have h1' : rightB a b = false := by simpa using h1
    rw [show cpV a b c d = 0 from by unfold cpV; rw [ok_no1 h1']; rfl]
    have H1 := Lib.hid (fun W => right_val a b false h1' W a1 a2 b1 b2)
    clear h1 h1'
    go_enter Tryz.func47, Tryz.ntmps47
    go_wp2_with fail
    have P0_1 := Lib.hid (show Cell2 ((w.alloc (Obj.cells #[(.int .i64 a), (.int .i64 b)] 38)).alloc (Obj.cells #[(.int .i64 c), (.int .i64 d)] 38)) (w.heap.size) (.int .i64 a) (.int .i64 b) from by have q := Cell2.alloc w (.int .i64 a) (.int .i64 b) 38; exact q.below (N := w.heap.size + 1) ((Below.refl _ _).alloc (by simp <;> omega) (Obj.cells #[(.int .i64 c), (.int .i64 d)] 38)) (by omega))
    have P1_1 := Lib.hid (show Cell2 ((w.alloc (Obj.cells #[(.int .i64 a), (.int .i64 b)] 38)).alloc (Obj.cells #[(.int .i64 c), (.int .i64 d)] 38)) (w.heap.size + 1) (.int .i64 c) (.int .i64 d) from by simpa using Cell2.alloc (w.alloc (Obj.cells #[(.int .i64 a), (.int .i64 b)] 38)) (.int .i64 c) (.int .i64 d) 38)
    have HB1 := Lib.hid (((Below.refl w.heap.size w).alloc (Nat.le_refl _) (Obj.cells #[(.int .i64 a), (.int .i64 b)] 38)).alloc (by simp) (Obj.cells #[(.int .i64 c), (.int .i64 d)] 38))
    generalize ((w.alloc (Obj.cells #[(.int .i64 a), (.int .i64 b)] 38)).alloc (Obj.cells #[(.int .i64 c), (.int .i64 d)] 38)) = W1 at *
    refine (H1.out _).mono ?_
    rintro e W2 ⟨rfl, hb2⟩
    have HB2 := Lib.hid (HB1.out.trans ((hb2).mono HB1.out.size))
    have P0_2 := Lib.hid (P0_1.out.below (hb2) P0_1.out.lt)
    have P1_2 := Lib.hid (P1_1.out.below (hb2) P1_1.out.lt)
    clear HB1 P0_1 P1_1 hb2
    have lP0_2 := P0_2.out.lt
    have cP0_2_0 := P0_2.out.c0
    have cP0_2_1 := P0_2.out.c1
    have lP1_2 := P1_2.out.lt
    have cP1_2_0 := P1_2.out.c0
    have cP1_2_1 := P1_2.out.c1
    go_wp2
    go_ret
    exact ⟨rfl, HB2.out⟩
  by_cases h2 : rightB c d = true
  case neg =>
    have h2' : rightB c d = false := by simpa using h2
    rw [show cpV a b c d = 0 from by unfold cpV; rw [ok_no2 h2']; rfl]
    have H1 := Lib.hid (fun W => right_val a b true h1 W a1 a2 b1 b2)
    have H2 := Lib.hid (fun W => right_val c d false h2' W c1 c2 d1 d2)
    clear h1 h2 h2'
    go_enter Tryz.func47, Tryz.ntmps47
    go_wp2_with fail
    have P0_3 := Lib.hid (show Cell2 ((w.alloc (Obj.cells #[(.int .i64 a), (.int .i64 b)] 38)).alloc (Obj.cells #[(.int .i64 c), (.int .i64 d)] 38)) (w.heap.size) (.int .i64 a) (.int .i64 b) from by have q := Cell2.alloc w (.int .i64 a) (.int .i64 b) 38; exact q.below (N := w.heap.size + 1) ((Below.refl _ _).alloc (by simp <;> omega) (Obj.cells #[(.int .i64 c), (.int .i64 d)] 38)) (by omega))
    have P1_3 := Lib.hid (show Cell2 ((w.alloc (Obj.cells #[(.int .i64 a), (.int .i64 b)] 38)).alloc (Obj.cells #[(.int .i64 c), (.int .i64 d)] 38)) (w.heap.size + 1) (.int .i64 c) (.int .i64 d) from by simpa using Cell2.alloc (w.alloc (Obj.cells #[(.int .i64 a), (.int .i64 b)] 38)) (.int .i64 c) (.int .i64 d) 38)
    have HB3 := Lib.hid (((Below.refl w.heap.size w).alloc (Nat.le_refl _) (Obj.cells #[(.int .i64 a), (.int .i64 b)] 38)).alloc (by simp) (Obj.cells #[(.int .i64 c), (.int .i64 d)] 38))
    generalize ((w.alloc (Obj.cells #[(.int .i64 a), (.int .i64 b)] 38)).alloc (Obj.cells #[(.int .i64 c), (.int .i64 d)] 38)) = W3 at *
    refine (H1.out _).mono ?_
    rintro e W4 ⟨rfl, hb4⟩
    have HB4 := Lib.hid (HB3.out.trans ((hb4).mono HB3.out.size))
    have P0_4 := Lib.hid (P0_3.out.below (hb4) P0_3.out.lt)
    have P1_4 := Lib.hid (P1_3.out.below (hb4) P1_3.out.lt)
    clear HB3 P0_3 P1_3 hb4
    have lP0_4 := P0_4.out.lt
    have cP0_4_0 := P0_4.out.c0
    have cP0_4_1 := P0_4.out.c1
    have lP1_4 := P1_4.out.lt
    have cP1_4_0 := P1_4.out.c0
    have cP1_4_1 := P1_4.out.c1
    go_wp2_with fail
    clear lP0_4 cP0_4_0 cP0_4_1 lP1_4 cP1_4_0 cP1_4_1
    refine (H2.out _).mono ?_
    rintro e W5 ⟨rfl, hb5⟩
    have HB5 := Lib.hid (HB4.out.trans ((hb5).mono HB4.out.size))
    have P0_5 := Lib.hid (P0_4.out.below (hb5) P0_4.out.lt)
    have P1_5 := Lib.hid (P1_4.out.below (hb5) P1_4.out.lt)
    clear HB4 P0_4 P1_4 hb5
    have lP0_5 := P0_5.out.lt
    have cP0_5_0 := P0_5.out.c0
    have cP0_5_1 := P0_5.out.c1
    have lP1_5 := P1_5.out.lt
    have cP1_5_0 := P1_5.out.c0
    have cP1_5_1 := P1_5.out.c1
    go_wp2
    go_ret
    exact ⟨rfl, HB5.out⟩
  rw [show cpV a b c d = cmpI (a * d) (c * b) from by unfold cpV; rw [ok_yes h1 h2]; rfl]
  have H1 := Lib.hid (fun W => right_val a b true h1 W a1 a2 b1 b2)
  have H2 := Lib.hid (fun W => right_val c d true h2 W c1 c2 d1 d2)
  have HM := Lib.hid (fun W => cmp_any a d c b W a1 a2 d1 d2 c1 c2 b1 b2)
  clear h1 h2
  generalize cmpI (a * d) (c * b) = r at *
  go_enter Tryz.func47, Tryz.ntmps47
  go_wp2_with fail
  have P0_6 := Lib.hid (show Cell2 ((w.alloc (Obj.cells #[(.int .i64 a), (.int .i64 b)] 38)).alloc (Obj.cells #[(.int .i64 c), (.int .i64 d)] 38)) (w.heap.size) (.int .i64 a) (.int .i64 b) from by have q := Cell2.alloc w (.int .i64 a) (.int .i64 b) 38; exact q.below (N := w.heap.size + 1) ((Below.refl _ _).alloc (by simp <;> omega) (Obj.cells #[(.int .i64 c), (.int .i64 d)] 38)) (by omega))
  have P1_6 := Lib.hid (show Cell2 ((w.alloc (Obj.cells #[(.int .i64 a), (.int .i64 b)] 38)).alloc (Obj.cells #[(.int .i64 c), (.int .i64 d)] 38)) (w.heap.size + 1) (.int .i64 c) (.int .i64 d) from by simpa using Cell2.alloc (w.alloc (Obj.cells #[(.int .i64 a), (.int .i64 b)] 38)) (.int .i64 c) (.int .i64 d) 38)
  have HB6 := Lib.hid (((Below.refl w.heap.size w).alloc (Nat.le_refl _) (Obj.cells #[(.int .i64 a), (.int .i64 b)] 38)).alloc (by simp) (Obj.cells #[(.int .i64 c), (.int .i64 d)] 38))
  generalize ((w.alloc (Obj.cells #[(.int .i64 a), (.int .i64 b)] 38)).alloc (Obj.cells #[(.int .i64 c), (.int .i64 d)] 38)) = W6 at *
  refine (H1.out _).mono ?_
  rintro e W7 ⟨rfl, hb7⟩
  have HB7 := Lib.hid (HB6.out.trans ((hb7).mono HB6.out.size))
  have P0_7 := Lib.hid (P0_6.out.below (hb7) P0_6.out.lt)
  have P1_7 := Lib.hid (P1_6.out.below (hb7) P1_6.out.lt)
  clear HB6 P0_6 P1_6 hb7
  have lP0_7 := P0_7.out.lt
  have cP0_7_0 := P0_7.out.c0
  have cP0_7_1 := P0_7.out.c1
  have lP1_7 := P1_7.out.lt
  have cP1_7_0 := P1_7.out.c0
  have cP1_7_1 := P1_7.out.c1
  go_wp2_with fail
  clear lP0_7 cP0_7_0 cP0_7_1 lP1_7 cP1_7_0 cP1_7_1
  refine (H2.out _).mono ?_
  rintro e W8 ⟨rfl, hb8⟩
  have HB8 := Lib.hid (HB7.out.trans ((hb8).mono HB7.out.size))
  have P0_8 := Lib.hid (P0_7.out.below (hb8) P0_7.out.lt)
  have P1_8 := Lib.hid (P1_7.out.below (hb8) P1_7.out.lt)
  clear HB7 P0_7 P1_7 hb8
  have lP0_8 := P0_8.out.lt
  have cP0_8_0 := P0_8.out.c0
  have cP0_8_1 := P0_8.out.c1
  have lP1_8 := P1_8.out.lt
  have cP1_8_0 := P1_8.out.c0
  have cP1_8_1 := P1_8.out.c1
  go_wp2_with fail
  clear lP0_8 cP0_8_0 cP0_8_1 lP1_8 cP1_8_0 cP1_8_1
  refine (HM.out _).mono ?_
  rintro e W9 ⟨rfl, hb9⟩
  have HB9 := Lib.hid (HB8.out.trans ((hb9).mono HB8.out.size))
  have P0_9 := Lib.hid (P0_8.out.below (hb9) P0_8.out.lt)
  have P1_9 := Lib.hid (P1_8.out.below (hb9) P1_8.out.lt)
  clear HB8 P0_8 P1_8 hb9
  go_wp2
  go_ret
  exact ⟨rfl, HB9.out⟩

set_option maxRecDepth 100000 in
set_option maxHeartbeats 4000000 in
theorem rCmpF_any (a b c d : Int) (w : World) (a1 : -9223372036854775808 ≤ a) (a2 : a ≤ 9223372036854775807) (b1 : -9223372036854775808 ≤ b) (b2 : b ≤ 9223372036854775807) (c1 : -9223372036854775808 ≤ c) (c2 : c ≤ 9223372036854775807) (d1 : -9223372036854775808 ≤ d) (d2 : d ≤ 9223372036854775807) :
    Calls Tryz.prog 29 #[.agg #[.int .i64 a, .int .i64 b], .agg #[.int .i64 c, .int .i64 d]] w fun e w' => e = .returned (.int .i64 (cpV a b c d)) ∧ Below w.heap.size w w' := by
  by_cases h1 : rightB a b = true
  case neg =>
    have h1' : rightB a b = false := by simpa using h1
    rw [show cpV a b c d = 0 from by unfold cpV; rw [ok_no1 h1']; rfl]
    have H1 := Lib.hid (fun W => rRight_val a b false h1' W a1 a2 b1 b2)
    clear h1 h1'
    generalize hx : wrap64 (a * d) = x
    generalize hy : wrap64 (c * b) = y
    have HX := Lib.hid hx
    have HY := Lib.hid hy
    clear hx hy HX HY
    go_enter Tryz.func29, Tryz.ntmps29
    go_wp2_with fail
    have P0_10 := Lib.hid (show Cell2 ((w.alloc (Obj.cells #[(.int .i64 a), (.int .i64 b)] 38)).alloc (Obj.cells #[(.int .i64 c), (.int .i64 d)] 38)) (w.heap.size) (.int .i64 a) (.int .i64 b) from by have q := Cell2.alloc w (.int .i64 a) (.int .i64 b) 38; exact q.below (N := w.heap.size + 1) ((Below.refl _ _).alloc (by simp <;> omega) (Obj.cells #[(.int .i64 c), (.int .i64 d)] 38)) (by omega))
    have P1_10 := Lib.hid (show Cell2 ((w.alloc (Obj.cells #[(.int .i64 a), (.int .i64 b)] 38)).alloc (Obj.cells #[(.int .i64 c), (.int .i64 d)] 38)) (w.heap.size + 1) (.int .i64 c) (.int .i64 d) from by simpa using Cell2.alloc (w.alloc (Obj.cells #[(.int .i64 a), (.int .i64 b)] 38)) (.int .i64 c) (.int .i64 d) 38)
    have HB10 := Lib.hid (((Below.refl w.heap.size w).alloc (Nat.le_refl _) (Obj.cells #[(.int .i64 a), (.int .i64 b)] 38)).alloc (by simp) (Obj.cells #[(.int .i64 c), (.int .i64 d)] 38))
    generalize ((w.alloc (Obj.cells #[(.int .i64 a), (.int .i64 b)] 38)).alloc (Obj.cells #[(.int .i64 c), (.int .i64 d)] 38)) = W10 at *
    have lP0_10 := P0_10.out.lt
    have cP0_10_0 := P0_10.out.c0
    have cP0_10_1 := P0_10.out.c1
    have lP1_10 := P1_10.out.lt
    have cP1_10_0 := P1_10.out.c0
    have cP1_10_1 := P1_10.out.c1
    go_quiet (fail)
    have HD0 := Lib.hid (below_drewN' (Below.refl W10.heap.size W10) nq)
    clear lP0_10 cP0_10_0 cP0_10_1 lP1_10 cP1_10_0 cP1_10_1
    have HB11 := Lib.hid (HB10.out.trans ((HD0.out).mono HB10.out.size))
    have P0_11 := Lib.hid (P0_10.out.below (HD0.out) P0_10.out.lt)
    have P1_11 := Lib.hid (P1_10.out.below (HD0.out) P1_10.out.lt)
    clear HB10 P0_10 P1_10 HD0
    generalize W10.drewN nq = W11 at *
    have lP0_11 := P0_11.out.lt
    have cP0_11_0 := P0_11.out.c0
    have cP0_11_1 := P0_11.out.c1
    have lP1_11 := P1_11.out.lt
    have cP1_11_0 := P1_11.out.c0
    have cP1_11_1 := P1_11.out.c1
    go_wp2_with fail
    clear lP0_11 cP0_11_0 cP0_11_1 lP1_11 cP1_11_0 cP1_11_1
    refine (H1.out _).mono ?_
    rintro e W12 ⟨rfl, hb12⟩
    have HB12 := Lib.hid (HB11.out.trans ((hb12).mono HB11.out.size))
    have P0_12 := Lib.hid (P0_11.out.below (hb12) P0_11.out.lt)
    have P1_12 := Lib.hid (P1_11.out.below (hb12) P1_11.out.lt)
    clear HB11 P0_11 P1_11 hb12
    have lP0_12 := P0_12.out.lt
    have cP0_12_0 := P0_12.out.c0
    have cP0_12_1 := P0_12.out.c1
    have lP1_12 := P1_12.out.lt
    have cP1_12_0 := P1_12.out.c0
    have cP1_12_1 := P1_12.out.c1
    go_wp2
    go_ret
    exact ⟨rfl, HB12.out⟩
  by_cases h2 : rightB c d = true
  case neg =>
    have h2' : rightB c d = false := by simpa using h2
    rw [show cpV a b c d = 0 from by unfold cpV; rw [ok_no2 h2']; rfl]
    have H1 := Lib.hid (fun W => rRight_val a b true h1 W a1 a2 b1 b2)
    have H2 := Lib.hid (fun W => rRight_val c d false h2' W c1 c2 d1 d2)
    clear h1 h2 h2'
    go_enter Tryz.func29, Tryz.ntmps29
    go_wp2_with fail
    have P0_13 := Lib.hid (show Cell2 ((w.alloc (Obj.cells #[(.int .i64 a), (.int .i64 b)] 38)).alloc (Obj.cells #[(.int .i64 c), (.int .i64 d)] 38)) (w.heap.size) (.int .i64 a) (.int .i64 b) from by have q := Cell2.alloc w (.int .i64 a) (.int .i64 b) 38; exact q.below (N := w.heap.size + 1) ((Below.refl _ _).alloc (by simp <;> omega) (Obj.cells #[(.int .i64 c), (.int .i64 d)] 38)) (by omega))
    have P1_13 := Lib.hid (show Cell2 ((w.alloc (Obj.cells #[(.int .i64 a), (.int .i64 b)] 38)).alloc (Obj.cells #[(.int .i64 c), (.int .i64 d)] 38)) (w.heap.size + 1) (.int .i64 c) (.int .i64 d) from by simpa using Cell2.alloc (w.alloc (Obj.cells #[(.int .i64 a), (.int .i64 b)] 38)) (.int .i64 c) (.int .i64 d) 38)
    have HB13 := Lib.hid (((Below.refl w.heap.size w).alloc (Nat.le_refl _) (Obj.cells #[(.int .i64 a), (.int .i64 b)] 38)).alloc (by simp) (Obj.cells #[(.int .i64 c), (.int .i64 d)] 38))
    generalize ((w.alloc (Obj.cells #[(.int .i64 a), (.int .i64 b)] 38)).alloc (Obj.cells #[(.int .i64 c), (.int .i64 d)] 38)) = W13 at *
    have lP0_13 := P0_13.out.lt
    have cP0_13_0 := P0_13.out.c0
    have cP0_13_1 := P0_13.out.c1
    have lP1_13 := P1_13.out.lt
    have cP1_13_0 := P1_13.out.c0
    have cP1_13_1 := P1_13.out.c1
    go_quiet (fail)
    have HD0 := Lib.hid (below_drewN' (Below.refl W13.heap.size W13) nq)
    clear lP0_13 cP0_13_0 cP0_13_1 lP1_13 cP1_13_0 cP1_13_1
    have HB14 := Lib.hid (HB13.out.trans ((HD0.out).mono HB13.out.size))
    have P0_14 := Lib.hid (P0_13.out.below (HD0.out) P0_13.out.lt)
    have P1_14 := Lib.hid (P1_13.out.below (HD0.out) P1_13.out.lt)
    clear HB13 P0_13 P1_13 HD0
    generalize W13.drewN nq = W14 at *
    have lP0_14 := P0_14.out.lt
    have cP0_14_0 := P0_14.out.c0
    have cP0_14_1 := P0_14.out.c1
    have lP1_14 := P1_14.out.lt
    have cP1_14_0 := P1_14.out.c0
    have cP1_14_1 := P1_14.out.c1
    go_wp2_with fail
    clear lP0_14 cP0_14_0 cP0_14_1 lP1_14 cP1_14_0 cP1_14_1
    refine (H1.out _).mono ?_
    rintro e W15 ⟨rfl, hb15⟩
    have HB15 := Lib.hid (HB14.out.trans ((hb15).mono HB14.out.size))
    have P0_15 := Lib.hid (P0_14.out.below (hb15) P0_14.out.lt)
    have P1_15 := Lib.hid (P1_14.out.below (hb15) P1_14.out.lt)
    clear HB14 P0_14 P1_14 hb15
    have lP0_15 := P0_15.out.lt
    have cP0_15_0 := P0_15.out.c0
    have cP0_15_1 := P0_15.out.c1
    have lP1_15 := P1_15.out.lt
    have cP1_15_0 := P1_15.out.c0
    have cP1_15_1 := P1_15.out.c1
    go_wp2_with fail
    clear lP0_15 cP0_15_0 cP0_15_1 lP1_15 cP1_15_0 cP1_15_1
    refine (H2.out _).mono ?_
    rintro e W16 ⟨rfl, hb16⟩
    have HB16 := Lib.hid (HB15.out.trans ((hb16).mono HB15.out.size))
    have P0_16 := Lib.hid (P0_15.out.below (hb16) P0_15.out.lt)
    have P1_16 := Lib.hid (P1_15.out.below (hb16) P1_15.out.lt)
    clear HB15 P0_15 P1_15 hb16
    have lP0_16 := P0_16.out.lt
    have cP0_16_0 := P0_16.out.c0
    have cP0_16_1 := P0_16.out.c1
    have lP1_16 := P1_16.out.lt
    have cP1_16_0 := P1_16.out.c0
    have cP1_16_1 := P1_16.out.c1
    go_wp2
    go_ret
    exact ⟨rfl, HB16.out⟩
  rw [show cpV a b c d = cmpI (a * d) (c * b) from by unfold cpV; rw [ok_yes h1 h2]; rfl]
  have H1 := Lib.hid (fun W => rRight_val a b true h1 W a1 a2 b1 b2)
  have H2 := Lib.hid (fun W => rRight_val c d true h2 W c1 c2 d1 d2)
  have R1 := right_iff.1 h1
  have R2 := right_iff.1 h2
  obtain ⟨m0a, m0b⟩ := mulB (part_n R1) (part_d R2)
  obtain ⟨m1a, m1b⟩ := mulB (part_n R2) (part_d R1)
  clear h1 h2 R1 R2
  rcases Int.lt_trichotomy (a * d) (c * b) with k | k | k
  · rw [cmpI_islt k]
    have k1 : (a * d == c * b) = false := by rw [beq_eq_false_iff_ne]; omega
    have k2 : a * d < c * b := k
    clear k
    go_enter Tryz.func29, Tryz.ntmps29
    go_wp2_with fail
    have P0_17 := Lib.hid (show Cell2 ((w.alloc (Obj.cells #[(.int .i64 a), (.int .i64 b)] 38)).alloc (Obj.cells #[(.int .i64 c), (.int .i64 d)] 38)) (w.heap.size) (.int .i64 a) (.int .i64 b) from by have q := Cell2.alloc w (.int .i64 a) (.int .i64 b) 38; exact q.below (N := w.heap.size + 1) ((Below.refl _ _).alloc (by simp <;> omega) (Obj.cells #[(.int .i64 c), (.int .i64 d)] 38)) (by omega))
    have P1_17 := Lib.hid (show Cell2 ((w.alloc (Obj.cells #[(.int .i64 a), (.int .i64 b)] 38)).alloc (Obj.cells #[(.int .i64 c), (.int .i64 d)] 38)) (w.heap.size + 1) (.int .i64 c) (.int .i64 d) from by simpa using Cell2.alloc (w.alloc (Obj.cells #[(.int .i64 a), (.int .i64 b)] 38)) (.int .i64 c) (.int .i64 d) 38)
    have HB17 := Lib.hid (((Below.refl w.heap.size w).alloc (Nat.le_refl _) (Obj.cells #[(.int .i64 a), (.int .i64 b)] 38)).alloc (by simp) (Obj.cells #[(.int .i64 c), (.int .i64 d)] 38))
    generalize ((w.alloc (Obj.cells #[(.int .i64 a), (.int .i64 b)] 38)).alloc (Obj.cells #[(.int .i64 c), (.int .i64 d)] 38)) = W17 at *
    have lP0_17 := P0_17.out.lt
    have cP0_17_0 := P0_17.out.c0
    have cP0_17_1 := P0_17.out.c1
    have lP1_17 := P1_17.out.lt
    have cP1_17_0 := P1_17.out.c0
    have cP1_17_1 := P1_17.out.c1
    go_quiet (fail)
    have HD0 := Lib.hid (below_drewN' (Below.refl W17.heap.size W17) nq)
    clear lP0_17 cP0_17_0 cP0_17_1 lP1_17 cP1_17_0 cP1_17_1
    have HB18 := Lib.hid (HB17.out.trans ((HD0.out).mono HB17.out.size))
    have P0_18 := Lib.hid (P0_17.out.below (HD0.out) P0_17.out.lt)
    have P1_18 := Lib.hid (P1_17.out.below (HD0.out) P1_17.out.lt)
    clear HB17 P0_17 P1_17 HD0
    generalize W17.drewN nq = W18 at *
    have lP0_18 := P0_18.out.lt
    have cP0_18_0 := P0_18.out.c0
    have cP0_18_1 := P0_18.out.c1
    have lP1_18 := P1_18.out.lt
    have cP1_18_0 := P1_18.out.c0
    have cP1_18_1 := P1_18.out.c1
    go_wp2_with fail
    clear lP0_18 cP0_18_0 cP0_18_1 lP1_18 cP1_18_0 cP1_18_1
    refine (H1.out _).mono ?_
    rintro e W19 ⟨rfl, hb19⟩
    have HB19 := Lib.hid (HB18.out.trans ((hb19).mono HB18.out.size))
    have P0_19 := Lib.hid (P0_18.out.below (hb19) P0_18.out.lt)
    have P1_19 := Lib.hid (P1_18.out.below (hb19) P1_18.out.lt)
    clear HB18 P0_18 P1_18 hb19
    have lP0_19 := P0_19.out.lt
    have cP0_19_0 := P0_19.out.c0
    have cP0_19_1 := P0_19.out.c1
    have lP1_19 := P1_19.out.lt
    have cP1_19_0 := P1_19.out.c0
    have cP1_19_1 := P1_19.out.c1
    go_wp2_with fail
    clear lP0_19 cP0_19_0 cP0_19_1 lP1_19 cP1_19_0 cP1_19_1
    refine (H2.out _).mono ?_
    rintro e W20 ⟨rfl, hb20⟩
    have HB20 := Lib.hid (HB19.out.trans ((hb20).mono HB19.out.size))
    have P0_20 := Lib.hid (P0_19.out.below (hb20) P0_19.out.lt)
    have P1_20 := Lib.hid (P1_19.out.below (hb20) P1_19.out.lt)
    clear HB19 P0_19 P1_19 hb20
    have lP0_20 := P0_20.out.lt
    have cP0_20_0 := P0_20.out.c0
    have cP0_20_1 := P0_20.out.c1
    have lP1_20 := P1_20.out.lt
    have cP1_20_0 := P1_20.out.c0
    have cP1_20_1 := P1_20.out.c1
    go_wp2
    go_ret
    exact ⟨rfl, HB20.out⟩
  · rw [cmpI_iseq k]
    have k1 : (a * d == c * b) = true := by rw [beq_iff_eq]; exact k
    clear k
    go_enter Tryz.func29, Tryz.ntmps29
    go_wp2_with fail
    have P0_21 := Lib.hid (show Cell2 ((w.alloc (Obj.cells #[(.int .i64 a), (.int .i64 b)] 38)).alloc (Obj.cells #[(.int .i64 c), (.int .i64 d)] 38)) (w.heap.size) (.int .i64 a) (.int .i64 b) from by have q := Cell2.alloc w (.int .i64 a) (.int .i64 b) 38; exact q.below (N := w.heap.size + 1) ((Below.refl _ _).alloc (by simp <;> omega) (Obj.cells #[(.int .i64 c), (.int .i64 d)] 38)) (by omega))
    have P1_21 := Lib.hid (show Cell2 ((w.alloc (Obj.cells #[(.int .i64 a), (.int .i64 b)] 38)).alloc (Obj.cells #[(.int .i64 c), (.int .i64 d)] 38)) (w.heap.size + 1) (.int .i64 c) (.int .i64 d) from by simpa using Cell2.alloc (w.alloc (Obj.cells #[(.int .i64 a), (.int .i64 b)] 38)) (.int .i64 c) (.int .i64 d) 38)
    have HB21 := Lib.hid (((Below.refl w.heap.size w).alloc (Nat.le_refl _) (Obj.cells #[(.int .i64 a), (.int .i64 b)] 38)).alloc (by simp) (Obj.cells #[(.int .i64 c), (.int .i64 d)] 38))
    generalize ((w.alloc (Obj.cells #[(.int .i64 a), (.int .i64 b)] 38)).alloc (Obj.cells #[(.int .i64 c), (.int .i64 d)] 38)) = W21 at *
    have lP0_21 := P0_21.out.lt
    have cP0_21_0 := P0_21.out.c0
    have cP0_21_1 := P0_21.out.c1
    have lP1_21 := P1_21.out.lt
    have cP1_21_0 := P1_21.out.c0
    have cP1_21_1 := P1_21.out.c1
    go_quiet (fail)
    have HD0 := Lib.hid (below_drewN' (Below.refl W21.heap.size W21) nq)
    clear lP0_21 cP0_21_0 cP0_21_1 lP1_21 cP1_21_0 cP1_21_1
    have HB22 := Lib.hid (HB21.out.trans ((HD0.out).mono HB21.out.size))
    have P0_22 := Lib.hid (P0_21.out.below (HD0.out) P0_21.out.lt)
    have P1_22 := Lib.hid (P1_21.out.below (HD0.out) P1_21.out.lt)
    clear HB21 P0_21 P1_21 HD0
    generalize W21.drewN nq = W22 at *
    have lP0_22 := P0_22.out.lt
    have cP0_22_0 := P0_22.out.c0
    have cP0_22_1 := P0_22.out.c1
    have lP1_22 := P1_22.out.lt
    have cP1_22_0 := P1_22.out.c0
    have cP1_22_1 := P1_22.out.c1
    go_wp2_with fail
    clear lP0_22 cP0_22_0 cP0_22_1 lP1_22 cP1_22_0 cP1_22_1
    refine (H1.out _).mono ?_
    rintro e W23 ⟨rfl, hb23⟩
    have HB23 := Lib.hid (HB22.out.trans ((hb23).mono HB22.out.size))
    have P0_23 := Lib.hid (P0_22.out.below (hb23) P0_22.out.lt)
    have P1_23 := Lib.hid (P1_22.out.below (hb23) P1_22.out.lt)
    clear HB22 P0_22 P1_22 hb23
    have lP0_23 := P0_23.out.lt
    have cP0_23_0 := P0_23.out.c0
    have cP0_23_1 := P0_23.out.c1
    have lP1_23 := P1_23.out.lt
    have cP1_23_0 := P1_23.out.c0
    have cP1_23_1 := P1_23.out.c1
    go_wp2_with fail
    clear lP0_23 cP0_23_0 cP0_23_1 lP1_23 cP1_23_0 cP1_23_1
    refine (H2.out _).mono ?_
    rintro e W24 ⟨rfl, hb24⟩
    have HB24 := Lib.hid (HB23.out.trans ((hb24).mono HB23.out.size))
    have P0_24 := Lib.hid (P0_23.out.below (hb24) P0_23.out.lt)
    have P1_24 := Lib.hid (P1_23.out.below (hb24) P1_23.out.lt)
    clear HB23 P0_23 P1_23 hb24
    have lP0_24 := P0_24.out.lt
    have cP0_24_0 := P0_24.out.c0
    have cP0_24_1 := P0_24.out.c1
    have lP1_24 := P1_24.out.lt
    have cP1_24_0 := P1_24.out.c0
    have cP1_24_1 := P1_24.out.c1
    go_wp2
    go_ret
    exact ⟨rfl, HB24.out⟩
  · rw [cmpI_isgt k]
    have k1 : (a * d == c * b) = false := by rw [beq_eq_false_iff_ne]; omega
    have k2 : ¬ a * d < c * b := by omega
    clear k
    go_enter Tryz.func29, Tryz.ntmps29
    go_wp2_with fail
    have P0_25 := Lib.hid (show Cell2 ((w.alloc (Obj.cells #[(.int .i64 a), (.int .i64 b)] 38)).alloc (Obj.cells #[(.int .i64 c), (.int .i64 d)] 38)) (w.heap.size) (.int .i64 a) (.int .i64 b) from by have q := Cell2.alloc w (.int .i64 a) (.int .i64 b) 38; exact q.below (N := w.heap.size + 1) ((Below.refl _ _).alloc (by simp <;> omega) (Obj.cells #[(.int .i64 c), (.int .i64 d)] 38)) (by omega))
    have P1_25 := Lib.hid (show Cell2 ((w.alloc (Obj.cells #[(.int .i64 a), (.int .i64 b)] 38)).alloc (Obj.cells #[(.int .i64 c), (.int .i64 d)] 38)) (w.heap.size + 1) (.int .i64 c) (.int .i64 d) from by simpa using Cell2.alloc (w.alloc (Obj.cells #[(.int .i64 a), (.int .i64 b)] 38)) (.int .i64 c) (.int .i64 d) 38)
    have HB25 := Lib.hid (((Below.refl w.heap.size w).alloc (Nat.le_refl _) (Obj.cells #[(.int .i64 a), (.int .i64 b)] 38)).alloc (by simp) (Obj.cells #[(.int .i64 c), (.int .i64 d)] 38))
    generalize ((w.alloc (Obj.cells #[(.int .i64 a), (.int .i64 b)] 38)).alloc (Obj.cells #[(.int .i64 c), (.int .i64 d)] 38)) = W25 at *
    have lP0_25 := P0_25.out.lt
    have cP0_25_0 := P0_25.out.c0
    have cP0_25_1 := P0_25.out.c1
    have lP1_25 := P1_25.out.lt
    have cP1_25_0 := P1_25.out.c0
    have cP1_25_1 := P1_25.out.c1
    go_quiet (fail)
    have HD0 := Lib.hid (below_drewN' (Below.refl W25.heap.size W25) nq)
    clear lP0_25 cP0_25_0 cP0_25_1 lP1_25 cP1_25_0 cP1_25_1
    have HB26 := Lib.hid (HB25.out.trans ((HD0.out).mono HB25.out.size))
    have P0_26 := Lib.hid (P0_25.out.below (HD0.out) P0_25.out.lt)
    have P1_26 := Lib.hid (P1_25.out.below (HD0.out) P1_25.out.lt)
    clear HB25 P0_25 P1_25 HD0
    generalize W25.drewN nq = W26 at *
    have lP0_26 := P0_26.out.lt
    have cP0_26_0 := P0_26.out.c0
    have cP0_26_1 := P0_26.out.c1
    have lP1_26 := P1_26.out.lt
    have cP1_26_0 := P1_26.out.c0
    have cP1_26_1 := P1_26.out.c1
    go_wp2_with fail
    clear lP0_26 cP0_26_0 cP0_26_1 lP1_26 cP1_26_0 cP1_26_1
    refine (H1.out _).mono ?_
    rintro e W27 ⟨rfl, hb27⟩
    have HB27 := Lib.hid (HB26.out.trans ((hb27).mono HB26.out.size))
    have P0_27 := Lib.hid (P0_26.out.below (hb27) P0_26.out.lt)
    have P1_27 := Lib.hid (P1_26.out.below (hb27) P1_26.out.lt)
    clear HB26 P0_26 P1_26 hb27
    have lP0_27 := P0_27.out.lt
    have cP0_27_0 := P0_27.out.c0
    have cP0_27_1 := P0_27.out.c1
    have lP1_27 := P1_27.out.lt
    have cP1_27_0 := P1_27.out.c0
    have cP1_27_1 := P1_27.out.c1
    go_wp2_with fail
    clear lP0_27 cP0_27_0 cP0_27_1 lP1_27 cP1_27_0 cP1_27_1
    refine (H2.out _).mono ?_
    rintro e W28 ⟨rfl, hb28⟩
    have HB28 := Lib.hid (HB27.out.trans ((hb28).mono HB27.out.size))
    have P0_28 := Lib.hid (P0_27.out.below (hb28) P0_27.out.lt)
    have P1_28 := Lib.hid (P1_27.out.below (hb28) P1_27.out.lt)
    clear HB27 P0_27 P1_27 hb28
    have lP0_28 := P0_28.out.lt
    have cP0_28_0 := P0_28.out.c0
    have cP0_28_1 := P0_28.out.c1
    have lP1_28 := P1_28.out.lt
    have cP1_28_0 := P1_28.out.c0
    have cP1_28_1 := P1_28.out.c1
    go_wp2
    go_ret
    exact ⟨rfl, HB28.out⟩

set_option maxRecDepth 100000 in
set_option maxHeartbeats 4000000 in
theorem textF_any (a b : Int) (w : World) (a1 : -9223372036854775808 ≤ a) (a2 : a ≤ 9223372036854775807) (b1 : -9223372036854775808 ≤ b) (b2 : b ≤ 9223372036854775807) :
    Calls Tryz.prog 20 #[.agg #[.int .i64 a, .int .i64 b]] w fun e w' => e = .returned (.tuple #[.string (txS a b), .int .i64 (txE a b)]) ∧ Below w.heap.size w w' := by
  by_cases h1 : rightB a b = true
  case neg =>
    have h1' : rightB a b = false := by simpa using h1
    rw [show txS a b = ⟨#[]⟩ from by unfold txS; rw [h1']; rfl, show txE a b = 2 from by unfold txE; rw [h1']; rfl]
    have H1 := Lib.hid (fun W => right_val a b false h1' W a1 a2 b1 b2)
    clear h1 h1'
    go_enter Tryz.func20, Tryz.ntmps20
    go_wp2_with fail
    have P0_38 := Lib.hid (show Cell2 (w.alloc (Obj.cells #[(.int .i64 a), (.int .i64 b)] 38)) (w.heap.size) (.int .i64 a) (.int .i64 b) from by simpa using Cell2.alloc w (.int .i64 a) (.int .i64 b) 38)
    have HB38 := Lib.hid ((Below.refl w.heap.size w).alloc (Nat.le_refl _) (Obj.cells #[(.int .i64 a), (.int .i64 b)] 38))
    generalize (w.alloc (Obj.cells #[(.int .i64 a), (.int .i64 b)] 38)) = W38 at *
    refine (H1.out _).mono ?_
    rintro e W39 ⟨rfl, hb39⟩
    have HB39 := Lib.hid (HB38.out.trans ((hb39).mono HB38.out.size))
    have P0_39 := Lib.hid (P0_38.out.below (hb39) P0_38.out.lt)
    clear HB38 P0_38 hb39
    have lP0_39 := P0_39.out.lt
    have cP0_39_0 := P0_39.out.c0
    have cP0_39_1 := P0_39.out.c1
    go_wp2
    go_ret2
    exact ⟨rfl, HB39.out⟩
  rw [show txE a b = 0 from by unfold txE; rw [h1]; rfl, show txS a b = (if b = 1 then textS a else textS a ++ (⟨#[47]⟩ ++ textS b)) from by unfold txS; rw [h1]; rfl]
  have H1 := Lib.hid (fun W => right_val a b true h1 W a1 a2 b1 b2)
  have HA := Lib.hid (fun W => text_any a W a1 a2)
  have HT := Lib.hid (fun W => text_any b W b1 b2)
  clear h1
  have sA : (textS a).size ≤ 21 := by rw [textS_size]; exact text_len a1 a2
  have sB : (textS b).size ≤ 21 := by rw [textS_size]; exact text_len b1 b2
  generalize textS a = A at *
  generalize textS b = B at *
  by_cases hb : b = 1
  · rw [if_pos hb]
    have hb' : (b != 1) = false := by simpa using hb
    clear hb
    go_enter Tryz.func20, Tryz.ntmps20
    go_wp2_with fail
    have P0_40 := Lib.hid (show Cell2 (w.alloc (Obj.cells #[(.int .i64 a), (.int .i64 b)] 38)) (w.heap.size) (.int .i64 a) (.int .i64 b) from by simpa using Cell2.alloc w (.int .i64 a) (.int .i64 b) 38)
    have HB40 := Lib.hid ((Below.refl w.heap.size w).alloc (Nat.le_refl _) (Obj.cells #[(.int .i64 a), (.int .i64 b)] 38))
    generalize (w.alloc (Obj.cells #[(.int .i64 a), (.int .i64 b)] 38)) = W40 at *
    refine (H1.out _).mono ?_
    rintro e W41 ⟨rfl, hb41⟩
    have HB41 := Lib.hid (HB40.out.trans ((hb41).mono HB40.out.size))
    have P0_41 := Lib.hid (P0_40.out.below (hb41) P0_40.out.lt)
    clear HB40 P0_40 hb41
    have lP0_41 := P0_41.out.lt
    have cP0_41_0 := P0_41.out.c0
    have cP0_41_1 := P0_41.out.c1
    go_wp2_with fail
    clear lP0_41 cP0_41_0 cP0_41_1
    refine (HA.out _).mono ?_
    rintro e W42 ⟨rfl, hb42⟩
    have HB42 := Lib.hid (HB41.out.trans ((hb42).mono HB41.out.size))
    have P0_42 := Lib.hid (P0_41.out.below (hb42) P0_41.out.lt)
    clear HB41 P0_41 hb42
    have lP0_42 := P0_42.out.lt
    have cP0_42_0 := P0_42.out.c0
    have cP0_42_1 := P0_42.out.c1
    go_wp2
    go_ret2
    exact ⟨rfl, HB42.out⟩
  · rw [if_neg hb]
    have hb' : (b != 1) = true := by simpa using hb
    clear hb
    go_enter Tryz.func20, Tryz.ntmps20
    go_wp2_with fail
    have P0_43 := Lib.hid (show Cell2 (w.alloc (Obj.cells #[(.int .i64 a), (.int .i64 b)] 38)) (w.heap.size) (.int .i64 a) (.int .i64 b) from by simpa using Cell2.alloc w (.int .i64 a) (.int .i64 b) 38)
    have HB43 := Lib.hid ((Below.refl w.heap.size w).alloc (Nat.le_refl _) (Obj.cells #[(.int .i64 a), (.int .i64 b)] 38))
    generalize (w.alloc (Obj.cells #[(.int .i64 a), (.int .i64 b)] 38)) = W43 at *
    refine (H1.out _).mono ?_
    rintro e W44 ⟨rfl, hb44⟩
    have HB44 := Lib.hid (HB43.out.trans ((hb44).mono HB43.out.size))
    have P0_44 := Lib.hid (P0_43.out.below (hb44) P0_43.out.lt)
    clear HB43 P0_43 hb44
    have lP0_44 := P0_44.out.lt
    have cP0_44_0 := P0_44.out.c0
    have cP0_44_1 := P0_44.out.c1
    go_wp2_with fail
    clear lP0_44 cP0_44_0 cP0_44_1
    refine (HA.out _).mono ?_
    rintro e W45 ⟨rfl, hb45⟩
    have HB45 := Lib.hid (HB44.out.trans ((hb45).mono HB44.out.size))
    have P0_45 := Lib.hid (P0_44.out.below (hb45) P0_44.out.lt)
    clear HB44 P0_44 hb45
    have lP0_45 := P0_45.out.lt
    have cP0_45_0 := P0_45.out.c0
    have cP0_45_1 := P0_45.out.c1
    go_wp2_with fail
    clear lP0_45 cP0_45_0 cP0_45_1
    refine (HT.out _).mono ?_
    rintro e W46 ⟨rfl, hb46⟩
    have HB46 := Lib.hid (HB45.out.trans ((hb46).mono HB45.out.size))
    have P0_46 := Lib.hid (P0_45.out.below (hb46) P0_45.out.lt)
    clear HB45 P0_45 hb46
    go_wp2
    go_ret2
    exact ⟨rfl, HB46.out⟩

set_option maxRecDepth 100000 in
set_option maxHeartbeats 4000000 in
theorem rTextF_any (a b : Int) (w : World) (a1 : -9223372036854775808 ≤ a) (a2 : a ≤ 9223372036854775807) (b1 : -9223372036854775808 ≤ b) (b2 : b ≤ 9223372036854775807) :
    Calls Tryz.prog 23 #[.agg #[.int .i64 a, .int .i64 b]] w fun e w' => e = .returned (.tuple #[.string (txS a b), .int .i64 (txE a b)]) ∧ Below w.heap.size w w' := by
  by_cases h1 : rightB a b = true
  case neg =>
    have h1' : rightB a b = false := by simpa using h1
    rw [show txS a b = ⟨#[]⟩ from by unfold txS; rw [h1']; rfl, show txE a b = 2 from by unfold txE; rw [h1']; rfl]
    have H1 := Lib.hid (fun W => rRight_val a b false h1' W a1 a2 b1 b2)
    clear h1 h1'
    go_enter Tryz.func23, Tryz.ntmps23
    go_wp2_with fail
    have P0_47 := Lib.hid (show Cell2 (w.alloc (Obj.cells #[(.int .i64 a), (.int .i64 b)] 38)) (w.heap.size) (.int .i64 a) (.int .i64 b) from by simpa using Cell2.alloc w (.int .i64 a) (.int .i64 b) 38)
    have HB47 := Lib.hid ((Below.refl w.heap.size w).alloc (Nat.le_refl _) (Obj.cells #[(.int .i64 a), (.int .i64 b)] 38))
    generalize (w.alloc (Obj.cells #[(.int .i64 a), (.int .i64 b)] 38)) = W47 at *
    refine (H1.out _).mono ?_
    rintro e W48 ⟨rfl, hb48⟩
    have HB48 := Lib.hid (HB47.out.trans ((hb48).mono HB47.out.size))
    have P0_48 := Lib.hid (P0_47.out.below (hb48) P0_47.out.lt)
    clear HB47 P0_47 hb48
    have lP0_48 := P0_48.out.lt
    have cP0_48_0 := P0_48.out.c0
    have cP0_48_1 := P0_48.out.c1
    go_wp2
    go_ret2
    exact ⟨rfl, HB48.out⟩
  rw [show txE a b = 0 from by unfold txE; rw [h1]; rfl, show txS a b = (if b = 1 then textS a else textS a ++ (⟨#[47]⟩ ++ textS b)) from by unfold txS; rw [h1]; rfl]
  have H1 := Lib.hid (fun W => rRight_val a b true h1 W a1 a2 b1 b2)
  have HA := Lib.hid (fun W => rText_any a W a1 a2)
  have HT := Lib.hid (fun W => rText_any b W b1 b2)
  clear h1
  have sA : (textS a).size ≤ 21 := by rw [textS_size]; exact text_len a1 a2
  have sB : (textS b).size ≤ 21 := by rw [textS_size]; exact text_len b1 b2
  generalize textS a = A at *
  generalize textS b = B at *
  by_cases hb : b = 1
  · rw [if_pos hb]
    have hb' : (b == 1) = true := by simpa using hb
    clear hb
    go_enter Tryz.func23, Tryz.ntmps23
    go_wp2_with fail
    have P0_49 := Lib.hid (show Cell2 (w.alloc (Obj.cells #[(.int .i64 a), (.int .i64 b)] 38)) (w.heap.size) (.int .i64 a) (.int .i64 b) from by simpa using Cell2.alloc w (.int .i64 a) (.int .i64 b) 38)
    have HB49 := Lib.hid ((Below.refl w.heap.size w).alloc (Nat.le_refl _) (Obj.cells #[(.int .i64 a), (.int .i64 b)] 38))
    generalize (w.alloc (Obj.cells #[(.int .i64 a), (.int .i64 b)] 38)) = W49 at *
    refine (H1.out _).mono ?_
    rintro e W50 ⟨rfl, hb50⟩
    have HB50 := Lib.hid (HB49.out.trans ((hb50).mono HB49.out.size))
    have P0_50 := Lib.hid (P0_49.out.below (hb50) P0_49.out.lt)
    clear HB49 P0_49 hb50
    have lP0_50 := P0_50.out.lt
    have cP0_50_0 := P0_50.out.c0
    have cP0_50_1 := P0_50.out.c1
    go_wp2_with fail
    clear lP0_50 cP0_50_0 cP0_50_1
    refine (HA.out _).mono ?_
    rintro e w_ ⟨rfl, rfl⟩
    go_wp2
    go_ret2
    exact ⟨rfl, HB50.out⟩
  · rw [if_neg hb]
    have hb' : (b == 1) = false := by simpa using hb
    clear hb
    rw [show A ++ ((⟨#[47]⟩ : ByteArray) ++ B) = A ++ (⟨#[47]⟩ : ByteArray) ++ B from by rw [ByteArray.append_assoc]]
    go_enter Tryz.func23, Tryz.ntmps23
    go_wp2_with fail
    have P0_51 := Lib.hid (show Cell2 (w.alloc (Obj.cells #[(.int .i64 a), (.int .i64 b)] 38)) (w.heap.size) (.int .i64 a) (.int .i64 b) from by simpa using Cell2.alloc w (.int .i64 a) (.int .i64 b) 38)
    have HB51 := Lib.hid ((Below.refl w.heap.size w).alloc (Nat.le_refl _) (Obj.cells #[(.int .i64 a), (.int .i64 b)] 38))
    generalize (w.alloc (Obj.cells #[(.int .i64 a), (.int .i64 b)] 38)) = W51 at *
    refine (H1.out _).mono ?_
    rintro e W52 ⟨rfl, hb52⟩
    have HB52 := Lib.hid (HB51.out.trans ((hb52).mono HB51.out.size))
    have P0_52 := Lib.hid (P0_51.out.below (hb52) P0_51.out.lt)
    clear HB51 P0_51 hb52
    have lP0_52 := P0_52.out.lt
    have cP0_52_0 := P0_52.out.c0
    have cP0_52_1 := P0_52.out.c1
    go_wp2_with fail
    have l0 := cell_regrown P0_52.out.c0
    have l1 := cell_regrown P0_52.out.c1
    have cA : ∀ dd os, Calls Tryz.prog 24 #[.int .i64 a] (grow (redrawn W52 dd) os) fun e w'' => e = .returned (.string A) ∧ ∃ p : Regrown, w'' = grow (redrawn W52 p.d) p.os := fun dd os => Calls.regrown_of ((HA.out _).mono fun _ _ h => ⟨h.1, h.2 ▸ Below.refl _ _⟩)
    have cB : ∀ dd os, Calls Tryz.prog 24 #[.int .i64 b] (grow (redrawn W52 dd) os) fun e w'' => e = .returned (.string B) ∧ ∃ p : Regrown, w'' = grow (redrawn W52 p.d) p.os := fun dd os => Calls.regrown_of ((HT.out _).mono fun _ _ h => ⟨h.1, h.2 ▸ Below.refl _ _⟩)
    refine wp_region_quiet_below (l := _) (by kernel_rfl) (by kernel_rfl) ?_
    repeat (first | go_big_quiet_step (first | (go_at_call_of 24 a; exact cA _ _) | (go_at_call_of 24 b; exact cB _ _)))
    refine wpQuiet_nil ?_
    intro w2 hw'
    obtain ⟨⟨dq2, osq2⟩, hw''⟩ := hw'
    have hb2 := below_regrown W52 dq2 osq2
    rw [← hw''] at hb2
    clear hw'' cA cB l0 l1
    clear lP0_52 cP0_52_0 cP0_52_1
    have HB53 := Lib.hid (HB52.out.trans ((hb2).mono HB52.out.size))
    have P0_53 := Lib.hid (P0_52.out.below (hb2) P0_52.out.lt)
    clear HB52 P0_52 hb2
    go_wp2
    go_ret2
    exact ⟨rfl, HB53.out⟩

end Go.Proofs.YtkpdbhpmnegahaaGreatDoor
