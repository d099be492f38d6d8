/- What Apply of the packages frac and accountingref03 returns. -/
import Derived.Test.YtmehihfdfpnfjaaFrE
import Derived.Test.YtmehihfdfpnfjaaMdC
import Derived.Test.YtmehihfdfpnfjaaMdS
namespace Go.Proofs.Ytmehihfdfpnfjaa
open Go.RowKit Go.Sort
set_option linter.unusedVariables false

theorem right_val (a b : Int) (r : Bool) (h : rightB a b = r) (w : World) (a1 : -9223372036854775808 ≤ a) (a2 : a ≤ 9223372036854775807) (b1 : -9223372036854775808 ≤ b) (b2 : b ≤ 9223372036854775807) :
    Calls Try.prog 27 #[.agg #[.int .i64 a, .int .i64 b]] w fun e w' => e = .returned (.bool r) ∧ Below w.heap.size w w' := h ▸ right_any a b w a1 a2 b1 b2
theorem rRight_val (a b : Int) (r : Bool) (h : rightB a b = r) (w : World) (a1 : -9223372036854775808 ≤ a) (a2 : a ≤ 9223372036854775807) (b1 : -9223372036854775808 ≤ b) (b2 : b ≤ 9223372036854775807) :
    Calls Try.prog 20 #[.agg #[.int .i64 a, .int .i64 b]] w fun e w' => e = .returned (.bool r) ∧ Below w.heap.size w w' := h ▸ rRight_any a b w a1 a2 b1 b2
def apV (a b n m : Int) : Int × Int := if rightB a b then mdV a n b m else (0, 2)

set_option maxRecDepth 100000 in
set_option maxHeartbeats 4000000 in
theorem applyF_any (a b n m : Int) (w : World) (a1 : -9223372036854775808 ≤ a) (a2 : a ≤ 9223372036854775807) (b1 : -9223372036854775808 ≤ b) (b2 : b ≤ 9223372036854775807) (n1 : -9223372036854775808 ≤ n) (n2 : n ≤ 9223372036854775807) :
    Calls Try.prog 47 #[.agg #[.int .i64 a, .int .i64 b], .int .i64 n, .int .i64 m] w fun e w' => e = .returned (.tuple #[.int .i64 (apV a b n m).1, .int .i64 (apV a b n m).2]) ∧ Below w.heap.size w w' := by
  by_cases h1 : rightB a b = true
  case neg =>
    have h1' : rightB a b = false := by simpa using h1
    rw [show apV a b n m = (0, 2) from by unfold apV; rw [h1']; rfl]
    have H1 := Lib.hid (fun W => right_val a b false h1' W a1 a2 b1 b2)
    clear h1 h1'
    go_enter Try.func47, Try.ntmps47
    go_wp2_with fail
    have P0_1 := Lib.hid (show Cell2 (w.alloc (Obj.cells #[(.int .i64 a), (.int .i64 b)] 23)) (w.heap.size) (.int .i64 a) (.int .i64 b) from by simpa using Cell2.alloc w (.int .i64 a) (.int .i64 b) 23)
    have HB1 := Lib.hid ((Below.refl w.heap.size w).alloc (Nat.le_refl _) (Obj.cells #[(.int .i64 a), (.int .i64 b)] 23))
    generalize (w.alloc (Obj.cells #[(.int .i64 a), (.int .i64 b)] 23)) = W1 at *
    refine (H1.out _).mono ?_
    rintro e W2 ⟨rfl, hb2⟩
    have HB2 := Lib.hid (HB1.out.trans ((hb2).mono HB1.out.size))
    have P0_2 := Lib.hid (P0_1.out.below (hb2) P0_1.out.lt)
    clear HB1 P0_1 hb2
    have lP0_2 := P0_2.out.lt
    have cP0_2_0 := P0_2.out.c0
    have cP0_2_1 := P0_2.out.c1
    go_wp2
    go_ret2
    exact ⟨rfl, HB2.out⟩
  rw [show apV a b n m = mdV a n b m from by unfold apV; rw [h1]; rfl]
  have H1 := Lib.hid (fun W => right_val a b true h1 W a1 a2 b1 b2)
  have HM := Lib.hid (fun W => mulDiv_any a n b m W a1 a2 n1 n2 b1 b2)
  clear h1
  generalize (mdV a n b m).1 = x at *
  generalize (mdV a n b m).2 = y at *
  go_enter Try.func47, Try.ntmps47
  go_wp2_with fail
  have P0_3 := Lib.hid (show Cell2 (w.alloc (Obj.cells #[(.int .i64 a), (.int .i64 b)] 23)) (w.heap.size) (.int .i64 a) (.int .i64 b) from by simpa using Cell2.alloc w (.int .i64 a) (.int .i64 b) 23)
  have HB3 := Lib.hid ((Below.refl w.heap.size w).alloc (Nat.le_refl _) (Obj.cells #[(.int .i64 a), (.int .i64 b)] 23))
  generalize (w.alloc (Obj.cells #[(.int .i64 a), (.int .i64 b)] 23)) = W3 at *
  refine (H1.out _).mono ?_
  rintro e W4 ⟨rfl, hb4⟩
  have HB4 := Lib.hid (HB3.out.trans ((hb4).mono HB3.out.size))
  have P0_4 := Lib.hid (P0_3.out.below (hb4) P0_3.out.lt)
  clear HB3 P0_3 hb4
  have lP0_4 := P0_4.out.lt
  have cP0_4_0 := P0_4.out.c0
  have cP0_4_1 := P0_4.out.c1
  go_wp2_with fail
  clear lP0_4 cP0_4_0 cP0_4_1
  refine (HM.out _).mono ?_
  rintro e W5 ⟨rfl, hb5⟩
  have HB5 := Lib.hid (HB4.out.trans ((hb5).mono HB4.out.size))
  have P0_5 := Lib.hid (P0_4.out.below (hb5) P0_4.out.lt)
  clear HB4 P0_4 hb5
  go_wp2
  go_ret2
  exact ⟨rfl, HB5.out⟩

set_option maxRecDepth 100000 in
set_option maxHeartbeats 4000000 in
theorem rApplyF_any (a b n m : Int) (w : World) (a1 : -9223372036854775808 ≤ a) (a2 : a ≤ 9223372036854775807) (b1 : -9223372036854775808 ≤ b) (b2 : b ≤ 9223372036854775807) (n1 : -9223372036854775808 ≤ n) (n2 : n ≤ 9223372036854775807) :
    Calls Try.prog 38 #[.agg #[.int .i64 a, .int .i64 b], .int .i64 n, .int .i64 m] w fun e w' => e = .returned (.tuple #[.int .i64 (apV a b n m).1, .int .i64 (apV a b n m).2]) ∧ Below w.heap.size w w' := by
  by_cases h1 : rightB a b = true
  case neg =>
    have h1' : rightB a b = false := by simpa using h1
    rw [show apV a b n m = (0, 2) from by unfold apV; rw [h1']; rfl]
    have H1 := Lib.hid (fun W => rRight_val a b false h1' W a1 a2 b1 b2)
    clear h1 h1'
    go_enter Try.func38, Try.ntmps38
    go_wp2_with fail
    have P0_6 := Lib.hid (show Cell2 (w.alloc (Obj.cells #[(.int .i64 a), (.int .i64 b)] 23)) (w.heap.size) (.int .i64 a) (.int .i64 b) from by simpa using Cell2.alloc w (.int .i64 a) (.int .i64 b) 23)
    have HB6 := Lib.hid ((Below.refl w.heap.size w).alloc (Nat.le_refl _) (Obj.cells #[(.int .i64 a), (.int .i64 b)] 23))
    generalize (w.alloc (Obj.cells #[(.int .i64 a), (.int .i64 b)] 23)) = W6 at *
    refine (H1.out _).mono ?_
    rintro e W7 ⟨rfl, hb7⟩
    have HB7 := Lib.hid (HB6.out.trans ((hb7).mono HB6.out.size))
    have P0_7 := Lib.hid (P0_6.out.below (hb7) P0_6.out.lt)
    clear HB6 P0_6 hb7
    have lP0_7 := P0_7.out.lt
    have cP0_7_0 := P0_7.out.c0
    have cP0_7_1 := P0_7.out.c1
    go_wp2
    go_ret2
    exact ⟨rfl, HB7.out⟩
  rw [show apV a b n m = mdV a n b m from by unfold apV; rw [h1]; rfl]
  have H1 := Lib.hid (fun W => rRight_val a b true h1 W a1 a2 b1 b2)
  have HM := Lib.hid (fun W => rMulDiv_any a n b m W a1 a2 n1 n2 b1 b2)
  clear h1
  generalize (mdV a n b m).1 = x at *
  generalize (mdV a n b m).2 = y at *
  go_enter Try.func38, Try.ntmps38
  go_wp2_with fail
  have P0_8 := Lib.hid (show Cell2 (w.alloc (Obj.cells #[(.int .i64 a), (.int .i64 b)] 23)) (w.heap.size) (.int .i64 a) (.int .i64 b) from by simpa using Cell2.alloc w (.int .i64 a) (.int .i64 b) 23)
  have HB8 := Lib.hid ((Below.refl w.heap.size w).alloc (Nat.le_refl _) (Obj.cells #[(.int .i64 a), (.int .i64 b)] 23))
  generalize (w.alloc (Obj.cells #[(.int .i64 a), (.int .i64 b)] 23)) = W8 at *
  refine (H1.out _).mono ?_
  rintro e W9 ⟨rfl, hb9⟩
  have HB9 := Lib.hid (HB8.out.trans ((hb9).mono HB8.out.size))
  have P0_9 := Lib.hid (P0_8.out.below (hb9) P0_8.out.lt)
  clear HB8 P0_8 hb9
  have lP0_9 := P0_9.out.lt
  have cP0_9_0 := P0_9.out.c0
  have cP0_9_1 := P0_9.out.c1
  go_wp2_with fail
  clear lP0_9 cP0_9_0 cP0_9_1
  refine (HM.out _).mono ?_
  rintro e w_ ⟨rfl, rfl⟩
  go_wp2
  go_ret2
  exact ⟨rfl, HB9.out⟩

end Go.Proofs.Ytmehihfdfpnfjaa
