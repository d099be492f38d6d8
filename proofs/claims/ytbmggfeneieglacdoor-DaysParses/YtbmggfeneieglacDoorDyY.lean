/- The statement DaysNumbers of package accountinglaw04. -/
import Derived.Test.YtbmggfeneieglacDoorDyX
namespace Go.Proofs.YtbmggfeneieglacDoor
open Go.RowKit Go.Sort
set_option linter.unusedVariables false

set_option maxHeartbeats 4000000 in
theorem daysNumbers_main (n wd me pe y m d : Int) (w : World) (ht : Tab w) (n1 : -9223372036854775808 ≤ n) (n2 : n ≤ 9223372036854775807)
    (H1 : Hid (∀ w, Tab w → Calls Tryd.prog 14 #[.int .i64 n] w fun e w' => e = .returned (.tuple #[.agg #[.int .i64 y, .int .i64 m, .int .i64 d], .int .i64 pe]) ∧ Below w.heap.size w w'))
    (H2 : Hid (∀ w, Calls Tryd.prog 15 #[.int .i64 n] w fun e w' => e = .returned (.tuple #[.agg #[.int .i64 y, .int .i64 m, .int .i64 d], .int .i64 pe]) ∧ Below w.heap.size w w'))
    (H3 : Hid (∀ w, Tab w → Calls Tryd.prog 16 #[.int .i64 n] w fun e w' => e = .returned (.tuple #[.int .i64 me, .int .i64 pe]) ∧ Below w.heap.size w w'))
    (H4 : Hid (∀ w, Calls Tryd.prog 17 #[.int .i64 n] w fun e w' => e = .returned (.tuple #[.int .i64 me, .int .i64 pe]) ∧ Below w.heap.size w w')) :
    Calls Tryd.prog 4 #[.int .i64 n] w fun e w' => e = .returned (.bool true) ∧ Below w.heap.size w w' := by
  have H5 := Lib.hid (fun w => weekday_any n w n1 n2)
  have H6 := Lib.hid (fun w => rWeekday_any n w n1 n2)
  generalize (if 0 ≤ n ∧ n ≤ 109572 then n % 7 else -1) = WD at *
  have H7 := Lib.hid (fun w ht => lives_any w ht)
  have hq := eqSame y m d
  go_enter Tryd.func4, Tryd.ntmps4
  go_wp2_with fail
  refine (H1.out _ ht).mono ?_
  rintro e w1 ⟨rfl, hb⟩
  have HB1 := Lib.hid hb
  clear hb
  go_wp2_with fail
  have HC1 := Lib.hid (Cell3.alloc w1 (.int .i64 y) (.int .i64 m) (.int .i64 d) 23)
  have HBa := Lib.hid (HB1.out.alloc HB1.out.size (Obj.cells #[.int .i64 y, .int .i64 m, .int .i64 d] 23))
  generalize w1.alloc (Obj.cells #[.int .i64 y, .int .i64 m, .int .i64 d] 23) = W1 at *
  refine (H2.out _).mono ?_
  rintro e w2 ⟨rfl, hb⟩
  have HB2 := Lib.hid (HBa.out.trans (hb.mono HBa.out.size))
  have HC2 := Lib.hid (HC1.out.below hb HC1.out.lt)
  clear hb
  go_wp2_with fail
  have HCb := Lib.hid (Cell3.alloc w2 (.int .i64 y) (.int .i64 m) (.int .i64 d) 23)
  have HBb := Lib.hid (HB2.out.alloc HB2.out.size (Obj.cells #[.int .i64 y, .int .i64 m, .int .i64 d] 23))
  have HCc := Lib.hid (HC2.out.below ((Below.refl _ _).alloc (Nat.le_refl _) (Obj.cells #[.int .i64 y, .int .i64 m, .int .i64 d] 23)) HC2.out.lt)
  generalize w2.alloc (Obj.cells #[.int .i64 y, .int .i64 m, .int .i64 d] 23) = W2 at *
  refine (H3.out _ (ht.below HBb.out)).mono ?_
  rintro e w3 ⟨rfl, hb⟩
  have HB3 := Lib.hid (HBb.out.trans (hb.mono HBb.out.size))
  have HCd := Lib.hid (HCb.out.below hb HCb.out.lt)
  have HCe := Lib.hid (HCc.out.below hb HCc.out.lt)
  clear hb
  go_wp2_with fail
  refine (H4.out _).mono ?_
  rintro e w4 ⟨rfl, hb⟩
  have HB4 := Lib.hid (HB3.out.trans (hb.mono HB3.out.size))
  have HCf := Lib.hid (HCd.out.below hb HCd.out.lt)
  have HCg := Lib.hid (HCe.out.below hb HCe.out.lt)
  clear hb
  have c0 := HCf.out.c0
  have c1 := HCf.out.c1
  have c2 := HCf.out.c2
  have g0 := HCg.out.c0
  have g1 := HCg.out.c1
  have g2 := HCg.out.c2
  go_wp2_with fail
  refine (H5.out _).mono ?_
  rintro e w5 ⟨rfl, rfl⟩
  go_wp2_with fail
  refine (H6.out _).mono ?_
  rintro e w5 ⟨rfl, rfl⟩
  go_wp2_with fail
  refine (H7.out _ (ht.below HB4.out)).mono ?_
  rintro e w5 ⟨rfl, hb⟩
  go_wp2
  go_ret
  exact ⟨rfl, HB4.out.trans (hb.mono HB4.out.size)⟩

theorem daysNumbers_walk (n : Int) (w : World) (ht : Tab w) (wn : (Lit.int .i64 n).wf = true) :
    Calls Tryd.prog 4 #[.int .i64 n] w fun e w' => e = .returned (.bool true) ∧ Below w.heap.size w w' := by
  obtain ⟨n1, n2⟩ := i64_bd wn
  by_cases h : 0 ≤ n ∧ n ≤ 109572
  · obtain ⟨y, m, d, hd⟩ := IsDate.ex h.1 h.2
    exact daysNumbers_main n 0 (ofN y m (lenV y m)) 0 y m d w ht n1 n2 (Lib.hid fun w ht => date_any n y m d w ht hd) (Lib.hid fun w => rDate_any n y m d w hd) (Lib.hid fun w ht => monthEnd_any n y m d w ht hd) (Lib.hid fun w => rMonthEnd_any n y m d w hd)
  · have h' : n < 0 ∨ 109572 < n := by omega
    exact daysNumbers_main n 0 0 11 0 0 0 w ht n1 n2 (Lib.hid fun w ht => date_no n w n1 n2 h') (Lib.hid fun w => rDate_no n w n1 n2 h') (Lib.hid fun w ht => monthEnd_no n w n1 n2 h') (Lib.hid fun w => rMonthEnd_no n w n1 n2 h')
end Go.Proofs.YtbmggfeneieglacDoor
