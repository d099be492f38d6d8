/- What MonthEnd of the packages days and accountingref04 returns. -/
import Derived.Test.YtkpdbhpmnegahaaGreatDoorDyG
import Derived.IntWalk
namespace Go.Proofs.YtkpdbhpmnegahaaGreatDoor
open Go.RowKit Go.Sort
set_option linter.unusedVariables false

theorem Valid.last {y m d : Int} (h : Valid y m d) : Valid y m (lenV y m) := by
  have := lenV_b (y := y) h.m.1 h.m.2
  obtain ⟨h1, h2, h3, h4⟩ := h
  exact ⟨h1, h2, by omega, Int.le_refl _⟩
theorem ofV_of {y m d : Int} (h : Valid y m d) : ofV y m d = ofN y m d := if_pos h
theorem ofE_of {y m d : Int} (h : Valid y m d) : ofE y m d = 0 := if_pos h

set_option maxHeartbeats 400000 in
theorem monthEnd_no (n : Int) (w : World) (n1 : -9223372036854775808 ≤ n) (n2 : n ≤ 9223372036854775807) (h : n < 0 ∨ 109572 < n) :
    Calls Tryz.prog 31 #[.int .i64 n] w fun e w' => e = .returned (.tuple #[.int .i64 0, .int .i64 11]) ∧ Below w.heap.size w w' := by
  have HD := Lib.hid (fun w => date_no n w n1 n2 h)
  clear h
  go_enter Tryz.func31, Tryz.ntmps31
  go_wp2_with fail
  refine (HD.out _).mono ?_
  rintro e w' ⟨rfl, hb⟩
  have HB := Lib.hid hb
  clear hb
  go_wp2
  go_ret2
  exact ⟨rfl, (HB.out.alloc HB.out.size _)⟩

set_option maxHeartbeats 4000000 in
theorem monthEnd_any (n y m d : Int) (w : World) (ht : Tab w) (h : IsDate n y m d) :
    Calls Tryz.prog 31 #[.int .i64 n] w fun e w' => e = .returned (.tuple #[.int .i64 (ofN y m (lenV y m)), .int .i64 0]) ∧ Below w.heap.size w w' := by
  have HD := Lib.hid (fun w ht => date_any n y m d w ht h)
  obtain ⟨n1, n2, n3, n4⟩ := h.range
  have hm := h.1.m
  obtain ⟨v1, v2, v3, v4⟩ := h.1
  have HL := Lib.hid (fun w ht => length_any y m w ht (by omega) (by omega) (by omega) (by omega))
  have HO := Lib.hid (fun w ht => of_any y m (lenV y m) w ht (by omega) (by omega) (by omega) (by omega) (by have := lenV_all y m; omega) (by have := lenV_all y m; omega))
  rw [ofV_of h.1.last, ofE_of h.1.last] at HO
  clear h
  generalize ofN y m (lenV y m) = R at *
  generalize lenV y m = L at *
  go_enter Tryz.func31, Tryz.ntmps31
  go_wp2_with fail
  refine (HD.out _ ht).mono ?_
  rintro e w1 ⟨rfl, hb⟩
  have HB := Lib.hid hb
  have HT := Lib.hid (ht.below hb)
  clear hb
  go_wp2_with fail
  refine (HL.out _ (HT.out.alloc _)).mono ?_
  rintro e w2 ⟨rfl, rfl⟩
  go_wp2_with fail
  refine (HO.out _ (HT.out.alloc _)).mono ?_
  rintro e w2 ⟨rfl, hb⟩
  go_wp2
  go_ret2
  exact ⟨rfl, (HB.out.alloc HB.out.size _).trans (hb.mono (Nat.le_trans HB.out.size (by simp)))⟩

set_option maxHeartbeats 400000 in
theorem rMonthEnd_no (n : Int) (w : World) (n1 : -9223372036854775808 ≤ n) (n2 : n ≤ 9223372036854775807) (h : n < 0 ∨ 109572 < n) :
    Calls Tryz.prog 33 #[.int .i64 n] w fun e w' => e = .returned (.tuple #[.int .i64 0, .int .i64 11]) ∧ Below w.heap.size w w' := by
  have HD := Lib.hid (fun w => rDate_no n w n1 n2 h)
  clear h
  go_enter Tryz.func33, Tryz.ntmps33
  go_wp2_with fail
  refine (HD.out _).mono ?_
  rintro e w' ⟨rfl, hb⟩
  have HB := Lib.hid hb
  clear hb
  go_wp2
  go_ret2
  exact ⟨rfl, (HB.out.alloc HB.out.size _)⟩

set_option maxHeartbeats 4000000 in
theorem rMonthEnd_any (n y m d : Int) (w : World) (h : IsDate n y m d) :
    Calls Tryz.prog 33 #[.int .i64 n] w fun e w' => e = .returned (.tuple #[.int .i64 (ofN y m (lenV y m)), .int .i64 0]) ∧ Below w.heap.size w w' := by
  have HD := Lib.hid (fun w => rDate_any n y m d w h)
  obtain ⟨n1, n2, n3, n4⟩ := h.range
  have hm := h.1.m
  obtain ⟨v1, v2, v3, v4⟩ := h.1
  have HL := Lib.hid (fun w => rLength_any y m w (by omega) (by omega) (by omega) (by omega))
  have HR := Lib.hid (show n - d + lenV y m = ofN y m (lenV y m) by have := h.2; unfold ofN at *; omega)
  have hL := lenV_all y m
  rw [← HR.out]
  clear h HR n3 n4
  generalize lenV y m = L at *
  go_enter Tryz.func33, Tryz.ntmps33
  go_wp2_with fail
  refine (HD.out _).mono ?_
  rintro e w1 ⟨rfl, hb⟩
  have HB := Lib.hid hb
  clear hb
  go_wp2_with fail
  have HB1 := Lib.hid (HB.out.alloc HB.out.size (Obj.cells #[.int .i64 y, .int .i64 m, .int .i64 d] 85))
  have HC := Lib.hid (Cell3.alloc w1 (.int .i64 y) (.int .i64 m) (.int .i64 d) 85)
  generalize w1.alloc (Obj.cells #[.int .i64 y, .int .i64 m, .int .i64 d] 85) = W at *
  have l0 := cell_regrown HC.out.c0
  have l1 := cell_regrown HC.out.c1
  have l2 := cell_regrown HC.out.c2
  have W1 := IntWalk.i64_in (n - d) (by omega)
  have W2 := IntWalk.i64_in (n - d + L) (by omega)
  have cF : ∀ dd os, Calls Tryz.prog 53 #[.int .i64 y, .int .i64 m] (grow (redrawn W dd) os) fun e w'' => e = .returned (.int .i64 L) ∧ ∃ p : Regrown, w'' = grow (redrawn W p.d) p.os := fun dd os => Calls.regrown_of (HL.out _)
  refine wp_region_quiet_below (l := _) (by kernel_rfl) (by kernel_rfl) ?_
  repeat (first | go_big_quiet_step (exact cF _ _) | quiet_step (exact cF _ _))
  refine wpQuiet_nil ?_
  intro w2 hw'
  obtain ⟨⟨dq2, osq2⟩, hw''⟩ := hw'
  have hb2 := below_regrown W dq2 osq2
  rw [← hw''] at hb2
  clear hw''
  go_wp2
  go_ret2
  exact ⟨rfl, HB1.out.trans (hb2.mono HB1.out.size)⟩
end Go.Proofs.YtkpdbhpmnegahaaGreatDoor
