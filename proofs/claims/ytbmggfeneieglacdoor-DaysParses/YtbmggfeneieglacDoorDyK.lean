/- What Text and Parse of package days return. -/
import Derived.Test.YtbmggfeneieglacDoorDyJ
namespace Go.Proofs.YtbmggfeneieglacDoor
open Go.RowKit Go.Sort
set_option linter.unusedVariables false

/-- the notation of a date. -/
def dayS (y m d : Int) : ByteArray := textS y ++ ⟨#[45]⟩ ++ twoS m ++ ⟨#[45]⟩ ++ twoS d
theorem twoS_size {n : Int} (h1 : 0 ≤ n) (h2 : n < 100) : (twoS n).size ≤ 3 := by
  have := textS_size2 h1 h2
  unfold twoS; split
  · rw [ByteArray.size_append]; show 1 + _ ≤ 3; omega
  · omega
theorem textS_size21 {n : Int} (h1 : -9223372036854775808 ≤ n) (h2 : n ≤ 9223372036854775807) : (textS n).size ≤ 21 := by
  rw [textS_size]; exact text_len h1 h2

set_option maxHeartbeats 400000 in
theorem dayText_no (n : Int) (w : World) (n1 : -9223372036854775808 ≤ n) (n2 : n ≤ 9223372036854775807) (h : n < 0 ∨ 109572 < n) :
    Calls Tryd.prog 26 #[.int .i64 n] w fun e w' => e = .returned (.tuple #[.string ⟨#[]⟩, .int .i64 11]) ∧ Below w.heap.size w w' := by
  have HD := Lib.hid (fun w => date_no n w n1 n2 h)
  clear h
  go_enter Tryd.func26, Tryd.ntmps26
  go_wp2_with fail
  refine (HD.out _).mono ?_
  rintro e w' ⟨rfl, hb⟩
  have HB := Lib.hid hb
  clear hb
  go_wp2
  go_ret2
  exact ⟨rfl, (HB.out.alloc HB.out.size _)⟩

set_option maxHeartbeats 4000000 in
theorem dayText_any (n y m d : Int) (w : World) (ht : Tab w) (h : IsDate n y m d) :
    Calls Tryd.prog 26 #[.int .i64 n] w fun e w' => e = .returned (.tuple #[.string (dayS y m d), .int .i64 0]) ∧ Below w.heap.size w w' := by
  have HD := Lib.hid (fun w ht => date_any n y m d w ht h)
  have hm := h.1.m
  have hd := h.1.d
  obtain ⟨v1, v2, v3, v4⟩ := h.1
  clear h
  have HY := Lib.hid (fun w => text_any y w (by omega) (by omega))
  have HM := Lib.hid (fun w => twoDigits_any m w (by omega) (by omega))
  have HDD := Lib.hid (fun w => twoDigits_any d w (by omega) (by omega))
  have z1 := textS_size21 (n := y) (by omega) (by omega)
  have z2 := twoS_size (n := m) (by omega) (by omega)
  have z3 := twoS_size (n := d) (by omega) (by omega)
  unfold dayS
  generalize textS y = A at *
  generalize twoS m = B at *
  generalize twoS d = C at *
  go_enter Tryd.func26, Tryd.ntmps26
  go_wp2_with fail
  refine (HD.out _ ht).mono ?_
  rintro e w1 ⟨rfl, hb⟩
  have HB := Lib.hid hb
  clear hb
  go_wp2_with fail
  have HB1 := Lib.hid (HB.out.alloc HB.out.size (Obj.cells #[.int .i64 y, .int .i64 m, .int .i64 d] 23))
  have HC := Lib.hid (Cell3.alloc w1 (.int .i64 y) (.int .i64 m) (.int .i64 d) 23)
  generalize w1.alloc (Obj.cells #[.int .i64 y, .int .i64 m, .int .i64 d] 23) = W at *
  have l0 := cell_regrown HC.out.c0
  have l1 := cell_regrown HC.out.c1
  have l2 := cell_regrown HC.out.c2
  have n1 : ¬ 9223372036854775807 < A.size + 1 := by omega
  have n2 : ¬ 9223372036854775807 < A.size + 1 + B.size := by omega
  have n3 : ¬ 9223372036854775807 < A.size + 1 + B.size + 1 := by omega
  have n4 : ¬ 9223372036854775807 < A.size + 1 + B.size + 1 + C.size := by omega
  have cY : ∀ dd os, Calls Tryd.prog 37 #[.int .i64 y] (grow (redrawn W dd) os) fun e w'' => e = .returned (.string A) ∧ ∃ p : Regrown, w'' = grow (redrawn W p.d) p.os := fun dd os => Calls.regrown_of (HY.out _)
  have cM : ∀ dd os, Calls Tryd.prog 38 #[.int .i64 m] (grow (redrawn W dd) os) fun e w'' => e = .returned (.string B) ∧ ∃ p : Regrown, w'' = grow (redrawn W p.d) p.os := fun dd os => Calls.regrown_of (HM.out _)
  have cD : ∀ dd os, Calls Tryd.prog 38 #[.int .i64 d] (grow (redrawn W dd) os) fun e w'' => e = .returned (.string C) ∧ ∃ p : Regrown, w'' = grow (redrawn W p.d) p.os := fun dd os => Calls.regrown_of (HDD.out _)
  refine wp_region_quiet_below (l := _) (by kernel_rfl) (by kernel_rfl) ?_
  repeat (first | go_big_quiet_step (first | exact cY _ _ | exact cM _ _ | exact cD _ _) | quiet_step (first | exact cY _ _ | exact cM _ _ | exact cD _ _))
  refine wpQuiet_nil ?_
  intro w2 hw'
  obtain ⟨⟨dq2, osq2⟩, hw''⟩ := hw'
  have hb2 := below_regrown W dq2 osq2
  rw [← hw''] at hb2
  clear hw''
  go_wp2
  go_ret2
  exact ⟨rfl, HB1.out.trans (hb2.mono HB1.out.size)⟩

end Go.Proofs.YtbmggfeneieglacDoor
