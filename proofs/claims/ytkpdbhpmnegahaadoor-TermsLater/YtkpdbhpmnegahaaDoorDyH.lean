/- What MonthEnd of the packages days and accountingref04 returns. -/
import Derived.Test.YtkpdbhpmnegahaaDoorDyG
import Derived.IntWalk
namespace Go.Proofs.YtkpdbhpmnegahaaDoor
open Go.RowKit Go.Sort
set_option linter.unusedVariables false

theorem Valid.last {y m d : Int} (h : Valid y m d) : Valid y m (lenV y m) := by
  have := lenV_b (y := y) h.m.1 h.m.2
  obtain ⟨h1, h2, h3, h4⟩ := h
  exact ⟨h1, h2, by omega, Int.le_refl _⟩
theorem ofV_of {y m d : Int} (h : Valid y m d) : ofV y m d = ofN y m d := if_pos h
theorem ofE_of {y m d : Int} (h : Valid y m d) : ofE y m d = 0 := if_pos h

set_option maxHeartbeats 400000 in
theorem monthEnd_no (n : Int) (w : World) (n1 : -9223372036854775808 ≤ n) (n2 : n ≤ 9223372036854775807) (h : n < 0 ∨ 109572 < n) :
    Calls Tryd.prog 24 #[.int .i64 n] w fun e w' => e = .returned (.tuple #[.int .i64 0, .int .i64 11]) ∧ Below w.heap.size w w' := by
  have HD := Lib.hid (fun w => date_no n w n1 n2 h)
  clear h
  go_enter Tryd.func24, Tryd.ntmps24
  go_wp2_with fail
  refine (HD.out _).mono ?_
  rintro e w' ⟨rfl, hb⟩
  have HB := Lib.hid hb
  clear hb
  go_wp2
  go_ret2
  exact ⟨rfl, (HB.out.alloc HB.out.size _)⟩

set_option maxHeartbeats 4000000 in
theorem monthEnd_any (n y m d : Int) (w : World) (ht : Tab w) (h : IsDate n y m d) :
    Calls Tryd.prog 24 #[.int .i64 n] w fun e w' => e = .returned (.tuple #[.int .i64 (ofN y m (lenV y m)), .int .i64 0]) ∧ Below w.heap.size w w' := by
  have HD := Lib.hid (fun w ht => date_any n y m d w ht h)
  obtain ⟨n1, n2, n3, n4⟩ := h.range
  have hm := h.1.m
  obtain ⟨v1, v2, v3, v4⟩ := h.1
  have HL := Lib.hid (fun w ht => length_any y m w ht (by omega) (by omega) (by omega) (by omega))
  have HO := Lib.hid (fun w ht => of_any y m (lenV y m) w ht (by omega) (by omega) (by omega) (by omega) (by have := lenV_all y m; omega) (by have := lenV_all y m; omega))
  rw [ofV_of h.1.last, ofE_of h.1.last] at HO
  clear h
  generalize ofN y m (lenV y m) = R at *
  generalize lenV y m = L at *
  go_enter Tryd.func24, Tryd.ntmps24
  go_wp2_with fail
  refine (HD.out _ ht).mono ?_
  rintro e w1 ⟨rfl, hb⟩
  have HB := Lib.hid hb
  have HT := Lib.hid (ht.below hb)
  clear hb
  go_wp2_with fail
  refine (HL.out _ (HT.out.alloc _)).mono ?_
  rintro e w2 ⟨rfl, rfl⟩
  go_wp2_with fail
  refine (HO.out _ (HT.out.alloc _)).mono ?_
  rintro e w2 ⟨rfl, hb⟩
  go_wp2
  go_ret2
  exact ⟨rfl, (HB.out.alloc HB.out.size _).trans (hb.mono (Nat.le_trans HB.out.size (by simp)))⟩

end Go.Proofs.YtkpdbhpmnegahaaDoor
