/- What Of of the packages days and accountingref04 returns. -/
import Derived.Test.YtkpdbhpmnegahaaDoorDyC
namespace Go.Proofs.YtkpdbhpmnegahaaDoor
open Go.RowKit
set_option linter.unusedVariables false

/-- the day of a date, and the error's number. -/
def ofV (y m d : Int) : Int := if Valid y m d then ofN y m d else 0
def ofE (y m d : Int) : Int := if Valid y m d then 0 else 11
theorem inYear_b (y : Int) (j : Nat) : 0 ≤ inYear y j ∧ inYear y j ≤ 31 * (j : Int) := by
  induction j with
  | zero => simp [inYear]
  | succ j ih => have := lenV_all y ((j : Int) + 1); simp only [inYear]; omega

set_option maxHeartbeats 400000 in
theorem of_any (y m d : Int) (w : World) (ht : Tab w) (y1 : -9223372036854775808 ≤ y) (y2 : y ≤ 9223372036854775807) (m1 : -9223372036854775808 ≤ m) (m2 : m ≤ 9223372036854775807) (d1 : -9223372036854775808 ≤ d) (d2 : d ≤ 9223372036854775807) :
    Calls Tryd.prog 39 #[.agg #[.int .i64 y, .int .i64 m, .int .i64 d]] w fun e w' => e = .returned (.tuple #[.int .i64 (ofV y m d), .int .i64 (ofE y m d)]) ∧ Below w.heap.size w w' := by
  have HE := Lib.hid (fun w ht => exists_any y m d w ht y1 y2 m1 m2 d1 d2)
  unfold ofV ofE
  by_cases hv : Valid y m d
  · rw [if_pos hv, if_pos hv, ofN_year hv]
    rw [decide_eq_true hv] at HE
    have hm := hv.m
    have hd := hv.d
    obtain ⟨v1, v2, v3, v4⟩ := hv
    obtain ⟨s1, s2, _, _⟩ := startV_b (y := y) v1 (by omega)
    have HY := Lib.hid (fun w => yearStart_any y w v1 (by omega))
    generalize startV y = S at *
    go_enter Tryd.func39, Tryd.ntmps39
    go_wp2_with fail
    refine (HE.out _ (ht.alloc _)).mono ?_
    rintro e w1 ⟨rfl, hb⟩
    have c1 : w1.cell? ⟨w.heap.size, 0, none⟩ = some (.int .i64 y) := by rw [hb.cell (by simp)]; exact World.cell?_alloc_at _ _ _ _ rfl
    have c2 : w1.cell? ⟨w.heap.size, 1, none⟩ = some (.int .i64 m) := by rw [hb.cell (by simp)]; exact World.cell?_alloc_at _ _ _ _ rfl
    have c3 : w1.cell? ⟨w.heap.size, 2, none⟩ = some (.int .i64 d) := by rw [hb.cell (by simp)]; exact World.cell?_alloc_at _ _ _ _ rfl
    have HT := Lib.hid ((ht.alloc _).below hb)
    have HB := Lib.hid (Below.trans ((Below.refl _ _).alloc (Nat.le_refl _) (Obj.cells #[.int .i64 y, .int .i64 m, .int .i64 d] 79)) (hb.mono (by simp)))
    clear hb
    go_wp2_with fail
    refine (HY.out _).mono ?_
    rintro e w2 ⟨rfl, rfl⟩
    go_wp2_with fail
    go_loopw [2, 4] (fun n i wr => ∃ (j : Nat), (j : Int) ≤ m - 1 ∧ i = .int .i64 ((j : Int) + 1) ∧ n = .int .i64 (S + inYear y j) ∧ w1 = wr) (fun _ i _ => (m - intOf i).toNat)
    case atStart => exact ⟨0, by omega, rfl, by simp [inYear], rfl⟩
    case round =>
      obtain ⟨j, hj, rfl, rfl, rfl⟩ := hrel
      obtain ⟨b1, b2⟩ := inYear_b y j
      by_cases hlt : (j : Int) + 1 < m
      · have HL := Lib.hid (length_any y ((j : Int) + 1) w1 HT.out y1 y2 (by omega) (by omega))
        obtain ⟨b3, b4⟩ := lenV_all y ((j : Int) + 1)
        have HS := Lib.hid (show inYear y (j + 1) = inYear y j + lenV y ((j : Int) + 1) from rfl)
        generalize lenV y ((j : Int) + 1) = L at *
        generalize inYear y j = I at *
        go_wp2_with fail
        refine HL.out.mono ?_
        rintro e w2 ⟨rfl, rfl⟩
        go_wp2
        go_roundw
        case rel => exact ⟨j + 1, by omega, by go_num, by rw [HS.out]; go_num, by trivial⟩
        case measure => simp [intOf]; omega
      · have HJ := Lib.hid (show m.toNat - 1 = j by omega)
        go_wp2
        go_ret2
        exact ⟨by rw [HJ.out]; rfl, HB.out⟩
  · rw [if_neg hv, if_neg hv]
    rw [decide_eq_false hv] at HE
    go_enter Tryd.func39, Tryd.ntmps39
    go_wp2_with fail
    refine (HE.out _ (ht.alloc _)).mono ?_
    rintro e w' ⟨rfl, hb⟩
    go_wp2
    go_ret2
    exact ⟨rfl, Below.trans ((Below.refl _ _).alloc (Nat.le_refl _) _) (hb.mono (by simp))⟩

end Go.Proofs.YtkpdbhpmnegahaaDoor
