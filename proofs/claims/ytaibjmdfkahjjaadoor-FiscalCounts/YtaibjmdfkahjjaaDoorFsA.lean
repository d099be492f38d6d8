/- What Right, isNumber, hasNotation, yearStart and monthLength of package fiscal return, and Right and In of package accountingref05. -/
import Derived.Test.YtaibjmdfkahjjaaDoorFsN
import Derived.Test.YtaibjmdfkahjjaaDoorCel
import Derived.OwnWalk
import Derived.Handy
namespace Go.Proofs.YtaibjmdfkahjjaaDoor
open Go.RowKit Go.Sort
set_option linter.unusedVariables false

set_option maxHeartbeats 400000 in
theorem fRight_any (f : Int) (w : World) :
    Calls Tryd.prog 13 #[.agg #[.int .i64 f]] w fun e w' => e = .returned (.bool (decide (calO f))) ∧ Below w.heap.size w w' := by
  by_cases h1 : f < 1
  · rw [decide_eq_false (by unfold calO; omega)]
    go_enter Tryd.func13, Tryd.ntmps13
    go_wp2
    go_ret
    exact ⟨rfl, (Below.refl _ _).alloc (Nat.le_refl _) _⟩
  by_cases h2 : f ≤ 12
  · rw [decide_eq_true (by unfold calO; omega)]
    go_enter Tryd.func13, Tryd.ntmps13
    go_wp2
    go_ret
    exact ⟨rfl, (Below.refl _ _).alloc (Nat.le_refl _) _⟩
  · rw [decide_eq_false (by unfold calO; omega)]
    go_enter Tryd.func13, Tryd.ntmps13
    go_wp2
    go_ret
    exact ⟨rfl, (Below.refl _ _).alloc (Nat.le_refl _) _⟩
set_option maxHeartbeats 400000 in
theorem rfRight_any (f : Int) (w : World) :
    Calls Tryd.prog 14 #[.agg #[.int .i64 f]] w fun e w' => e = .returned (.bool (decide (calO f))) ∧ Below w.heap.size w w' := by
  by_cases h1 : f < 1
  · rw [decide_eq_false (by unfold calO; omega)]
    go_enter Tryd.func14, Tryd.ntmps14
    go_wp2
    go_ret
    exact ⟨rfl, (Below.refl _ _).alloc (Nat.le_refl _) _⟩
  by_cases h2 : f ≤ 12
  · rw [decide_eq_true (by unfold calO; omega)]
    go_enter Tryd.func14, Tryd.ntmps14
    go_wp2
    go_ret
    exact ⟨rfl, (Below.refl _ _).alloc (Nat.le_refl _) _⟩
  · rw [decide_eq_false (by unfold calO; omega)]
    go_enter Tryd.func14, Tryd.ntmps14
    go_wp2
    go_ret
    exact ⟨rfl, (Below.refl _ _).alloc (Nat.le_refl _) _⟩
set_option maxHeartbeats 400000 in
theorem isNumber_any (n : Int) (w : World) :
    Calls Tryd.prog 48 #[.int .i64 n] w fun e w' => e = .returned (.bool (decide (1 ≤ n ∧ n ≤ 13))) ∧ w = w' := by
  by_cases h1 : n < 1
  · rw [decide_eq_false (by omega)]
    go_enter Tryd.func48, Tryd.ntmps48
    go_wp2
    go_ret
    exact ⟨rfl, rfl⟩
  by_cases h2 : n ≤ 13
  · rw [decide_eq_true (by omega)]
    go_enter Tryd.func48, Tryd.ntmps48
    go_wp2
    go_ret
    exact ⟨rfl, rfl⟩
  · rw [decide_eq_false (by omega)]
    go_enter Tryd.func48, Tryd.ntmps48
    go_wp2
    go_ret
    exact ⟨rfl, rfl⟩
/-- the periods that have a notation. -/
def notO (y n : Int) : Prop := 1900 ≤ y ∧ y ≤ 2199 ∧ 1 ≤ n ∧ n ≤ 13
instance (y n : Int) : Decidable (notO y n) := by unfold notO; infer_instance
set_option maxHeartbeats 400000 in
theorem hasNotation_any (y n : Int) (w : World) :
    Calls Tryd.prog 43 #[.agg #[.int .i64 y, .int .i64 n]] w fun e w' => e = .returned (.bool (decide (notO y n))) ∧ Below w.heap.size w w' := by
  by_cases h1 : y < 1900
  · rw [decide_eq_false (by unfold notO; omega)]
    go_enter Tryd.func43, Tryd.ntmps43
    go_wp2
    go_ret
    exact ⟨rfl, (Below.refl _ _).alloc (Nat.le_refl _) _⟩
  by_cases h2 : 2199 < y
  · rw [decide_eq_false (by unfold notO; omega)]
    go_enter Tryd.func43, Tryd.ntmps43
    go_wp2
    go_ret
    exact ⟨rfl, (Below.refl _ _).alloc (Nat.le_refl _) _⟩
  have e : decide (notO y n) = decide (1 ≤ n ∧ n ≤ 13) := by apply decide_eq_decide.2; unfold notO; omega
  rw [e]
  have H := Lib.hid (fun w => isNumber_any n w)
  generalize decide (1 ≤ n ∧ n ≤ 13) = b at *
  clear e
  go_enter Tryd.func43, Tryd.ntmps43
  go_wp2_with fail
  refine (H.out _).mono ?_
  rintro e w' ⟨rfl, rfl⟩
  go_wp2
  go_ret
  exact ⟨rfl, (Below.refl _ _).alloc (Nat.le_refl _) _⟩
set_option maxHeartbeats 400000 in
theorem rIn_any (y n : Int) (w : World) :
    Calls Tryd.prog 45 #[.agg #[.int .i64 y, .int .i64 n]] w fun e w' => e = .returned (.bool (decide (notO y n))) ∧ Below w.heap.size w w' := by
  by_cases h1 : y < 1900
  · rw [decide_eq_false (by unfold notO; omega)]
    go_enter Tryd.func45, Tryd.ntmps45
    go_wp2
    go_ret
    exact ⟨rfl, (Below.refl _ _).alloc (Nat.le_refl _) _⟩
  by_cases h2 : 2199 < y
  · rw [decide_eq_false (by unfold notO; omega)]
    go_enter Tryd.func45, Tryd.ntmps45
    go_wp2
    go_ret
    exact ⟨rfl, (Below.refl _ _).alloc (Nat.le_refl _) _⟩
  by_cases h3 : n < 1
  · rw [decide_eq_false (by unfold notO; omega)]
    go_enter Tryd.func45, Tryd.ntmps45
    go_wp2
    go_ret
    exact ⟨rfl, (Below.refl _ _).alloc (Nat.le_refl _) _⟩
  by_cases h4 : n ≤ 13
  · rw [decide_eq_true (by unfold notO; omega)]
    go_enter Tryd.func45, Tryd.ntmps45
    go_wp2
    go_ret
    exact ⟨rfl, (Below.refl _ _).alloc (Nat.le_refl _) _⟩
  · rw [decide_eq_false (by unfold notO; omega)]
    go_enter Tryd.func45, Tryd.ntmps45
    go_wp2
    go_ret
    exact ⟨rfl, (Below.refl _ _).alloc (Nat.le_refl _) _⟩

/-- what yearStart returns. -/
def ysV (f y : Int) : Int := if yrO f y then fdM f y 0 else 0
set_option maxHeartbeats 400000 in
theorem fYearStart_any (f y : Int) (w : World) (ht : Tab w) (hf : calO f) (y1 : -9223372036854775808 ≤ y) (y2 : y ≤ 9223372036854775807) :
    Calls Tryd.prog 33 #[.agg #[.int .i64 f], .int .i64 y] w fun e w' => e = .returned (.tuple #[.int .i64 (ysV f y), .bool (decide (yrO f y))]) ∧ Below w.heap.size w w' := by
  have HO := Lib.hid (fun w ht => of_any y f 1 w ht y1 y2 (by unfold calO at hf; omega) (by unfold calO at hf; omega) (by omega) (by omega))
  by_cases hv : Valid y f 1
  · have hd : IsDate (ofN y f 1) y f 1 := ⟨hv, rfl⟩
    have hr := hd.range
    have HA := Lib.hid (fun w ht => addMonths_any (ofN y f 1) y f 1 11 w ht hd (by omega) (by omega))
    rw [ofV_of hv, ofE_of hv] at HO
    obtain ⟨v1, v2, v3, v4⟩ := hv
    by_cases hy : yrO f y
    · have eE : addE y f 11 = 0 := by unfold addE addK; rw [if_pos (by unfold yrO calO at *; omega)]
      have eF : fdM f y 0 = ofN y f 1 := by
        rw [← fdM_of hf v1 (by omega) (by omega)]
        unfold calO at hf
        unfold myV mmV; rw [if_pos (by omega), if_pos (by omega)]; simp
      rw [eE] at HA
      unfold ysV
      rw [if_pos hy, decide_eq_true hy, eF]
      clear eE eF hy v1 v2 v3 v4 hd hr
      generalize ofN y f 1 = S at *
      generalize addV y f 1 11 = S' at *
      go_enter Tryd.func33, Tryd.ntmps33
      go_wp2_with fail
      refine (HO.out _ (ht.alloc _)).mono ?_
      rintro e w1 ⟨rfl, hb⟩
      have HT := Lib.hid ((ht.alloc _).below hb)
      have HB := Lib.hid (Below.trans ((Below.refl _ _).alloc (Nat.le_refl _) _) (hb.mono (by simp)))
      clear hb
      go_wp2_with fail
      refine (HA.out _ HT.out).mono ?_
      rintro e w2 ⟨rfl, hb⟩
      have HB2 := Lib.hid (HB.out.trans (hb.mono HB.out.size))
      clear hb
      go_wp2
      go_ret2
      exact ⟨rfl, HB2.out⟩
    · have eE : addE y f 11 = 11 := by unfold addE addK; rw [if_neg (by unfold yrO calO at *; omega)]
      rw [eE] at HA
      unfold ysV
      rw [if_neg hy, decide_eq_false hy]
      clear eE hy v1 v2 v3 v4 hd hr
      generalize ofN y f 1 = S at *
      generalize addV y f 1 11 = S' at *
      go_enter Tryd.func33, Tryd.ntmps33
      go_wp2_with fail
      refine (HO.out _ (ht.alloc _)).mono ?_
      rintro e w1 ⟨rfl, hb⟩
      have HT := Lib.hid ((ht.alloc _).below hb)
      have HB := Lib.hid (Below.trans ((Below.refl _ _).alloc (Nat.le_refl _) _) (hb.mono (by simp)))
      clear hb
      go_wp2_with fail
      refine (HA.out _ HT.out).mono ?_
      rintro e w2 ⟨rfl, hb⟩
      have HB2 := Lib.hid (HB.out.trans (hb.mono HB.out.size))
      clear hb
      go_wp2
      go_ret2
      exact ⟨rfl, HB2.out⟩
  · have hy : ¬ yrO f y := by
      intro h
      have := h.le hf
      exact hv (valid_first.2 ⟨this.1, this.2, hf.1, hf.2⟩)
    have e1 : ofV y f 1 = 0 := if_neg hv
    have e2 : ofE y f 1 = 11 := if_neg hv
    rw [e1, e2] at HO
    unfold ysV
    rw [if_neg hy, decide_eq_false hy]
    clear e1 e2 hv hy
    go_enter Tryd.func33, Tryd.ntmps33
    go_wp2_with fail
    refine (HO.out _ (ht.alloc _)).mono ?_
    rintro e w1 ⟨rfl, hb⟩
    have HB := Lib.hid (Below.trans ((Below.refl _ _).alloc (Nat.le_refl _) _) (hb.mono (by simp)))
    clear hb
    go_wp2
    go_ret2
    exact ⟨rfl, HB.out⟩

set_option maxHeartbeats 400000 in
theorem monthLength_any (f y j : Int) (w : World) (ht : Tab w) (hf : calO f) (y1 : 1900 ≤ y) (y2 : y ≤ 2199) (j1 : 0 ≤ j) (j2 : j ≤ 11) :
    Calls Tryd.prog 35 #[.agg #[.int .i64 f], .int .i64 y, .int .i64 j] w fun e w' => e = .returned (.int .i64 (lenV (myV f y j) (mmV f j))) ∧ Below w.heap.size w w' := by
  obtain ⟨f1, f2⟩ := hf
  have e1 : y + (j + (f - 1)) / 12 = myV f y j := by
    unfold myV; split <;> omega
  have e2 : (j + (f - 1)) % 12 + 1 = mmV f j := by
    unfold mmV; split <;> omega
  have HL := Lib.hid (fun w ht => length_any (y + (j + (f - 1)) / 12) ((j + (f - 1)) % 12 + 1) w ht (by omega) (by omega) (by omega) (by omega))
  rw [← e1, ← e2]
  clear e1 e2
  go_enter Tryd.func35, Tryd.ntmps35
  go_wp2_with fail
  refine (HL.out _ (ht.alloc _)).mono ?_
  rintro e w1 ⟨rfl, rfl⟩
  go_wp2
  go_ret
  exact ⟨rfl, (Below.refl _ _).alloc (Nat.le_refl _) _⟩
end Go.Proofs.YtaibjmdfkahjjaaDoor
