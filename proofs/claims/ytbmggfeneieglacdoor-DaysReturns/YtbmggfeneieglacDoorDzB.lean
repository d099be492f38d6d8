/- The statement DaysReturns of package accountinglaw04. -/
import Derived.Test.YtbmggfeneieglacDoorDyY
namespace Go.Proofs.YtbmggfeneieglacDoor
open Go.RowKit Go.Sort
set_option linter.unusedVariables false

theorem add_back {n y m d k : Int} (h : IsDate n y m d) (h1 : 0 ≤ addK y m k) (h2 : addK y m k < 3600) :
    IsDate (addV y m d k) (1900 + addK y m k / 12) (addK y m k % 12 + 1) (addD y m d k) ∧
    addV (1900 + addK y m k / 12) (addK y m k % 12 + 1) (addD y m d k) (-k) = ofN y m (addD y m d k) ∧
    addE (1900 + addK y m k / 12) (addK y m k % 12 + 1) (-k) = 0 ∧ Valid y m (addD y m d k) ∧ addD y m d k ≤ d ∧ (addD y m d k = d ∨ 28 < d) := by
  have hv := addD_valid h.1 h1 h2
  have hm := h.1.m
  obtain ⟨v1, v2, v3, v4⟩ := h.1
  have hl := lenV_b (y := 1900 + addK y m k / 12) (m := addK y m k % 12 + 1) (by omega) (by omega)
  have hle : addD y m d k ≤ d ∧ (addD y m d k = d ∨ 28 < d) := by unfold addD; split <;> omega
  have hz : addK y m k = (y - 1900) * 12 + m - 1 + k := rfl
  have hb : addK (1900 + addK y m k / 12) (addK y m k % 12 + 1) (-k) = (y - 1900) * 12 + m - 1 := by unfold addK at *; omega
  have ey : (1900 : Int) + ((y - 1900) * 12 + m - 1) / 12 = y := by omega
  have em : ((y - 1900) * 12 + m - 1) % 12 + 1 = m := by omega
  refine ⟨⟨hv, ?_⟩, ?_, ?_, ⟨v1, v2, hv.2.2.1, by omega⟩, hle.1, hle.2⟩
  · unfold addV; rw [if_pos ⟨h1, h2⟩]
  · unfold addV
    rw [hb, if_pos (by omega), ey, em]
    congr 1
    rw [show addD (1900 + addK y m k / 12) (addK y m k % 12 + 1) (addD y m d k) (-k) = if lenV y m < addD y m d k then lenV y m else addD y m d k by
      conv => lhs; unfold addD
      rw [hb, ey, em]
      rfl]
    rw [if_neg (by omega)]
  · unfold addE; rw [hb, if_pos (by omega)]

set_option maxHeartbeats 4000000 in
theorem daysReturns_main (n k x z y m d D : Int) (w : World) (ht : Tab w) (k1 : -3600 ≤ k) (k2 : k ≤ 3600) (hD1 : D ≤ d) (hD2 : D = d ∨ 28 < d)
    (H1 : Hid (∀ w, Tab w → Calls Tryd.prog 24 #[.int .i64 n, .int .i64 k] w fun r w' => r = .returned (.tuple #[.int .i64 x, .int .i64 0]) ∧ Below w.heap.size w w'))
    (H2 : Hid (∀ w, Tab w → Calls Tryd.prog 24 #[.int .i64 x, .int .i64 (-k)] w fun r w' => r = .returned (.tuple #[.int .i64 z, .int .i64 0]) ∧ Below w.heap.size w w'))
    (H3 : Hid (∀ w, Tab w → Calls Tryd.prog 14 #[.int .i64 n] w fun e w' => e = .returned (.tuple #[.agg #[.int .i64 y, .int .i64 m, .int .i64 d], .int .i64 0]) ∧ Below w.heap.size w w'))
    (H4 : Hid (∀ w, Tab w → Calls Tryd.prog 14 #[.int .i64 z] w fun e w' => e = .returned (.tuple #[.agg #[.int .i64 y, .int .i64 m, .int .i64 D], .int .i64 0]) ∧ Below w.heap.size w w')) :
    Calls Tryd.prog 7 #[.int .i64 n, .int .i64 k] w fun e w' => e = .returned (.bool true) ∧ Below w.heap.size w w' := by
  have H7 := Lib.hid (fun w ht => lives_any w ht)
  have q1 : decide (k < -3600) = false := decide_eq_false (by omega)
  have q2 : decide (3600 < k) = false := decide_eq_false (by omega)
  go_enter Tryd.func7, Tryd.ntmps7
  go_wp2_with fail
  refine (H1.out _ ht).mono ?_
  rintro e w1 ⟨rfl, hb⟩
  have HB1 := Lib.hid hb
  clear hb
  go_wp2_with fail
  refine (H2.out _ (ht.below HB1.out)).mono ?_
  rintro e w2 ⟨rfl, hb⟩
  have HB2 := Lib.hid (HB1.out.trans (hb.mono HB1.out.size))
  clear hb
  go_wp2_with fail
  refine (H3.out _ (ht.below HB2.out)).mono ?_
  rintro e w3 ⟨rfl, hb⟩
  have HB3 := Lib.hid (HB2.out.trans (hb.mono HB2.out.size))
  clear hb
  go_wp2_with fail
  have HC1 := Lib.hid (Cell3.alloc w3 (.int .i64 y) (.int .i64 m) (.int .i64 d) 23)
  have HBa := Lib.hid (HB3.out.alloc HB3.out.size (Obj.cells #[.int .i64 y, .int .i64 m, .int .i64 d] 23))
  generalize w3.alloc (Obj.cells #[.int .i64 y, .int .i64 m, .int .i64 d] 23) = W1 at *
  refine (H4.out _ (ht.below HBa.out)).mono ?_
  rintro e w4 ⟨rfl, hb⟩
  have HB4 := Lib.hid (HBa.out.trans (hb.mono HBa.out.size))
  have HC2 := Lib.hid (HC1.out.below hb HC1.out.lt)
  clear hb
  have p0 := HC2.out.c0
  have p1 := HC2.out.c1
  have p2 := HC2.out.c2
  have plt := HC2.out.lt
  by_cases hDd : D = d
  · have qd : (D == d) = true := by simpa using hDd
    have qe : decide (D ≤ d) = true := decide_eq_true hD1
    go_wp2_with fail
    refine (H7.out _ (ht.below (HB4.out.alloc HB4.out.size _))).mono ?_
    rintro e w5 ⟨rfl, hb⟩
    go_wp2
    go_ret
    exact ⟨rfl, (HB4.out.alloc HB4.out.size _).trans (hb.mono (Nat.le_trans HB4.out.size (by simp)))⟩
  · have qd : (D == d) = false := by simpa using hDd
    have qe : decide (D ≤ d) = true := decide_eq_true hD1
    have qf : decide (28 < d) = true := decide_eq_true (by omega)
    go_wp2_with fail
    refine (H7.out _ (ht.below (HB4.out.alloc HB4.out.size _))).mono ?_
    rintro e w5 ⟨rfl, hb⟩
    go_wp2
    go_ret
    exact ⟨rfl, (HB4.out.alloc HB4.out.size _).trans (hb.mono (Nat.le_trans HB4.out.size (by simp)))⟩

set_option maxHeartbeats 400000 in
theorem daysReturns_err (n k : Int) (w : World) (ht : Tab w) (k1 : -3600 ≤ k) (k2 : k ≤ 3600)
    (H1 : Hid (∀ w, Tab w → Calls Tryd.prog 24 #[.int .i64 n, .int .i64 k] w fun r w' => r = .returned (.tuple #[.int .i64 0, .int .i64 11]) ∧ Below w.heap.size w w')) :
    Calls Tryd.prog 7 #[.int .i64 n, .int .i64 k] w fun e w' => e = .returned (.bool true) ∧ Below w.heap.size w w' := by
  have H7 := Lib.hid (fun w ht => lives_any w ht)
  have q1 : decide (k < -3600) = false := decide_eq_false (by omega)
  have q2 : decide (3600 < k) = false := decide_eq_false (by omega)
  go_enter Tryd.func7, Tryd.ntmps7
  go_wp2_with fail
  refine (H1.out _ ht).mono ?_
  rintro e w1 ⟨rfl, hb⟩
  have HB1 := Lib.hid hb
  clear hb
  go_wp2_with fail
  refine (H7.out _ (ht.below HB1.out)).mono ?_
  rintro e w2 ⟨rfl, hb⟩
  go_wp2
  go_ret
  exact ⟨rfl, HB1.out.trans (hb.mono HB1.out.size)⟩

set_option maxHeartbeats 400000 in
theorem daysReturns_walk (n k : Int) (w : World) (ht : Tab w) (wn : (Lit.int .i64 n).wf = true) (wk : (Lit.int .i64 k).wf = true) :
    Calls Tryd.prog 7 #[.int .i64 n, .int .i64 k] w fun e w' => e = .returned (.bool true) ∧ Below w.heap.size w w' := by
  obtain ⟨n1, n2⟩ := i64_bd wn
  obtain ⟨k1, k2⟩ := i64_bd wk
  by_cases ha : k < -3600
  · have q1 : decide (k < -3600) = true := decide_eq_true ha
    go_enter Tryd.func7, Tryd.ntmps7
    go_wp2
    go_ret
    exact ⟨rfl, Below.refl _ _⟩
  by_cases hb : 3600 < k
  · have q1 : decide (3600 < k) = true := decide_eq_true hb
    go_enter Tryd.func7, Tryd.ntmps7
    go_wp2
    go_ret
    exact ⟨rfl, Below.refl _ _⟩
  by_cases h : 0 ≤ n ∧ n ≤ 109572
  · obtain ⟨y, m, d, hd⟩ := IsDate.ex h.1 h.2
    have H1 := fun w ht => addMonths_any n y m d k w ht hd k1 k2
    by_cases hz : 0 ≤ addK y m k ∧ addK y m k < 3600
    · obtain ⟨i1, e1, e2, i2, g1, g2⟩ := add_back hd hz.1 hz.2
      have H2 := fun w ht => addMonths_any _ _ _ _ (-k) w ht i1 (by omega) (by omega)
      rw [e1, e2] at H2
      have e3 : addE y m k = 0 := if_pos hz
      rw [e3] at H1
      exact daysReturns_main n k _ _ y m d _ w ht (by omega) (by omega) g1 g2 (Lib.hid H1) (Lib.hid H2) (Lib.hid fun w ht => date_any n y m d w ht hd) (Lib.hid fun w ht => date_any _ y m _ w ht ⟨i2, rfl⟩)
    · have e3 : addE y m k = 11 := if_neg hz
      have e4 : addV y m d k = 0 := if_neg hz
      rw [e3, e4] at H1
      exact daysReturns_err n k w ht (by omega) (by omega) (Lib.hid H1)
  · have h' : n < 0 ∨ 109572 < n := by omega
    exact daysReturns_err n k w ht (by omega) (by omega) (Lib.hid fun w ht => addMonths_no n k w n1 n2 h')
end Go.Proofs.YtbmggfeneieglacDoor
