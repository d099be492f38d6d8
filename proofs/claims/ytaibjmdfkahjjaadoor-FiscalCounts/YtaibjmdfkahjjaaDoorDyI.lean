/- What AddMonths of the packages days and accountingref04 returns. -/
import Derived.Test.YtaibjmdfkahjjaaDoorDyH
import Derived.Test.YtaibjmdfkahjjaaDoorNumA
import Derived.StillTailTactics
namespace Go.Proofs.YtaibjmdfkahjjaaDoor
open Go.RowKit Go.Sort
set_option linter.unusedVariables false

/-- the month k months after that of the date y, m; and the day of the date k months after the date y, m, d. -/
def addK (y m k : Int) : Int := (y - 1900) * 12 + m - 1 + k
def addD (y m d k : Int) : Int := if lenV (1900 + addK y m k / 12) (addK y m k % 12 + 1) < d then lenV (1900 + addK y m k / 12) (addK y m k % 12 + 1) else d
def addV (y m d k : Int) : Int := if 0 ≤ addK y m k ∧ addK y m k < 3600 then ofN (1900 + addK y m k / 12) (addK y m k % 12 + 1) (addD y m d k) else 0
def addE (y m k : Int) : Int := if 0 ≤ addK y m k ∧ addK y m k < 3600 then 0 else 11

theorem region_tail {P : Program} {id : Nat} {Q : Exit → Act → World → Prop} {a : Act} {w : World} {l : List Oper} (n : Nat) (hm : P.follows .mixedOrders = true) (hB : Region.lexTailB .any l.toArray n = true)
    (h : ∀ W, W = w.drew → wpStill P l.toArray W (fun a' => wpList P l.toArray Q (l.drop n) a' W) (l.take n) a) : (Code.region id l.toArray true).wp P Q a w :=
  wp_region_still_tail n hm hB (h _ rfl)
theorem Tab.drew {w : World} (h : Tab w) : Tab w.drew := h.below (Below.refl _ _).drew
theorem addD_valid {y m d k : Int} (h : Valid y m d) (h1 : 0 ≤ addK y m k) (h2 : addK y m k < 3600) : Valid (1900 + addK y m k / 12) (addK y m k % 12 + 1) (addD y m d k) := by
  have hd := h.d
  have hl := lenV_b (y := 1900 + addK y m k / 12) (m := addK y m k % 12 + 1) (by omega) (by omega)
  unfold addD
  refine ⟨by omega, by omega, ?_, ?_⟩ <;> split <;> omega

set_option maxHeartbeats 400000 in
theorem addMonths_no (n k : Int) (w : World) (n1 : -9223372036854775808 ≤ n) (n2 : n ≤ 9223372036854775807) (h : n < 0 ∨ 109572 < n) :
    Calls Tryd.prog 50 #[.int .i64 n, .int .i64 k] w fun e w' => e = .returned (.tuple #[.int .i64 0, .int .i64 11]) ∧ Below w.heap.size w w' := by
  have HD := Lib.hid (fun w => date_no n w n1 n2 h)
  clear h
  go_enter Tryd.func50, Tryd.ntmps50
  go_wp2_with fail
  refine (HD.out _).mono ?_
  rintro e w' ⟨rfl, hb⟩
  have HB := Lib.hid hb
  clear hb
  go_wp2
  go_ret2
  exact ⟨rfl, (HB.out.alloc HB.out.size _)⟩

set_option maxHeartbeats 4000000 in
theorem addMonths_any (n y m d k : Int) (w : World) (ht : Tab w) (h : IsDate n y m d) (k1 : -9223372036854775808 ≤ k) (k2 : k ≤ 9223372036854775807) :
    Calls Tryd.prog 50 #[.int .i64 n, .int .i64 k] w fun e w' => e = .returned (.tuple #[.int .i64 (addV y m d k), .int .i64 (addE y m k)]) ∧ Below w.heap.size w w' := by
  have HD := Lib.hid (fun w ht => date_any n y m d w ht h)
  obtain ⟨n1, n2, n3, n4⟩ := h.range
  have hm := h.1.m
  have hd := h.1.d
  have HV := Lib.hid h.1
  obtain ⟨v1, v2, v3, v4⟩ := h.1
  clear h n3 n4
  have HA := Lib.hid (fun w => add_any ((y - 1900) * 12 + m - 1) k w (by omega) (by omega) k1 k2)
  unfold addV addE
  have HZ := Lib.hid (show addK y m k = (y - 1900) * 12 + m - 1 + k from rfl)
  have HDV := Lib.hid (fun h1 h2 => addD_valid (k := k) HV.out h1 h2)
  have hzm : addK y m k ≤ 3599 + k := by rw [HZ.out]; omega
  have hzl : k ≤ addK y m k := by rw [HZ.out]; omega
  rw [← HZ.out] at HA
  unfold addD at *
  generalize addK y m k = z at *
  clear HZ HV
  by_cases hf : 9223372036854775807 < z
  · rw [fit_not (.inr hf), fits_not (.inr hf)] at HA
    rw [if_neg (by omega), if_neg (by omega)]
    go_enter Tryd.func50, Tryd.ntmps50
    go_wp2_with fail
    refine (HD.out _ ht).mono ?_
    rintro e w1 ⟨rfl, hb⟩
    have HB := Lib.hid hb
    clear hb
    go_wp2_with fail
    refine (HA.out _).mono ?_
    rintro e w2 ⟨rfl, rfl⟩
    go_wp2
    go_ret2
    exact ⟨rfl, (HB.out.alloc HB.out.size _)⟩
  rw [fit_of (by omega) (by omega), fits_of (by omega) (by omega)] at HA
  by_cases hz : z < 0
  · rw [if_neg (by omega), if_neg (by omega)]
    go_enter Tryd.func50, Tryd.ntmps50
    go_wp2_with fail
    refine (HD.out _ ht).mono ?_
    rintro e w1 ⟨rfl, hb⟩
    have HB := Lib.hid hb
    clear hb
    go_wp2_with fail
    refine (HA.out _).mono ?_
    rintro e w2 ⟨rfl, rfl⟩
    go_wp2
    go_ret2
    exact ⟨rfl, (HB.out.alloc HB.out.size _)⟩
  have HL := Lib.hid (fun w ht => length_q (1900 + z / 12) (z % 12 + 1) w ht (by omega) (by omega) (by omega) (by omega))
  have hlb := lenV_b (y := 1900 + z / 12) (m := z % 12 + 1) (by omega) (by omega)
  have HN := Lib.hid (fun w => near_any d 1 (lenV (1900 + z / 12) (z % 12 + 1)) w)
  have HO := Lib.hid (fun w ht => of_any (1900 + z / 12) (z % 12 + 1) (if lenV (1900 + z / 12) (z % 12 + 1) < d then lenV (1900 + z / 12) (z % 12 + 1) else d) w ht (by omega) (by omega) (by omega) (by omega) (by split <;> omega) (by split <;> omega))
  have HNE := Lib.hid (show nearTo d 1 (lenV (1900 + z / 12) (z % 12 + 1)) = (if lenV (1900 + z / 12) (z % 12 + 1) < d then lenV (1900 + z / 12) (z % 12 + 1) else d) by unfold nearTo; split <;> split <;> omega)
  rw [HNE.out] at HN
  have HR1 := Lib.hid (show ofV (1900 + z / 12) (z % 12 + 1) (if lenV (1900 + z / 12) (z % 12 + 1) < d then lenV (1900 + z / 12) (z % 12 + 1) else d) = (if 0 ≤ z ∧ z < 3600 then ofN (1900 + z / 12) (z % 12 + 1) (if lenV (1900 + z / 12) (z % 12 + 1) < d then lenV (1900 + z / 12) (z % 12 + 1) else d) else 0) by
    by_cases h3 : z < 3600
    · rw [if_pos (by omega : 0 ≤ z ∧ z < 3600), ofV_of (HDV.out (by omega) h3)]
    · rw [if_neg (by omega : ¬ (0 ≤ z ∧ z < 3600))]; unfold ofV; rw [if_neg (by unfold Valid; omega)])
  have HR2 := Lib.hid (show ofE (1900 + z / 12) (z % 12 + 1) (if lenV (1900 + z / 12) (z % 12 + 1) < d then lenV (1900 + z / 12) (z % 12 + 1) else d) = (if 0 ≤ z ∧ z < 3600 then 0 else 11) by
    by_cases h3 : z < 3600
    · rw [if_pos (by omega : 0 ≤ z ∧ z < 3600), ofE_of (HDV.out (by omega) h3)]
    · rw [if_neg (by omega : ¬ (0 ≤ z ∧ z < 3600))]; unfold ofE; rw [if_neg (by unfold Valid; omega)])
  rw [← HR1.out, ← HR2.out]
  clear HR1 HR2 HNE HDV
  generalize (if lenV (1900 + z / 12) (z % 12 + 1) < d then lenV (1900 + z / 12) (z % 12 + 1) else d) = D at *
  generalize lenV (1900 + z / 12) (z % 12 + 1) = L at *
  generalize ofV (1900 + z / 12) (z % 12 + 1) D = R at *
  generalize ofE (1900 + z / 12) (z % 12 + 1) D = R' at *
  go_enter Tryd.func50, Tryd.ntmps50
  go_wp2_with fail
  refine (HD.out _ ht).mono ?_
  rintro e w1 ⟨rfl, hb⟩
  have HB := Lib.hid hb
  have HT := Lib.hid (ht.below hb)
  clear hb
  go_wp2_with fail
  refine (HA.out _).mono ?_
  rintro e w2 ⟨rfl, rfl⟩
  go_wp2_with fail
  refine region_tail 7 (by kernel_rfl) (by kernel_rfl) ?_
  intro W hW
  have HC := Lib.hid (show Cell3 W w1.heap.size _ _ _ from hW ▸ (Cell3.alloc w1 (.int .i64 (1900 + z / 12)) (.int .i64 (z % 12 + 1)) (.int .i64 d) 67).below (N := w1.heap.size + 1) (Below.refl _ _).drew (by omega))
  have HBW := Lib.hid (show Below w1.heap.size w1 W from hW ▸ ((Below.refl _ _).alloc (Nat.le_refl _) _).drew)
  clear hW
  have HTW := Lib.hid (HT.out.below HBW.out)
  have c0 := HC.out.c0
  have c1 := HC.out.c1
  have c2 := HC.out.c2
  have f2 := HC.out.f2
  simp only [List.take_succ_cons, List.take_zero, List.drop_succ_cons, List.drop_zero]
  repeat still_step
  still_call (HL.out _ HTW.out)
  refine wpStill_nil ?_
  go_wp2_with fail
  refine (HN.out _).mono ?_
  rintro e w2 ⟨rfl, rfl⟩
  have e0 := (HC.out.set2 (.int .i64 D)).c0
  have e1 := (HC.out.set2 (.int .i64 D)).c1
  have e2 := (HC.out.set2 (.int .i64 D)).c2
  have HBX := Lib.hid (HBW.out.setCell (p := ⟨w1.heap.size, 2, none⟩) (Nat.le_refl _) (.int .i64 D))
  go_wp2_with fail
  refine (HO.out _ (HT.out.below HBX.out)).mono ?_
  rintro e w2 ⟨rfl, hb⟩
  go_wp2
  go_ret2
  have hb3 := HBX.out.trans (hb.mono HBX.out.size)
  exact ⟨rfl, HB.out.trans (hb3.mono HB.out.size)⟩
end Go.Proofs.YtaibjmdfkahjjaaDoor
