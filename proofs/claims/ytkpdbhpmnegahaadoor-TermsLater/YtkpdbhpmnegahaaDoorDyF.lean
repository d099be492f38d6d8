/- What Date of package days returns. -/
import Derived.Test.YtkpdbhpmnegahaaDoorDyE
import Derived.Laws.ResultCell
namespace Go.Proofs.YtkpdbhpmnegahaaDoor
open Go.RowKit Go.Sort
set_option linter.unusedVariables false

set_option maxHeartbeats 400000 in
theorem date_no (n : Int) (w : World) (n1 : -9223372036854775808 ≤ n) (n2 : n ≤ 9223372036854775807) (h : n < 0 ∨ 109572 < n) :
    Calls Tryd.prog 37 #[.int .i64 n] w fun e w' => e = .returned (.tuple #[.agg #[.int .i64 0, .int .i64 0, .int .i64 0], .int .i64 11]) ∧ Below w.heap.size w w' := by
  have HD := Lib.hid (fun w => isDay_any n w n1 n2)
  rw [decide_eq_false (by omega)] at HD
  clear h
  go_enter Tryd.func37, Tryd.ntmps37
  go_wp2_with fail
  refine (HD.out _).mono ?_
  rintro e w' ⟨rfl, rfl⟩
  go_wp2
  (try simp only [Exit.inBlock, Exit.then])
  refine bodyPost_ret (v := .tuple #[.agg #[.int .i64 0, .int .i64 0, .int .i64 0], .int .i64 11]) ?_ rfl ⟨rfl, (Below.refl _ _).alloc (Nat.le_refl _) _⟩
  rw [results_cell_tmp rfl]
  go_simp

theorem firstM_of (y : Int) (j : Nat) (h : 1900 ≤ y) (hj : j ≤ 12) : firstM (12 * (y - 1900).toNat + j) = startV y + inYear y j := by
  rw [firstM_in _ _ hj, firstM_year]
  have : (1900 : Int) + ((y - 1900).toNat : Int) = y := by omega
  rw [this]

theorem inYear_mono (y : Int) {a b : Nat} (h : a ≤ b) : inYear y a ≤ inYear y b := by
  induction b with
  | zero => have : a = 0 := by omega
            subst this; exact Int.le_refl _
  | succ b ih =>
    rcases Nat.lt_or_ge a (b + 1) with k | k
    · have := ih (by omega)
      have := lenV_all y ((b : Int) + 1)
      simp only [inYear]; omega
    · have : a = b + 1 := by omega
      subst this; exact Int.le_refl _

set_option maxHeartbeats 4000000 in
theorem date_any (n y m d : Int) (w : World) (ht : Tab w) (h : IsDate n y m d) :
    Calls Tryd.prog 37 #[.int .i64 n] w fun e w' => e = .returned (.tuple #[.agg #[.int .i64 y, .int .i64 m, .int .i64 d], .int .i64 0]) ∧ Below w.heap.size w w' := by
  obtain ⟨n1, n2, n3, n4⟩ := h.range
  have hm := h.1.m
  have hy := h.year
  have hof := ofN_year h.1
  rw [h.2] at hof
  obtain ⟨v1, v2, v3, v4⟩ := h.1
  have HD := Lib.hid (fun w => isDay_any n w (by omega) (by omega))
  rw [decide_eq_true (by omega)] at HD
  have hI : 1900 + n / 366 ≤ y := by have := startV_b (y := y + 1) (by omega) (by omega); omega
  have HOF := Lib.hid hof
  obtain ⟨hy1, hy2⟩ := hy
  clear n3 n4 hof h
  go_enter Tryd.func37, Tryd.ntmps37
  go_wp2_with fail
  refine (HD.out _).mono ?_
  rintro e w' ⟨rfl, rfl⟩
  go_wp2
  go_loopw [] (fun wr => ∃ Y : Int, 1900 ≤ Y ∧ Y ≤ y ∧ wr = w.alloc (Obj.cells #[.int .i64 Y, .int .i64 1, .int .i64 0] 79)) (fun wr => (y - intOf ((wr.cell? ⟨w.heap.size, 0, none⟩).getD undef)).toNat)
  case atStart => exact ⟨1900 + n / 366, by omega, hI, rfl⟩
  case round =>
    obtain ⟨Y, Y1, Y2, rfl⟩ := hrel
    have HY := Lib.hid (fun w => yearStart_any (Y + 1) w (by omega) (by omega))
    by_cases hlt : Y < y
    · have hle : startV (Y + 1) ≤ n := by
        rcases Int.lt_or_le (Y + 1) y with k | k
        · have := startV_mono (a := Y + 1) (b := y) (by omega) k; omega
        · have : Y + 1 = y := by omega
          rw [this]; exact hy1
      generalize startV (Y + 1) = S at *
      go_wp2_with fail
      refine (HY.out _).mono ?_
      rintro e w' ⟨rfl, rfl⟩
      go_wp2
      go_roundw
      case rel => exact ⟨Y + 1, by omega, by omega, rfl⟩
      case measure => simp [intOf]; omega
    · have eY : Y = y := by omega
      subst eY
      have HY2 := Lib.hid (fun w => yearStart_any Y w (by omega) (by omega))
      have hsb := startV_b (y := Y) (by omega) (by omega)
      have hsb1 := hsb.1
      have hsb2 := hsb.2.1
      clear hsb
      have hnot : n < startV (Y + 1) := hy2
      generalize startV (Y + 1) = S' at *
      generalize startV Y = S at *
      go_wp2_with fail
      refine (HY.out _).mono ?_
      rintro e w' ⟨rfl, rfl⟩
      go_wp2_with fail
      refine (HY2.out _).mono ?_
      rintro e w' ⟨rfl, rfl⟩
      clear HY HY2
      go_wp2_with fail
      go_loopw [4] (fun r wr => ∃ j : Nat, (j : Int) ≤ m - 1 ∧ r = .int .i64 (n - S - inYear Y j) ∧ wr = w.alloc (Obj.cells #[.int .i64 Y, .int .i64 ((j : Int) + 1), .int .i64 0] 79)) (fun _ wr => (m - intOf ((wr.cell? ⟨w.heap.size, 1, none⟩).getD undef)).toNat)
      case atStart => exact ⟨0, by omega, by simp [inYear], rfl⟩
      case round =>
        obtain ⟨j, hj, rfl, rfl⟩ := hrel
        obtain ⟨b1, b2⟩ := inYear_b Y j
        have HL := Lib.hid (fun w ht => length_any Y ((j : Int) + 1) w ht (by omega) (by omega) (by omega) (by omega))
        have HT := Lib.hid (ht.alloc (Obj.cells #[.int .i64 Y, .int .i64 ((j : Int) + 1), .int .i64 0] 79))
        obtain ⟨b3, b4⟩ := lenV_all Y ((j : Int) + 1)
        by_cases hlt : (j : Int) < m - 1
        · have hmono := inYear_mono Y (a := j + 1) (b := (m - 1).toNat) (by omega)
          have HS := Lib.hid (show inYear Y (j + 1) = inYear Y j + lenV Y ((j : Int) + 1) from rfl)
          rw [HS.out] at hmono
          have hge : lenV Y ((j : Int) + 1) ≤ n - S - inYear Y j := by have := HOF.out; omega
          clear hmono
          generalize lenV Y ((j : Int) + 1) = L at *
          generalize inYear Y j = I at *
          go_wp2_with fail
          refine (HL.out _ HT.out).mono ?_
          rintro e w' ⟨rfl, rfl⟩
          go_wp2_with fail
          refine (HL.out _ HT.out).mono ?_
          rintro e w' ⟨rfl, rfl⟩
          go_wp2
          go_roundw
          case rel => exact ⟨j + 1, by omega, by rw [HS.out]; go_num, by go_num⟩
          case measure => simp [intOf]; omega
        · have HJ := Lib.hid (show (j : Int) + 1 = m by omega)
          have HJ2 := Lib.hid (show (m - 1).toNat = j by omega)
          have hlt2 : n - S - inYear Y j < lenV Y ((j : Int) + 1) := by
            have e := HOF.out
            rw [HJ2.out] at e
            rw [HJ.out]; omega
          have HN := Lib.hid (show n - S - inYear Y j + 1 = d by have e := HOF.out; rw [HJ2.out] at e; omega)
          generalize lenV Y ((j : Int) + 1) = L at *
          generalize inYear Y j = I at *
          go_wp2_with fail
          refine (HL.out _ HT.out).mono ?_
          rintro e w' ⟨rfl, rfl⟩
          go_wp2
          (try simp only [Exit.inBlock, Exit.then])
          refine bodyPost_ret (v := .tuple #[.agg #[.int .i64 Y, .int .i64 ((j : Int) + 1), .int .i64 (n - S - I + 1)], .int .i64 0]) ?_ rfl ⟨by rw [HJ.out, HN.out], (Below.refl _ _).alloc (Nat.le_refl _) _⟩
          rw [results_cell_tmp rfl]
          go_simp
end Go.Proofs.YtkpdbhpmnegahaaDoor
