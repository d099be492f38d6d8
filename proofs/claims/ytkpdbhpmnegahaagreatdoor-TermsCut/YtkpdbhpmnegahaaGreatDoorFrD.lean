/- What Make of package accountingref03 returns. -/
import Derived.Test.YtkpdbhpmnegahaaGreatDoorFrC
namespace Go.Proofs.YtkpdbhpmnegahaaGreatDoor
open Go.RowKit Go.Sort
set_option linter.unusedVariables false

set_option maxRecDepth 100000 in
set_option maxHeartbeats 4000000 in
theorem rMake_any (n d : Int) (w : World) (n1 : -9223372036854775808 ≤ n) (n2 : n ≤ 9223372036854775807) (d1 : -9223372036854775808 ≤ d) (d2 : d ≤ 9223372036854775807) :
    Calls Tryz.prog 65 #[.int .i64 n, .int .i64 d] w fun e w' => e = .returned (.tuple #[.agg #[.int .i64 (mkN n d), .int .i64 (mkD n d)], .int .i64 (mkE n d)]) ∧ Below w.heap.size w w' := by
  by_cases hd : d = 0
  · have EN : mkN n d = 0 := if_pos (.inl hd)
    have ED : mkD n d = 0 := if_pos (.inl hd)
    have EE : mkE n d = 2 := if_pos hd
    rw [EN, ED, EE]
    subst hd
    clear EN ED EE
    go_enter Tryz.func65, Tryz.ntmps65
    go_wp2
    (try simp only [Exit.inBlock, Exit.then])
    refine bodyPost_ret (v := .tuple #[.agg #[.int .i64 0, .int .i64 0], .int .i64 2]) ?_ rfl ⟨rfl, (Below.refl _ _).alloc (Nat.le_refl _) _⟩
    rw [results_cell_tmp rfl]
    go_simp
  have hb : (d == 0) = false := by simpa using hd
  have HM := Lib.hid (fun w => r3Size_any n w n1 n2)
  have HD := Lib.hid (fun w => r3Size_any d w d1 d2)
  have HG := Lib.hid (fun w => rDivisor_any n.natAbs d.natAbs w (by omega) (by omega))
  have HBig := Lib.hid (show Big n d → mkN n d = 0 ∧ mkD n d = 0 ∧ mkE n d = 4 from fun h => ⟨if_pos (.inr h), if_pos (.inr h), (if_neg hd).trans (if_pos h)⟩)
  have HSm := Lib.hid (show ¬ Big n d → mkN n d = (if decide (n < 0) = decide (d < 0) then (mkA n d : Int) else -(mkA n d : Int)) ∧ mkD n d = (mkB n d : Int) ∧ mkE n d = 0 from fun h => ⟨if_neg (by rintro (k | k); exact hd k; exact h k), if_neg (by rintro (k | k); exact hd k; exact h k), (if_neg hd).trans (if_neg h)⟩)
  have HBg := Lib.hid (show Big n d ↔ (1000000 < mkA n d ∨ 1000000 < mkB n d) from Iff.rfl)
  have hgp : 0 < Nat.gcd n.natAbs d.natAbs := Nat.gcd_pos_of_pos_right _ (by omega)
  have zA : ((n.natAbs : Int)).tdiv (Nat.gcd n.natAbs d.natAbs : Int) = (mkA n d : Int) := by rw [Int.tdiv_eq_ediv_of_nonneg (by omega)]; rfl
  have zB : ((d.natAbs : Int)).tdiv (Nat.gcd n.natAbs d.natAbs : Int) = (mkB n d : Int) := by rw [Int.tdiv_eq_ediv_of_nonneg (by omega)]; rfl
  have yA : (n.natAbs : Int) / (Nat.gcd n.natAbs d.natAbs : Int) = (mkA n d : Int) := rfl
  have yB : (d.natAbs : Int) / (Nat.gcd n.natAbs d.natAbs : Int) = (mkB n d : Int) := rfl
  have lA : mkA n d ≤ n.natAbs := Nat.div_le_self _ _
  have lB : mkB n d ≤ d.natAbs := Nat.div_le_self _ _
  have bA : (n.natAbs : Int) ≤ 9223372036854775808 := by omega
  have bB : (d.natAbs : Int) ≤ 9223372036854775808 := by omega
  have lA' : (mkA n d : Int) ≤ 9223372036854775808 := by omega
  have lB' : (mkB n d : Int) ≤ 9223372036854775808 := by omega
  have gn : ¬ (Nat.gcd n.natAbs d.natAbs : Int) = 0 := by omega
  have gnn : (0 : Int) < (Nat.gcd n.natAbs d.natAbs : Int) := by omega
  have gle : (Nat.gcd n.natAbs d.natAbs : Int) ≤ 9223372036854775808 := by have := Nat.gcd_le_right (n := d.natAbs) n.natAbs (by omega); omega
  clear lA lB hgp
  generalize mkN n d = RN at *
  generalize mkD n d = RD at *
  generalize mkE n d = RE at *
  generalize mkA n d = A' at *
  generalize mkB n d = B' at *
  generalize Nat.gcd n.natAbs d.natAbs = G at *
  generalize n.natAbs = A at *
  generalize d.natAbs = B at *
  have HF0 := Lib.hid (Cell2.alloc w (.int .i64 0) (.int .i64 0) 38)
  have HW0 := Lib.hid ((Below.refl w.heap.size w).alloc (Nat.le_refl _) (Obj.cells #[.int .i64 0, .int .i64 0] 38))
  go_enter Tryz.func65, Tryz.ntmps65
  go_wp2_with fail
  refine (HM.out _).mono ?_
  rintro e w1 ⟨rfl, rfl⟩
  go_wp2_with fail
  refine (HD.out _).mono ?_
  rintro e w1 ⟨rfl, rfl⟩
  go_wp2_with fail
  generalize w.alloc (Obj.cells #[.int .i64 0, .int .i64 0] 38) = W0 at *
  refine (HG.out _).mono ?_
  rintro e W ⟨rfl, hbw⟩
  have HF1 := Lib.hid (HF0.out.below hbw HF0.out.lt)
  have HW1 := Lib.hid (HW0.out.trans (hbw.mono HW0.out.size))
  clear HF0 HW0 hbw
  have cN : ∀ dd os, Calls Tryz.prog 73 #[.int .i64 n] (grow (redrawn W dd) os) fun e w'' => e = .returned (.int .u64 (A : Int)) ∧ ∃ p : Regrown, w'' = grow (redrawn W p.d) p.os := fun dd os => Calls.regrown_of ((HM.out _).mono fun e w' h => ⟨h.1, h.2 ▸ Below.refl _ _⟩)
  have cD : ∀ dd os, Calls Tryz.prog 73 #[.int .i64 d] (grow (redrawn W dd) os) fun e w'' => e = .returned (.int .u64 (B : Int)) ∧ ∃ p : Regrown, w'' = grow (redrawn W p.d) p.os := fun dd os => Calls.regrown_of ((HD.out _).mono fun e w' h => ⟨h.1, h.2 ▸ Below.refl _ _⟩)
  go_wp2_with fail
  refine wp_region_quiet_below (l := _) (by kernel_rfl) (by kernel_rfl) ?_
  repeat (first | go_big_quiet_step (first | (go_at_call_of 73 n; exact cN _ _) | (go_at_call_of 73 d; exact cD _ _)))
  refine wpQuiet_nil ?_
  intro w2 hw'
  obtain ⟨⟨dq2, osq2⟩, hw''⟩ := hw'
  have hb2 := below_regrown W dq2 osq2
  rw [← hw''] at hb2
  clear hw'' cN cD
  have HF2 := Lib.hid (HF1.out.below hb2 HF1.out.lt)
  have HW2 := Lib.hid (HW1.out.trans (hb2.mono HW1.out.size))
  clear hb2 HF1 HW1
  by_cases hA : 1000000 < A'
  · have hAi : (1000000 : Int) < (A' : Int) := by omega
    have HV := Lib.hid (HBig.out (HBg.out.2 (.inl hA)))
    clear hA
    have y0 := HF2.out.c0
    have y1 := HF2.out.c1
    have y2 := HF2.out.f0
    have y3 := HF2.out.f1
    have y4 := HF2.out.lt
    have C := Lib.hid ((HF2.out.set0 (.int .i64 0)).set1 (.int .i64 0))
    have BB := Lib.hid ((HW2.out.setCell (p := ⟨w.heap.size, 0, none⟩) (Nat.le_refl _) (.int .i64 0)).setCell (p := ⟨w.heap.size, 1, none⟩) (Nat.le_refl _) (.int .i64 0))
    go_wp2
    (try simp only [Exit.inBlock, Exit.then])
    refine bodyPost_ret (v := .tuple #[.agg #[.int .i64 0, .int .i64 0], .int .i64 4]) ?_ rfl ⟨by rw [HV.out.1, HV.out.2.1, HV.out.2.2], BB.out⟩
    have t0 := C.out.c0
    have t1 := C.out.c1
    have t2 := C.out.lt
    rw [results_cell_tmp rfl]
    go_simp
  have hAi : ¬ (1000000 : Int) < (A' : Int) := by omega
  by_cases hB : 1000000 < B'
  · have hBi : (1000000 : Int) < (B' : Int) := by omega
    have HV := Lib.hid (HBig.out (HBg.out.2 (.inr hB)))
    clear hB hA
    have y0 := HF2.out.c0
    have y1 := HF2.out.c1
    have y2 := HF2.out.f0
    have y3 := HF2.out.f1
    have y4 := HF2.out.lt
    have C := Lib.hid ((HF2.out.set0 (.int .i64 0)).set1 (.int .i64 0))
    have BB := Lib.hid ((HW2.out.setCell (p := ⟨w.heap.size, 0, none⟩) (Nat.le_refl _) (.int .i64 0)).setCell (p := ⟨w.heap.size, 1, none⟩) (Nat.le_refl _) (.int .i64 0))
    go_wp2
    (try simp only [Exit.inBlock, Exit.then])
    refine bodyPost_ret (v := .tuple #[.agg #[.int .i64 0, .int .i64 0], .int .i64 4]) ?_ rfl ⟨by rw [HV.out.1, HV.out.2.1, HV.out.2.2], BB.out⟩
    have t0 := C.out.c0
    have t1 := C.out.c1
    have t2 := C.out.lt
    rw [results_cell_tmp rfl]
    go_simp
  have hBi : ¬ (1000000 : Int) < (B' : Int) := by omega
  have HV := Lib.hid (HSm.out (fun x => by rcases HBg.out.1 x with y | y; exact hA y; exact hB y))
  clear hA hB
  have y0 := HF2.out.c0
  have y1 := HF2.out.c1
  have y2 := HF2.out.f0
  have y3 := HF2.out.f1
  have y4 := HF2.out.lt
  by_cases hn : n < 0
  · by_cases hd0 : d < 0
    · have HNV := Lib.hid (show RN = (A' : Int) from HV.out.1.trans (if_pos (by simp [hn, hd0])))
      have C := Lib.hid ((HF2.out.set0 (.int .i64 (A' : Int))).set1 (.int .i64 (B' : Int)))
      have BB := Lib.hid ((HW2.out.setCell (p := ⟨w.heap.size, 0, none⟩) (Nat.le_refl _) (.int .i64 (A' : Int))).setCell (p := ⟨w.heap.size, 1, none⟩) (Nat.le_refl _) (.int .i64 (B' : Int)))
      go_wp2
      (try simp only [Exit.inBlock, Exit.then])
      refine bodyPost_ret (v := .tuple #[.agg #[.int .i64 (A' : Int), .int .i64 (B' : Int)], .int .i64 0]) ?_ rfl ⟨by rw [HNV.out, HV.out.2.1, HV.out.2.2], BB.out.alloc (by have := HW2.out.size; simp; omega) _⟩
      have t0 := C.out.c0
      have t1 := C.out.c1
      have t2 := C.out.lt
      rw [results_cell_tmp rfl]
      go_simp
    · have HNV := Lib.hid (show RN = -(A' : Int) from HV.out.1.trans (if_neg (by simp [hn, hd0])))
      have C := Lib.hid ((HF2.out.set0 (.int .i64 (-(A' : Int)))).set1 (.int .i64 (B' : Int)))
      have BB := Lib.hid ((HW2.out.setCell (p := ⟨w.heap.size, 0, none⟩) (Nat.le_refl _) (.int .i64 (-(A' : Int)))).setCell (p := ⟨w.heap.size, 1, none⟩) (Nat.le_refl _) (.int .i64 (B' : Int)))
      go_wp2
      (try simp only [Exit.inBlock, Exit.then])
      refine bodyPost_ret (v := .tuple #[.agg #[.int .i64 (-(A' : Int)), .int .i64 (B' : Int)], .int .i64 0]) ?_ rfl ⟨by rw [HNV.out, HV.out.2.1, HV.out.2.2], BB.out.alloc (by have := HW2.out.size; simp; omega) _⟩
      have t0 := C.out.c0
      have t1 := C.out.c1
      have t2 := C.out.lt
      rw [results_cell_tmp rfl]
      go_simp
  · by_cases hd0 : d < 0
    · have HNV := Lib.hid (show RN = -(A' : Int) from HV.out.1.trans (if_neg (by simp [hn, hd0])))
      have C := Lib.hid ((HF2.out.set0 (.int .i64 (-(A' : Int)))).set1 (.int .i64 (B' : Int)))
      have BB := Lib.hid ((HW2.out.setCell (p := ⟨w.heap.size, 0, none⟩) (Nat.le_refl _) (.int .i64 (-(A' : Int)))).setCell (p := ⟨w.heap.size, 1, none⟩) (Nat.le_refl _) (.int .i64 (B' : Int)))
      go_wp2
      (try simp only [Exit.inBlock, Exit.then])
      refine bodyPost_ret (v := .tuple #[.agg #[.int .i64 (-(A' : Int)), .int .i64 (B' : Int)], .int .i64 0]) ?_ rfl ⟨by rw [HNV.out, HV.out.2.1, HV.out.2.2], BB.out.alloc (by have := HW2.out.size; simp; omega) _⟩
      have t0 := C.out.c0
      have t1 := C.out.c1
      have t2 := C.out.lt
      rw [results_cell_tmp rfl]
      go_simp
    · have HNV := Lib.hid (show RN = (A' : Int) from HV.out.1.trans (if_pos (by simp [hn, hd0])))
      have C := Lib.hid ((HF2.out.set0 (.int .i64 (A' : Int))).set1 (.int .i64 (B' : Int)))
      have BB := Lib.hid ((HW2.out.setCell (p := ⟨w.heap.size, 0, none⟩) (Nat.le_refl _) (.int .i64 (A' : Int))).setCell (p := ⟨w.heap.size, 1, none⟩) (Nat.le_refl _) (.int .i64 (B' : Int)))
      go_wp2
      (try simp only [Exit.inBlock, Exit.then])
      refine bodyPost_ret (v := .tuple #[.agg #[.int .i64 (A' : Int), .int .i64 (B' : Int)], .int .i64 0]) ?_ rfl ⟨by rw [HNV.out, HV.out.2.1, HV.out.2.2], BB.out.alloc (by have := HW2.out.size; simp; omega) _⟩
      have t0 := C.out.c0
      have t1 := C.out.c1
      have t2 := C.out.lt
      rw [results_cell_tmp rfl]
      go_simp
end Go.Proofs.YtkpdbhpmnegahaaGreatDoor
