/- What Make of the packages frac and accountingref03 returns. -/
import Derived.Test.YtdeoplbdgbgimaaFrB
import Derived.Laws.ResultCell
namespace Go.Proofs.Ytdeoplbdgbgimaa
open Go.RowKit Go.Sort
set_option linter.unusedVariables false

/-- the parts of a fraction in lowest terms, without their sign. -/
def mkA (n d : Int) : Nat := n.natAbs / Nat.gcd n.natAbs d.natAbs
def mkB (n d : Int) : Nat := d.natAbs / Nat.gcd n.natAbs d.natAbs
def Big (n d : Int) : Prop := 1000000 < mkA n d ∨ 1000000 < mkB n d
instance (n d : Int) : Decidable (Big n d) := by unfold Big; infer_instance
def mkN (n d : Int) : Int := if d = 0 ∨ Big n d then 0 else if decide (n < 0) = decide (d < 0) then (mkA n d : Int) else -(mkA n d : Int)
def mkD (n d : Int) : Int := if d = 0 ∨ Big n d then 0 else (mkB n d : Int)
def mkE (n d : Int) : Int := if d = 0 then 2 else if Big n d then 4 else 0

theorem Cell2.far {w : World} {B B' : Nat} {a b : Value} (h : Cell2 w B a b) (hB : B ≠ B') (j : Nat) (v : Value) : Cell2 (w.setCell ⟨B', j, none⟩ v) B a b :=
  ⟨by rw [World.cell?_setCell_other _ _ _ _ (by intro h; cases h; exact hB rfl)]; exact h.c0, by rw [World.cell?_setCell_other _ _ _ _ (by intro h; cases h; exact hB rfl)]; exact h.c1, by rw [World.frozen?_setCell]; exact h.f0, by rw [World.frozen?_setCell]; exact h.f1⟩

set_option maxRecDepth 100000 in
set_option maxHeartbeats 4000000 in
theorem make_any (n d : Int) (w : World) (n1 : -9223372036854775808 ≤ n) (n2 : n ≤ 9223372036854775807) (d1 : -9223372036854775808 ≤ d) (d2 : d ≤ 9223372036854775807) :
    Calls Try.prog 31 #[.int .i64 n, .int .i64 d] w fun e w' => e = .returned (.tuple #[.agg #[.int .i64 (mkN n d), .int .i64 (mkD n d)], .int .i64 (mkE n d)]) ∧ Below w.heap.size w w' := by
  by_cases hd : d = 0
  · have EN : mkN n d = 0 := if_pos (.inl hd)
    have ED : mkD n d = 0 := if_pos (.inl hd)
    have EE : mkE n d = 2 := if_pos hd
    rw [EN, ED, EE]
    subst hd
    clear EN ED EE
    go_enter Try.func31, Try.ntmps31
    go_wp2
    (try simp only [Exit.inBlock, Exit.then])
    refine bodyPost_ret (v := .tuple #[.agg #[.int .i64 0, .int .i64 0], .int .i64 2]) ?_ rfl ⟨rfl, (Below.refl _ _).alloc (Nat.le_refl _) _⟩
    rw [results_cell_tmp rfl]
    go_simp
  have hb : (d == 0) = false := by simpa using hd
  have HM := Lib.hid (fun w => magnitude_any n w n1 n2)
  have HD := Lib.hid (fun w => magnitude_any d w d1 d2)
  have HG := Lib.hid (fun w => commonDivisor_any n.natAbs d.natAbs w (by omega) (by omega))
  have HBig := Lib.hid (show Big n d → mkN n d = 0 ∧ mkD n d = 0 ∧ mkE n d = 4 from fun h => ⟨if_pos (.inr h), if_pos (.inr h), (if_neg hd).trans (if_pos h)⟩)
  have HSm := Lib.hid (show ¬ Big n d → mkN n d = (if decide (n < 0) = decide (d < 0) then (mkA n d : Int) else -(mkA n d : Int)) ∧ mkD n d = (mkB n d : Int) ∧ mkE n d = 0 from fun h => ⟨if_neg (by rintro (k | k); exact hd k; exact h k), if_neg (by rintro (k | k); exact hd k; exact h k), (if_neg hd).trans (if_neg h)⟩)
  have HBg := Lib.hid (show Big n d ↔ (1000000 < mkA n d ∨ 1000000 < mkB n d) from Iff.rfl)
  have hgp : 0 < Nat.gcd n.natAbs d.natAbs := Nat.gcd_pos_of_pos_right _ (by omega)
  have zA : ((n.natAbs : Int)).tdiv (Nat.gcd n.natAbs d.natAbs : Int) = (mkA n d : Int) := by rw [Int.tdiv_eq_ediv_of_nonneg (by omega)]; rfl
  have zB : ((d.natAbs : Int)).tdiv (Nat.gcd n.natAbs d.natAbs : Int) = (mkB n d : Int) := by rw [Int.tdiv_eq_ediv_of_nonneg (by omega)]; rfl
  have yA : (n.natAbs : Int) / (Nat.gcd n.natAbs d.natAbs : Int) = (mkA n d : Int) := rfl
  have yB : (d.natAbs : Int) / (Nat.gcd n.natAbs d.natAbs : Int) = (mkB n d : Int) := rfl
  have lA : mkA n d ≤ n.natAbs := Nat.div_le_self _ _
  have lB : mkB n d ≤ d.natAbs := Nat.div_le_self _ _
  have bA : (n.natAbs : Int) ≤ 9223372036854775808 := by omega
  have bB : (d.natAbs : Int) ≤ 9223372036854775808 := by omega
  have lA' : (mkA n d : Int) ≤ 9223372036854775808 := by omega
  have lB' : (mkB n d : Int) ≤ 9223372036854775808 := by omega
  have gn : ¬ (Nat.gcd n.natAbs d.natAbs : Int) = 0 := by omega
  have gnn : (0 : Int) < (Nat.gcd n.natAbs d.natAbs : Int) := by omega
  have gle : (Nat.gcd n.natAbs d.natAbs : Int) ≤ 9223372036854775808 := by have := Nat.gcd_le_right (n := d.natAbs) n.natAbs (by omega); omega
  clear lA lB hgp
  generalize mkN n d = RN at *
  generalize mkD n d = RD at *
  generalize mkE n d = RE at *
  generalize mkA n d = A' at *
  generalize mkB n d = B' at *
  generalize Nat.gcd n.natAbs d.natAbs = G at *
  generalize n.natAbs = A at *
  generalize d.natAbs = B at *
  have HF0 := Lib.hid ((Cell2.alloc w (.int .i64 0) (.int .i64 0) 37).below ((Below.refl _ _).alloc (Nat.le_refl _) (Obj.cells #[.int .u64 (A : Int), .int .u64 (B : Int)] 72)) (by simp))
  have HP0 := Lib.hid (Cell2.alloc (w.alloc (Obj.cells #[.int .i64 0, .int .i64 0] 37)) (.int .u64 (A : Int)) (.int .u64 (B : Int)) 72)
  have hsz : (w.alloc (Obj.cells #[.int .i64 0, .int .i64 0] 37)).heap.size = w.heap.size + 1 := by simp
  rw [hsz] at HP0
  clear hsz
  have HW0 := Lib.hid (((Below.refl w.heap.size w).alloc (Nat.le_refl _) (Obj.cells #[.int .i64 0, .int .i64 0] 37)).alloc (by simp) (Obj.cells #[.int .u64 (A : Int), .int .u64 (B : Int)] 72))
  go_enter Try.func31, Try.ntmps31
  go_wp2_with fail
  refine (HM.out _).mono ?_
  rintro e w1 ⟨rfl, rfl⟩
  go_wp2_with fail
  refine (HD.out _).mono ?_
  rintro e w1 ⟨rfl, rfl⟩
  go_wp2_with fail
  refine (HG.out _).mono ?_
  rintro e w1 ⟨rfl, hbw⟩
  have HBw := Lib.hid hbw
  clear hbw
  go_wp2_with fail
  have HF1 := Lib.hid (HF0.out.below HBw.out HF0.out.lt)
  have HP1 := Lib.hid (HP0.out.below HBw.out HP0.out.lt)
  have HW1 := Lib.hid (HW0.out.trans (HBw.out.mono HW0.out.size))
  clear HF0 HP0 HW0 HBw
  go_loopw [19] (fun i wr => ∃ k : Nat, k ≤ 2 ∧ i = .int .i64 k ∧ Hid (0 < k → ¬ 1000000 < A') ∧ Hid (1 < k → ¬ 1000000 < B') ∧ Hid (Cell2 wr w.heap.size (.int .i64 0) (.int .i64 0)) ∧ Hid (Cell2 wr (w.heap.size + 1) (if 0 < k then .int .u64 (A' : Int) else .int .u64 (A : Int)) (if 1 < k then .int .u64 (B' : Int) else .int .u64 (B : Int))) ∧ Hid (Below w.heap.size w wr)) (fun i _ => 2 - (intOf i).toNat)
  case atStart => exact ⟨0, by omega, rfl, Lib.hid (by omega), Lib.hid (by omega), HF1, HP1, HW1⟩
  case round =>
    obtain ⟨k, hk, rfl, S1, S2, HF, HP, HW⟩ := hrel
    match k, hk with
    | 0, _ =>
      have HQ := Lib.hid (show Cell2 wr (w.heap.size + 1) (.int .u64 (A : Int)) (.int .u64 (B : Int)) by simpa using HP.out)
      have HFx := Lib.hid (HF.out.far (B' := w.heap.size + 1) (by omega) 0 (.int .u64 (A' : Int)))
      have HQx := Lib.hid (HQ.out.set0 (.int .u64 (A' : Int)))
      have HWx := Lib.hid (HW.out.setCell (p := ⟨w.heap.size + 1, 0, none⟩) (Nat.le_succ _) (.int .u64 (A' : Int)))
      have p0 := HQ.out.c0
      have p1 := HQ.out.f0
      have p2 := HQx.out.c0
      by_cases hbig : 1000000 < A'
      · have hbi : (1000000 : Int) < (A' : Int) := by omega
        have qb : decide ((1000000 : Int) < (A' : Int)) = true := decide_eq_true hbi
        have HV := Lib.hid (HBig.out (HBg.out.2 (.inl hbig)))
        have y0 := HFx.out.c0
        have y1 := HFx.out.f0
        have y2 := fun v => (HFx.out.set0 v).c1
        have y3 := fun v => (HFx.out.set0 v).f1
        clear hbig
        go_wp2
        (try simp only [Exit.inBlock, Exit.then])
        refine bodyPost_ret (v := .tuple #[.agg #[.int .i64 0, .int .i64 0], .int .i64 4]) ?_ rfl ⟨by rw [HV.out.1, HV.out.2.1, HV.out.2.2], (HWx.out.setCell (p := ⟨w.heap.size, 0, none⟩) (Nat.le_refl _) _).setCell (p := ⟨w.heap.size, 1, none⟩) (Nat.le_refl _) _⟩
        have t0 := ((HFx.out.set0 (.int .i64 0)).set1 (.int .i64 0)).c0
        have t1 := ((HFx.out.set0 (.int .i64 0)).set1 (.int .i64 0)).c1
        rw [results_cell_tmp rfl]
        go_simp
      · have hbi : (A' : Int) ≤ 1000000 := by omega
        have qb : decide ((1000000 : Int) < (A' : Int)) = false := decide_eq_false (by omega)
        have HNB := Lib.hid hbig
        clear hbig
        go_wp2
        go_roundw
        case rel => exact ⟨1, by omega, by go_num, Lib.hid (fun _ => HNB.out), Lib.hid (by omega), HFx, Lib.hid (by simpa using HQx.out), HWx⟩
        case measure => simp [intOf]
    | 1, _ =>
      have HQ := Lib.hid (show Cell2 wr (w.heap.size + 1) (.int .u64 (A' : Int)) (.int .u64 (B : Int)) by simpa using HP.out)
      have HFx := Lib.hid (HF.out.far (B' := w.heap.size + 1) (by omega) 1 (.int .u64 (B' : Int)))
      have HQx := Lib.hid (HQ.out.set1 (.int .u64 (B' : Int)))
      have HWx := Lib.hid (HW.out.setCell (p := ⟨w.heap.size + 1, 1, none⟩) (Nat.le_succ _) (.int .u64 (B' : Int)))
      have p0 := HQ.out.c1
      have p1 := HQ.out.f1
      have p2 := HQx.out.c1
      by_cases hbig : 1000000 < B'
      · have hbi : (1000000 : Int) < (B' : Int) := by omega
        have qb : decide ((1000000 : Int) < (B' : Int)) = true := decide_eq_true hbi
        have HV := Lib.hid (HBig.out (HBg.out.2 (.inr hbig)))
        have y0 := HFx.out.c0
        have y1 := HFx.out.f0
        have y2 := fun v => (HFx.out.set0 v).c1
        have y3 := fun v => (HFx.out.set0 v).f1
        clear hbig
        go_wp2
        (try simp only [Exit.inBlock, Exit.then])
        refine bodyPost_ret (v := .tuple #[.agg #[.int .i64 0, .int .i64 0], .int .i64 4]) ?_ rfl ⟨by rw [HV.out.1, HV.out.2.1, HV.out.2.2], (HWx.out.setCell (p := ⟨w.heap.size, 0, none⟩) (Nat.le_refl _) _).setCell (p := ⟨w.heap.size, 1, none⟩) (Nat.le_refl _) _⟩
        have t0 := ((HFx.out.set0 (.int .i64 0)).set1 (.int .i64 0)).c0
        have t1 := ((HFx.out.set0 (.int .i64 0)).set1 (.int .i64 0)).c1
        rw [results_cell_tmp rfl]
        go_simp
      · have hbi : (B' : Int) ≤ 1000000 := by omega
        have qb : decide ((1000000 : Int) < (B' : Int)) = false := decide_eq_false (by omega)
        have HNB := Lib.hid hbig
        clear hbig
        go_wp2
        go_roundw
        case rel => exact ⟨2, by omega, by go_num, Lib.hid (fun _ => S1.out (by omega)), Lib.hid (fun _ => HNB.out), HFx, Lib.hid (by simpa using HQx.out), HWx⟩
        case measure => simp [intOf]
    | 2, _ =>
      have HQ := Lib.hid (show Cell2 wr (w.heap.size + 1) (.int .u64 (A' : Int)) (.int .u64 (B' : Int)) by simpa using HP.out)
      have a6 : (A' : Int) ≤ 1000000 := by have := S1.out (by omega); omega
      have b6 : (B' : Int) ≤ 1000000 := by have := S2.out (by omega); omega
      have HV := Lib.hid (HSm.out (fun h => by have := HBg.out.1 h; have := S1.out (by omega); have := S2.out (by omega); omega))
      have p0 := HQ.out.c0
      have p1 := HQ.out.c1
      have y0 := HF.out.c0
      have y1 := HF.out.f0
      have y2 := fun v => (HF.out.set0 v).c1
      have y3 := fun v => (HF.out.set0 v).f1
      have HF2 := Lib.hid ((HF.out.set0 (.int .i64 (A' : Int))).set1 (.int .i64 (B' : Int)))
      have HW2 := Lib.hid ((HW.out.setCell (p := ⟨w.heap.size, 0, none⟩) (Nat.le_refl _) (.int .i64 (A' : Int))).setCell (p := ⟨w.heap.size, 1, none⟩) (Nat.le_refl _) (.int .i64 (B' : Int)))
      have z0 := HF2.out.c0
      have z1 := HF2.out.c1
      have z2 := HF2.out.f0
      by_cases gn0 : n < 0
      · have sn : decide (n < 0) = true := decide_eq_true gn0
        clear gn0
        by_cases gd : d < 0
        · have sd : decide (d < 0) = true := decide_eq_true gd
          clear gd
          rw [if_pos (by rw [sn, sd])] at HV
          have t3 := fun v => (HF2.out.set0 v).c1
          have t4 := fun v => (HF2.out.set0 v).f1
          go_wp2
          (try simp only [Exit.inBlock, Exit.then])
          refine bodyPost_ret (v := .tuple #[.agg #[.int .i64 (A' : Int), .int .i64 (B' : Int)], .int .i64 0]) ?_ rfl ⟨by rw [HV.out.1, HV.out.2.1, HV.out.2.2], (HW2.out.setCell (p := ⟨w.heap.size, 0, none⟩) (Nat.le_refl _) _).setCell (p := ⟨w.heap.size, 1, none⟩) (Nat.le_refl _) _⟩
          have u0 := ((HF2.out.set0 (.int .i64 (A' : Int))).set1 (.int .i64 (B' : Int))).c0
          have u1 := ((HF2.out.set0 (.int .i64 (A' : Int))).set1 (.int .i64 (B' : Int))).c1
          rw [results_cell_tmp rfl]
          go_simp
        · have sd : decide (d < 0) = false := decide_eq_false gd
          clear gd
          rw [if_neg (by rw [sn, sd]; simp)] at HV
          have HF3 := Lib.hid (HF2.out.set0 (.int .i64 (-(A' : Int))))
          have HW3 := Lib.hid (HW2.out.setCell (p := ⟨w.heap.size, 0, none⟩) (Nat.le_refl _) (.int .i64 (-(A' : Int))))
          have r0 := HF3.out.c0
          have r1 := HF3.out.c1
          have r2 := HF3.out.f0
          have t3 := fun v => (HF3.out.set0 v).c1
          have t4 := fun v => (HF3.out.set0 v).f1
          go_wp2
          (try simp only [Exit.inBlock, Exit.then])
          refine bodyPost_ret (v := .tuple #[.agg #[.int .i64 (-(A' : Int)), .int .i64 (B' : Int)], .int .i64 0]) ?_ rfl ⟨by rw [HV.out.1, HV.out.2.1, HV.out.2.2], (HW3.out.setCell (p := ⟨w.heap.size, 0, none⟩) (Nat.le_refl _) _).setCell (p := ⟨w.heap.size, 1, none⟩) (Nat.le_refl _) _⟩
          have u0 := ((HF3.out.set0 (.int .i64 (-(A' : Int)))).set1 (.int .i64 (B' : Int))).c0
          have u1 := ((HF3.out.set0 (.int .i64 (-(A' : Int)))).set1 (.int .i64 (B' : Int))).c1
          rw [results_cell_tmp rfl]
          go_simp
      · have sn : decide (n < 0) = false := decide_eq_false gn0
        clear gn0
        by_cases gd : d < 0
        · have sd : decide (d < 0) = true := decide_eq_true gd
          clear gd
          rw [if_neg (by rw [sn, sd]; simp)] at HV
          have HF3 := Lib.hid (HF2.out.set0 (.int .i64 (-(A' : Int))))
          have HW3 := Lib.hid (HW2.out.setCell (p := ⟨w.heap.size, 0, none⟩) (Nat.le_refl _) (.int .i64 (-(A' : Int))))
          have r0 := HF3.out.c0
          have r1 := HF3.out.c1
          have r2 := HF3.out.f0
          have t3 := fun v => (HF3.out.set0 v).c1
          have t4 := fun v => (HF3.out.set0 v).f1
          go_wp2
          (try simp only [Exit.inBlock, Exit.then])
          refine bodyPost_ret (v := .tuple #[.agg #[.int .i64 (-(A' : Int)), .int .i64 (B' : Int)], .int .i64 0]) ?_ rfl ⟨by rw [HV.out.1, HV.out.2.1, HV.out.2.2], (HW3.out.setCell (p := ⟨w.heap.size, 0, none⟩) (Nat.le_refl _) _).setCell (p := ⟨w.heap.size, 1, none⟩) (Nat.le_refl _) _⟩
          have u0 := ((HF3.out.set0 (.int .i64 (-(A' : Int)))).set1 (.int .i64 (B' : Int))).c0
          have u1 := ((HF3.out.set0 (.int .i64 (-(A' : Int)))).set1 (.int .i64 (B' : Int))).c1
          rw [results_cell_tmp rfl]
          go_simp
        · have sd : decide (d < 0) = false := decide_eq_false gd
          clear gd
          rw [if_pos (by rw [sn, sd])] at HV
          have t3 := fun v => (HF2.out.set0 v).c1
          have t4 := fun v => (HF2.out.set0 v).f1
          go_wp2
          (try simp only [Exit.inBlock, Exit.then])
          refine bodyPost_ret (v := .tuple #[.agg #[.int .i64 (A' : Int), .int .i64 (B' : Int)], .int .i64 0]) ?_ rfl ⟨by rw [HV.out.1, HV.out.2.1, HV.out.2.2], (HW2.out.setCell (p := ⟨w.heap.size, 0, none⟩) (Nat.le_refl _) _).setCell (p := ⟨w.heap.size, 1, none⟩) (Nat.le_refl _) _⟩
          have u0 := ((HF2.out.set0 (.int .i64 (A' : Int))).set1 (.int .i64 (B' : Int))).c0
          have u1 := ((HF2.out.set0 (.int .i64 (A' : Int))).set1 (.int .i64 (B' : Int))).c1
          rw [results_cell_tmp rfl]
          go_simp
end Go.Proofs.Ytdeoplbdgbgimaa
