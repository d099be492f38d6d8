/- What next of package words returns. -/
import Derived.Test.YtfccpkjjbbmmaaaWdE
namespace Go.Proofs.Ytfccpkjjbbmmaaa
open Go.RowKit
set_option linter.unusedVariables false
set_option linter.unusedSimpArgs false

theorem woA_eq {s : ByteArray} {k : Nat} (h : k < s.size) : woL (s.toList.drop k) = if lett s[k] then lim (s.toList.drop k) (nmL (s.toList.drop k)) 12 1
    else if dig s[k] || ((s[k].toNat : Int) = 45 && hdA s (k + 1)) then lim (s.toList.drop k) (nuL (s.toList.drop (k + 1)) + 1) 60 2
    else if (s[k].toNat : Int) = 34 then txW (txA s k)
    else sgW (s.toList.drop k) (sgA s k) := by
  rw [dropB s k h, woL_cons]; unfold sgA; rw [dropB s k h]; rfl
theorem sgA_le (s : ByteArray) (k : Nat) : sgA s k ≤ s.size - k := by
  have := sgL_le (s.toList.drop k)
  rw [List.length_drop, bytes_len] at this; exact this
theorem sgW_zero {l : List UInt8} {n : Nat} (h : n = 0) : sgW l n = (5, 0, [], 0) := by unfold sgW; rw [if_pos h]
theorem sg_res (s : ByteArray) (k : Nat) (hk : k < s.size) : Ending.returned (.tuple #[.agg #[.int .i64 4, .string (s.extract k (k + sgA s k)), .int .i64 (k : Int)], .int .i64 ((k + sgA s k : Nat) : Int), .int .i64 0]) = wRes (0, 4, (s.toList.drop k).take (sgA s k), sgA s k) k := by
  have := sgA_le s k
  rw [ext_bs s k (k + sgA s k) (by omega) (by omega), show k + sgA s k - k = sgA s k by omega]
  rfl
set_option maxHeartbeats 4000000 in
theorem next_any (s : ByteArray) (k : Nat) (w : World) (hs : s.size ≤ 1000) (hk : k < s.size) :
    Calls Try.prog 27 #[.string s, .int .i64 (k : Int)] w fun e w' => e = wRes (woL (s.toList.drop k)) k ∧ Below w.heap.size w w' := by
  have HM := Lib.hid (show s.size ≤ maxLen by unfold maxLen; omega)
  have HW0 := Lib.hid (woA_eq hk)
  have H1 := Lib.hid (fun w => isLetter_any s[k] w)
  have H2 := Lib.hid (fun w => isDigit_any s[k] w)
  have H3 := Lib.hid (fun w => digitAt_any s (k + 1) w HM.out)
  have H4 := Lib.hid (fun w => readText_any s k w hs hk)
  have H5 := Lib.hid (fun w => signEnd_any s k w hs hk)
  have H6 := Lib.hid (fun w => nameEnd_any s k w HM.out (by omega))
  have H7 := Lib.hid (fun w => numberEnd_any s k w HM.out hk)
  have H8 := Lib.hid (fun w => limited_any s k (nmL (s.toList.drop k)) 12 1 w HM.out (nmE_le s k (by omega)) (by decide) (by decide) (by decide))
  have e7 : nuE s (k + 1) = k + (nuL (s.toList.drop (k + 1)) + 1) := by unfold nuE; omega
  have H9 := Lib.hid (fun w => limited_any s k (nuL (s.toList.drop (k + 1)) + 1) 60 2 w HM.out (by rw [← e7]; exact nuE_le s (k + 1) (by omega)) (by decide) (by decide) (by decide))
  rw [e7] at H7
  clear e7
  have HN := Lib.hid (sgA_le s k)
  have HGS := Lib.hid (sg_res s k hk)
  have HG0 := Lib.hid (fun h => sgW_zero (l := s.toList.drop k) (n := sgA s k) h)
  have HG1 := Lib.hid (fun h => sgW_at (l := s.toList.drop k) (n := sgA s k) h)
  have E6 : nmE s k = k + nmL (s.toList.drop k) := rfl
  rw [E6] at H6
  clear E6
  have hnl := nmE_le s k (by omega)
  have hnu := nuE_le s (k + 1) (by omega)
  unfold nmE at hnl
  unfold nuE at hnu
  have hn2 := HN.out
  generalize lim (s.toList.drop k) (nmL (s.toList.drop k)) 12 1 = X1 at *
  generalize lim (s.toList.drop k) (nuL (s.toList.drop (k + 1)) + 1) 60 2 = X2 at *
  generalize txW (txA s k) = X3 at *
  generalize nmL (s.toList.drop k) = n1 at *
  generalize nuL (s.toList.drop (k + 1)) = n2 at *
  generalize sgA s k = n at *
  have HC0 := Lib.hid (Cell3.alloc w (.int .i64 0) (.string ⟨#[]⟩) (.int .i64 0) 39)
  have HB0 := Lib.hid ((Below.refl w.heap.size w).alloc (Nat.le_refl _) (Obj.cells #[.int .i64 0, .string ⟨#[]⟩, .int .i64 0] 39))
  have HBs := Lib.hid (show (w.alloc (Obj.cells #[.int .i64 0, .string ⟨#[]⟩, .int .i64 0] 39)).heap.size = w.heap.size + 1 by simp)
  have hki : (k : Int) < (s.size : Int) := by omega
  obtain ⟨b1, g1⟩ : ∃ b, lett s[k] = b := ⟨_, rfl⟩
  obtain ⟨b2, g2⟩ : ∃ b, dig s[k] = b := ⟨_, rfl⟩
  obtain ⟨b3, g3⟩ : ∃ b, hdA s (k + 1) = b := ⟨_, rfl⟩
  rw [g1] at H1
  rw [g2] at H2
  rw [g3] at H3
  rw [g1, g2, g3] at HW0
  clear g1 g2 g3
  go_enter Try.func27, Try.ntmps27
  go_wp2_with fail
  refine (H1.out _).mono ?_
  rintro e w_ ⟨rfl, rfl⟩
  generalize w.alloc (Obj.cells #[.int .i64 0, .string ⟨#[]⟩, .int .i64 0] 39) = W at *
  cases b1
  · go_wp2_with fail
    refine (H2.out _).mono ?_
    rintro e w_ ⟨rfl, rfl⟩
    cases b2
    · by_cases c45 : (s[k].toNat : Int) = 45
      · have q45 : ((s[k].toNat : Int) == 45) = true := by simpa using c45
        have q34 : ((s[k].toNat : Int) == 34) = false := by rw [c45]; rfl
        go_wp2_with fail
        refine (H3.out _).mono ?_
        rintro e w_ ⟨rfl, rfl⟩
        cases b3
        · have HW := Lib.hid (show woL (s.toList.drop k) = sgW (s.toList.drop k) n by rw [HW0.out, if_neg (by decide), if_neg (by simp), if_neg (by omega)])
          clear HW0 c45
          go_wp2_with fail
          refine (H5.out _).mono ?_
          rintro e w_ ⟨rfl, rfl⟩
          have HC1 := HC0
          have HB1 := HB0
          have cz0 := HC1.out.c0
          have cz1 := HC1.out.c1
          have cz2 := HC1.out.c2
          have fz0 := HC1.out.f0
          have fz1 := HC1.out.f1
          have fz2 := HC1.out.f2
          by_cases hn0 : n = 0
          · have hn1 : (((k + n : Nat) : Int) == (k : Int)) = true := by simp [hn0]
            have C := Lib.hid (((HC1.out.set0 (.int .i64 0)).set1 (.string ⟨#[]⟩)).set2 (.int .i64 0))
            have B := Lib.hid (((HB1.out.setCell (p := ⟨w.heap.size, 0, none⟩) (by simp) (.int .i64 0)).setCell (p := ⟨w.heap.size, 1, none⟩) (by simp) (.string ⟨#[]⟩)).setCell (p := ⟨w.heap.size, 2, none⟩) (by simp) (.int .i64 0))
            go_wp2
            refine bodyPost_ret (v := .tuple #[.agg #[.int .i64 0, .string ⟨#[]⟩, .int .i64 0], .int .i64 (k : Int), .int .i64 5]) ?_ rfl ⟨by rw [HW.out, HG0.out hn0]; rfl, B.out⟩
            have u0 := C.out.c0
            have u1 := C.out.c1
            have u2 := C.out.c2
            rw [results_cell_tmp2 rfl]
            go_simp
          · have hn1 : (((k + n : Nat) : Int) == (k : Int)) = false := by simp; omega
            have hn3 : ((k + n : Nat) : Int).toNat = k + n := by omega
            have C := Lib.hid (((HC1.out.set0 (.int .i64 4)).set1 (.string (s.extract k (k + n)))).set2 (.int .i64 (k : Int)))
            have B := Lib.hid (((HB1.out.setCell (p := ⟨w.heap.size, 0, none⟩) (by simp) (.int .i64 4)).setCell (p := ⟨w.heap.size, 1, none⟩) (by simp) (.string (s.extract k (k + n)))).setCell (p := ⟨w.heap.size, 2, none⟩) (by simp) (.int .i64 (k : Int)))
            go_wp2
            refine bodyPost_ret (v := .tuple #[.agg #[.int .i64 4, .string (s.extract k (k + n)), .int .i64 (k : Int)], .int .i64 ((k + n : Nat) : Int), .int .i64 0]) ?_ rfl ⟨by rw [HW.out, HG1.out hn0]; exact HGS.out, B.out⟩
            have u0 := C.out.c0
            have u1 := C.out.c1
            have u2 := C.out.c2
            rw [results_cell_tmp2 rfl]
            go_simp
        · have HW := Lib.hid (show woL (s.toList.drop k) = X2 by rw [HW0.out, if_neg (by decide), if_pos (by simp [c45])])
          clear HW0 c45
          go_wp2_with fail
          refine (H7.out _).mono ?_
          rintro e w_ ⟨rfl, rfl⟩
          go_wp2_with fail
          refine (H9.out _).mono ?_
          rintro e W1 ⟨he, hb1⟩
          unfold wRes at he
          subst he
          have HC1 := Lib.hid (HC0.out.below hb1 (by rw [HBs.out]; omega))
          have HB1 := Lib.hid (HB0.out.trans (hb1.mono (by rw [HBs.out]; omega)))
          clear hb1
          have cz0 := HC1.out.c0
          have cz1 := HC1.out.c1
          have cz2 := HC1.out.c2
          have fz0 := HC1.out.f0
          have fz1 := HC1.out.f1
          have fz2 := HC1.out.f2
          have C := Lib.hid (((HC1.out.set0 (.int .i64 X2.2.1)).set1 (.string (bs X2.2.2.1))).set2 (.int .i64 (wAt X2.1 k)))
          have B := Lib.hid (((HB1.out.setCell (p := ⟨w.heap.size, 0, none⟩) (by simp) (.int .i64 X2.2.1)).setCell (p := ⟨w.heap.size, 1, none⟩) (by simp) (.string (bs X2.2.2.1))).setCell (p := ⟨w.heap.size, 2, none⟩) (by simp) (.int .i64 (wAt X2.1 k)))
          go_wp2
          refine bodyPost_ret (v := .tuple #[.agg #[.int .i64 X2.2.1, .string (bs X2.2.2.1), .int .i64 (wAt X2.1 k)], .int .i64 ((k + X2.2.2.2 : Nat) : Int), .int .i64 X2.1]) ?_ rfl ⟨by rw [HW.out]; rfl, B.out⟩
          have u0 := C.out.c0
          have u1 := C.out.c1
          have u2 := C.out.c2
          rw [results_cell_tmp2 rfl]
          go_simp
      · have q45 : ((s[k].toNat : Int) == 45) = false := by simpa using c45
        by_cases c34 : (s[k].toNat : Int) = 34
        · have q34 : ((s[k].toNat : Int) == 34) = true := by simpa using c34
          have HW := Lib.hid (show woL (s.toList.drop k) = X3 by rw [HW0.out, if_neg (by decide), if_neg (by simp [c45]), if_pos c34])
          clear HW0 c45 c34
          go_wp2_with fail
          refine (H4.out _).mono ?_
          rintro e W1 ⟨he, hb1⟩
          unfold wRes at he
          subst he
          have HC1 := Lib.hid (HC0.out.below hb1 (by rw [HBs.out]; omega))
          have HB1 := Lib.hid (HB0.out.trans (hb1.mono (by rw [HBs.out]; omega)))
          clear hb1
          have cz0 := HC1.out.c0
          have cz1 := HC1.out.c1
          have cz2 := HC1.out.c2
          have fz0 := HC1.out.f0
          have fz1 := HC1.out.f1
          have fz2 := HC1.out.f2
          have C := Lib.hid (((HC1.out.set0 (.int .i64 X3.2.1)).set1 (.string (bs X3.2.2.1))).set2 (.int .i64 (wAt X3.1 k)))
          have B := Lib.hid (((HB1.out.setCell (p := ⟨w.heap.size, 0, none⟩) (by simp) (.int .i64 X3.2.1)).setCell (p := ⟨w.heap.size, 1, none⟩) (by simp) (.string (bs X3.2.2.1))).setCell (p := ⟨w.heap.size, 2, none⟩) (by simp) (.int .i64 (wAt X3.1 k)))
          go_wp2
          refine bodyPost_ret (v := .tuple #[.agg #[.int .i64 X3.2.1, .string (bs X3.2.2.1), .int .i64 (wAt X3.1 k)], .int .i64 ((k + X3.2.2.2 : Nat) : Int), .int .i64 X3.1]) ?_ rfl ⟨by rw [HW.out]; rfl, B.out⟩
          have u0 := C.out.c0
          have u1 := C.out.c1
          have u2 := C.out.c2
          rw [results_cell_tmp2 rfl]
          go_simp
        · have q34 : ((s[k].toNat : Int) == 34) = false := by simpa using c34
          have HW := Lib.hid (show woL (s.toList.drop k) = sgW (s.toList.drop k) n by rw [HW0.out, if_neg (by decide), if_neg (by simp [c45]), if_neg c34])
          clear HW0 c45 c34
          go_wp2_with fail
          refine (H5.out _).mono ?_
          rintro e w_ ⟨rfl, rfl⟩
          have HC1 := HC0
          have HB1 := HB0
          have cz0 := HC1.out.c0
          have cz1 := HC1.out.c1
          have cz2 := HC1.out.c2
          have fz0 := HC1.out.f0
          have fz1 := HC1.out.f1
          have fz2 := HC1.out.f2
          by_cases hn0 : n = 0
          · have hn1 : (((k + n : Nat) : Int) == (k : Int)) = true := by simp [hn0]
            have C := Lib.hid (((HC1.out.set0 (.int .i64 0)).set1 (.string ⟨#[]⟩)).set2 (.int .i64 0))
            have B := Lib.hid (((HB1.out.setCell (p := ⟨w.heap.size, 0, none⟩) (by simp) (.int .i64 0)).setCell (p := ⟨w.heap.size, 1, none⟩) (by simp) (.string ⟨#[]⟩)).setCell (p := ⟨w.heap.size, 2, none⟩) (by simp) (.int .i64 0))
            go_wp2
            refine bodyPost_ret (v := .tuple #[.agg #[.int .i64 0, .string ⟨#[]⟩, .int .i64 0], .int .i64 (k : Int), .int .i64 5]) ?_ rfl ⟨by rw [HW.out, HG0.out hn0]; rfl, B.out⟩
            have u0 := C.out.c0
            have u1 := C.out.c1
            have u2 := C.out.c2
            rw [results_cell_tmp2 rfl]
            go_simp
          · have hn1 : (((k + n : Nat) : Int) == (k : Int)) = false := by simp; omega
            have hn3 : ((k + n : Nat) : Int).toNat = k + n := by omega
            have C := Lib.hid (((HC1.out.set0 (.int .i64 4)).set1 (.string (s.extract k (k + n)))).set2 (.int .i64 (k : Int)))
            have B := Lib.hid (((HB1.out.setCell (p := ⟨w.heap.size, 0, none⟩) (by simp) (.int .i64 4)).setCell (p := ⟨w.heap.size, 1, none⟩) (by simp) (.string (s.extract k (k + n)))).setCell (p := ⟨w.heap.size, 2, none⟩) (by simp) (.int .i64 (k : Int)))
            go_wp2
            refine bodyPost_ret (v := .tuple #[.agg #[.int .i64 4, .string (s.extract k (k + n)), .int .i64 (k : Int)], .int .i64 ((k + n : Nat) : Int), .int .i64 0]) ?_ rfl ⟨by rw [HW.out, HG1.out hn0]; exact HGS.out, B.out⟩
            have u0 := C.out.c0
            have u1 := C.out.c1
            have u2 := C.out.c2
            rw [results_cell_tmp2 rfl]
            go_simp
    · have HW := Lib.hid (show woL (s.toList.drop k) = X2 by rw [HW0.out, if_neg (by decide), if_pos (by simp)])
      clear HW0
      go_wp2_with fail
      refine (H7.out _).mono ?_
      rintro e w_ ⟨rfl, rfl⟩
      go_wp2_with fail
      refine (H9.out _).mono ?_
      rintro e W1 ⟨he, hb1⟩
      unfold wRes at he
      subst he
      have HC1 := Lib.hid (HC0.out.below hb1 (by rw [HBs.out]; omega))
      have HB1 := Lib.hid (HB0.out.trans (hb1.mono (by rw [HBs.out]; omega)))
      clear hb1
      have cz0 := HC1.out.c0
      have cz1 := HC1.out.c1
      have cz2 := HC1.out.c2
      have fz0 := HC1.out.f0
      have fz1 := HC1.out.f1
      have fz2 := HC1.out.f2
      have C := Lib.hid (((HC1.out.set0 (.int .i64 X2.2.1)).set1 (.string (bs X2.2.2.1))).set2 (.int .i64 (wAt X2.1 k)))
      have B := Lib.hid (((HB1.out.setCell (p := ⟨w.heap.size, 0, none⟩) (by simp) (.int .i64 X2.2.1)).setCell (p := ⟨w.heap.size, 1, none⟩) (by simp) (.string (bs X2.2.2.1))).setCell (p := ⟨w.heap.size, 2, none⟩) (by simp) (.int .i64 (wAt X2.1 k)))
      go_wp2
      refine bodyPost_ret (v := .tuple #[.agg #[.int .i64 X2.2.1, .string (bs X2.2.2.1), .int .i64 (wAt X2.1 k)], .int .i64 ((k + X2.2.2.2 : Nat) : Int), .int .i64 X2.1]) ?_ rfl ⟨by rw [HW.out]; rfl, B.out⟩
      have u0 := C.out.c0
      have u1 := C.out.c1
      have u2 := C.out.c2
      rw [results_cell_tmp2 rfl]
      go_simp
  · have HW := Lib.hid (show woL (s.toList.drop k) = X1 by rw [HW0.out, if_pos rfl])
    clear HW0
    go_wp2_with fail
    refine (H6.out _).mono ?_
    rintro e w_ ⟨rfl, rfl⟩
    go_wp2_with fail
    refine (H8.out _).mono ?_
    rintro e W1 ⟨he, hb1⟩
    unfold wRes at he
    subst he
    have HC1 := Lib.hid (HC0.out.below hb1 (by rw [HBs.out]; omega))
    have HB1 := Lib.hid (HB0.out.trans (hb1.mono (by rw [HBs.out]; omega)))
    clear hb1
    have cz0 := HC1.out.c0
    have cz1 := HC1.out.c1
    have cz2 := HC1.out.c2
    have fz0 := HC1.out.f0
    have fz1 := HC1.out.f1
    have fz2 := HC1.out.f2
    have C := Lib.hid (((HC1.out.set0 (.int .i64 X1.2.1)).set1 (.string (bs X1.2.2.1))).set2 (.int .i64 (wAt X1.1 k)))
    have B := Lib.hid (((HB1.out.setCell (p := ⟨w.heap.size, 0, none⟩) (by simp) (.int .i64 X1.2.1)).setCell (p := ⟨w.heap.size, 1, none⟩) (by simp) (.string (bs X1.2.2.1))).setCell (p := ⟨w.heap.size, 2, none⟩) (by simp) (.int .i64 (wAt X1.1 k)))
    go_wp2
    refine bodyPost_ret (v := .tuple #[.agg #[.int .i64 X1.2.1, .string (bs X1.2.2.1), .int .i64 (wAt X1.1 k)], .int .i64 ((k + X1.2.2.2 : Nat) : Int), .int .i64 X1.1]) ?_ rfl ⟨by rw [HW.out]; rfl, B.out⟩
    have u0 := C.out.c0
    have u1 := C.out.c1
    have u2 := C.out.c2
    rw [results_cell_tmp2 rfl]
    go_simp
end Go.Proofs.Ytfccpkjjbbmmaaa
