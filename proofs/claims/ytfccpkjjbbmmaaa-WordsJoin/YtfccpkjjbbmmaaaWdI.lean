/- What word of package accountingref06 returns. -/
import Derived.Test.YtfccpkjjbbmmaaaWdH
namespace Go.Proofs.Ytfccpkjjbbmmaaa
open Go.RowKit
set_option linter.unusedVariables false
set_option linter.unusedSimpArgs false

theorem Cell3.far {w : World} {B B' : Nat} {a b c : Value} (h : Cell3 w B a b c) (hB : B ≠ B') (j : Nat) (v : Value) : Cell3 (w.setCell ⟨B', j, none⟩ v) B a b c :=
  ⟨by rw [World.cell?_setCell_other _ _ _ _ (by intro h; cases h; exact hB rfl)]; exact h.c0, by rw [World.cell?_setCell_other _ _ _ _ (by intro h; cases h; exact hB rfl)]; exact h.c1, by rw [World.cell?_setCell_other _ _ _ _ (by intro h; cases h; exact hB rfl)]; exact h.c2, by rw [World.frozen?_setCell]; exact h.f0, by rw [World.frozen?_setCell]; exact h.f1, by rw [World.frozen?_setCell]; exact h.f2⟩
theorem sgA_two' (s : ByteArray) (k : Nat) : sgA s k ≤ 2 := by
  unfold sgA sgL; split <;> (try split) <;> (try split) <;> omega
/-- how word ends. -/
def RwP (x : Int × Int × List UInt8 × Nat) (k : Nat) (e : Ending) : Prop :=
  ∃ q : Int × List UInt8 × Nat, e = .returned (.tuple #[.agg #[.int .i64 q.1, .string (bs q.2.1), .int .i64 (q.2.2 : Int)], .int .i64 (enV x k), .int .i64 (ofV x k), .int .i64 x.1]) ∧ (x.1 = 0 → q = (x.2.1, x.2.2.1, k))
theorem rw_many {x : Int × Int × List UInt8 × Nat} {k : Nat} (h : x = (9, 0, [], 0)) : RwP x k (.returned (.tuple #[.agg #[.int .i64 0, .string ⟨#[]⟩, .int .i64 0], .int .i64 0, .int .i64 (k : Int), .int .i64 9])) := by
  subst h; exact ⟨(0, [], 0), rfl, by simp⟩
theorem rw_none {x : Int × Int × List UInt8 × Nat} {k : Nat} (h : x = (5, 0, [], 0)) : RwP x k (.returned (.tuple #[.agg #[.int .i64 0, .string ⟨#[]⟩, .int .i64 0], .int .i64 0, .int .i64 (k : Int), .int .i64 5])) := by
  subst h; exact ⟨(0, [], 0), rfl, by simp⟩
theorem rw_good {x : Int × Int × List UInt8 × Nat} {s : ByteArray} {k n : Nat} {kind : Int} (hn : k + n ≤ s.size) (h : x = (0, kind, (s.toList.drop k).take n, n)) : RwP x k (.returned (.tuple #[.agg #[.int .i64 kind, .string (s.extract k (k + n)), .int .i64 (k : Int)], .int .i64 ((k + n : Nat) : Int), .int .i64 0, .int .i64 0])) := by
  subst h
  refine ⟨(kind, (s.toList.drop k).take n, k), ?_, fun _ => rfl⟩
  rw [ext_bs s k (k + n) (by omega) hn, show k + n - k = n by omega]; rfl
theorem rw_text {x : Int × Int × List UInt8 × Nat} {k : Nat} (h : x.1 = 0 → x.2.1 = 3) : RwP x k (.returned (.tuple #[.agg #[.int .i64 3, .string (bs x.2.2.1), .int .i64 (k : Int)], .int .i64 (enV x k), .int .i64 (ofV x k), .int .i64 x.1])) :=
  ⟨(3, x.2.2.1, k), rfl, fun h0 => by rw [h h0]⟩
theorem txW_three (x : Int × List UInt8 × Nat) : (txW x).1 = 0 → (txW x).2.1 = 3 := by
  unfold txW; split
  · split <;> simp
  · intro h; exact absurd h (by assumption)
set_option maxHeartbeats 4000000 in
theorem rWord_any (s : ByteArray) (k : Nat) (w : World) (hs : s.size ≤ 1000) (hk : k < s.size) :
    Calls Try.prog 28 #[.string s, .int .i64 (k : Int)] w fun e w' => RwP (woL (s.toList.drop k)) k e ∧ Below w.heap.size w w' := by
  have HM := Lib.hid (show s.size ≤ maxLen by unfold maxLen; omega)
  have HX3 := Lib.hid (txW_three (txA s k))
  have HW0 := Lib.hid (woA_eq hk)
  have H1 := Lib.hid (fun w => rLetter_any s[k] w)
  have H2 := Lib.hid (fun w => rDigit_any s[k] w)
  have H3 := Lib.hid (fun w => follows_any s (k + 1) w HM.out)
  have H4 := Lib.hid (fun w => rText_any s k w hs hk)
  have H5 := Lib.hid (fun w => rSign_any s k w hs hk)
  have H6 := Lib.hid (fun w => rName_any s k w HM.out (by omega))
  have H7 := Lib.hid (fun w => rNumber_any s k w HM.out hk)
  have e7 : nuE s (k + 1) = k + (nuL (s.toList.drop (k + 1)) + 1) := by unfold nuE; omega
  rw [e7] at H7
  clear e7
  have HN := Lib.hid (sgA_le s k)
  have HN2 := Lib.hid (sgA_two' s k)
  have E6 : nmE s k = k + nmL (s.toList.drop k) := rfl
  rw [E6] at H6
  clear E6
  have hnl := nmE_le s k (by omega)
  have hnu := nuE_le s (k + 1) (by omega)
  unfold nmE at hnl
  unfold nuE at hnu
  have hn2 := HN.out
  generalize txW (txA s k) = X3 at *
  generalize nmL (s.toList.drop k) = n1 at *
  obtain ⟨n2, gn2⟩ : ∃ n2, nuL (s.toList.drop (k + 1)) + 1 = n2 := ⟨_, rfl⟩
  rw [gn2] at HW0 H7
  have hnu : k + n2 ≤ s.size := by omega
  clear gn2
  generalize sgA s k = n at *
  have hki : (k : Int) < (s.size : Int) := by omega
  obtain ⟨b1, g1⟩ : ∃ b, lett s[k] = b := ⟨_, rfl⟩
  obtain ⟨b2, g2⟩ : ∃ b, dig s[k] = b := ⟨_, rfl⟩
  obtain ⟨b3, g3⟩ : ∃ b, hdA s (k + 1) = b := ⟨_, rfl⟩
  have HQ := Lib.hid (show (s[k].toNat : Int) = 34 → lett s[k] = false ∧ dig s[k] = false by unfold lett dig; simp; omega)
  rw [g1, g2] at HQ
  rw [g1] at H1
  rw [g2] at H2
  rw [g3] at H3
  rw [g1, g2, g3] at HW0
  clear g1 g2 g3
  by_cases c34 : (s[k].toNat : Int) = 34
  · have q34 : ((s[k].toNat : Int) == 34) = true := by simpa using c34
    have HW := Lib.hid (show woL (s.toList.drop k) = X3 by rw [HW0.out, (HQ.out c34).1, (HQ.out c34).2, if_neg (by decide), if_neg (by simp; omega), if_pos c34])
    clear HW0 c34 HQ
    go_enter Try.func28, Try.ntmps28
    go_wp2_with fail
    have HC0 := Lib.hid (Cell3.alloc w (.int .i64 0) (.string ⟨#[]⟩) (.int .i64 0) 39)
    have HB0 := Lib.hid ((Below.refl w.heap.size w).alloc (Nat.le_refl _) (Obj.cells #[.int .i64 0, .string ⟨#[]⟩, .int .i64 0] 39))
    have HBs := Lib.hid (show (w.alloc (Obj.cells #[.int .i64 0, .string ⟨#[]⟩, .int .i64 0] 39)).heap.size = w.heap.size + 1 by simp)
    generalize w.alloc (Obj.cells #[.int .i64 0, .string ⟨#[]⟩, .int .i64 0] 39) = W at *
    refine (H4.out _).mono ?_
    rintro e W1 ⟨he, hb1⟩
    unfold tRes at he
    subst he
    have HC1 := Lib.hid (HC0.out.below hb1 (by rw [HBs.out]; omega))
    have HB1 := Lib.hid (HB0.out.trans (hb1.mono (by rw [HBs.out]; omega)))
    clear hb1
    have cz0 := HC1.out.c0
    have cz1 := HC1.out.c1
    have cz2 := HC1.out.c2
    have fz0 := HC1.out.f0
    have fz1 := HC1.out.f1
    have fz2 := HC1.out.f2
    have C := Lib.hid (((HC1.out.set0 (.int .i64 3)).set1 (.string (bs X3.2.2.1))).set2 (.int .i64 (k : Int)))
    have B := Lib.hid (((HB1.out.setCell (p := ⟨w.heap.size, 0, none⟩) (by simp) (.int .i64 3)).setCell (p := ⟨w.heap.size, 1, none⟩) (by simp) (.string (bs X3.2.2.1))).setCell (p := ⟨w.heap.size, 2, none⟩) (by simp) (.int .i64 (k : Int)))
    go_wp2
    refine bodyPost_ret (v := .tuple #[.agg #[.int .i64 3, .string (bs X3.2.2.1), .int .i64 (k : Int)], .int .i64 (enV X3 k), .int .i64 (ofV X3 k), .int .i64 X3.1]) ?_ rfl ⟨by rw [HW.out]; exact rw_text HX3.out, B.out⟩
    have u0 := C.out.c0
    have u1 := C.out.c1
    have u2 := C.out.c2
    rw [results_cell_tmp3 rfl]
    go_simp
  · have q34 : ((s[k].toNat : Int) == 34) = false := by simpa using c34
    go_enter Try.func28, Try.ntmps28
    cases b1
    · go_wp2_with fail
      refine (H1.out _).mono ?_
      rintro e w_ ⟨rfl, rfl⟩
      go_wp2_with fail
      refine (H2.out _).mono ?_
      rintro e w_ ⟨rfl, rfl⟩
      cases b2
      · by_cases c45 : (s[k].toNat : Int) = 45
        · have q45 : ((s[k].toNat : Int) == 45) = true := by simpa using c45
          go_wp2_with fail
          refine (H3.out _).mono ?_
          rintro e w_ ⟨rfl, rfl⟩
          cases b3
          · have HW := Lib.hid (show woL (s.toList.drop k) = sgW (s.toList.drop k) n by rw [HW0.out, if_neg (by decide), if_neg (by simp), if_neg c34])
            clear HW0 c45 c34 HQ
            go_wp2_with fail
            have HC0 := Lib.hid (show Cell3 ((w.alloc (Obj.cells #[.int .i64 0, .string ⟨#[]⟩, .int .i64 0] 39)).alloc (Obj.cells #[.int .i64 1, .string ⟨#[]⟩, .int .i64 (k : Int)] 39)) w.heap.size (.int .i64 0) (.string ⟨#[]⟩) (.int .i64 0) from (Cell3.alloc w (.int .i64 0) (.string ⟨#[]⟩) (.int .i64 0) 39).below (N := w.heap.size + 1) ((Below.refl _ _).alloc (by simp) _) (by omega))
            have HL0 := Lib.hid (show Cell3 ((w.alloc (Obj.cells #[.int .i64 0, .string ⟨#[]⟩, .int .i64 0] 39)).alloc (Obj.cells #[.int .i64 1, .string ⟨#[]⟩, .int .i64 (k : Int)] 39)) (w.heap.size + 1) (.int .i64 1) (.string ⟨#[]⟩) (.int .i64 (k : Int)) from by
              have := Cell3.alloc (w.alloc (Obj.cells #[.int .i64 0, .string ⟨#[]⟩, .int .i64 0] 39)) (.int .i64 1) (.string ⟨#[]⟩) (.int .i64 (k : Int)) 39
              rwa [show (w.alloc (Obj.cells #[.int .i64 0, .string ⟨#[]⟩, .int .i64 0] 39)).heap.size = w.heap.size + 1 by simp] at this)
            have HB0 := Lib.hid (((Below.refl w.heap.size w).alloc (Nat.le_refl _) (Obj.cells #[.int .i64 0, .string ⟨#[]⟩, .int .i64 0] 39)).alloc (by simp) (Obj.cells #[.int .i64 1, .string ⟨#[]⟩, .int .i64 (k : Int)] 39))
            have HBs := Lib.hid (show ((w.alloc (Obj.cells #[.int .i64 0, .string ⟨#[]⟩, .int .i64 0] 39)).alloc (Obj.cells #[.int .i64 1, .string ⟨#[]⟩, .int .i64 (k : Int)] 39)).heap.size = w.heap.size + 2 by simp)
            generalize (w.alloc (Obj.cells #[.int .i64 0, .string ⟨#[]⟩, .int .i64 0] 39)).alloc (Obj.cells #[.int .i64 1, .string ⟨#[]⟩, .int .i64 (k : Int)] 39) = W at *
            refine (H5.out _).mono ?_
            rintro e W1 ⟨rfl, hb1⟩
            have HC1 := Lib.hid (HC0.out.below hb1 (by rw [HBs.out]; omega))
            have HL1 := Lib.hid (HL0.out.below hb1 (by rw [HBs.out]; omega))
            have HB1 := Lib.hid (HB0.out.trans (hb1.mono (by rw [HBs.out]; omega)))
            clear hb1
            have cz0 := HC1.out.c0
            have cz1 := HC1.out.c1
            have cz2 := HC1.out.c2
            have fz0 := HC1.out.f0
            have fz1 := HC1.out.f1
            have fz2 := HC1.out.f2
            have cl0 := HL1.out.c0
            have cl1 := HL1.out.c1
            have cl2 := HL1.out.c2
            have fl0 := HL1.out.f0
            have fl1 := HL1.out.f1
            have fl2 := HL1.out.f2
            by_cases hn0 : n = 0
            · have hn1 : ((n : Int) == 0) = true := by simp [hn0]
              have C := Lib.hid (((HC1.out.set0 (.int .i64 0)).set1 (.string ⟨#[]⟩)).set2 (.int .i64 0))
              have B := Lib.hid (((HB1.out.setCell (p := ⟨w.heap.size, 0, none⟩) (by simp) (.int .i64 0)).setCell (p := ⟨w.heap.size, 1, none⟩) (by simp) (.string ⟨#[]⟩)).setCell (p := ⟨w.heap.size, 2, none⟩) (by simp) (.int .i64 0))
              go_wp2
              refine bodyPost_ret (v := .tuple #[.agg #[.int .i64 0, .string ⟨#[]⟩, .int .i64 0], .int .i64 0, .int .i64 (k : Int), .int .i64 5]) ?_ rfl ⟨rw_none (by rw [HW.out]; exact if_pos hn0), B.out⟩
              have u0 := C.out.c0
              have u1 := C.out.c1
              have u2 := C.out.c2
              rw [results_cell_tmp3 rfl]
              go_simp
            · have hn1 : ((n : Int) == 0) = false := by simpa using hn0
              have hto : ((k : Int) + (n : Int)).toNat = k + n := by omega
              have hn4 : n ≤ 2 := HN2.out
              have C := Lib.hid (((((HC1.out.far (B' := w.heap.size + 1) (by omega) 0 (.int .i64 4)).far (B' := w.heap.size + 1) (by omega) 1 (.string (s.extract k (k + n)))).set0 (.int .i64 4)).set1 (.string (s.extract k (k + n)))).set2 (.int .i64 (k : Int)))
              have B := Lib.hid (((((HB1.out.setCell (p := ⟨w.heap.size + 1, 0, none⟩) (by simp) (.int .i64 4)).setCell (p := ⟨w.heap.size + 1, 1, none⟩) (by simp) (.string (s.extract k (k + n)))).setCell (p := ⟨w.heap.size, 0, none⟩) (by simp) (.int .i64 4)).setCell (p := ⟨w.heap.size, 1, none⟩) (by simp) (.string (s.extract k (k + n)))).setCell (p := ⟨w.heap.size, 2, none⟩) (by simp) (.int .i64 (k : Int)))
              have hl := HL1.out.lt
              have hlz := HC1.out.lt
              go_wp2
              refine bodyPost_ret (v := .tuple #[.agg #[.int .i64 4, .string (s.extract k (k + n)), .int .i64 (k : Int)], .int .i64 ((k : Int) + (n : Int)), .int .i64 0, .int .i64 0]) ?_ rfl ⟨rw_good (by omega) (by rw [HW.out]; exact if_neg hn0), B.out⟩
              have u0 := C.out.c0
              have u1 := C.out.c1
              have u2 := C.out.c2
              rw [results_cell_tmp3 rfl]
              go_simp
          · have HW := Lib.hid (show woL (s.toList.drop k) = lim (s.toList.drop k) n2 60 2 by rw [HW0.out, if_neg (by decide), if_pos (by simp [c45])])
            clear HW0 c45 c34 HQ
            go_wp2_with fail
            refine (H7.out _).mono ?_
            rintro e w_ ⟨rfl, rfl⟩
            by_cases hm : 60 < n2
            · have hm2 : (60 : Int) < ((k + n2 : Nat) : Int) - (k : Int) := by omega
              go_wp2
              refine bodyPost_ret (v := .tuple #[.agg #[.int .i64 0, .string ⟨#[]⟩, .int .i64 0], .int .i64 0, .int .i64 (k : Int), .int .i64 9]) ?_ rfl ⟨rw_many (by rw [HW.out]; exact if_pos hm), ((Below.refl _ _).alloc (Nat.le_refl _) _).alloc (by simp) _⟩
              rw [results_cell_tmp3 rfl]
              go_simp
            · have hm2 : ¬ (60 : Int) < ((k + n2 : Nat) : Int) - (k : Int) := by omega
              have hto : ((k + n2 : Nat) : Int).toNat = k + n2 := by omega
              go_wp2
              refine bodyPost_ret (v := .tuple #[.agg #[.int .i64 2, .string (s.extract k (k + n2)), .int .i64 (k : Int)], .int .i64 ((k + n2 : Nat) : Int), .int .i64 0, .int .i64 0]) ?_ rfl ⟨rw_good (by omega) (by rw [HW.out]; exact if_neg hm), ((Below.refl _ _).alloc (Nat.le_refl _) _).alloc (by simp) _⟩
              rw [results_cell_tmp3 rfl]
              go_simp
        · have q45 : ((s[k].toNat : Int) == 45) = false := by simpa using c45
          have HW := Lib.hid (show woL (s.toList.drop k) = sgW (s.toList.drop k) n by rw [HW0.out, if_neg (by decide), if_neg (by simp [c45]), if_neg c34])
          clear HW0 c45 c34 HQ
          go_wp2_with fail
          have HC0 := Lib.hid (show Cell3 ((w.alloc (Obj.cells #[.int .i64 0, .string ⟨#[]⟩, .int .i64 0] 39)).alloc (Obj.cells #[.int .i64 1, .string ⟨#[]⟩, .int .i64 (k : Int)] 39)) w.heap.size (.int .i64 0) (.string ⟨#[]⟩) (.int .i64 0) from (Cell3.alloc w (.int .i64 0) (.string ⟨#[]⟩) (.int .i64 0) 39).below (N := w.heap.size + 1) ((Below.refl _ _).alloc (by simp) _) (by omega))
          have HL0 := Lib.hid (show Cell3 ((w.alloc (Obj.cells #[.int .i64 0, .string ⟨#[]⟩, .int .i64 0] 39)).alloc (Obj.cells #[.int .i64 1, .string ⟨#[]⟩, .int .i64 (k : Int)] 39)) (w.heap.size + 1) (.int .i64 1) (.string ⟨#[]⟩) (.int .i64 (k : Int)) from by
            have := Cell3.alloc (w.alloc (Obj.cells #[.int .i64 0, .string ⟨#[]⟩, .int .i64 0] 39)) (.int .i64 1) (.string ⟨#[]⟩) (.int .i64 (k : Int)) 39
            rwa [show (w.alloc (Obj.cells #[.int .i64 0, .string ⟨#[]⟩, .int .i64 0] 39)).heap.size = w.heap.size + 1 by simp] at this)
          have HB0 := Lib.hid (((Below.refl w.heap.size w).alloc (Nat.le_refl _) (Obj.cells #[.int .i64 0, .string ⟨#[]⟩, .int .i64 0] 39)).alloc (by simp) (Obj.cells #[.int .i64 1, .string ⟨#[]⟩, .int .i64 (k : Int)] 39))
          have HBs := Lib.hid (show ((w.alloc (Obj.cells #[.int .i64 0, .string ⟨#[]⟩, .int .i64 0] 39)).alloc (Obj.cells #[.int .i64 1, .string ⟨#[]⟩, .int .i64 (k : Int)] 39)).heap.size = w.heap.size + 2 by simp)
          generalize (w.alloc (Obj.cells #[.int .i64 0, .string ⟨#[]⟩, .int .i64 0] 39)).alloc (Obj.cells #[.int .i64 1, .string ⟨#[]⟩, .int .i64 (k : Int)] 39) = W at *
          refine (H5.out _).mono ?_
          rintro e W1 ⟨rfl, hb1⟩
          have HC1 := Lib.hid (HC0.out.below hb1 (by rw [HBs.out]; omega))
          have HL1 := Lib.hid (HL0.out.below hb1 (by rw [HBs.out]; omega))
          have HB1 := Lib.hid (HB0.out.trans (hb1.mono (by rw [HBs.out]; omega)))
          clear hb1
          have cz0 := HC1.out.c0
          have cz1 := HC1.out.c1
          have cz2 := HC1.out.c2
          have fz0 := HC1.out.f0
          have fz1 := HC1.out.f1
          have fz2 := HC1.out.f2
          have cl0 := HL1.out.c0
          have cl1 := HL1.out.c1
          have cl2 := HL1.out.c2
          have fl0 := HL1.out.f0
          have fl1 := HL1.out.f1
          have fl2 := HL1.out.f2
          by_cases hn0 : n = 0
          · have hn1 : ((n : Int) == 0) = true := by simp [hn0]
            have C := Lib.hid (((HC1.out.set0 (.int .i64 0)).set1 (.string ⟨#[]⟩)).set2 (.int .i64 0))
            have B := Lib.hid (((HB1.out.setCell (p := ⟨w.heap.size, 0, none⟩) (by simp) (.int .i64 0)).setCell (p := ⟨w.heap.size, 1, none⟩) (by simp) (.string ⟨#[]⟩)).setCell (p := ⟨w.heap.size, 2, none⟩) (by simp) (.int .i64 0))
            go_wp2
            refine bodyPost_ret (v := .tuple #[.agg #[.int .i64 0, .string ⟨#[]⟩, .int .i64 0], .int .i64 0, .int .i64 (k : Int), .int .i64 5]) ?_ rfl ⟨rw_none (by rw [HW.out]; exact if_pos hn0), B.out⟩
            have u0 := C.out.c0
            have u1 := C.out.c1
            have u2 := C.out.c2
            rw [results_cell_tmp3 rfl]
            go_simp
          · have hn1 : ((n : Int) == 0) = false := by simpa using hn0
            have hto : ((k : Int) + (n : Int)).toNat = k + n := by omega
            have hn4 : n ≤ 2 := HN2.out
            have C := Lib.hid (((((HC1.out.far (B' := w.heap.size + 1) (by omega) 0 (.int .i64 4)).far (B' := w.heap.size + 1) (by omega) 1 (.string (s.extract k (k + n)))).set0 (.int .i64 4)).set1 (.string (s.extract k (k + n)))).set2 (.int .i64 (k : Int)))
            have B := Lib.hid (((((HB1.out.setCell (p := ⟨w.heap.size + 1, 0, none⟩) (by simp) (.int .i64 4)).setCell (p := ⟨w.heap.size + 1, 1, none⟩) (by simp) (.string (s.extract k (k + n)))).setCell (p := ⟨w.heap.size, 0, none⟩) (by simp) (.int .i64 4)).setCell (p := ⟨w.heap.size, 1, none⟩) (by simp) (.string (s.extract k (k + n)))).setCell (p := ⟨w.heap.size, 2, none⟩) (by simp) (.int .i64 (k : Int)))
            have hl := HL1.out.lt
            have hlz := HC1.out.lt
            go_wp2
            refine bodyPost_ret (v := .tuple #[.agg #[.int .i64 4, .string (s.extract k (k + n)), .int .i64 (k : Int)], .int .i64 ((k : Int) + (n : Int)), .int .i64 0, .int .i64 0]) ?_ rfl ⟨rw_good (by omega) (by rw [HW.out]; exact if_neg hn0), B.out⟩
            have u0 := C.out.c0
            have u1 := C.out.c1
            have u2 := C.out.c2
            rw [results_cell_tmp3 rfl]
            go_simp
      · have HW := Lib.hid (show woL (s.toList.drop k) = lim (s.toList.drop k) n2 60 2 by rw [HW0.out, if_neg (by decide), if_pos (by simp)])
        clear HW0 c34 HQ
        go_wp2_with fail
        refine (H7.out _).mono ?_
        rintro e w_ ⟨rfl, rfl⟩
        by_cases hm : 60 < n2
        · have hm2 : (60 : Int) < ((k + n2 : Nat) : Int) - (k : Int) := by omega
          go_wp2
          refine bodyPost_ret (v := .tuple #[.agg #[.int .i64 0, .string ⟨#[]⟩, .int .i64 0], .int .i64 0, .int .i64 (k : Int), .int .i64 9]) ?_ rfl ⟨rw_many (by rw [HW.out]; exact if_pos hm), ((Below.refl _ _).alloc (Nat.le_refl _) _).alloc (by simp) _⟩
          rw [results_cell_tmp3 rfl]
          go_simp
        · have hm2 : ¬ (60 : Int) < ((k + n2 : Nat) : Int) - (k : Int) := by omega
          have hto : ((k + n2 : Nat) : Int).toNat = k + n2 := by omega
          go_wp2
          refine bodyPost_ret (v := .tuple #[.agg #[.int .i64 2, .string (s.extract k (k + n2)), .int .i64 (k : Int)], .int .i64 ((k + n2 : Nat) : Int), .int .i64 0, .int .i64 0]) ?_ rfl ⟨rw_good (by omega) (by rw [HW.out]; exact if_neg hm), ((Below.refl _ _).alloc (Nat.le_refl _) _).alloc (by simp) _⟩
          rw [results_cell_tmp3 rfl]
          go_simp
    · have HW := Lib.hid (show woL (s.toList.drop k) = lim (s.toList.drop k) n1 12 1 by rw [HW0.out, if_pos rfl])
      clear HW0 c34 HQ
      go_wp2_with fail
      refine (H1.out _).mono ?_
      rintro e w_ ⟨rfl, rfl⟩
      go_wp2_with fail
      refine (H6.out _).mono ?_
      rintro e w_ ⟨rfl, rfl⟩
      by_cases hm : 12 < n1
      · have hm2 : (12 : Int) < ((k + n1 : Nat) : Int) - (k : Int) := by omega
        go_wp2
        refine bodyPost_ret (v := .tuple #[.agg #[.int .i64 0, .string ⟨#[]⟩, .int .i64 0], .int .i64 0, .int .i64 (k : Int), .int .i64 9]) ?_ rfl ⟨rw_many (by rw [HW.out]; exact if_pos hm), ((Below.refl _ _).alloc (Nat.le_refl _) _).alloc (by simp) _⟩
        rw [results_cell_tmp3 rfl]
        go_simp
      · have hm2 : ¬ (12 : Int) < ((k + n1 : Nat) : Int) - (k : Int) := by omega
        have hto : ((k + n1 : Nat) : Int).toNat = k + n1 := by omega
        go_wp2
        refine bodyPost_ret (v := .tuple #[.agg #[.int .i64 1, .string (s.extract k (k + n1)), .int .i64 (k : Int)], .int .i64 ((k + n1 : Nat) : Int), .int .i64 0, .int .i64 0]) ?_ rfl ⟨rw_good (by omega) (by rw [HW.out]; exact if_neg hm), ((Below.refl _ _).alloc (Nat.le_refl _) _).alloc (by simp) _⟩
        rw [results_cell_tmp3 rfl]
        go_simp
end Go.Proofs.Ytfccpkjjbbmmaaa
