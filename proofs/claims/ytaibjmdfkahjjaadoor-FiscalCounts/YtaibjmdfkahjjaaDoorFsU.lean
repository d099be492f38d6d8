/- What Text and Parse of package fiscal return. -/
import Derived.Test.YtaibjmdfkahjjaaDoorFsT
namespace Go.Proofs.YtaibjmdfkahjjaaDoor
open Go.RowKit Go.Sort
set_option linter.unusedVariables false

theorem ext_list (s : ByteArray) (a b : Nat) : (s.extract a b).toList = (s.toList.take b).drop a := by
  rw [ByteArray.toList_eq, ByteArray.toList_eq, ByteArray.data_extract, Array.toList_extract]
  simp [List.extract, List.drop_take]
theorem at_get {s : ByteArray} {k : Nat} (hk : k < s.size) : s.toList[k]? = some s[k] := by
  have h : k < s.toList.length := by rw [bytes_len]; exact hk
  rw [List.getElem?_eq_getElem h, bytes_get s k hk h]
def twoD (n : Int) : ByteArray := ⟨#[UInt8.ofNat (48 + (n / 10).toNat), UInt8.ofNat (48 + (n % 10).toNat)]⟩
/-- the notation of a period. -/
def perS (y n : Int) : ByteArray := textS y ++ ⟨#[45]⟩ ++ twoD n
theorem text_nat {n : Int} (h : 0 ≤ n) : text n = dg n.toNat := by
  unfold text; rw [if_neg (by omega), show n.natAbs = n.toNat by omega]
theorem text100 {n : Int} (h1 : 1 ≤ n) (h2 : n ≤ 13) : text (100 + n) = [49, UInt8.ofNat (48 + (n / 10).toNat), UInt8.ofNat (48 + (n % 10).toNat)] := by
  rw [text_nat (by omega)]
  obtain ⟨m, hm⟩ : ∃ m : Nat, (100 + n).toNat = m := ⟨_, rfl⟩
  rw [hm, dg_big (by omega), dg_big (by omega), dg_small (by omega)]
  have e1 : m / 10 / 10 = 1 := by omega
  have e2 : m / 10 % 10 = (n / 10).toNat := by omega
  have e3 : m % 10 = (n % 10).toNat := by omega
  rw [e1, e2, e3]
  rfl
theorem text100S {n : Int} (h1 : 1 ≤ n) (h2 : n ≤ 13) : textS (100 + n) = ⟨#[49, UInt8.ofNat (48 + (n / 10).toNat), UInt8.ofNat (48 + (n % 10).toNat)]⟩ := by
  unfold textS; rw [text100 h1 h2]
theorem text100_cut {n : Int} (h1 : 1 ≤ n) (h2 : n ≤ 13) : (textS (100 + n)).size = 3 ∧ (textS (100 + n)).extract 1 (textS (100 + n)).size = twoD n := by
  rw [text100S h1 h2]
  exact ⟨rfl, rfl⟩

set_option maxHeartbeats 1000000 in
theorem fText_yes (y n : Int) (w : World) (h : notO y n) :
    Calls Tryd.prog 28 #[.agg #[.int .i64 y, .int .i64 n]] w fun e w' => e = .returned (.tuple #[.string (perS y n), .int .i64 0]) ∧ Below w.heap.size w w' := by
  have HI := Lib.hid (fun w => hasNotation_any y n w)
  rw [decide_eq_true h] at HI
  obtain ⟨a1, a2, a3, a4⟩ := h
  have HY := Lib.hid (fun w => text_any y w (by omega) (by omega))
  have HM := Lib.hid (fun w => text_any (100 + n) w (by omega) (by omega))
  have z1 : (textS y).size ≤ 21 := by rw [textS_size]; exact text_len (by omega) (by omega)
  have z2 := (text100_cut a3 a4).1
  have HX := Lib.hid (show perS y n = textS y ++ ⟨#[45]⟩ ++ (textS (100 + n)).extract 1 3 by rw [← z2]; rw [(text100_cut a3 a4).2]; rfl)
  generalize perS y n = R at *
  generalize textS y = A at *
  generalize textS (100 + n) = B at *
  go_enter Tryd.func28, Tryd.ntmps28
  go_wp2_with fail
  have P0_1 := Lib.hid (show Cell2 (w.alloc (Obj.cells #[(.int .i64 y), (.int .i64 n)] 25)) (w.heap.size) (.int .i64 y) (.int .i64 n) from by simpa using Cell2.alloc w (.int .i64 y) (.int .i64 n) 25)
  have HB1 := Lib.hid ((Below.refl w.heap.size w).alloc (Nat.le_refl _) (Obj.cells #[(.int .i64 y), (.int .i64 n)] 25))
  generalize (w.alloc (Obj.cells #[(.int .i64 y), (.int .i64 n)] 25)) = W1 at *
  refine (HI.out _).mono ?_
  rintro e W2 ⟨rfl, hb2⟩
  have HB2 := Lib.hid (HB1.out.trans ((hb2).mono HB1.out.size))
  have P0_2 := Lib.hid (P0_1.out.below (hb2) P0_1.out.lt)
  clear HB1 P0_1 hb2
  go_wp2_with fail
  have l0 := cell_regrown P0_2.out.c0
  have l1 := cell_regrown P0_2.out.c1
  have n1 : ¬ 9223372036854775807 < A.size + 1 := by omega
  have n2 : ¬ 9223372036854775807 < A.size + 1 + (B.extract 1 3).size := by rw [ByteArray.size_extract]; omega
  have i1 : (1 : Int) ≤ (B.size : Int) := by omega
  have cY : ∀ dd os, Calls Tryd.prog 44 #[.int .i64 y] (grow (redrawn W2 dd) os) fun e w'' => e = .returned (.string A) ∧ ∃ p : Regrown, w'' = grow (redrawn W2 p.d) p.os := fun dd os => Calls.regrown_of (HY.out _)
  have cM : ∀ dd os, Calls Tryd.prog 44 #[.int .i64 (100 + n)] (grow (redrawn W2 dd) os) fun e w'' => e = .returned (.string B) ∧ ∃ p : Regrown, w'' = grow (redrawn W2 p.d) p.os := fun dd os => Calls.regrown_of (HM.out _)
  have e100 : IntKind.i64.wrap (100 + n) = 100 + n := IntWalk.i64_in _ (by omega)
  refine wp_region_quiet_below (l := _) (by kernel_rfl) (by kernel_rfl) ?_
  repeat (first | go_big_quiet_step (first | (go_at_call_of 44 y; exact cY _ _) | (go_at_call_of 44 n; exact cM _ _)))
  refine wpQuiet_nil ?_
  intro w2 hw'
  obtain ⟨⟨dq2, osq2⟩, hw''⟩ := hw'
  have hb2 := below_regrown W2 dq2 osq2
  rw [← hw''] at hb2
  clear hw''
  go_wp2
  go_ret2
  exact ⟨by rw [HX.out]; rfl, HB2.out.trans (hb2.mono HB2.out.size)⟩
set_option maxHeartbeats 400000 in
theorem fText_no (y n : Int) (w : World) (h : ¬ notO y n) :
    Calls Tryd.prog 28 #[.agg #[.int .i64 y, .int .i64 n]] w fun e w' => e = .returned (.tuple #[.string ⟨#[]⟩, .int .i64 16]) ∧ Below w.heap.size w w' := by
  have HI := Lib.hid (fun w => hasNotation_any y n w)
  rw [decide_eq_false h] at HI
  clear h
  go_enter Tryd.func28, Tryd.ntmps28
  go_wp2_with fail
  have P0_3 := Lib.hid (show Cell2 (w.alloc (Obj.cells #[(.int .i64 y), (.int .i64 n)] 25)) (w.heap.size) (.int .i64 y) (.int .i64 n) from by simpa using Cell2.alloc w (.int .i64 y) (.int .i64 n) 25)
  have HB3 := Lib.hid ((Below.refl w.heap.size w).alloc (Nat.le_refl _) (Obj.cells #[(.int .i64 y), (.int .i64 n)] 25))
  generalize (w.alloc (Obj.cells #[(.int .i64 y), (.int .i64 n)] 25)) = W3 at *
  refine (HI.out _).mono ?_
  rintro e W4 ⟨rfl, hb4⟩
  have HB4 := Lib.hid (HB3.out.trans ((hb4).mono HB3.out.size))
  have P0_4 := Lib.hid (P0_3.out.below (hb4) P0_3.out.lt)
  clear HB3 P0_3 hb4
  go_wp2
  go_ret2
  exact ⟨rfl, HB4.out⟩

/-- what Parse returns. -/
def ptO (s : ByteArray) : Prop := s.size = 7 ∧ s.toList[4]? = some 45 ∧ rdO (s.extract 0 4) = true ∧ rdO (s.extract 5 7) = true
instance (s : ByteArray) : Decidable (ptO s) := by unfold ptO; infer_instance
def ptX (s : ByteArray) : Prop := notO (rdV (s.extract 0 4)) (rdV (s.extract 5 7))
instance (s : ByteArray) : Decidable (ptX s) := by unfold ptX; infer_instance
def ptY (s : ByteArray) : Int := if ptO s ∧ ptX s then rdV (s.extract 0 4) else 0
def ptN (s : ByteArray) : Int := if ptO s ∧ ptX s then rdV (s.extract 5 7) else 0
def ptE (s : ByteArray) : Int := if ptO s then (if ptX s then 0 else 16) else 5
theorem pt_form {s : ByteArray} (h : ¬ ptO s) : ptY s = 0 ∧ ptN s = 0 ∧ ptE s = 5 := by unfold ptY ptN ptE; simp [h]
theorem pt_no {s : ByteArray} (h : ptO s) (h2 : ¬ ptX s) : ptY s = 0 ∧ ptN s = 0 ∧ ptE s = 16 := by unfold ptY ptN ptE; simp [h, h2]
theorem pt_yes {s : ByteArray} (h : ptO s) (h2 : ptX s) : ptY s = rdV (s.extract 0 4) ∧ ptN s = rdV (s.extract 5 7) ∧ ptE s = 0 := by unfold ptY ptN ptE; simp [h, h2]
theorem rdV_b {s : ByteArray} (h : s.size ≤ 4) : 0 ≤ rdV s ∧ rdV s ≤ 9999 := by
  unfold rdV
  split
  · rename_i hr
    have := dec_small (l := s.toList) hr (by rw [bytes_len]; omega) 4
    rw [List.take_of_length_le (by rw [bytes_len]; omega)] at this
    omega
  · omega

set_option maxHeartbeats 2000000 in
theorem fParse_any (s : ByteArray) (w : World) (hs : s.size ≤ maxLen) :
    Calls Tryd.prog 30 #[.string s] w fun e w' => e = .returned (.tuple #[.agg #[.int .i64 (ptY s), .int .i64 (ptN s)], .int .i64 (ptE s)]) ∧ Below w.heap.size w w' := by
  unfold maxLen at hs
  by_cases h1 : s.size = 7
  · have hl : (s.size : Int) = 7 := by omega
    by_cases h2 : s[4] = 45
    · have b2 : (s[4].toNat : Int) = 45 := by rw [h2]; rfl
      have R1 := Lib.hid (fun w => fReadDigits_any (s.extract 0 4) w (by rw [ByteArray.size_extract]; omega))
      have R2 := Lib.hid (fun w => fReadDigits_any (s.extract 5 7) w (by rw [ByteArray.size_extract]; omega))
      have HP := Lib.hid (show ptO s ↔ (rdO (s.extract 0 4) && rdO (s.extract 5 7)) = true by
        unfold ptO
        rw [at_get (by omega), h2]
        simp [h1])
      have HV := Lib.hid (show (¬ ptO s ∧ ptY s = 0 ∧ ptN s = 0 ∧ ptE s = 5) ∨ (ptO s ∧ ((decide (notO (rdV (s.extract 0 4)) (rdV (s.extract 5 7))) = true ∧ ptY s = rdV (s.extract 0 4) ∧ ptN s = rdV (s.extract 5 7) ∧ ptE s = 0) ∨ (decide (notO (rdV (s.extract 0 4)) (rdV (s.extract 5 7))) = false ∧ ptY s = 0 ∧ ptN s = 0 ∧ ptE s = 16))) from by
        by_cases h : ptO s
        · right
          by_cases k : ptX s
          · exact ⟨h, .inl ⟨decide_eq_true k, pt_yes h k⟩⟩
          · exact ⟨h, .inr ⟨decide_eq_false k, pt_no h k⟩⟩
        · exact .inl ⟨h, pt_form h⟩)
      have HN := Lib.hid (fun w => hasNotation_any (rdV (s.extract 0 4)) (rdV (s.extract 5 7)) w)
      generalize decide (notO (rdV (s.extract 0 4)) (rdV (s.extract 5 7))) = NB at *
      generalize rdV (s.extract 0 4) = V1 at *
      generalize rdV (s.extract 5 7) = V2 at *
      generalize rdO (s.extract 0 4) = O1 at *
      generalize rdO (s.extract 5 7) = O2 at *
      generalize ptY s = Y at *
      generalize ptN s = N at *
      generalize ptE s = E at *
      go_enter Tryd.func30, Tryd.ntmps30
      go_wp2_with fail
      have P0_5 := Lib.hid (show Cell2 (w.alloc (Obj.cells #[(.int .i64 0), (.int .i64 0)] 25)) (w.heap.size) (.int .i64 0) (.int .i64 0) from by simpa using Cell2.alloc w (.int .i64 0) (.int .i64 0) 25)
      have HB5 := Lib.hid ((Below.refl w.heap.size w).alloc (Nat.le_refl _) (Obj.cells #[(.int .i64 0), (.int .i64 0)] 25))
      generalize (w.alloc (Obj.cells #[(.int .i64 0), (.int .i64 0)] 25)) = W5 at *
      refine (R1.out _).mono ?_
      rintro e w_ ⟨rfl, rfl⟩
      go_wp2_with fail
      refine (R2.out _).mono ?_
      rintro e w_ ⟨rfl, rfl⟩
      clear R1 R2
      have lP0_5 := P0_5.out.lt
      have cP0_5_0 := P0_5.out.c0
      have cP0_5_1 := P0_5.out.c1
      have fP0_5_0 := P0_5.out.f0
      have fP0_5_1 := P0_5.out.f1
      cases O1
      · rcases HV.out with ⟨k, rfl, rfl, rfl⟩ | ⟨k, _⟩
        · go_wp2
          refine bodyPost_ret (v := .tuple #[.agg #[(.int .i64 0), (.int .i64 0)], .int .i64 5]) ?_ rfl ⟨rfl, ((HB5.out.setCell (p := ⟨w.heap.size, 0, none⟩) (by simp) (.int .i64 0)).setCell (p := ⟨w.heap.size, 1, none⟩) (by simp) (.int .i64 0))⟩
          have u0 := ((P0_5.out.set0 (.int .i64 0)).set1 (.int .i64 0)).c0
          have u1 := ((P0_5.out.set0 (.int .i64 0)).set1 (.int .i64 0)).c1
          rw [results_cell_tmp rfl]
          go_simp
        · exact absurd (HP.out.1 k) (by simp)
      · cases O2
        · rcases HV.out with ⟨k, rfl, rfl, rfl⟩ | ⟨k, _⟩
          · go_wp2
            refine bodyPost_ret (v := .tuple #[.agg #[(.int .i64 0), (.int .i64 0)], .int .i64 5]) ?_ rfl ⟨rfl, ((HB5.out.setCell (p := ⟨w.heap.size, 0, none⟩) (by simp) (.int .i64 0)).setCell (p := ⟨w.heap.size, 1, none⟩) (by simp) (.int .i64 0))⟩
            have u0 := ((P0_5.out.set0 (.int .i64 0)).set1 (.int .i64 0)).c0
            have u1 := ((P0_5.out.set0 (.int .i64 0)).set1 (.int .i64 0)).c1
            rw [results_cell_tmp rfl]
            go_simp
          · exact absurd (HP.out.1 k) (by simp)
        · have P0_6 := Lib.hid (P0_5.out.set0 (.int .i64 V1))
          have HB6 := Lib.hid (HB5.out.setCell (p := ⟨w.heap.size, 0, none⟩) (by simp <;> omega) (.int .i64 V1))
          have P0_7 := Lib.hid (P0_6.out.set1 (.int .i64 V2))
          have HB7 := Lib.hid (HB6.out.setCell (p := ⟨w.heap.size, 1, none⟩) (by simp <;> omega) (.int .i64 V2))
          have lP0_7 := P0_7.out.lt
          have cP0_7_0 := P0_7.out.c0
          have cP0_7_1 := P0_7.out.c1
          have fP0_7_0 := P0_7.out.f0
          have fP0_7_1 := P0_7.out.f1
          go_wp2_with fail
          clear lP0_5 cP0_5_0 cP0_5_1 fP0_5_0 fP0_5_1 lP0_7 cP0_7_0 cP0_7_1 fP0_7_0 fP0_7_1
          clear P0_5 HB5 P0_6 HB6
          generalize (W5.setCell ⟨w.heap.size, 0, none⟩ (.int .i64 V1)).setCell ⟨w.heap.size, 1, none⟩ (.int .i64 V2) = W8 at *
          refine (HN.out _).mono ?_
          rintro e W9 ⟨rfl, hb9⟩
          have HB9 := Lib.hid (HB7.out.trans ((hb9).mono HB7.out.size))
          have P0_9 := Lib.hid (P0_7.out.below (hb9) P0_7.out.lt)
          clear HB7 P0_7 hb9
          have lP0_9 := P0_9.out.lt
          have cP0_9_0 := P0_9.out.c0
          have cP0_9_1 := P0_9.out.c1
          have fP0_9_0 := P0_9.out.f0
          have fP0_9_1 := P0_9.out.f1
          rcases HV.out with ⟨k, _⟩ | ⟨_, ⟨rfl, g1, g2, rfl⟩ | ⟨rfl, rfl, rfl, rfl⟩⟩
          · exact absurd (HP.out.2 rfl) k
          · have g3 := g1.symm
            have g4 := g2.symm
            clear HV g1 g2
            subst g3
            subst g4
            go_wp2
            refine bodyPost_ret (v := .tuple #[.agg #[(.int .i64 V1), (.int .i64 V2)], .int .i64 0]) ?_ rfl ⟨rfl, ((HB9.out.setCell (p := ⟨w.heap.size, 0, none⟩) (by simp) (.int .i64 V1)).setCell (p := ⟨w.heap.size, 1, none⟩) (by simp) (.int .i64 V2))⟩
            have u0 := ((P0_9.out.set0 (.int .i64 V1)).set1 (.int .i64 V2)).c0
            have u1 := ((P0_9.out.set0 (.int .i64 V1)).set1 (.int .i64 V2)).c1
            rw [results_cell_tmp rfl]
            go_simp
          · go_wp2
            refine bodyPost_ret (v := .tuple #[.agg #[(.int .i64 0), (.int .i64 0)], .int .i64 16]) ?_ rfl ⟨rfl, ((HB9.out.setCell (p := ⟨w.heap.size, 0, none⟩) (by simp) (.int .i64 0)).setCell (p := ⟨w.heap.size, 1, none⟩) (by simp) (.int .i64 0))⟩
            have u0 := ((P0_9.out.set0 (.int .i64 0)).set1 (.int .i64 0)).c0
            have u1 := ((P0_9.out.set0 (.int .i64 0)).set1 (.int .i64 0)).c1
            rw [results_cell_tmp rfl]
            go_simp
    · obtain ⟨g1, g2, g3⟩ := pt_form (s := s) (by unfold ptO; rw [at_get (by omega)]; simp [h2])
      rw [g1, g2, g3]
      clear g1 g2 g3
      have b2 : ¬ (s[4].toNat : Int) = 45 := fun h => h2 (byte45.1 h)
      go_enter Tryd.func30, Tryd.ntmps30
      go_wp2
      refine bodyPost_ret (v := .tuple #[.agg #[.int .i64 0, .int .i64 0], .int .i64 5]) ?_ rfl ⟨rfl, (Below.refl _ _).alloc (Nat.le_refl _) _⟩
      rw [results_cell_tmp rfl]
      go_simp
  · obtain ⟨g1, g2, g3⟩ := pt_form (s := s) (by unfold ptO; simp [h1])
    rw [g1, g2, g3]
    clear g1 g2 g3
    have hl : ¬ (s.size : Int) = 7 := by omega
    go_enter Tryd.func30, Tryd.ntmps30
    go_wp2
    refine bodyPost_ret (v := .tuple #[.agg #[.int .i64 0, .int .i64 0], .int .i64 5]) ?_ rfl ⟨rfl, (Below.refl _ _).alloc (Nat.le_refl _) _⟩
    rw [results_cell_tmp rfl]
    go_simp
end Go.Proofs.YtaibjmdfkahjjaaDoor
