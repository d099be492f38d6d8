/- The chapter's examples hold. -/
import Derived.Test.YtaibjmdfkahjjaaDoorFsE
import Derived.Test.YtaibjmdfkahjjaaDoorFsF
import Derived.Test.YtaibjmdfkahjjaaDoorFsK
import Derived.Test.YtaibjmdfkahjjaaDoorFsV
namespace Go.Proofs.YtaibjmdfkahjjaaDoor
open Go.RowKit Go.Sort
set_option linter.unusedVariables false

theorem cal4 : calO 4 := by decide
theorem fdA : fdM 4 2026 0 = 46111 := by
  have v : Valid 2026 4 1 := by decide
  rw [← fdM_of cal4 (by decide) (by decide) (by decide), show myV 4 2026 0 = 2026 by decide, show mmV 4 0 = 4 by decide, ofN_year v]; decide
theorem fdB : fdM 4 2026 1 = 46141 := by
  have v : Valid 2026 5 1 := by decide
  rw [← fdM_of cal4 (by decide) (by decide) (by decide), show myV 4 2026 1 = 2026 by decide, show mmV 4 1 = 5 by decide, ofN_year v]; decide
theorem fdC : fdM 4 2026 12 = 46476 := by
  have v : Valid 2027 4 1 := by decide
  rw [← fdM_of cal4 (by decide) (by decide) (by decide), show myV 4 2026 12 = 2027 by decide, show mmV 4 12 = 4 by decide, ofN_year v]; decide
theorem dA : IsDate 46110 2026 3 31 := by
  have v : Valid 2026 3 31 := by decide
  exact ⟨v, by rw [ofN_year v]; decide⟩
theorem dB : IsDate 46475 2027 3 31 := by
  have v : Valid 2027 3 31 := by decide
  exact ⟨v, by rw [ofN_year v]; decide⟩
theorem dC : IsDate 0 1900 1 1 := by
  have v : Valid 1900 1 1 := by decide
  exact ⟨v, by rw [ofN_year v]; decide⟩
theorem lvS : (perS 2025 12).toList = [50, 48, 50, 53, 45, 49, 50] := by
  unfold perS twoD
  rw [app_list, app_list, textS_list]
  unfold text
  rw [if_neg (by decide)]
  simp [dg]
theorem lvP : ptE ⟨#[50, 48, 50, 54, 45, 49, 52]⟩ = 16 := by
  have hl : (⟨#[50, 48, 50, 54, 45, 49, 52]⟩ : ByteArray).toList = [50, 48, 50, 54, 45, 49, 52] := toList_mk [50, 48, 50, 54, 45, 49, 52]
  have h1 : rdO ((⟨#[50, 48, 50, 54, 45, 49, 52]⟩ : ByteArray).extract 0 4) = true := by unfold rdO; rw [ext_list, hl]; decide
  have h2 : rdO ((⟨#[50, 48, 50, 54, 45, 49, 52]⟩ : ByteArray).extract 5 7) = true := by unfold rdO; rw [ext_list, hl]; decide
  refine (pt_no ⟨rfl, by rw [hl]; rfl, h1, h2⟩ ?_).2.2
  unfold ptX rdV
  rw [if_pos h1, if_pos h2, ext_list, ext_list, hl]
  decide

set_option maxHeartbeats 4000000 in
theorem lives_any (w : World) (ht : Tab w) :
    Calls Tryd.prog 15 #[] w fun e w' => e = .returned (.bool true) ∧ Below w.heap.size w w' := by
  have H1 := Lib.hid (fun w ht => fSpan_any 4 2026 1 w ht (by omega) (by omega))
  have s1 := spa_yes (f := 4) (y := 2026) (n := 1) cal4 (by decide)
  rw [s1.1, s1.2.1, s1.2.2, (sp_n (by decide)).1, (sp_n (by decide)).2, show (1 : Int) - 1 = 0 by decide, fdA, fdB] at H1
  have H2 := Lib.hid (fun w ht => fSpan_any 4 2026 13 w ht (by omega) (by omega))
  have s2 := spa_yes (f := 4) (y := 2026) (n := 13) cal4 (by decide)
  rw [s2.1, s2.2.1, s2.2.2, sp_13.1, sp_13.2, fdC] at H2
  have H3 := Lib.hid (fun w ht => fOf_any 4 46110 2026 3 31 w ht cal4 dA)
  have o3 := of_yes (f := 4) (Y := 2026) (M := 3) (by decide)
  rw [o3.1, o3.2.1, o3.2.2, show pyV 4 2026 3 = 2025 by decide, show pnV 4 3 = 12 by decide] at H3
  have o4 := of_yes (f := 4) (Y := 2027) (M := 3) (by decide)
  have h4 : OfSays 4 46475 2026 12 0 := fun w ht => by
    have := fOf_any 4 46475 2027 3 31 w ht cal4 dB
    rw [o4.1, o4.2.1, o4.2.2, show pyV 4 2027 3 = 2026 by decide, show pnV 4 3 = 12 by decide] at this
    exact this
  have H4 := Lib.hid (fun w ht => fFor_ok 4 46475 3 2026 12 w ht h4 cal4 (by decide))
  rw [fdC, show forB (46476 - 1) 46475 3 12 = 13 by decide] at H4
  have H5 := Lib.hid (fun w ht => fOf_any 4 0 1900 1 1 w ht cal4 dC)
  have o5 := of_not (f := 4) (Y := 1900) (M := 1) (by decide)
  rw [o5.1, o5.2.1, o5.2.2] at H5
  have H6 := Lib.hid (fun w ht => fNext_a 4 2026 w ht (by omega) (by omega))
  rw [show twoE 4 2026 13 (2026 + 1) 1 = 0 by decide, show ifOk 0 (2026 + 1) = 2027 by decide, show ifOk 0 1 = 1 by decide] at H6
  have H7 := Lib.hid (fun w ht => fCount_any 4 2026 1 2027 1 w ht (by omega) (by omega) (by omega) (by omega))
  rw [show twoE 4 2026 1 2027 1 = 0 by decide, show cntV 4 2026 1 2027 1 = 13 by decide] at H7
  have H8 := Lib.hid (fun w => fText_yes 2025 12 w (by decide))
  have H9 := Lib.hid (fun w => fParse_any ⟨#[50, 48, 50, 54, 45, 49, 52]⟩ w (by decide))
  rw [lvP] at H9
  have hS : ((perS 2025 12).toList == [50, 48, 50, 53, 45, 49, 50]) = true := by rw [lvS]; decide
  have q1 := eqPerYes 2025 12
  have q2 := eqPerYes 2026 13
  have q3 := eqPerYes 2027 1
  clear s1 s2 o3 o4 o5 h4
  generalize perS 2025 12 = S at *
  generalize ptY ⟨#[50, 48, 50, 54, 45, 49, 52]⟩ = PY at *
  generalize ptN ⟨#[50, 48, 50, 54, 45, 49, 52]⟩ = PN at *
  go_enter Tryd.func15, Tryd.ntmps15
  go_wp2_with fail
  have P0_1 := Lib.hid (show Cell1 (w.alloc (Obj.cells #[(.int .i64 4)] 23)) (w.heap.size) (.int .i64 4) from by simpa using Cell1.alloc w (.int .i64 4) 23)
  have HB1 := Lib.hid ((Below.refl w.heap.size w).alloc (Nat.le_refl _) (Obj.cells #[(.int .i64 4)] 23))
  generalize (w.alloc (Obj.cells #[(.int .i64 4)] 23)) = W1 at *
  refine (H1.out _ (ht.below HB1.out)).mono ?_
  rintro e W2 ⟨rfl, hb2⟩
  have HB2 := Lib.hid (HB1.out.trans ((hb2).mono HB1.out.size))
  have P0_2 := Lib.hid (P0_1.out.below (hb2) P0_1.out.lt)
  clear HB1 P0_1 hb2
  have lP0_2 := P0_2.out.lt
  have cP0_2_0 := P0_2.out.c0
  go_wp2_with fail
  clear lP0_2 cP0_2_0
  refine (H2.out _ (ht.below HB2.out)).mono ?_
  rintro e W3 ⟨rfl, hb3⟩
  have HB3 := Lib.hid (HB2.out.trans ((hb3).mono HB2.out.size))
  have P0_3 := Lib.hid (P0_2.out.below (hb3) P0_2.out.lt)
  clear HB2 P0_2 hb3
  have lP0_3 := P0_3.out.lt
  have cP0_3_0 := P0_3.out.c0
  go_wp2_with fail
  clear lP0_3 cP0_3_0
  refine (H3.out _ (ht.below HB3.out)).mono ?_
  rintro e W4 ⟨rfl, hb4⟩
  have HB4 := Lib.hid (HB3.out.trans ((hb4).mono HB3.out.size))
  have P0_4 := Lib.hid (P0_3.out.below (hb4) P0_3.out.lt)
  clear HB3 P0_3 hb4
  have lP0_4 := P0_4.out.lt
  have cP0_4_0 := P0_4.out.c0
  go_wp2_with fail
  have op_P0_4 := P0_4.out.lt
  have p_5 := Lib.hid (show Cell2 (W4.alloc (Obj.cells #[(.int .i64 2025), (.int .i64 12)] 25)) (W4.heap.size) (.int .i64 2025) (.int .i64 12) from by exact Cell2.alloc W4 (.int .i64 2025) (.int .i64 12) 25)
  have HB5 := Lib.hid (HB4.out.trans (((Below.refl W4.heap.size W4).alloc (Nat.le_refl _) (Obj.cells #[(.int .i64 2025), (.int .i64 12)] 25)).mono HB4.out.size))
  have P0_5 := Lib.hid (P0_4.out.below ((Below.refl W4.heap.size W4).alloc (Nat.le_refl _) (Obj.cells #[(.int .i64 2025), (.int .i64 12)] 25)) P0_4.out.lt)
  clear lP0_4 cP0_4_0
  clear HB4 P0_4
  generalize W4.alloc (Obj.cells #[(.int .i64 2025), (.int .i64 12)] 25) = W6 at *
  refine (H4.out _ (ht.below HB5.out)).mono ?_
  rintro e W7 ⟨rfl, hb7⟩
  have HB7 := Lib.hid (HB5.out.trans ((hb7).mono HB5.out.size))
  have P0_7 := Lib.hid (P0_5.out.below (hb7) P0_5.out.lt)
  have p_7 := Lib.hid (p_5.out.below (hb7) p_5.out.lt)
  clear HB5 P0_5 p_5 hb7
  have lP0_7 := P0_7.out.lt
  have cP0_7_0 := P0_7.out.c0
  have lp_7 := p_7.out.lt
  have cp_7_0 := p_7.out.c0
  have cp_7_1 := p_7.out.c1
  go_wp2_with fail
  have oq_P0_7 := P0_7.out.lt
  have oq_p_7 := p_7.out.lt
  have q_8 := Lib.hid (show Cell2 (W7.alloc (Obj.cells #[(.int .i64 2026), (.int .i64 13)] 25)) (W7.heap.size) (.int .i64 2026) (.int .i64 13) from by exact Cell2.alloc W7 (.int .i64 2026) (.int .i64 13) 25)
  have HB8 := Lib.hid (HB7.out.trans (((Below.refl W7.heap.size W7).alloc (Nat.le_refl _) (Obj.cells #[(.int .i64 2026), (.int .i64 13)] 25)).mono HB7.out.size))
  have P0_8 := Lib.hid (P0_7.out.below ((Below.refl W7.heap.size W7).alloc (Nat.le_refl _) (Obj.cells #[(.int .i64 2026), (.int .i64 13)] 25)) P0_7.out.lt)
  have p_8 := Lib.hid (p_7.out.below ((Below.refl W7.heap.size W7).alloc (Nat.le_refl _) (Obj.cells #[(.int .i64 2026), (.int .i64 13)] 25)) p_7.out.lt)
  clear lP0_7 cP0_7_0 lp_7 cp_7_0 cp_7_1
  clear HB7 P0_7 p_7
  generalize W7.alloc (Obj.cells #[(.int .i64 2026), (.int .i64 13)] 25) = W9 at *
  refine (H5.out _ (ht.below HB8.out)).mono ?_
  rintro e W10 ⟨rfl, hb10⟩
  have HB10 := Lib.hid (HB8.out.trans ((hb10).mono HB8.out.size))
  have P0_10 := Lib.hid (P0_8.out.below (hb10) P0_8.out.lt)
  have p_10 := Lib.hid (p_8.out.below (hb10) p_8.out.lt)
  have q_10 := Lib.hid (q_8.out.below (hb10) q_8.out.lt)
  clear HB8 P0_8 p_8 q_8 hb10
  have lP0_10 := P0_10.out.lt
  have cP0_10_0 := P0_10.out.c0
  have lp_10 := p_10.out.lt
  have cp_10_0 := p_10.out.c0
  have cp_10_1 := p_10.out.c1
  have lq_10 := q_10.out.lt
  have cq_10_0 := q_10.out.c0
  have cq_10_1 := q_10.out.c1
  go_wp2_with fail
  have oz_P0_10 := P0_10.out.lt
  have oz_p_10 := p_10.out.lt
  have oz_q_10 := q_10.out.lt
  have z_11 := Lib.hid (show Cell2 (W10.alloc (Obj.cells #[(.int .i64 0), (.int .i64 0)] 25)) (W10.heap.size) (.int .i64 0) (.int .i64 0) from by exact Cell2.alloc W10 (.int .i64 0) (.int .i64 0) 25)
  have HB11 := Lib.hid (HB10.out.trans (((Below.refl W10.heap.size W10).alloc (Nat.le_refl _) (Obj.cells #[(.int .i64 0), (.int .i64 0)] 25)).mono HB10.out.size))
  have P0_11 := Lib.hid (P0_10.out.below ((Below.refl W10.heap.size W10).alloc (Nat.le_refl _) (Obj.cells #[(.int .i64 0), (.int .i64 0)] 25)) P0_10.out.lt)
  have p_11 := Lib.hid (p_10.out.below ((Below.refl W10.heap.size W10).alloc (Nat.le_refl _) (Obj.cells #[(.int .i64 0), (.int .i64 0)] 25)) p_10.out.lt)
  have q_11 := Lib.hid (q_10.out.below ((Below.refl W10.heap.size W10).alloc (Nat.le_refl _) (Obj.cells #[(.int .i64 0), (.int .i64 0)] 25)) q_10.out.lt)
  clear lP0_10 cP0_10_0 lp_10 cp_10_0 cp_10_1 lq_10 cq_10_0 cq_10_1
  clear HB10 P0_10 p_10 q_10
  generalize W10.alloc (Obj.cells #[(.int .i64 0), (.int .i64 0)] 25) = W12 at *
  refine (H6.out _ (ht.below HB11.out)).mono ?_
  rintro e W13 ⟨rfl, hb13⟩
  have HB13 := Lib.hid (HB11.out.trans ((hb13).mono HB11.out.size))
  have P0_13 := Lib.hid (P0_11.out.below (hb13) P0_11.out.lt)
  have p_13 := Lib.hid (p_11.out.below (hb13) p_11.out.lt)
  have q_13 := Lib.hid (q_11.out.below (hb13) q_11.out.lt)
  clear HB11 P0_11 p_11 q_11 hb13
  have lP0_13 := P0_13.out.lt
  have cP0_13_0 := P0_13.out.c0
  have lp_13 := p_13.out.lt
  have cp_13_0 := p_13.out.c0
  have cp_13_1 := p_13.out.c1
  have lq_13 := q_13.out.lt
  have cq_13_0 := q_13.out.c0
  have cq_13_1 := q_13.out.c1
  go_wp2_with fail
  have on_P0_13 := P0_13.out.lt
  have on_p_13 := p_13.out.lt
  have on_q_13 := q_13.out.lt
  have n_14 := Lib.hid (show Cell2 (W13.alloc (Obj.cells #[(.int .i64 2027), (.int .i64 1)] 25)) (W13.heap.size) (.int .i64 2027) (.int .i64 1) from by exact Cell2.alloc W13 (.int .i64 2027) (.int .i64 1) 25)
  have HB14 := Lib.hid (HB13.out.trans (((Below.refl W13.heap.size W13).alloc (Nat.le_refl _) (Obj.cells #[(.int .i64 2027), (.int .i64 1)] 25)).mono HB13.out.size))
  have P0_14 := Lib.hid (P0_13.out.below ((Below.refl W13.heap.size W13).alloc (Nat.le_refl _) (Obj.cells #[(.int .i64 2027), (.int .i64 1)] 25)) P0_13.out.lt)
  have p_14 := Lib.hid (p_13.out.below ((Below.refl W13.heap.size W13).alloc (Nat.le_refl _) (Obj.cells #[(.int .i64 2027), (.int .i64 1)] 25)) p_13.out.lt)
  have q_14 := Lib.hid (q_13.out.below ((Below.refl W13.heap.size W13).alloc (Nat.le_refl _) (Obj.cells #[(.int .i64 2027), (.int .i64 1)] 25)) q_13.out.lt)
  clear lP0_13 cP0_13_0 lp_13 cp_13_0 cp_13_1 lq_13 cq_13_0 cq_13_1
  clear HB13 P0_13 p_13 q_13
  generalize W13.alloc (Obj.cells #[(.int .i64 2027), (.int .i64 1)] 25) = W15 at *
  refine (H7.out _ (ht.below HB14.out)).mono ?_
  rintro e W16 ⟨rfl, hb16⟩
  have HB16 := Lib.hid (HB14.out.trans ((hb16).mono HB14.out.size))
  have P0_16 := Lib.hid (P0_14.out.below (hb16) P0_14.out.lt)
  have p_16 := Lib.hid (p_14.out.below (hb16) p_14.out.lt)
  have q_16 := Lib.hid (q_14.out.below (hb16) q_14.out.lt)
  have n_16 := Lib.hid (n_14.out.below (hb16) n_14.out.lt)
  clear HB14 P0_14 p_14 q_14 n_14 hb16
  have lP0_16 := P0_16.out.lt
  have cP0_16_0 := P0_16.out.c0
  have lp_16 := p_16.out.lt
  have cp_16_0 := p_16.out.c0
  have cp_16_1 := p_16.out.c1
  have lq_16 := q_16.out.lt
  have cq_16_0 := q_16.out.c0
  have cq_16_1 := q_16.out.c1
  have ln_16 := n_16.out.lt
  have cn_16_0 := n_16.out.c0
  have cn_16_1 := n_16.out.c1
  go_wp2_with fail
  clear lP0_16 cP0_16_0 lp_16 cp_16_0 cp_16_1 lq_16 cq_16_0 cq_16_1 ln_16 cn_16_0 cn_16_1
  refine (H8.out _).mono ?_
  rintro e W17 ⟨rfl, hb17⟩
  have HB17 := Lib.hid (HB16.out.trans ((hb17).mono HB16.out.size))
  have P0_17 := Lib.hid (P0_16.out.below (hb17) P0_16.out.lt)
  have p_17 := Lib.hid (p_16.out.below (hb17) p_16.out.lt)
  have q_17 := Lib.hid (q_16.out.below (hb17) q_16.out.lt)
  have n_17 := Lib.hid (n_16.out.below (hb17) n_16.out.lt)
  clear HB16 P0_16 p_16 q_16 n_16 hb17
  have lP0_17 := P0_17.out.lt
  have cP0_17_0 := P0_17.out.c0
  have lp_17 := p_17.out.lt
  have cp_17_0 := p_17.out.c0
  have cp_17_1 := p_17.out.c1
  have lq_17 := q_17.out.lt
  have cq_17_0 := q_17.out.c0
  have cq_17_1 := q_17.out.c1
  have ln_17 := n_17.out.lt
  have cn_17_0 := n_17.out.c0
  have cn_17_1 := n_17.out.c1
  go_wp2_with fail
  clear lP0_17 cP0_17_0 lp_17 cp_17_0 cp_17_1 lq_17 cq_17_0 cq_17_1 ln_17 cn_17_0 cn_17_1
  refine (H9.out _).mono ?_
  rintro e W18 ⟨rfl, hb18⟩
  have HB18 := Lib.hid (HB17.out.trans ((hb18).mono HB17.out.size))
  have P0_18 := Lib.hid (P0_17.out.below (hb18) P0_17.out.lt)
  have p_18 := Lib.hid (p_17.out.below (hb18) p_17.out.lt)
  have q_18 := Lib.hid (q_17.out.below (hb18) q_17.out.lt)
  have n_18 := Lib.hid (n_17.out.below (hb18) n_17.out.lt)
  clear HB17 P0_17 p_17 q_17 n_17 hb18
  have lP0_18 := P0_18.out.lt
  have cP0_18_0 := P0_18.out.c0
  have lp_18 := p_18.out.lt
  have cp_18_0 := p_18.out.c0
  have cp_18_1 := p_18.out.c1
  have lq_18 := q_18.out.lt
  have cq_18_0 := q_18.out.c0
  have cq_18_1 := q_18.out.c1
  have ln_18 := n_18.out.lt
  have cn_18_0 := n_18.out.c0
  have cn_18_1 := n_18.out.c1
  go_wp2
  go_ret
  exact ⟨rfl, HB18.out.alloc HB18.out.size _⟩
end Go.Proofs.YtaibjmdfkahjjaaDoor
