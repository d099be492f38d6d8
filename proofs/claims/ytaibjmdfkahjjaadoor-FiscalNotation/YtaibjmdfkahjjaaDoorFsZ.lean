/- The statements FiscalContains, FiscalNotation and FiscalCounts of package accountinglaw05. -/
import Derived.Test.YtaibjmdfkahjjaaDoorFsY
namespace Go.Proofs.YtaibjmdfkahjjaaDoor
open Go.RowKit Go.Sort
set_option linter.unusedVariables false

set_option maxHeartbeats 4000000 in
theorem fiscalContains_walk (f n k : Int) (w : World) (ht : Tab w) (wf : (Lit.int .i64 f).wf = true) (wn : (Lit.int .i64 n).wf = true) (wk : (Lit.int .i64 k).wf = true) :
    Calls Tryd.prog 7 #[.agg #[.int .i64 f], .int .i64 n, .int .i64 k] w fun e w' => e = .returned (.bool true) ∧ Below w.heap.size w w' := by
  obtain ⟨n1, n2⟩ := i64_bd wn
  obtain ⟨a, b, e, b', hx, h1, _, h3, _⟩ := fof_ex f n k n1 n2
  have H1 := Lib.hid h1
  have H3 := Lib.hid h3
  have H5 := Lib.hid (fun w ht => lives_any w ht)
  clear h1 h3
  rcases hx with ⟨rfl, hf, ha, hb1, hb2, hs1, hs2, hb', hl⟩ | ⟨he, rfl, rfl, rfl⟩
  · have ha2 := ha.le hf
    have H2 := Lib.hid (fun w ht => fSpan_any f a b w ht (by omega) (by omega))
    have s1 := spa_yes hf (⟨hb1, by omega, ha⟩ : perO f a b)
    rw [s1.1, s1.2.1, s1.2.2, (sp_n (by omega)).1, (sp_n (by omega)).2] at H2
    have u := fdM_b (f := f) (y := a) (j := b) hf (by omega) (by omega) (by omega) (by omega)
    obtain ⟨u1, u2⟩ := u
    clear s1
    by_cases hk : (k = 3 ∨ k = 4) ∧ n = fdM f a 12 - 1
    · have e13 := forB_13 (b := b) hk.1 hk.2
      rw [e13] at hb'
      subst hb'
      obtain rfl := hl hk.2
      have H4 := Lib.hid (fun w ht => fSpan_any f a 13 w ht (by omega) (by omega))
      have s2 := spa_yes hf (⟨by omega, by omega, ha⟩ : perO f a 13)
      rw [s2.1, s2.2.1, s2.2.2, sp_13.1, sp_13.2] at H4
      obtain ⟨hk1, hk2⟩ := hk
      have HK := Lib.hid hk1
      have q1 := fun w => eqPerNo (a := a) (b := 12) (x := a) (y := 13) (by omega) w
      clear s2 e13 hl hk1 hf ha
      generalize fdM f a (12 - 1) = A1 at *
      generalize fdM f a 12 = A2 at *
      subst hk2
      go_enter Tryd.func7, Tryd.ntmps7
      go_wp2_with fail
      have P0_1 := Lib.hid (show Cell1 (w.alloc (Obj.cells #[(.int .i64 f)] 23)) (w.heap.size) (.int .i64 f) from by simpa using Cell1.alloc w (.int .i64 f) 23)
      have HB1 := Lib.hid ((Below.refl w.heap.size w).alloc (Nat.le_refl _) (Obj.cells #[(.int .i64 f)] 23))
      generalize (w.alloc (Obj.cells #[(.int .i64 f)] 23)) = W1 at *
      refine (H1.out _ (ht.below HB1.out)).mono ?_
      rintro e W2 ⟨rfl, hb2⟩
      have HB2 := Lib.hid (HB1.out.trans ((hb2).mono HB1.out.size))
      have P0_2 := Lib.hid (P0_1.out.below (hb2) P0_1.out.lt)
      clear HB1 P0_1 hb2
      have lP0_2 := P0_2.out.lt
      have cP0_2_0 := P0_2.out.c0
      go_wp2_with fail
      have op_P0_2 := P0_2.out.lt
      have p_3 := Lib.hid (show Cell2 (W2.alloc (Obj.cells #[(.int .i64 a), (.int .i64 12)] 25)) (W2.heap.size) (.int .i64 a) (.int .i64 12) from by exact Cell2.alloc W2 (.int .i64 a) (.int .i64 12) 25)
      have HB3 := Lib.hid (HB2.out.trans (((Below.refl W2.heap.size W2).alloc (Nat.le_refl _) (Obj.cells #[(.int .i64 a), (.int .i64 12)] 25)).mono HB2.out.size))
      have P0_3 := Lib.hid (P0_2.out.below ((Below.refl W2.heap.size W2).alloc (Nat.le_refl _) (Obj.cells #[(.int .i64 a), (.int .i64 12)] 25)) P0_2.out.lt)
      clear lP0_2 cP0_2_0
      clear HB2 P0_2
      generalize W2.alloc (Obj.cells #[(.int .i64 a), (.int .i64 12)] 25) = W4 at *
      refine (H3.out _ (ht.below HB3.out)).mono ?_
      rintro e W5 ⟨rfl, hb5⟩
      have HB5 := Lib.hid (HB3.out.trans ((hb5).mono HB3.out.size))
      have P0_5 := Lib.hid (P0_3.out.below (hb5) P0_3.out.lt)
      have p_5 := Lib.hid (p_3.out.below (hb5) p_3.out.lt)
      clear HB3 P0_3 p_3 hb5
      have lP0_5 := P0_5.out.lt
      have cP0_5_0 := P0_5.out.c0
      have lp_5 := p_5.out.lt
      have cp_5_0 := p_5.out.c0
      have cp_5_1 := p_5.out.c1
      go_wp2_with fail
      have oq_P0_5 := P0_5.out.lt
      have oq_p_5 := p_5.out.lt
      have q_6 := Lib.hid (show Cell2 (W5.alloc (Obj.cells #[(.int .i64 a), (.int .i64 13)] 25)) (W5.heap.size) (.int .i64 a) (.int .i64 13) from by exact Cell2.alloc W5 (.int .i64 a) (.int .i64 13) 25)
      have HB6 := Lib.hid (HB5.out.trans (((Below.refl W5.heap.size W5).alloc (Nat.le_refl _) (Obj.cells #[(.int .i64 a), (.int .i64 13)] 25)).mono HB5.out.size))
      have P0_6 := Lib.hid (P0_5.out.below ((Below.refl W5.heap.size W5).alloc (Nat.le_refl _) (Obj.cells #[(.int .i64 a), (.int .i64 13)] 25)) P0_5.out.lt)
      have p_6 := Lib.hid (p_5.out.below ((Below.refl W5.heap.size W5).alloc (Nat.le_refl _) (Obj.cells #[(.int .i64 a), (.int .i64 13)] 25)) p_5.out.lt)
      clear lP0_5 cP0_5_0 lp_5 cp_5_0 cp_5_1
      clear HB5 P0_5 p_5
      generalize W5.alloc (Obj.cells #[(.int .i64 a), (.int .i64 13)] 25) = W7 at *
      refine (H2.out _ (ht.below HB6.out)).mono ?_
      rintro e W8 ⟨rfl, hb8⟩
      have HB8 := Lib.hid (HB6.out.trans ((hb8).mono HB6.out.size))
      have P0_8 := Lib.hid (P0_6.out.below (hb8) P0_6.out.lt)
      have p_8 := Lib.hid (p_6.out.below (hb8) p_6.out.lt)
      have q_8 := Lib.hid (q_6.out.below (hb8) q_6.out.lt)
      clear HB6 P0_6 p_6 q_6 hb8
      have lP0_8 := P0_8.out.lt
      have cP0_8_0 := P0_8.out.c0
      have lp_8 := p_8.out.lt
      have cp_8_0 := p_8.out.c0
      have cp_8_1 := p_8.out.c1
      have lq_8 := q_8.out.lt
      have cq_8_0 := q_8.out.c0
      have cq_8_1 := q_8.out.c1
      go_wp2_with fail
      clear lP0_8 cP0_8_0 lp_8 cp_8_0 cp_8_1 lq_8 cq_8_0 cq_8_1
      refine (H4.out _ (ht.below HB8.out)).mono ?_
      rintro e W9 ⟨rfl, hb9⟩
      have HB9 := Lib.hid (HB8.out.trans ((hb9).mono HB8.out.size))
      have P0_9 := Lib.hid (P0_8.out.below (hb9) P0_8.out.lt)
      have p_9 := Lib.hid (p_8.out.below (hb9) p_8.out.lt)
      have q_9 := Lib.hid (q_8.out.below (hb9) q_8.out.lt)
      clear HB8 P0_8 p_8 q_8 hb9
      have lP0_9 := P0_9.out.lt
      have cP0_9_0 := P0_9.out.c0
      have lp_9 := p_9.out.lt
      have cp_9_0 := p_9.out.c0
      have cp_9_1 := p_9.out.c1
      have lq_9 := q_9.out.lt
      have cq_9_0 := q_9.out.c0
      have cq_9_1 := q_9.out.c1
      rcases HK.out with rfl | rfl
      · clear HK
        go_wp2_with fail
        clear lP0_9 cP0_9_0 lp_9 cp_9_0 cp_9_1 lq_9 cq_9_0 cq_9_1
        refine (H5.out _ (ht.below HB9.out)).mono ?_
        rintro e W10 ⟨rfl, hb10⟩
        have HB10 := Lib.hid (HB9.out.trans ((hb10).mono HB9.out.size))
        have P0_10 := Lib.hid (P0_9.out.below (hb10) P0_9.out.lt)
        have p_10 := Lib.hid (p_9.out.below (hb10) p_9.out.lt)
        have q_10 := Lib.hid (q_9.out.below (hb10) q_9.out.lt)
        clear HB9 P0_9 p_9 q_9 hb10
        go_wp2
        go_ret
        exact ⟨rfl, HB10.out⟩
      · clear HK
        go_wp2_with fail
        clear lP0_9 cP0_9_0 lp_9 cp_9_0 cp_9_1 lq_9 cq_9_0 cq_9_1
        refine (H5.out _ (ht.below HB9.out)).mono ?_
        rintro e W11 ⟨rfl, hb11⟩
        have HB11 := Lib.hid (HB9.out.trans ((hb11).mono HB9.out.size))
        have P0_11 := Lib.hid (P0_9.out.below (hb11) P0_9.out.lt)
        have p_11 := Lib.hid (p_9.out.below (hb11) p_9.out.lt)
        have q_11 := Lib.hid (q_9.out.below (hb11) q_9.out.lt)
        clear HB9 P0_9 p_9 q_9 hb11
        go_wp2
        go_ret
        exact ⟨rfl, HB11.out⟩
    · have eno := forB_no (R := fdM f a 12 - 1) (n := n) (k := k) (b := b) (by by_cases h : k = 3 ∨ k = 4; exact .inr (fun x => hk ⟨h, x⟩); exact .inl h)
      rw [eno] at hb'
      subst hb'
      have q1 := eqPerYes a b'
      clear eno hl hk hf ha
      generalize fdM f a (b' - 1) = A1 at *
      generalize fdM f a b' = A2 at *
      go_enter Tryd.func7, Tryd.ntmps7
      go_wp2_with fail
      have P0_12 := Lib.hid (show Cell1 (w.alloc (Obj.cells #[(.int .i64 f)] 23)) (w.heap.size) (.int .i64 f) from by simpa using Cell1.alloc w (.int .i64 f) 23)
      have HB12 := Lib.hid ((Below.refl w.heap.size w).alloc (Nat.le_refl _) (Obj.cells #[(.int .i64 f)] 23))
      generalize (w.alloc (Obj.cells #[(.int .i64 f)] 23)) = W12 at *
      refine (H1.out _ (ht.below HB12.out)).mono ?_
      rintro e W13 ⟨rfl, hb13⟩
      have HB13 := Lib.hid (HB12.out.trans ((hb13).mono HB12.out.size))
      have P0_13 := Lib.hid (P0_12.out.below (hb13) P0_12.out.lt)
      clear HB12 P0_12 hb13
      have lP0_13 := P0_13.out.lt
      have cP0_13_0 := P0_13.out.c0
      go_wp2_with fail
      have op_P0_13 := P0_13.out.lt
      have p_14 := Lib.hid (show Cell2 (W13.alloc (Obj.cells #[(.int .i64 a), (.int .i64 b')] 25)) (W13.heap.size) (.int .i64 a) (.int .i64 b') from by exact Cell2.alloc W13 (.int .i64 a) (.int .i64 b') 25)
      have HB14 := Lib.hid (HB13.out.trans (((Below.refl W13.heap.size W13).alloc (Nat.le_refl _) (Obj.cells #[(.int .i64 a), (.int .i64 b')] 25)).mono HB13.out.size))
      have P0_14 := Lib.hid (P0_13.out.below ((Below.refl W13.heap.size W13).alloc (Nat.le_refl _) (Obj.cells #[(.int .i64 a), (.int .i64 b')] 25)) P0_13.out.lt)
      clear lP0_13 cP0_13_0
      clear HB13 P0_13
      generalize W13.alloc (Obj.cells #[(.int .i64 a), (.int .i64 b')] 25) = W15 at *
      refine (H3.out _ (ht.below HB14.out)).mono ?_
      rintro e W16 ⟨rfl, hb16⟩
      have HB16 := Lib.hid (HB14.out.trans ((hb16).mono HB14.out.size))
      have P0_16 := Lib.hid (P0_14.out.below (hb16) P0_14.out.lt)
      have p_16 := Lib.hid (p_14.out.below (hb16) p_14.out.lt)
      clear HB14 P0_14 p_14 hb16
      have lP0_16 := P0_16.out.lt
      have cP0_16_0 := P0_16.out.c0
      have lp_16 := p_16.out.lt
      have cp_16_0 := p_16.out.c0
      have cp_16_1 := p_16.out.c1
      go_wp2_with fail
      have oq_P0_16 := P0_16.out.lt
      have oq_p_16 := p_16.out.lt
      have q_17 := Lib.hid (show Cell2 (W16.alloc (Obj.cells #[(.int .i64 a), (.int .i64 b')] 25)) (W16.heap.size) (.int .i64 a) (.int .i64 b') from by exact Cell2.alloc W16 (.int .i64 a) (.int .i64 b') 25)
      have HB17 := Lib.hid (HB16.out.trans (((Below.refl W16.heap.size W16).alloc (Nat.le_refl _) (Obj.cells #[(.int .i64 a), (.int .i64 b')] 25)).mono HB16.out.size))
      have P0_17 := Lib.hid (P0_16.out.below ((Below.refl W16.heap.size W16).alloc (Nat.le_refl _) (Obj.cells #[(.int .i64 a), (.int .i64 b')] 25)) P0_16.out.lt)
      have p_17 := Lib.hid (p_16.out.below ((Below.refl W16.heap.size W16).alloc (Nat.le_refl _) (Obj.cells #[(.int .i64 a), (.int .i64 b')] 25)) p_16.out.lt)
      clear lP0_16 cP0_16_0 lp_16 cp_16_0 cp_16_1
      clear HB16 P0_16 p_16
      generalize W16.alloc (Obj.cells #[(.int .i64 a), (.int .i64 b')] 25) = W18 at *
      refine (H2.out _ (ht.below HB17.out)).mono ?_
      rintro e W19 ⟨rfl, hb19⟩
      have HB19 := Lib.hid (HB17.out.trans ((hb19).mono HB17.out.size))
      have P0_19 := Lib.hid (P0_17.out.below (hb19) P0_17.out.lt)
      have p_19 := Lib.hid (p_17.out.below (hb19) p_17.out.lt)
      have q_19 := Lib.hid (q_17.out.below (hb19) q_17.out.lt)
      clear HB17 P0_17 p_17 q_17 hb19
      have lP0_19 := P0_19.out.lt
      have cP0_19_0 := P0_19.out.c0
      have lp_19 := p_19.out.lt
      have cp_19_0 := p_19.out.c0
      have cp_19_1 := p_19.out.c1
      have lq_19 := q_19.out.lt
      have cq_19_0 := q_19.out.c0
      have cq_19_1 := q_19.out.c1
      go_wp2_with fail
      clear lP0_19 cP0_19_0 lp_19 cp_19_0 cp_19_1 lq_19 cq_19_0 cq_19_1
      refine (H5.out _ (ht.below HB19.out)).mono ?_
      rintro e W20 ⟨rfl, hb20⟩
      have HB20 := Lib.hid (HB19.out.trans ((hb20).mono HB19.out.size))
      have P0_20 := Lib.hid (P0_19.out.below (hb20) P0_19.out.lt)
      have p_20 := Lib.hid (p_19.out.below (hb20) p_19.out.lt)
      have q_20 := Lib.hid (q_19.out.below (hb20) q_19.out.lt)
      clear HB19 P0_19 p_19 q_19 hb20
      go_wp2
      go_ret
      exact ⟨rfl, HB20.out⟩
  · have he2 : (e != 0) = true := by simpa using he
    clear he
    go_enter Tryd.func7, Tryd.ntmps7
    go_wp2_with fail
    have P0_21 := Lib.hid (show Cell1 (w.alloc (Obj.cells #[(.int .i64 f)] 23)) (w.heap.size) (.int .i64 f) from by simpa using Cell1.alloc w (.int .i64 f) 23)
    have HB21 := Lib.hid ((Below.refl w.heap.size w).alloc (Nat.le_refl _) (Obj.cells #[(.int .i64 f)] 23))
    generalize (w.alloc (Obj.cells #[(.int .i64 f)] 23)) = W21 at *
    refine (H1.out _ (ht.below HB21.out)).mono ?_
    rintro e W22 ⟨rfl, hb22⟩
    have HB22 := Lib.hid (HB21.out.trans ((hb22).mono HB21.out.size))
    have P0_22 := Lib.hid (P0_21.out.below (hb22) P0_21.out.lt)
    clear HB21 P0_21 hb22
    have lP0_22 := P0_22.out.lt
    have cP0_22_0 := P0_22.out.c0
    go_wp2_with fail
    have op_P0_22 := P0_22.out.lt
    have p_23 := Lib.hid (show Cell2 (W22.alloc (Obj.cells #[(.int .i64 0), (.int .i64 0)] 25)) (W22.heap.size) (.int .i64 0) (.int .i64 0) from by exact Cell2.alloc W22 (.int .i64 0) (.int .i64 0) 25)
    have HB23 := Lib.hid (HB22.out.trans (((Below.refl W22.heap.size W22).alloc (Nat.le_refl _) (Obj.cells #[(.int .i64 0), (.int .i64 0)] 25)).mono HB22.out.size))
    have P0_23 := Lib.hid (P0_22.out.below ((Below.refl W22.heap.size W22).alloc (Nat.le_refl _) (Obj.cells #[(.int .i64 0), (.int .i64 0)] 25)) P0_22.out.lt)
    clear lP0_22 cP0_22_0
    clear HB22 P0_22
    generalize W22.alloc (Obj.cells #[(.int .i64 0), (.int .i64 0)] 25) = W24 at *
    refine (H3.out _ (ht.below HB23.out)).mono ?_
    rintro e W25 ⟨rfl, hb25⟩
    have HB25 := Lib.hid (HB23.out.trans ((hb25).mono HB23.out.size))
    have P0_25 := Lib.hid (P0_23.out.below (hb25) P0_23.out.lt)
    have p_25 := Lib.hid (p_23.out.below (hb25) p_23.out.lt)
    clear HB23 P0_23 p_23 hb25
    have lP0_25 := P0_25.out.lt
    have cP0_25_0 := P0_25.out.c0
    have lp_25 := p_25.out.lt
    have cp_25_0 := p_25.out.c0
    have cp_25_1 := p_25.out.c1
    go_wp2_with fail
    have oq_P0_25 := P0_25.out.lt
    have oq_p_25 := p_25.out.lt
    have q_26 := Lib.hid (show Cell2 (W25.alloc (Obj.cells #[(.int .i64 0), (.int .i64 0)] 25)) (W25.heap.size) (.int .i64 0) (.int .i64 0) from by exact Cell2.alloc W25 (.int .i64 0) (.int .i64 0) 25)
    have HB26 := Lib.hid (HB25.out.trans (((Below.refl W25.heap.size W25).alloc (Nat.le_refl _) (Obj.cells #[(.int .i64 0), (.int .i64 0)] 25)).mono HB25.out.size))
    have P0_26 := Lib.hid (P0_25.out.below ((Below.refl W25.heap.size W25).alloc (Nat.le_refl _) (Obj.cells #[(.int .i64 0), (.int .i64 0)] 25)) P0_25.out.lt)
    have p_26 := Lib.hid (p_25.out.below ((Below.refl W25.heap.size W25).alloc (Nat.le_refl _) (Obj.cells #[(.int .i64 0), (.int .i64 0)] 25)) p_25.out.lt)
    clear lP0_25 cP0_25_0 lp_25 cp_25_0 cp_25_1
    clear HB25 P0_25 p_25
    generalize W25.alloc (Obj.cells #[(.int .i64 0), (.int .i64 0)] 25) = W27 at *
    refine (H5.out _ (ht.below HB26.out)).mono ?_
    rintro e W28 ⟨rfl, hb28⟩
    have HB28 := Lib.hid (HB26.out.trans ((hb28).mono HB26.out.size))
    have P0_28 := Lib.hid (P0_26.out.below (hb28) P0_26.out.lt)
    have p_28 := Lib.hid (p_26.out.below (hb28) p_26.out.lt)
    have q_28 := Lib.hid (q_26.out.below (hb28) q_26.out.lt)
    clear HB26 P0_26 p_26 q_26 hb28
    go_wp2
    go_ret
    exact ⟨rfl, HB28.out⟩

theorem twoD_facts {n : Int} (h1 : 1 ≤ n) (h2 : n ≤ 13) : ([UInt8.ofNat (48 + (n / 10).toNat), UInt8.ofNat (48 + (n % 10).toNat)] : List UInt8).all dig = true ∧ (dec [UInt8.ofNat (48 + (n / 10).toNat), UInt8.ofNat (48 + (n % 10).toNat)] : Int) = n := by
  have : n = 1 ∨ n = 2 ∨ n = 3 ∨ n = 4 ∨ n = 5 ∨ n = 6 ∨ n = 7 ∨ n = 8 ∨ n = 9 ∨ n = 10 ∨ n = 11 ∨ n = 12 ∨ n = 13 := by omega
  rcases this with rfl | rfl | rfl | rfl | rfl | rfl | rfl | rfl | rfl | rfl | rfl | rfl | rfl <;> decide
theorem per_list {y n : Int} (hy : 0 ≤ y) : (perS y n).toList = dg y.toNat ++ [45] ++ [UInt8.ofNat (48 + (n / 10).toNat), UInt8.ofNat (48 + (n % 10).toNat)] := by
  unfold perS twoD
  have e1 : (⟨#[45]⟩ : ByteArray).toList = [45] := toList_mk [45]
  have e2 : (⟨#[UInt8.ofNat (48 + (n / 10).toNat), UInt8.ofNat (48 + (n % 10).toNat)]⟩ : ByteArray).toList = [UInt8.ofNat (48 + (n / 10).toNat), UInt8.ofNat (48 + (n % 10).toNat)] := toList_mk [UInt8.ofNat (48 + (n / 10).toNat), UInt8.ofNat (48 + (n % 10).toNat)]
  rw [app_list, app_list, textS_list, text_nat hy, e1, e2]
theorem per_back {y n : Int} (h : notO y n) : ptY (perS y n) = y ∧ ptN (perS y n) = n ∧ ptE (perS y n) = 0 ∧ (perS y n).size = 7 := by
  obtain ⟨a1, a2, a3, a4⟩ := h
  have hl := per_list (y := y) (n := n) (by omega)
  have h4 : (dg y.toNat).length = 4 := dg4 (by omega) (by omega)
  obtain ⟨t1, t2⟩ := twoD_facts a3 a4
  have hz : (perS y n).size = 7 := by rw [← bytes_len, hl]; simp [h4]
  have e1 : ((perS y n).extract 0 4).toList = dg y.toNat := by
    rw [ext_list, hl, List.drop_zero, List.append_assoc, List.take_append_of_le_length (by omega), List.take_of_length_le (by omega)]
  have e2 : ((perS y n).extract 5 7).toList = [UInt8.ofNat (48 + (n / 10).toNat), UInt8.ofNat (48 + (n % 10).toNat)] := by
    rw [ext_list, hl, List.take_of_length_le (by simp [h4])]
    rw [show (5 : Nat) = (dg y.toNat ++ [45]).length by simp [h4], List.drop_left]
  have r1 : rdO ((perS y n).extract 0 4) = true := by unfold rdO; rw [e1]; exact dg_all _
  have r2 : rdO ((perS y n).extract 5 7) = true := by unfold rdO; rw [e2]; exact t1
  have v1 : rdV ((perS y n).extract 0 4) = y := by unfold rdV; rw [if_pos r1, e1, dec_dg]; omega
  have v2 : rdV ((perS y n).extract 5 7) = n := by unfold rdV; rw [if_pos r2, e2, t2]
  have o : ptO (perS y n) := by
    refine ⟨hz, ?_, r1, r2⟩
    rw [hl, List.append_assoc, List.getElem?_append_right (by omega), h4]
    rfl
  have x : ptX (perS y n) := by unfold ptX; rw [v1, v2]; exact ⟨a1, a2, a3, a4⟩
  obtain ⟨p1, p2, p3⟩ := pt_yes o x
  exact ⟨p1.trans v1, p2.trans v2, p3, hz⟩

set_option maxHeartbeats 4000000 in
theorem fiscalNotation_walk (y n : Int) (s : ByteArray) (w : World) (ht : Tab w) (wy : (Lit.int .i64 y).wf = true) (wn : (Lit.int .i64 n).wf = true) (hs : s.size ≤ maxLen) :
    Calls Tryd.prog 6 #[.agg #[.int .i64 y, .int .i64 n], .string s] w fun e w' => e = .returned (.bool true) ∧ Below w.heap.size w w' := by
  have H9 := Lib.hid (fun w ht => lives_any w ht)
  have H3 := Lib.hid (fun w => fParse_any s w hs)
  have H4 := Lib.hid (fun w => rParse_any s w hs)
  unfold maxLen at hs
  by_cases hlen : 100 < s.size
  · have hl : (100 : Int) < (s.size : Int) := by omega
    clear H3 H4
    go_enter Tryd.func6, Tryd.ntmps6
    go_wp2_with fail
    have P0_29 := Lib.hid (show Cell2 (w.alloc (Obj.cells #[(.int .i64 y), (.int .i64 n)] 25)) (w.heap.size) (.int .i64 y) (.int .i64 n) from by simpa using Cell2.alloc w (.int .i64 y) (.int .i64 n) 25)
    have HB29 := Lib.hid ((Below.refl w.heap.size w).alloc (Nat.le_refl _) (Obj.cells #[(.int .i64 y), (.int .i64 n)] 25))
    generalize (w.alloc (Obj.cells #[(.int .i64 y), (.int .i64 n)] 25)) = W29 at *
    refine (H9.out _ (ht.below HB29.out)).mono ?_
    rintro e W30 ⟨rfl, hb30⟩
    have HB30 := Lib.hid (HB29.out.trans ((hb30).mono HB29.out.size))
    have P0_30 := Lib.hid (P0_29.out.below (hb30) P0_29.out.lt)
    clear HB29 P0_29 hb30
    go_wp2
    go_ret
    exact ⟨rfl, HB30.out⟩
  · have hl : ¬ (100 : Int) < (s.size : Int) := by omega
    generalize ptY s = sy at *
    generalize ptN s = sn at *
    generalize ptE s = se at *
    have q1 := eqPerYes sy sn
    by_cases h : notO y n
    · have H1 := Lib.hid (fun w => fText_yes y n w h)
      have H2 := Lib.hid (fun w => rText_yes y n w h)
      obtain ⟨p1, p2, p3, p4⟩ := per_back h
      have H5 := Lib.hid (fun w => fParse_any (perS y n) w (by unfold maxLen; omega))
      rw [p1, p2, p3] at H5
      clear p1 p2 p3 p4 h
      have q2 := eqPerYes y n
      generalize perS y n = S at *
      go_enter Tryd.func6, Tryd.ntmps6
      go_wp2_with fail
      have P0_31 := Lib.hid (show Cell2 (w.alloc (Obj.cells #[(.int .i64 y), (.int .i64 n)] 25)) (w.heap.size) (.int .i64 y) (.int .i64 n) from by simpa using Cell2.alloc w (.int .i64 y) (.int .i64 n) 25)
      have HB31 := Lib.hid ((Below.refl w.heap.size w).alloc (Nat.le_refl _) (Obj.cells #[(.int .i64 y), (.int .i64 n)] 25))
      generalize (w.alloc (Obj.cells #[(.int .i64 y), (.int .i64 n)] 25)) = W31 at *
      refine (H1.out _).mono ?_
      rintro e W32 ⟨rfl, hb32⟩
      have HB32 := Lib.hid (HB31.out.trans ((hb32).mono HB31.out.size))
      have P0_32 := Lib.hid (P0_31.out.below (hb32) P0_31.out.lt)
      clear HB31 P0_31 hb32
      have lP0_32 := P0_32.out.lt
      have cP0_32_0 := P0_32.out.c0
      have cP0_32_1 := P0_32.out.c1
      go_wp2_with fail
      clear lP0_32 cP0_32_0 cP0_32_1
      refine (H2.out _).mono ?_
      rintro e W33 ⟨rfl, hb33⟩
      have HB33 := Lib.hid (HB32.out.trans ((hb33).mono HB32.out.size))
      have P0_33 := Lib.hid (P0_32.out.below (hb33) P0_32.out.lt)
      clear HB32 P0_32 hb33
      have lP0_33 := P0_33.out.lt
      have cP0_33_0 := P0_33.out.c0
      have cP0_33_1 := P0_33.out.c1
      go_wp2_with fail
      clear lP0_33 cP0_33_0 cP0_33_1
      refine (H3.out _).mono ?_
      rintro e W34 ⟨rfl, hb34⟩
      have HB34 := Lib.hid (HB33.out.trans ((hb34).mono HB33.out.size))
      have P0_34 := Lib.hid (P0_33.out.below (hb34) P0_33.out.lt)
      clear HB33 P0_33 hb34
      have lP0_34 := P0_34.out.lt
      have cP0_34_0 := P0_34.out.c0
      have cP0_34_1 := P0_34.out.c1
      go_wp2_with fail
      have ox_P0_34 := P0_34.out.lt
      have x_35 := Lib.hid (show Cell2 (W34.alloc (Obj.cells #[(.int .i64 sy), (.int .i64 sn)] 25)) (W34.heap.size) (.int .i64 sy) (.int .i64 sn) from by exact Cell2.alloc W34 (.int .i64 sy) (.int .i64 sn) 25)
      have HB35 := Lib.hid (HB34.out.trans (((Below.refl W34.heap.size W34).alloc (Nat.le_refl _) (Obj.cells #[(.int .i64 sy), (.int .i64 sn)] 25)).mono HB34.out.size))
      have P0_35 := Lib.hid (P0_34.out.below ((Below.refl W34.heap.size W34).alloc (Nat.le_refl _) (Obj.cells #[(.int .i64 sy), (.int .i64 sn)] 25)) P0_34.out.lt)
      clear lP0_34 cP0_34_0 cP0_34_1
      clear HB34 P0_34
      generalize W34.alloc (Obj.cells #[(.int .i64 sy), (.int .i64 sn)] 25) = W36 at *
      refine (H4.out _).mono ?_
      rintro e W37 ⟨rfl, hb37⟩
      have HB37 := Lib.hid (HB35.out.trans ((hb37).mono HB35.out.size))
      have P0_37 := Lib.hid (P0_35.out.below (hb37) P0_35.out.lt)
      have x_37 := Lib.hid (x_35.out.below (hb37) x_35.out.lt)
      clear HB35 P0_35 x_35 hb37
      have lP0_37 := P0_37.out.lt
      have cP0_37_0 := P0_37.out.c0
      have cP0_37_1 := P0_37.out.c1
      have lx_37 := x_37.out.lt
      have cx_37_0 := x_37.out.c0
      have cx_37_1 := x_37.out.c1
      go_wp2_with fail
      have oy_P0_37 := P0_37.out.lt
      have oy_x_37 := x_37.out.lt
      have y_38 := Lib.hid (show Cell2 (W37.alloc (Obj.cells #[(.int .i64 sy), (.int .i64 sn)] 25)) (W37.heap.size) (.int .i64 sy) (.int .i64 sn) from by exact Cell2.alloc W37 (.int .i64 sy) (.int .i64 sn) 25)
      have HB38 := Lib.hid (HB37.out.trans (((Below.refl W37.heap.size W37).alloc (Nat.le_refl _) (Obj.cells #[(.int .i64 sy), (.int .i64 sn)] 25)).mono HB37.out.size))
      have P0_38 := Lib.hid (P0_37.out.below ((Below.refl W37.heap.size W37).alloc (Nat.le_refl _) (Obj.cells #[(.int .i64 sy), (.int .i64 sn)] 25)) P0_37.out.lt)
      have x_38 := Lib.hid (x_37.out.below ((Below.refl W37.heap.size W37).alloc (Nat.le_refl _) (Obj.cells #[(.int .i64 sy), (.int .i64 sn)] 25)) x_37.out.lt)
      clear lP0_37 cP0_37_0 cP0_37_1 lx_37 cx_37_0 cx_37_1
      clear HB37 P0_37 x_37
      generalize W37.alloc (Obj.cells #[(.int .i64 sy), (.int .i64 sn)] 25) = W39 at *
      refine (H5.out _).mono ?_
      rintro e W40 ⟨rfl, hb40⟩
      have HB40 := Lib.hid (HB38.out.trans ((hb40).mono HB38.out.size))
      have P0_40 := Lib.hid (P0_38.out.below (hb40) P0_38.out.lt)
      have x_40 := Lib.hid (x_38.out.below (hb40) x_38.out.lt)
      have y_40 := Lib.hid (y_38.out.below (hb40) y_38.out.lt)
      clear HB38 P0_38 x_38 y_38 hb40
      have lP0_40 := P0_40.out.lt
      have cP0_40_0 := P0_40.out.c0
      have cP0_40_1 := P0_40.out.c1
      have lx_40 := x_40.out.lt
      have cx_40_0 := x_40.out.c0
      have cx_40_1 := x_40.out.c1
      have ly_40 := y_40.out.lt
      have cy_40_0 := y_40.out.c0
      have cy_40_1 := y_40.out.c1
      go_wp2_with fail
      have oz_P0_40 := P0_40.out.lt
      have oz_x_40 := x_40.out.lt
      have oz_y_40 := y_40.out.lt
      have z_41 := Lib.hid (show Cell2 (W40.alloc (Obj.cells #[(.int .i64 y), (.int .i64 n)] 25)) (W40.heap.size) (.int .i64 y) (.int .i64 n) from by exact Cell2.alloc W40 (.int .i64 y) (.int .i64 n) 25)
      have HB41 := Lib.hid (HB40.out.trans (((Below.refl W40.heap.size W40).alloc (Nat.le_refl _) (Obj.cells #[(.int .i64 y), (.int .i64 n)] 25)).mono HB40.out.size))
      have P0_41 := Lib.hid (P0_40.out.below ((Below.refl W40.heap.size W40).alloc (Nat.le_refl _) (Obj.cells #[(.int .i64 y), (.int .i64 n)] 25)) P0_40.out.lt)
      have x_41 := Lib.hid (x_40.out.below ((Below.refl W40.heap.size W40).alloc (Nat.le_refl _) (Obj.cells #[(.int .i64 y), (.int .i64 n)] 25)) x_40.out.lt)
      have y_41 := Lib.hid (y_40.out.below ((Below.refl W40.heap.size W40).alloc (Nat.le_refl _) (Obj.cells #[(.int .i64 y), (.int .i64 n)] 25)) y_40.out.lt)
      clear lP0_40 cP0_40_0 cP0_40_1 lx_40 cx_40_0 cx_40_1 ly_40 cy_40_0 cy_40_1
      clear HB40 P0_40 x_40 y_40
      generalize W40.alloc (Obj.cells #[(.int .i64 y), (.int .i64 n)] 25) = W42 at *
      refine (H9.out _ (ht.below HB41.out)).mono ?_
      rintro e W43 ⟨rfl, hb43⟩
      have HB43 := Lib.hid (HB41.out.trans ((hb43).mono HB41.out.size))
      have P0_43 := Lib.hid (P0_41.out.below (hb43) P0_41.out.lt)
      have x_43 := Lib.hid (x_41.out.below (hb43) x_41.out.lt)
      have y_43 := Lib.hid (y_41.out.below (hb43) y_41.out.lt)
      have z_43 := Lib.hid (z_41.out.below (hb43) z_41.out.lt)
      clear HB41 P0_41 x_41 y_41 z_41 hb43
      go_wp2
      go_ret
      exact ⟨rfl, HB43.out⟩
    · have H1 := Lib.hid (fun w => fText_no y n w h)
      have H2 := Lib.hid (fun w => rText_no y n w h)
      have H5 := Lib.hid (fun w => fParse_any ⟨#[]⟩ w (by decide))
      have p := pt_form (s := ⟨#[]⟩) (fun x => absurd x.1 (by decide))
      rw [p.1, p.2.1, p.2.2] at H5
      clear p h
      go_enter Tryd.func6, Tryd.ntmps6
      go_wp2_with fail
      have P0_44 := Lib.hid (show Cell2 (w.alloc (Obj.cells #[(.int .i64 y), (.int .i64 n)] 25)) (w.heap.size) (.int .i64 y) (.int .i64 n) from by simpa using Cell2.alloc w (.int .i64 y) (.int .i64 n) 25)
      have HB44 := Lib.hid ((Below.refl w.heap.size w).alloc (Nat.le_refl _) (Obj.cells #[(.int .i64 y), (.int .i64 n)] 25))
      generalize (w.alloc (Obj.cells #[(.int .i64 y), (.int .i64 n)] 25)) = W44 at *
      refine (H1.out _).mono ?_
      rintro e W45 ⟨rfl, hb45⟩
      have HB45 := Lib.hid (HB44.out.trans ((hb45).mono HB44.out.size))
      have P0_45 := Lib.hid (P0_44.out.below (hb45) P0_44.out.lt)
      clear HB44 P0_44 hb45
      have lP0_45 := P0_45.out.lt
      have cP0_45_0 := P0_45.out.c0
      have cP0_45_1 := P0_45.out.c1
      go_wp2_with fail
      clear lP0_45 cP0_45_0 cP0_45_1
      refine (H2.out _).mono ?_
      rintro e W46 ⟨rfl, hb46⟩
      have HB46 := Lib.hid (HB45.out.trans ((hb46).mono HB45.out.size))
      have P0_46 := Lib.hid (P0_45.out.below (hb46) P0_45.out.lt)
      clear HB45 P0_45 hb46
      have lP0_46 := P0_46.out.lt
      have cP0_46_0 := P0_46.out.c0
      have cP0_46_1 := P0_46.out.c1
      go_wp2_with fail
      clear lP0_46 cP0_46_0 cP0_46_1
      refine (H3.out _).mono ?_
      rintro e W47 ⟨rfl, hb47⟩
      have HB47 := Lib.hid (HB46.out.trans ((hb47).mono HB46.out.size))
      have P0_47 := Lib.hid (P0_46.out.below (hb47) P0_46.out.lt)
      clear HB46 P0_46 hb47
      have lP0_47 := P0_47.out.lt
      have cP0_47_0 := P0_47.out.c0
      have cP0_47_1 := P0_47.out.c1
      go_wp2_with fail
      have ox_P0_47 := P0_47.out.lt
      have x_48 := Lib.hid (show Cell2 (W47.alloc (Obj.cells #[(.int .i64 sy), (.int .i64 sn)] 25)) (W47.heap.size) (.int .i64 sy) (.int .i64 sn) from by exact Cell2.alloc W47 (.int .i64 sy) (.int .i64 sn) 25)
      have HB48 := Lib.hid (HB47.out.trans (((Below.refl W47.heap.size W47).alloc (Nat.le_refl _) (Obj.cells #[(.int .i64 sy), (.int .i64 sn)] 25)).mono HB47.out.size))
      have P0_48 := Lib.hid (P0_47.out.below ((Below.refl W47.heap.size W47).alloc (Nat.le_refl _) (Obj.cells #[(.int .i64 sy), (.int .i64 sn)] 25)) P0_47.out.lt)
      clear lP0_47 cP0_47_0 cP0_47_1
      clear HB47 P0_47
      generalize W47.alloc (Obj.cells #[(.int .i64 sy), (.int .i64 sn)] 25) = W49 at *
      refine (H4.out _).mono ?_
      rintro e W50 ⟨rfl, hb50⟩
      have HB50 := Lib.hid (HB48.out.trans ((hb50).mono HB48.out.size))
      have P0_50 := Lib.hid (P0_48.out.below (hb50) P0_48.out.lt)
      have x_50 := Lib.hid (x_48.out.below (hb50) x_48.out.lt)
      clear HB48 P0_48 x_48 hb50
      have lP0_50 := P0_50.out.lt
      have cP0_50_0 := P0_50.out.c0
      have cP0_50_1 := P0_50.out.c1
      have lx_50 := x_50.out.lt
      have cx_50_0 := x_50.out.c0
      have cx_50_1 := x_50.out.c1
      go_wp2_with fail
      have oy_P0_50 := P0_50.out.lt
      have oy_x_50 := x_50.out.lt
      have y_51 := Lib.hid (show Cell2 (W50.alloc (Obj.cells #[(.int .i64 sy), (.int .i64 sn)] 25)) (W50.heap.size) (.int .i64 sy) (.int .i64 sn) from by exact Cell2.alloc W50 (.int .i64 sy) (.int .i64 sn) 25)
      have HB51 := Lib.hid (HB50.out.trans (((Below.refl W50.heap.size W50).alloc (Nat.le_refl _) (Obj.cells #[(.int .i64 sy), (.int .i64 sn)] 25)).mono HB50.out.size))
      have P0_51 := Lib.hid (P0_50.out.below ((Below.refl W50.heap.size W50).alloc (Nat.le_refl _) (Obj.cells #[(.int .i64 sy), (.int .i64 sn)] 25)) P0_50.out.lt)
      have x_51 := Lib.hid (x_50.out.below ((Below.refl W50.heap.size W50).alloc (Nat.le_refl _) (Obj.cells #[(.int .i64 sy), (.int .i64 sn)] 25)) x_50.out.lt)
      clear lP0_50 cP0_50_0 cP0_50_1 lx_50 cx_50_0 cx_50_1
      clear HB50 P0_50 x_50
      generalize W50.alloc (Obj.cells #[(.int .i64 sy), (.int .i64 sn)] 25) = W52 at *
      refine (H5.out _).mono ?_
      rintro e W53 ⟨rfl, hb53⟩
      have HB53 := Lib.hid (HB51.out.trans ((hb53).mono HB51.out.size))
      have P0_53 := Lib.hid (P0_51.out.below (hb53) P0_51.out.lt)
      have x_53 := Lib.hid (x_51.out.below (hb53) x_51.out.lt)
      have y_53 := Lib.hid (y_51.out.below (hb53) y_51.out.lt)
      clear HB51 P0_51 x_51 y_51 hb53
      have lP0_53 := P0_53.out.lt
      have cP0_53_0 := P0_53.out.c0
      have cP0_53_1 := P0_53.out.c1
      have lx_53 := x_53.out.lt
      have cx_53_0 := x_53.out.c0
      have cx_53_1 := x_53.out.c1
      have ly_53 := y_53.out.lt
      have cy_53_0 := y_53.out.c0
      have cy_53_1 := y_53.out.c1
      go_wp2_with fail
      have oz_P0_53 := P0_53.out.lt
      have oz_x_53 := x_53.out.lt
      have oz_y_53 := y_53.out.lt
      have z_54 := Lib.hid (show Cell2 (W53.alloc (Obj.cells #[(.int .i64 0), (.int .i64 0)] 25)) (W53.heap.size) (.int .i64 0) (.int .i64 0) from by exact Cell2.alloc W53 (.int .i64 0) (.int .i64 0) 25)
      have HB54 := Lib.hid (HB53.out.trans (((Below.refl W53.heap.size W53).alloc (Nat.le_refl _) (Obj.cells #[(.int .i64 0), (.int .i64 0)] 25)).mono HB53.out.size))
      have P0_54 := Lib.hid (P0_53.out.below ((Below.refl W53.heap.size W53).alloc (Nat.le_refl _) (Obj.cells #[(.int .i64 0), (.int .i64 0)] 25)) P0_53.out.lt)
      have x_54 := Lib.hid (x_53.out.below ((Below.refl W53.heap.size W53).alloc (Nat.le_refl _) (Obj.cells #[(.int .i64 0), (.int .i64 0)] 25)) x_53.out.lt)
      have y_54 := Lib.hid (y_53.out.below ((Below.refl W53.heap.size W53).alloc (Nat.le_refl _) (Obj.cells #[(.int .i64 0), (.int .i64 0)] 25)) y_53.out.lt)
      clear lP0_53 cP0_53_0 cP0_53_1 lx_53 cx_53_0 cx_53_1 ly_53 cy_53_0 cy_53_1
      clear HB53 P0_53 x_53 y_53
      generalize W53.alloc (Obj.cells #[(.int .i64 0), (.int .i64 0)] 25) = W55 at *
      refine (H9.out _ (ht.below HB54.out)).mono ?_
      rintro e W56 ⟨rfl, hb56⟩
      have HB56 := Lib.hid (HB54.out.trans ((hb56).mono HB54.out.size))
      have P0_56 := Lib.hid (P0_54.out.below (hb56) P0_54.out.lt)
      have x_56 := Lib.hid (x_54.out.below (hb56) x_54.out.lt)
      have y_56 := Lib.hid (y_54.out.below (hb56) y_54.out.lt)
      have z_56 := Lib.hid (z_54.out.below (hb56) z_54.out.lt)
      clear HB54 P0_54 x_54 y_54 z_54 hb56
      go_wp2
      go_ret
      exact ⟨rfl, HB56.out⟩
end Go.Proofs.YtaibjmdfkahjjaaDoor
