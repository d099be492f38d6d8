/- The law FracRound returns true. Written by wip/mk_fup.py. -/
import Derived.Test.YtlndomnampcnfaaFuO
namespace Go.Proofs.Ytlndomnampcnfaa
open Go.RowKit Go.Sort
set_option linter.unusedVariables false
set_option linter.unusedSimpArgs false

theorem pa_bd (l : List UInt8) : (-1000000 ≤ (paR l).1 ∧ (paR l).1 ≤ 1000000) ∧ 0 ≤ (paR l).2.1 ∧ (paR l).2.1 ≤ 1000000 := by
  by_cases h : (paR l).2.2 = 0
  · obtain ⟨b1, b2, a1, a2, _⟩ := right_iff.1 (pa_right h)
    omega
  · unfold paR at *
    cases hq : qoO (bdy l) with
    | none => simp
    | some p =>
      obtain ⟨X, Y⟩ := p
      simp only [hq] at h ⊢
      by_cases c1 : isNeg l = true ∧ dec X = 0
      · rw [if_pos c1]; simp
      · rw [if_neg c1] at h ⊢
        by_cases c2 : rdB (dec X) (dec Y) = false
        · rw [if_pos c2]; simp
        · rw [if_neg c2] at h
          exfalso; apply h
          split <;> rfl
set_option maxRecDepth 100000 in
set_option maxHeartbeats 8000000 in
theorem fracRound_walk (a b : Int) (s : ByteArray) (w : World) (wa : (Lit.int .i64 a).wf = true) (wb : (Lit.int .i64 b).wf = true) (ws : s.size ≤ maxLen) :
    Calls Try.prog 4 #[.agg #[.int .i64 a, .int .i64 b], .string s] w fun e w' => e = .returned (.bool true) ∧ Below w.heap.size w w' := by
  obtain ⟨a1, a2⟩ := i64_rng wa
  obtain ⟨b1, b2⟩ := i64_rng wb
  clear wa wb
  unfold maxLen at ws
  have HL := Lib.hid lives3_any
  by_cases h80 : 80 < s.size
  · have h80' : (80 : Int) < (s.size : Int) := by omega
    go_enter Try.func4, Try.ntmps4
    go_wp2_with fail
    have P0_1 := Lib.hid (show Cell2 (w.alloc (Obj.cells #[(.int .i64 a), (.int .i64 b)] 24)) (w.heap.size) (.int .i64 a) (.int .i64 b) from by simpa using Cell2.alloc w (.int .i64 a) (.int .i64 b) 24)
    have HB1 := Lib.hid ((Below.refl w.heap.size w).alloc (Nat.le_refl _) (Obj.cells #[(.int .i64 a), (.int .i64 b)] 24))
    generalize (w.alloc (Obj.cells #[(.int .i64 a), (.int .i64 b)] 24)) = W1 at *
    refine (HL.out _).mono ?_
    rintro e W2 ⟨rfl, hb2⟩
    have HB2 := Lib.hid (HB1.out.trans ((hb2).mono HB1.out.size))
    have P0_2 := Lib.hid (P0_1.out.below (hb2) P0_1.out.lt)
    clear HB1 P0_1 hb2
    go_wp2
    go_ret
    exact ⟨rfl, HB2.out⟩
  have h80' : ¬ (80 : Int) < (s.size : Int) := by omega
  have H1 := Lib.hid (fun W => textF_any a b W a1 a2 b1 b2)
  have H3 := Lib.hid (fun W => parse_str s W (by omega))
  have HRt := Lib.hid (fun W => right_any a b W a1 a2 b1 b2)
  have hbd := pa_bd s.toList
  have HRg := Lib.hid (fun W => right_any (paR s.toList).1 (paR s.toList).2.1 W (by omega) (by omega) (by omega) (by omega))
  have HOk := Lib.hid (@pa_right s.toList)
  clear hbd
  generalize (paR s.toList).1 = x at *
  generalize (paR s.toList).2.1 = y at *
  generalize (paR s.toList).2.2 = z at *
  by_cases hr : rightB a b = true
  · obtain ⟨t1, t2⟩ := pa_text hr
    have H2 := Lib.hid (fun W => parse_str (txS a b) W (by rw [← bytes_len]; exact t2))
    rw [t1] at H2
    rw [show txE a b = 0 by unfold txE; rw [if_pos hr]] at H1
    rw [hr] at HRt
    clear t1 t2 hr
    generalize txS a b = t at *
    by_cases hz : z = 0
    · have hg := HOk.out hz
      rw [hg] at HRg
      subst hz
      clear hg HOk
      go_enter Try.func4, Try.ntmps4
      go_wp2_with fail
      have P0_3 := Lib.hid (show Cell2 (w.alloc (Obj.cells #[(.int .i64 a), (.int .i64 b)] 24)) (w.heap.size) (.int .i64 a) (.int .i64 b) from by simpa using Cell2.alloc w (.int .i64 a) (.int .i64 b) 24)
      have HB3 := Lib.hid ((Below.refl w.heap.size w).alloc (Nat.le_refl _) (Obj.cells #[(.int .i64 a), (.int .i64 b)] 24))
      generalize (w.alloc (Obj.cells #[(.int .i64 a), (.int .i64 b)] 24)) = W3 at *
      refine (H1.out _).mono ?_
      rintro e W4 ⟨rfl, hb4⟩
      have HB4 := Lib.hid (HB3.out.trans ((hb4).mono HB3.out.size))
      have P0_4 := Lib.hid (P0_3.out.below (hb4) P0_3.out.lt)
      clear HB3 P0_3 hb4
      have lP0_4 := P0_4.out.lt
      have cP0_4_0 := P0_4.out.c0
      have cP0_4_1 := P0_4.out.c1
      go_wp2_with fail
      clear lP0_4 cP0_4_0 cP0_4_1
      refine (H2.out _).mono ?_
      rintro e W5 ⟨rfl, hb5⟩
      have HB5 := Lib.hid (HB4.out.trans ((hb5).mono HB4.out.size))
      have P0_5 := Lib.hid (P0_4.out.below (hb5) P0_4.out.lt)
      clear HB4 P0_4 hb5
      have lP0_5 := P0_5.out.lt
      have cP0_5_0 := P0_5.out.c0
      have cP0_5_1 := P0_5.out.c1
      go_wp2_with fail
      clear lP0_5 cP0_5_0 cP0_5_1
      have P1_6 := Lib.hid (Cell2.alloc W5 (.int .i64 a) (.int .i64 b) 24)
      have HB6 := Lib.hid (HB5.out.trans (((Below.refl W5.heap.size W5).alloc (Nat.le_refl _) (Obj.cells #[(.int .i64 a), (.int .i64 b)] 24)).mono HB5.out.size))
      have P0_6 := Lib.hid (P0_5.out.below ((Below.refl W5.heap.size W5).alloc (Nat.le_refl _) (Obj.cells #[(.int .i64 a), (.int .i64 b)] 24)) P0_5.out.lt)
      clear HB5 P0_5
      generalize W5.alloc (Obj.cells #[(.int .i64 a), (.int .i64 b)] 24) = W6 at *
      refine (H3.out _).mono ?_
      rintro e W7 ⟨rfl, hb7⟩
      have HB7 := Lib.hid (HB6.out.trans ((hb7).mono HB6.out.size))
      have P0_7 := Lib.hid (P0_6.out.below (hb7) P0_6.out.lt)
      have P1_7 := Lib.hid (P1_6.out.below (hb7) P1_6.out.lt)
      clear HB6 P0_6 P1_6 hb7
      have lP0_7 := P0_7.out.lt
      have cP0_7_0 := P0_7.out.c0
      have cP0_7_1 := P0_7.out.c1
      have lP1_7 := P1_7.out.lt
      have cP1_7_0 := P1_7.out.c0
      have cP1_7_1 := P1_7.out.c1
      go_wp2_with fail
      clear lP0_7 cP0_7_0 cP0_7_1 lP1_7 cP1_7_0 cP1_7_1
      have P2_8 := Lib.hid (Cell2.alloc W7 (.int .i64 x) (.int .i64 y) 24)
      have HB8 := Lib.hid (HB7.out.trans (((Below.refl W7.heap.size W7).alloc (Nat.le_refl _) (Obj.cells #[(.int .i64 x), (.int .i64 y)] 24)).mono HB7.out.size))
      have P0_8 := Lib.hid (P0_7.out.below ((Below.refl W7.heap.size W7).alloc (Nat.le_refl _) (Obj.cells #[(.int .i64 x), (.int .i64 y)] 24)) P0_7.out.lt)
      have P1_8 := Lib.hid (P1_7.out.below ((Below.refl W7.heap.size W7).alloc (Nat.le_refl _) (Obj.cells #[(.int .i64 x), (.int .i64 y)] 24)) P1_7.out.lt)
      clear HB7 P0_7 P1_7
      generalize W7.alloc (Obj.cells #[(.int .i64 x), (.int .i64 y)] 24) = W8 at *
      refine (HRg.out _).mono ?_
      rintro e W9 ⟨rfl, hb9⟩
      have HB9 := Lib.hid (HB8.out.trans ((hb9).mono HB8.out.size))
      have P0_9 := Lib.hid (P0_8.out.below (hb9) P0_8.out.lt)
      have P1_9 := Lib.hid (P1_8.out.below (hb9) P1_8.out.lt)
      have P2_9 := Lib.hid (P2_8.out.below (hb9) P2_8.out.lt)
      clear HB8 P0_8 P1_8 P2_8 hb9
      have lP0_9 := P0_9.out.lt
      have cP0_9_0 := P0_9.out.c0
      have cP0_9_1 := P0_9.out.c1
      have lP1_9 := P1_9.out.lt
      have cP1_9_0 := P1_9.out.c0
      have cP1_9_1 := P1_9.out.c1
      have lP2_9 := P2_9.out.lt
      have cP2_9_0 := P2_9.out.c0
      have cP2_9_1 := P2_9.out.c1
      go_wp2_with fail
      clear lP0_9 cP0_9_0 cP0_9_1 lP1_9 cP1_9_0 cP1_9_1 lP2_9 cP2_9_0 cP2_9_1
      refine (HRt.out _).mono ?_
      rintro e W10 ⟨rfl, hb10⟩
      have HB10 := Lib.hid (HB9.out.trans ((hb10).mono HB9.out.size))
      have P0_10 := Lib.hid (P0_9.out.below (hb10) P0_9.out.lt)
      have P1_10 := Lib.hid (P1_9.out.below (hb10) P1_9.out.lt)
      have P2_10 := Lib.hid (P2_9.out.below (hb10) P2_9.out.lt)
      clear HB9 P0_9 P1_9 P2_9 hb10
      have lP0_10 := P0_10.out.lt
      have cP0_10_0 := P0_10.out.c0
      have cP0_10_1 := P0_10.out.c1
      have lP1_10 := P1_10.out.lt
      have cP1_10_0 := P1_10.out.c0
      have cP1_10_1 := P1_10.out.c1
      have lP2_10 := P2_10.out.lt
      have cP2_10_0 := P2_10.out.c0
      have cP2_10_1 := P2_10.out.c1
      go_wp2_with fail
      clear lP0_10 cP0_10_0 cP0_10_1 lP1_10 cP1_10_0 cP1_10_1 lP2_10 cP2_10_0 cP2_10_1
      refine (HL.out _).mono ?_
      rintro e W11 ⟨rfl, hb11⟩
      have HB11 := Lib.hid (HB10.out.trans ((hb11).mono HB10.out.size))
      have P0_11 := Lib.hid (P0_10.out.below (hb11) P0_10.out.lt)
      have P1_11 := Lib.hid (P1_10.out.below (hb11) P1_10.out.lt)
      have P2_11 := Lib.hid (P2_10.out.below (hb11) P2_10.out.lt)
      clear HB10 P0_10 P1_10 P2_10 hb11
      go_wp2
      go_ret
      exact ⟨rfl, HB11.out⟩
    · have hz' : (z != 0) = true := by simpa using hz
      clear hz HOk HRg
      go_enter Try.func4, Try.ntmps4
      go_wp2_with fail
      have P0_12 := Lib.hid (show Cell2 (w.alloc (Obj.cells #[(.int .i64 a), (.int .i64 b)] 24)) (w.heap.size) (.int .i64 a) (.int .i64 b) from by simpa using Cell2.alloc w (.int .i64 a) (.int .i64 b) 24)
      have HB12 := Lib.hid ((Below.refl w.heap.size w).alloc (Nat.le_refl _) (Obj.cells #[(.int .i64 a), (.int .i64 b)] 24))
      generalize (w.alloc (Obj.cells #[(.int .i64 a), (.int .i64 b)] 24)) = W12 at *
      refine (H1.out _).mono ?_
      rintro e W13 ⟨rfl, hb13⟩
      have HB13 := Lib.hid (HB12.out.trans ((hb13).mono HB12.out.size))
      have P0_13 := Lib.hid (P0_12.out.below (hb13) P0_12.out.lt)
      clear HB12 P0_12 hb13
      have lP0_13 := P0_13.out.lt
      have cP0_13_0 := P0_13.out.c0
      have cP0_13_1 := P0_13.out.c1
      go_wp2_with fail
      clear lP0_13 cP0_13_0 cP0_13_1
      refine (H2.out _).mono ?_
      rintro e W14 ⟨rfl, hb14⟩
      have HB14 := Lib.hid (HB13.out.trans ((hb14).mono HB13.out.size))
      have P0_14 := Lib.hid (P0_13.out.below (hb14) P0_13.out.lt)
      clear HB13 P0_13 hb14
      have lP0_14 := P0_14.out.lt
      have cP0_14_0 := P0_14.out.c0
      have cP0_14_1 := P0_14.out.c1
      go_wp2_with fail
      clear lP0_14 cP0_14_0 cP0_14_1
      have P1_15 := Lib.hid (Cell2.alloc W14 (.int .i64 a) (.int .i64 b) 24)
      have HB15 := Lib.hid (HB14.out.trans (((Below.refl W14.heap.size W14).alloc (Nat.le_refl _) (Obj.cells #[(.int .i64 a), (.int .i64 b)] 24)).mono HB14.out.size))
      have P0_15 := Lib.hid (P0_14.out.below ((Below.refl W14.heap.size W14).alloc (Nat.le_refl _) (Obj.cells #[(.int .i64 a), (.int .i64 b)] 24)) P0_14.out.lt)
      clear HB14 P0_14
      generalize W14.alloc (Obj.cells #[(.int .i64 a), (.int .i64 b)] 24) = W15 at *
      refine (H3.out _).mono ?_
      rintro e W16 ⟨rfl, hb16⟩
      have HB16 := Lib.hid (HB15.out.trans ((hb16).mono HB15.out.size))
      have P0_16 := Lib.hid (P0_15.out.below (hb16) P0_15.out.lt)
      have P1_16 := Lib.hid (P1_15.out.below (hb16) P1_15.out.lt)
      clear HB15 P0_15 P1_15 hb16
      have lP0_16 := P0_16.out.lt
      have cP0_16_0 := P0_16.out.c0
      have cP0_16_1 := P0_16.out.c1
      have lP1_16 := P1_16.out.lt
      have cP1_16_0 := P1_16.out.c0
      have cP1_16_1 := P1_16.out.c1
      go_wp2_with fail
      clear lP0_16 cP0_16_0 cP0_16_1 lP1_16 cP1_16_0 cP1_16_1
      have P2_17 := Lib.hid (Cell2.alloc W16 (.int .i64 x) (.int .i64 y) 24)
      have HB17 := Lib.hid (HB16.out.trans (((Below.refl W16.heap.size W16).alloc (Nat.le_refl _) (Obj.cells #[(.int .i64 x), (.int .i64 y)] 24)).mono HB16.out.size))
      have P0_17 := Lib.hid (P0_16.out.below ((Below.refl W16.heap.size W16).alloc (Nat.le_refl _) (Obj.cells #[(.int .i64 x), (.int .i64 y)] 24)) P0_16.out.lt)
      have P1_17 := Lib.hid (P1_16.out.below ((Below.refl W16.heap.size W16).alloc (Nat.le_refl _) (Obj.cells #[(.int .i64 x), (.int .i64 y)] 24)) P1_16.out.lt)
      clear HB16 P0_16 P1_16
      generalize W16.alloc (Obj.cells #[(.int .i64 x), (.int .i64 y)] 24) = W17 at *
      refine (HRt.out _).mono ?_
      rintro e W18 ⟨rfl, hb18⟩
      have HB18 := Lib.hid (HB17.out.trans ((hb18).mono HB17.out.size))
      have P0_18 := Lib.hid (P0_17.out.below (hb18) P0_17.out.lt)
      have P1_18 := Lib.hid (P1_17.out.below (hb18) P1_17.out.lt)
      have P2_18 := Lib.hid (P2_17.out.below (hb18) P2_17.out.lt)
      clear HB17 P0_17 P1_17 P2_17 hb18
      have lP0_18 := P0_18.out.lt
      have cP0_18_0 := P0_18.out.c0
      have cP0_18_1 := P0_18.out.c1
      have lP1_18 := P1_18.out.lt
      have cP1_18_0 := P1_18.out.c0
      have cP1_18_1 := P1_18.out.c1
      have lP2_18 := P2_18.out.lt
      have cP2_18_0 := P2_18.out.c0
      have cP2_18_1 := P2_18.out.c1
      go_wp2_with fail
      clear lP0_18 cP0_18_0 cP0_18_1 lP1_18 cP1_18_0 cP1_18_1 lP2_18 cP2_18_0 cP2_18_1
      refine (HL.out _).mono ?_
      rintro e W19 ⟨rfl, hb19⟩
      have HB19 := Lib.hid (HB18.out.trans ((hb19).mono HB18.out.size))
      have P0_19 := Lib.hid (P0_18.out.below (hb19) P0_18.out.lt)
      have P1_19 := Lib.hid (P1_18.out.below (hb19) P1_18.out.lt)
      have P2_19 := Lib.hid (P2_18.out.below (hb19) P2_18.out.lt)
      clear HB18 P0_18 P1_18 P2_18 hb19
      go_wp2
      go_ret
      exact ⟨rfl, HB19.out⟩
  · have hr : rightB a b = false := by simpa using hr
    rw [show txE a b = 2 by unfold txE; rw [hr]; rfl] at H1
    rw [hr] at HRt
    clear hr
    generalize txS a b = t at *
    by_cases hz : z = 0
    · have hg := HOk.out hz
      rw [hg] at HRg
      subst hz
      clear hg HOk
      go_enter Try.func4, Try.ntmps4
      go_wp2_with fail
      have P0_20 := Lib.hid (show Cell2 (w.alloc (Obj.cells #[(.int .i64 a), (.int .i64 b)] 24)) (w.heap.size) (.int .i64 a) (.int .i64 b) from by simpa using Cell2.alloc w (.int .i64 a) (.int .i64 b) 24)
      have HB20 := Lib.hid ((Below.refl w.heap.size w).alloc (Nat.le_refl _) (Obj.cells #[(.int .i64 a), (.int .i64 b)] 24))
      generalize (w.alloc (Obj.cells #[(.int .i64 a), (.int .i64 b)] 24)) = W20 at *
      refine (H1.out _).mono ?_
      rintro e W21 ⟨rfl, hb21⟩
      have HB21 := Lib.hid (HB20.out.trans ((hb21).mono HB20.out.size))
      have P0_21 := Lib.hid (P0_20.out.below (hb21) P0_20.out.lt)
      clear HB20 P0_20 hb21
      have lP0_21 := P0_21.out.lt
      have cP0_21_0 := P0_21.out.c0
      have cP0_21_1 := P0_21.out.c1
      go_wp2_with fail
      clear lP0_21 cP0_21_0 cP0_21_1
      refine (H3.out _).mono ?_
      rintro e W22 ⟨rfl, hb22⟩
      have HB22 := Lib.hid (HB21.out.trans ((hb22).mono HB21.out.size))
      have P0_22 := Lib.hid (P0_21.out.below (hb22) P0_21.out.lt)
      clear HB21 P0_21 hb22
      have lP0_22 := P0_22.out.lt
      have cP0_22_0 := P0_22.out.c0
      have cP0_22_1 := P0_22.out.c1
      go_wp2_with fail
      clear lP0_22 cP0_22_0 cP0_22_1
      have P2_23 := Lib.hid (Cell2.alloc W22 (.int .i64 x) (.int .i64 y) 24)
      have HB23 := Lib.hid (HB22.out.trans (((Below.refl W22.heap.size W22).alloc (Nat.le_refl _) (Obj.cells #[(.int .i64 x), (.int .i64 y)] 24)).mono HB22.out.size))
      have P0_23 := Lib.hid (P0_22.out.below ((Below.refl W22.heap.size W22).alloc (Nat.le_refl _) (Obj.cells #[(.int .i64 x), (.int .i64 y)] 24)) P0_22.out.lt)
      clear HB22 P0_22
      generalize W22.alloc (Obj.cells #[(.int .i64 x), (.int .i64 y)] 24) = W23 at *
      refine (HRg.out _).mono ?_
      rintro e W24 ⟨rfl, hb24⟩
      have HB24 := Lib.hid (HB23.out.trans ((hb24).mono HB23.out.size))
      have P0_24 := Lib.hid (P0_23.out.below (hb24) P0_23.out.lt)
      have P2_24 := Lib.hid (P2_23.out.below (hb24) P2_23.out.lt)
      clear HB23 P0_23 P2_23 hb24
      have lP0_24 := P0_24.out.lt
      have cP0_24_0 := P0_24.out.c0
      have cP0_24_1 := P0_24.out.c1
      have lP2_24 := P2_24.out.lt
      have cP2_24_0 := P2_24.out.c0
      have cP2_24_1 := P2_24.out.c1
      go_wp2_with fail
      clear lP0_24 cP0_24_0 cP0_24_1 lP2_24 cP2_24_0 cP2_24_1
      refine (HRt.out _).mono ?_
      rintro e W25 ⟨rfl, hb25⟩
      have HB25 := Lib.hid (HB24.out.trans ((hb25).mono HB24.out.size))
      have P0_25 := Lib.hid (P0_24.out.below (hb25) P0_24.out.lt)
      have P2_25 := Lib.hid (P2_24.out.below (hb25) P2_24.out.lt)
      clear HB24 P0_24 P2_24 hb25
      have lP0_25 := P0_25.out.lt
      have cP0_25_0 := P0_25.out.c0
      have cP0_25_1 := P0_25.out.c1
      have lP2_25 := P2_25.out.lt
      have cP2_25_0 := P2_25.out.c0
      have cP2_25_1 := P2_25.out.c1
      go_wp2_with fail
      clear lP0_25 cP0_25_0 cP0_25_1 lP2_25 cP2_25_0 cP2_25_1
      refine (HL.out _).mono ?_
      rintro e W26 ⟨rfl, hb26⟩
      have HB26 := Lib.hid (HB25.out.trans ((hb26).mono HB25.out.size))
      have P0_26 := Lib.hid (P0_25.out.below (hb26) P0_25.out.lt)
      have P2_26 := Lib.hid (P2_25.out.below (hb26) P2_25.out.lt)
      clear HB25 P0_25 P2_25 hb26
      go_wp2
      go_ret
      exact ⟨rfl, HB26.out⟩
    · have hz' : (z != 0) = true := by simpa using hz
      clear hz HOk HRg
      go_enter Try.func4, Try.ntmps4
      go_wp2_with fail
      have P0_27 := Lib.hid (show Cell2 (w.alloc (Obj.cells #[(.int .i64 a), (.int .i64 b)] 24)) (w.heap.size) (.int .i64 a) (.int .i64 b) from by simpa using Cell2.alloc w (.int .i64 a) (.int .i64 b) 24)
      have HB27 := Lib.hid ((Below.refl w.heap.size w).alloc (Nat.le_refl _) (Obj.cells #[(.int .i64 a), (.int .i64 b)] 24))
      generalize (w.alloc (Obj.cells #[(.int .i64 a), (.int .i64 b)] 24)) = W27 at *
      refine (H1.out _).mono ?_
      rintro e W28 ⟨rfl, hb28⟩
      have HB28 := Lib.hid (HB27.out.trans ((hb28).mono HB27.out.size))
      have P0_28 := Lib.hid (P0_27.out.below (hb28) P0_27.out.lt)
      clear HB27 P0_27 hb28
      have lP0_28 := P0_28.out.lt
      have cP0_28_0 := P0_28.out.c0
      have cP0_28_1 := P0_28.out.c1
      go_wp2_with fail
      clear lP0_28 cP0_28_0 cP0_28_1
      refine (H3.out _).mono ?_
      rintro e W29 ⟨rfl, hb29⟩
      have HB29 := Lib.hid (HB28.out.trans ((hb29).mono HB28.out.size))
      have P0_29 := Lib.hid (P0_28.out.below (hb29) P0_28.out.lt)
      clear HB28 P0_28 hb29
      have lP0_29 := P0_29.out.lt
      have cP0_29_0 := P0_29.out.c0
      have cP0_29_1 := P0_29.out.c1
      go_wp2_with fail
      clear lP0_29 cP0_29_0 cP0_29_1
      have P2_30 := Lib.hid (Cell2.alloc W29 (.int .i64 x) (.int .i64 y) 24)
      have HB30 := Lib.hid (HB29.out.trans (((Below.refl W29.heap.size W29).alloc (Nat.le_refl _) (Obj.cells #[(.int .i64 x), (.int .i64 y)] 24)).mono HB29.out.size))
      have P0_30 := Lib.hid (P0_29.out.below ((Below.refl W29.heap.size W29).alloc (Nat.le_refl _) (Obj.cells #[(.int .i64 x), (.int .i64 y)] 24)) P0_29.out.lt)
      clear HB29 P0_29
      generalize W29.alloc (Obj.cells #[(.int .i64 x), (.int .i64 y)] 24) = W30 at *
      refine (HRt.out _).mono ?_
      rintro e W31 ⟨rfl, hb31⟩
      have HB31 := Lib.hid (HB30.out.trans ((hb31).mono HB30.out.size))
      have P0_31 := Lib.hid (P0_30.out.below (hb31) P0_30.out.lt)
      have P2_31 := Lib.hid (P2_30.out.below (hb31) P2_30.out.lt)
      clear HB30 P0_30 P2_30 hb31
      have lP0_31 := P0_31.out.lt
      have cP0_31_0 := P0_31.out.c0
      have cP0_31_1 := P0_31.out.c1
      have lP2_31 := P2_31.out.lt
      have cP2_31_0 := P2_31.out.c0
      have cP2_31_1 := P2_31.out.c1
      go_wp2_with fail
      clear lP0_31 cP0_31_0 cP0_31_1 lP2_31 cP2_31_0 cP2_31_1
      refine (HL.out _).mono ?_
      rintro e W32 ⟨rfl, hb32⟩
      have HB32 := Lib.hid (HB31.out.trans ((hb32).mono HB31.out.size))
      have P0_32 := Lib.hid (P0_31.out.below (hb32) P0_31.out.lt)
      have P2_32 := Lib.hid (P2_31.out.below (hb32) P2_31.out.lt)
      clear HB31 P0_31 P2_31 hb32
      go_wp2
      go_ret
      exact ⟨rfl, HB32.out⟩
end Go.Proofs.Ytlndomnampcnfaa
