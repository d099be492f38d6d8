/- The laws FracOrder, FracInverse and FracArith return true. -/
import Derived.Test.YtmanlfkoannkoaaFrO
namespace Go.Proofs.Ytmanlfkoannkoaa
open Go.RowKit Go.Sort
set_option linter.unusedVariables false
set_option linter.unusedSimpArgs false

theorem cpV_anti (a b c d : Int) : cpV c d a b = -cpV a b c d := by
  unfold cpV
  rw [ok_comm c d a b]
  cases okB a b c d
  · rfl
  · simp only [if_true]
    rcases Int.lt_trichotomy (a * d) (c * b) with h | h | h
    · rw [cmpI_islt h, cmpI_isgt h]; rfl
    · rw [cmpI_iseq h, cmpI_iseq h.symm]; rfl
    · rw [cmpI_isgt h, cmpI_islt h]
theorem cpV_range (a b c d : Int) : -1 ≤ cpV a b c d ∧ cpV a b c d ≤ 1 := by
  unfold cpV cmpI
  repeat' split
  all_goals omega
theorem ord_sign {a b c d : Int} (hE : opE (okB a b c d) (a * d - c * b) (b * d) = 0) :
    (cpV a b c d = -1 ∧ opN (okB a b c d) (a * d - c * b) (b * d) < 0) ∨ (cpV a b c d = 0 ∧ opN (okB a b c d) (a * d - c * b) (b * d) = 0) ∨ (cpV a b c d = 1 ∧ 0 < opN (okB a b c d) (a * d - c * b) (b * d)) := by
  by_cases hk : okB a b c d = true
  · obtain ⟨ra, rc⟩ := ok_iff.1 hk
    unfold cpV
    rw [hk] at hE ⊢
    unfold opE at hE
    rw [if_pos rfl] at hE
    unfold opN
    rw [if_pos rfl, if_pos rfl]
    have := mk_sign hE (Int.mul_pos (by have := ra.1; omega) (by have := rc.1; omega))
    rcases Int.lt_trichotomy (a * d) (c * b) with h | h | h
    · exact .inl ⟨cmpI_islt h, this.1.2 (by omega)⟩
    · refine .inr (.inl ⟨cmpI_iseq h, ?_⟩)
      have h1 : ¬ mkN (a * d - c * b) (b * d) < 0 := fun q => by have := this.1.1 q; omega
      have h2 : ¬ 0 < mkN (a * d - c * b) (b * d) := fun q => by have := this.2.1 q; omega
      omega
    · exact .inr (.inr ⟨cmpI_isgt h, this.2.2 (by omega)⟩)
  · rw [Bool.not_eq_true] at hk; rw [hk] at hE; simp [opE] at hE
theorem add_comm3 (a b c d : Int) : opN (okB c d a b) (c * b + a * d) (d * b) = opN (okB a b c d) (a * d + c * b) (b * d) ∧ opD (okB c d a b) (c * b + a * d) (d * b) = opD (okB a b c d) (a * d + c * b) (b * d) ∧ opE (okB c d a b) (c * b + a * d) (d * b) = opE (okB a b c d) (a * d + c * b) (b * d) := by
  rw [ok_comm c d a b, Int.add_comm (c * b), Int.mul_comm d b]; exact ⟨rfl, rfl, rfl⟩
theorem mul_comm3 (a b c d : Int) : opN (okB c d a b) (c * a) (d * b) = opN (okB a b c d) (a * c) (b * d) ∧ opD (okB c d a b) (c * a) (d * b) = opD (okB a b c d) (a * c) (b * d) ∧ opE (okB c d a b) (c * a) (d * b) = opE (okB a b c d) (a * c) (b * d) := by
  rw [ok_comm c d a b, Int.mul_comm c a, Int.mul_comm d b]; exact ⟨rfl, rfl, rfl⟩
theorem op_small (r : Bool) (n m : Int) : (-9223372036854775808 ≤ opN r n m ∧ opN r n m ≤ 9223372036854775807) ∧ (-9223372036854775808 ≤ opD r n m ∧ opD r n m ≤ 9223372036854775807) := by
  unfold opN opD
  cases r
  · simp
  · simp only [if_true]
    by_cases h : mkE n m = 0
    · obtain ⟨⟨h1, h2, h3, h4, _⟩, _⟩ := mk_right h
      omega
    · have e1 : mkN n m = 0 ∧ mkD n m = 0 := by
        unfold mkE at h
        unfold mkN mkD
        by_cases hd : m = 0
        · exact ⟨if_pos (.inl hd), if_pos (.inl hd)⟩
        · rw [if_neg hd] at h
          by_cases hb : Big n m
          · exact ⟨if_pos (.inr hb), if_pos (.inr hb)⟩
          · rw [if_neg hb] at h; exact absurd rfl h
      rw [e1.1, e1.2]; omega

set_option maxRecDepth 100000 in
set_option maxHeartbeats 8000000 in
theorem fracOrder_walk (a b c d : Int) (w : World) (wa : (Lit.int .i64 a).wf = true) (wb : (Lit.int .i64 b).wf = true) (wc : (Lit.int .i64 c).wf = true) (wd : (Lit.int .i64 d).wf = true) :
    Calls Try.prog 11 #[.agg #[.int .i64 a, .int .i64 b], .agg #[.int .i64 c, .int .i64 d]] w fun e w' => e = .returned (.bool true) ∧ Below w.heap.size w w' := by
  obtain ⟨a1, a2⟩ := i64_rng wa
  obtain ⟨b1, b2⟩ := i64_rng wb
  obtain ⟨c1, c2⟩ := i64_rng wc
  obtain ⟨d1, d2⟩ := i64_rng wd
  clear wa wb wc wd
  have H1 := Lib.hid (fun W => cmpF_any a b c d W a1 a2 b1 b2 c1 c2 d1 d2)
  have H2 := Lib.hid (fun W => cmpF_any c d a b W c1 c2 d1 d2 a1 a2 b1 b2)
  have H3 := Lib.hid (fun W => fSub_any a b c d W a1 a2 b1 b2 c1 c2 d1 d2)
  have H4 := Lib.hid lives3_any
  rw [cpV_anti a b c d] at H2
  obtain ⟨r1, r2⟩ := cpV_range a b c d
  have HS := Lib.hid (fun hE => ord_sign (a := a) (b := b) (c := c) (d := d) hE)
  generalize cpV a b c d = C at *
  generalize opN (okB a b c d) (a * d - c * b) (b * d) = N at *
  generalize opD (okB a b c d) (a * d - c * b) (b * d) = D at *
  generalize opE (okB a b c d) (a * d - c * b) (b * d) = E at *
  by_cases hE : E = 0
  · have HR := HS.out hE
    clear HS r1 r2
    subst hE
    rcases HR with ⟨rfl, hN⟩ | ⟨rfl, hN⟩ | ⟨rfl, hN⟩
    · have q1 : ¬ (0 : Int) < N := by omega
      go_enter Try.func11, Try.ntmps11
      go_wp2_with fail
      have P0_1 := Lib.hid (show Cell2 ((w.alloc (Obj.cells #[(.int .i64 a), (.int .i64 b)] 23)).alloc (Obj.cells #[(.int .i64 c), (.int .i64 d)] 23)) (w.heap.size) (.int .i64 a) (.int .i64 b) from by have q := Cell2.alloc w (.int .i64 a) (.int .i64 b) 23; exact q.below (N := w.heap.size + 1) ((Below.refl _ _).alloc (by simp <;> omega) (Obj.cells #[(.int .i64 c), (.int .i64 d)] 23)) (by omega))
      have P1_1 := Lib.hid (show Cell2 ((w.alloc (Obj.cells #[(.int .i64 a), (.int .i64 b)] 23)).alloc (Obj.cells #[(.int .i64 c), (.int .i64 d)] 23)) (w.heap.size + 1) (.int .i64 c) (.int .i64 d) from by simpa using Cell2.alloc (w.alloc (Obj.cells #[(.int .i64 a), (.int .i64 b)] 23)) (.int .i64 c) (.int .i64 d) 23)
      have HB1 := Lib.hid (((Below.refl w.heap.size w).alloc (Nat.le_refl _) (Obj.cells #[(.int .i64 a), (.int .i64 b)] 23)).alloc (by simp) (Obj.cells #[(.int .i64 c), (.int .i64 d)] 23))
      generalize ((w.alloc (Obj.cells #[(.int .i64 a), (.int .i64 b)] 23)).alloc (Obj.cells #[(.int .i64 c), (.int .i64 d)] 23)) = W1 at *
      refine (H1.out _).mono ?_
      rintro e W2 ⟨rfl, hb2⟩
      have HB2 := Lib.hid (HB1.out.trans ((hb2).mono HB1.out.size))
      have P0_2 := Lib.hid (P0_1.out.below (hb2) P0_1.out.lt)
      have P1_2 := Lib.hid (P1_1.out.below (hb2) P1_1.out.lt)
      clear HB1 P0_1 P1_1 hb2
      have lP0_2 := P0_2.out.lt
      have cP0_2_0 := P0_2.out.c0
      have cP0_2_1 := P0_2.out.c1
      have lP1_2 := P1_2.out.lt
      have cP1_2_0 := P1_2.out.c0
      have cP1_2_1 := P1_2.out.c1
      go_wp2_with fail
      clear lP0_2 cP0_2_0 cP0_2_1 lP1_2 cP1_2_0 cP1_2_1
      refine (H2.out _).mono ?_
      rintro e W3 ⟨rfl, hb3⟩
      have HB3 := Lib.hid (HB2.out.trans ((hb3).mono HB2.out.size))
      have P0_3 := Lib.hid (P0_2.out.below (hb3) P0_2.out.lt)
      have P1_3 := Lib.hid (P1_2.out.below (hb3) P1_2.out.lt)
      clear HB2 P0_2 P1_2 hb3
      have lP0_3 := P0_3.out.lt
      have cP0_3_0 := P0_3.out.c0
      have cP0_3_1 := P0_3.out.c1
      have lP1_3 := P1_3.out.lt
      have cP1_3_0 := P1_3.out.c0
      have cP1_3_1 := P1_3.out.c1
      go_wp2_with fail
      clear lP0_3 cP0_3_0 cP0_3_1 lP1_3 cP1_3_0 cP1_3_1
      refine (H3.out _).mono ?_
      rintro e W4 ⟨rfl, hb4⟩
      have HB4 := Lib.hid (HB3.out.trans ((hb4).mono HB3.out.size))
      have P0_4 := Lib.hid (P0_3.out.below (hb4) P0_3.out.lt)
      have P1_4 := Lib.hid (P1_3.out.below (hb4) P1_3.out.lt)
      clear HB3 P0_3 P1_3 hb4
      have lP0_4 := P0_4.out.lt
      have cP0_4_0 := P0_4.out.c0
      have cP0_4_1 := P0_4.out.c1
      have lP1_4 := P1_4.out.lt
      have cP1_4_0 := P1_4.out.c0
      have cP1_4_1 := P1_4.out.c1
      go_wp2_with fail
      clear lP0_4 cP0_4_0 cP0_4_1 lP1_4 cP1_4_0 cP1_4_1
      have P2_5 := Lib.hid (Cell2.alloc W4 (.int .i64 N) (.int .i64 D) 23)
      have HB5 := Lib.hid (HB4.out.trans (((Below.refl W4.heap.size W4).alloc (Nat.le_refl _) (Obj.cells #[(.int .i64 N), (.int .i64 D)] 23)).mono HB4.out.size))
      have P0_5 := Lib.hid (P0_4.out.below ((Below.refl W4.heap.size W4).alloc (Nat.le_refl _) (Obj.cells #[(.int .i64 N), (.int .i64 D)] 23)) P0_4.out.lt)
      have P1_5 := Lib.hid (P1_4.out.below ((Below.refl W4.heap.size W4).alloc (Nat.le_refl _) (Obj.cells #[(.int .i64 N), (.int .i64 D)] 23)) P1_4.out.lt)
      clear HB4 P0_4 P1_4
      generalize W4.alloc (Obj.cells #[(.int .i64 N), (.int .i64 D)] 23) = W5 at *
      refine (H4.out _).mono ?_
      rintro e W6 ⟨rfl, hb6⟩
      have HB6 := Lib.hid (HB5.out.trans ((hb6).mono HB5.out.size))
      have P0_6 := Lib.hid (P0_5.out.below (hb6) P0_5.out.lt)
      have P1_6 := Lib.hid (P1_5.out.below (hb6) P1_5.out.lt)
      have P2_6 := Lib.hid (P2_5.out.below (hb6) P2_5.out.lt)
      clear HB5 P0_5 P1_5 P2_5 hb6
      go_wp2
      go_ret
      exact ⟨rfl, HB6.out⟩
    · subst hN
      go_enter Try.func11, Try.ntmps11
      go_wp2_with fail
      have P0_7 := Lib.hid (show Cell2 ((w.alloc (Obj.cells #[(.int .i64 a), (.int .i64 b)] 23)).alloc (Obj.cells #[(.int .i64 c), (.int .i64 d)] 23)) (w.heap.size) (.int .i64 a) (.int .i64 b) from by have q := Cell2.alloc w (.int .i64 a) (.int .i64 b) 23; exact q.below (N := w.heap.size + 1) ((Below.refl _ _).alloc (by simp <;> omega) (Obj.cells #[(.int .i64 c), (.int .i64 d)] 23)) (by omega))
      have P1_7 := Lib.hid (show Cell2 ((w.alloc (Obj.cells #[(.int .i64 a), (.int .i64 b)] 23)).alloc (Obj.cells #[(.int .i64 c), (.int .i64 d)] 23)) (w.heap.size + 1) (.int .i64 c) (.int .i64 d) from by simpa using Cell2.alloc (w.alloc (Obj.cells #[(.int .i64 a), (.int .i64 b)] 23)) (.int .i64 c) (.int .i64 d) 23)
      have HB7 := Lib.hid (((Below.refl w.heap.size w).alloc (Nat.le_refl _) (Obj.cells #[(.int .i64 a), (.int .i64 b)] 23)).alloc (by simp) (Obj.cells #[(.int .i64 c), (.int .i64 d)] 23))
      generalize ((w.alloc (Obj.cells #[(.int .i64 a), (.int .i64 b)] 23)).alloc (Obj.cells #[(.int .i64 c), (.int .i64 d)] 23)) = W7 at *
      refine (H1.out _).mono ?_
      rintro e W8 ⟨rfl, hb8⟩
      have HB8 := Lib.hid (HB7.out.trans ((hb8).mono HB7.out.size))
      have P0_8 := Lib.hid (P0_7.out.below (hb8) P0_7.out.lt)
      have P1_8 := Lib.hid (P1_7.out.below (hb8) P1_7.out.lt)
      clear HB7 P0_7 P1_7 hb8
      have lP0_8 := P0_8.out.lt
      have cP0_8_0 := P0_8.out.c0
      have cP0_8_1 := P0_8.out.c1
      have lP1_8 := P1_8.out.lt
      have cP1_8_0 := P1_8.out.c0
      have cP1_8_1 := P1_8.out.c1
      go_wp2_with fail
      clear lP0_8 cP0_8_0 cP0_8_1 lP1_8 cP1_8_0 cP1_8_1
      refine (H2.out _).mono ?_
      rintro e W9 ⟨rfl, hb9⟩
      have HB9 := Lib.hid (HB8.out.trans ((hb9).mono HB8.out.size))
      have P0_9 := Lib.hid (P0_8.out.below (hb9) P0_8.out.lt)
      have P1_9 := Lib.hid (P1_8.out.below (hb9) P1_8.out.lt)
      clear HB8 P0_8 P1_8 hb9
      have lP0_9 := P0_9.out.lt
      have cP0_9_0 := P0_9.out.c0
      have cP0_9_1 := P0_9.out.c1
      have lP1_9 := P1_9.out.lt
      have cP1_9_0 := P1_9.out.c0
      have cP1_9_1 := P1_9.out.c1
      go_wp2_with fail
      clear lP0_9 cP0_9_0 cP0_9_1 lP1_9 cP1_9_0 cP1_9_1
      refine (H3.out _).mono ?_
      rintro e W10 ⟨rfl, hb10⟩
      have HB10 := Lib.hid (HB9.out.trans ((hb10).mono HB9.out.size))
      have P0_10 := Lib.hid (P0_9.out.below (hb10) P0_9.out.lt)
      have P1_10 := Lib.hid (P1_9.out.below (hb10) P1_9.out.lt)
      clear HB9 P0_9 P1_9 hb10
      have lP0_10 := P0_10.out.lt
      have cP0_10_0 := P0_10.out.c0
      have cP0_10_1 := P0_10.out.c1
      have lP1_10 := P1_10.out.lt
      have cP1_10_0 := P1_10.out.c0
      have cP1_10_1 := P1_10.out.c1
      go_wp2_with fail
      clear lP0_10 cP0_10_0 cP0_10_1 lP1_10 cP1_10_0 cP1_10_1
      have P2_11 := Lib.hid (Cell2.alloc W10 (.int .i64 0) (.int .i64 D) 23)
      have HB11 := Lib.hid (HB10.out.trans (((Below.refl W10.heap.size W10).alloc (Nat.le_refl _) (Obj.cells #[(.int .i64 0), (.int .i64 D)] 23)).mono HB10.out.size))
      have P0_11 := Lib.hid (P0_10.out.below ((Below.refl W10.heap.size W10).alloc (Nat.le_refl _) (Obj.cells #[(.int .i64 0), (.int .i64 D)] 23)) P0_10.out.lt)
      have P1_11 := Lib.hid (P1_10.out.below ((Below.refl W10.heap.size W10).alloc (Nat.le_refl _) (Obj.cells #[(.int .i64 0), (.int .i64 D)] 23)) P1_10.out.lt)
      clear HB10 P0_10 P1_10
      generalize W10.alloc (Obj.cells #[(.int .i64 0), (.int .i64 D)] 23) = W11 at *
      refine (H4.out _).mono ?_
      rintro e W12 ⟨rfl, hb12⟩
      have HB12 := Lib.hid (HB11.out.trans ((hb12).mono HB11.out.size))
      have P0_12 := Lib.hid (P0_11.out.below (hb12) P0_11.out.lt)
      have P1_12 := Lib.hid (P1_11.out.below (hb12) P1_11.out.lt)
      have P2_12 := Lib.hid (P2_11.out.below (hb12) P2_11.out.lt)
      clear HB11 P0_11 P1_11 P2_11 hb12
      go_wp2
      go_ret
      exact ⟨rfl, HB12.out⟩
    · have q1 : ¬ N < (0 : Int) := by omega
      go_enter Try.func11, Try.ntmps11
      go_wp2_with fail
      have P0_13 := Lib.hid (show Cell2 ((w.alloc (Obj.cells #[(.int .i64 a), (.int .i64 b)] 23)).alloc (Obj.cells #[(.int .i64 c), (.int .i64 d)] 23)) (w.heap.size) (.int .i64 a) (.int .i64 b) from by have q := Cell2.alloc w (.int .i64 a) (.int .i64 b) 23; exact q.below (N := w.heap.size + 1) ((Below.refl _ _).alloc (by simp <;> omega) (Obj.cells #[(.int .i64 c), (.int .i64 d)] 23)) (by omega))
      have P1_13 := Lib.hid (show Cell2 ((w.alloc (Obj.cells #[(.int .i64 a), (.int .i64 b)] 23)).alloc (Obj.cells #[(.int .i64 c), (.int .i64 d)] 23)) (w.heap.size + 1) (.int .i64 c) (.int .i64 d) from by simpa using Cell2.alloc (w.alloc (Obj.cells #[(.int .i64 a), (.int .i64 b)] 23)) (.int .i64 c) (.int .i64 d) 23)
      have HB13 := Lib.hid (((Below.refl w.heap.size w).alloc (Nat.le_refl _) (Obj.cells #[(.int .i64 a), (.int .i64 b)] 23)).alloc (by simp) (Obj.cells #[(.int .i64 c), (.int .i64 d)] 23))
      generalize ((w.alloc (Obj.cells #[(.int .i64 a), (.int .i64 b)] 23)).alloc (Obj.cells #[(.int .i64 c), (.int .i64 d)] 23)) = W13 at *
      refine (H1.out _).mono ?_
      rintro e W14 ⟨rfl, hb14⟩
      have HB14 := Lib.hid (HB13.out.trans ((hb14).mono HB13.out.size))
      have P0_14 := Lib.hid (P0_13.out.below (hb14) P0_13.out.lt)
      have P1_14 := Lib.hid (P1_13.out.below (hb14) P1_13.out.lt)
      clear HB13 P0_13 P1_13 hb14
      have lP0_14 := P0_14.out.lt
      have cP0_14_0 := P0_14.out.c0
      have cP0_14_1 := P0_14.out.c1
      have lP1_14 := P1_14.out.lt
      have cP1_14_0 := P1_14.out.c0
      have cP1_14_1 := P1_14.out.c1
      go_wp2_with fail
      clear lP0_14 cP0_14_0 cP0_14_1 lP1_14 cP1_14_0 cP1_14_1
      refine (H2.out _).mono ?_
      rintro e W15 ⟨rfl, hb15⟩
      have HB15 := Lib.hid (HB14.out.trans ((hb15).mono HB14.out.size))
      have P0_15 := Lib.hid (P0_14.out.below (hb15) P0_14.out.lt)
      have P1_15 := Lib.hid (P1_14.out.below (hb15) P1_14.out.lt)
      clear HB14 P0_14 P1_14 hb15
      have lP0_15 := P0_15.out.lt
      have cP0_15_0 := P0_15.out.c0
      have cP0_15_1 := P0_15.out.c1
      have lP1_15 := P1_15.out.lt
      have cP1_15_0 := P1_15.out.c0
      have cP1_15_1 := P1_15.out.c1
      go_wp2_with fail
      clear lP0_15 cP0_15_0 cP0_15_1 lP1_15 cP1_15_0 cP1_15_1
      refine (H3.out _).mono ?_
      rintro e W16 ⟨rfl, hb16⟩
      have HB16 := Lib.hid (HB15.out.trans ((hb16).mono HB15.out.size))
      have P0_16 := Lib.hid (P0_15.out.below (hb16) P0_15.out.lt)
      have P1_16 := Lib.hid (P1_15.out.below (hb16) P1_15.out.lt)
      clear HB15 P0_15 P1_15 hb16
      have lP0_16 := P0_16.out.lt
      have cP0_16_0 := P0_16.out.c0
      have cP0_16_1 := P0_16.out.c1
      have lP1_16 := P1_16.out.lt
      have cP1_16_0 := P1_16.out.c0
      have cP1_16_1 := P1_16.out.c1
      go_wp2_with fail
      clear lP0_16 cP0_16_0 cP0_16_1 lP1_16 cP1_16_0 cP1_16_1
      have P2_17 := Lib.hid (Cell2.alloc W16 (.int .i64 N) (.int .i64 D) 23)
      have HB17 := Lib.hid (HB16.out.trans (((Below.refl W16.heap.size W16).alloc (Nat.le_refl _) (Obj.cells #[(.int .i64 N), (.int .i64 D)] 23)).mono HB16.out.size))
      have P0_17 := Lib.hid (P0_16.out.below ((Below.refl W16.heap.size W16).alloc (Nat.le_refl _) (Obj.cells #[(.int .i64 N), (.int .i64 D)] 23)) P0_16.out.lt)
      have P1_17 := Lib.hid (P1_16.out.below ((Below.refl W16.heap.size W16).alloc (Nat.le_refl _) (Obj.cells #[(.int .i64 N), (.int .i64 D)] 23)) P1_16.out.lt)
      clear HB16 P0_16 P1_16
      generalize W16.alloc (Obj.cells #[(.int .i64 N), (.int .i64 D)] 23) = W17 at *
      refine (H4.out _).mono ?_
      rintro e W18 ⟨rfl, hb18⟩
      have HB18 := Lib.hid (HB17.out.trans ((hb18).mono HB17.out.size))
      have P0_18 := Lib.hid (P0_17.out.below (hb18) P0_17.out.lt)
      have P1_18 := Lib.hid (P1_17.out.below (hb18) P1_17.out.lt)
      have P2_18 := Lib.hid (P2_17.out.below (hb18) P2_17.out.lt)
      clear HB17 P0_17 P1_17 P2_17 hb18
      go_wp2
      go_ret
      exact ⟨rfl, HB18.out⟩
  · have hE' : (E == 0) = false := by simpa using hE
    clear HS hE
    go_enter Try.func11, Try.ntmps11
    go_wp2_with fail
    have P0_19 := Lib.hid (show Cell2 ((w.alloc (Obj.cells #[(.int .i64 a), (.int .i64 b)] 23)).alloc (Obj.cells #[(.int .i64 c), (.int .i64 d)] 23)) (w.heap.size) (.int .i64 a) (.int .i64 b) from by have q := Cell2.alloc w (.int .i64 a) (.int .i64 b) 23; exact q.below (N := w.heap.size + 1) ((Below.refl _ _).alloc (by simp <;> omega) (Obj.cells #[(.int .i64 c), (.int .i64 d)] 23)) (by omega))
    have P1_19 := Lib.hid (show Cell2 ((w.alloc (Obj.cells #[(.int .i64 a), (.int .i64 b)] 23)).alloc (Obj.cells #[(.int .i64 c), (.int .i64 d)] 23)) (w.heap.size + 1) (.int .i64 c) (.int .i64 d) from by simpa using Cell2.alloc (w.alloc (Obj.cells #[(.int .i64 a), (.int .i64 b)] 23)) (.int .i64 c) (.int .i64 d) 23)
    have HB19 := Lib.hid (((Below.refl w.heap.size w).alloc (Nat.le_refl _) (Obj.cells #[(.int .i64 a), (.int .i64 b)] 23)).alloc (by simp) (Obj.cells #[(.int .i64 c), (.int .i64 d)] 23))
    generalize ((w.alloc (Obj.cells #[(.int .i64 a), (.int .i64 b)] 23)).alloc (Obj.cells #[(.int .i64 c), (.int .i64 d)] 23)) = W19 at *
    refine (H1.out _).mono ?_
    rintro e W20 ⟨rfl, hb20⟩
    have HB20 := Lib.hid (HB19.out.trans ((hb20).mono HB19.out.size))
    have P0_20 := Lib.hid (P0_19.out.below (hb20) P0_19.out.lt)
    have P1_20 := Lib.hid (P1_19.out.below (hb20) P1_19.out.lt)
    clear HB19 P0_19 P1_19 hb20
    have lP0_20 := P0_20.out.lt
    have cP0_20_0 := P0_20.out.c0
    have cP0_20_1 := P0_20.out.c1
    have lP1_20 := P1_20.out.lt
    have cP1_20_0 := P1_20.out.c0
    have cP1_20_1 := P1_20.out.c1
    go_wp2_with fail
    clear lP0_20 cP0_20_0 cP0_20_1 lP1_20 cP1_20_0 cP1_20_1
    refine (H2.out _).mono ?_
    rintro e W21 ⟨rfl, hb21⟩
    have HB21 := Lib.hid (HB20.out.trans ((hb21).mono HB20.out.size))
    have P0_21 := Lib.hid (P0_20.out.below (hb21) P0_20.out.lt)
    have P1_21 := Lib.hid (P1_20.out.below (hb21) P1_20.out.lt)
    clear HB20 P0_20 P1_20 hb21
    have lP0_21 := P0_21.out.lt
    have cP0_21_0 := P0_21.out.c0
    have cP0_21_1 := P0_21.out.c1
    have lP1_21 := P1_21.out.lt
    have cP1_21_0 := P1_21.out.c0
    have cP1_21_1 := P1_21.out.c1
    go_wp2_with fail
    clear lP0_21 cP0_21_0 cP0_21_1 lP1_21 cP1_21_0 cP1_21_1
    refine (H3.out _).mono ?_
    rintro e W22 ⟨rfl, hb22⟩
    have HB22 := Lib.hid (HB21.out.trans ((hb22).mono HB21.out.size))
    have P0_22 := Lib.hid (P0_21.out.below (hb22) P0_21.out.lt)
    have P1_22 := Lib.hid (P1_21.out.below (hb22) P1_21.out.lt)
    clear HB21 P0_21 P1_21 hb22
    have lP0_22 := P0_22.out.lt
    have cP0_22_0 := P0_22.out.c0
    have cP0_22_1 := P0_22.out.c1
    have lP1_22 := P1_22.out.lt
    have cP1_22_0 := P1_22.out.c0
    have cP1_22_1 := P1_22.out.c1
    go_wp2_with fail
    clear lP0_22 cP0_22_0 cP0_22_1 lP1_22 cP1_22_0 cP1_22_1
    have P2_23 := Lib.hid (Cell2.alloc W22 (.int .i64 N) (.int .i64 D) 23)
    have HB23 := Lib.hid (HB22.out.trans (((Below.refl W22.heap.size W22).alloc (Nat.le_refl _) (Obj.cells #[(.int .i64 N), (.int .i64 D)] 23)).mono HB22.out.size))
    have P0_23 := Lib.hid (P0_22.out.below ((Below.refl W22.heap.size W22).alloc (Nat.le_refl _) (Obj.cells #[(.int .i64 N), (.int .i64 D)] 23)) P0_22.out.lt)
    have P1_23 := Lib.hid (P1_22.out.below ((Below.refl W22.heap.size W22).alloc (Nat.le_refl _) (Obj.cells #[(.int .i64 N), (.int .i64 D)] 23)) P1_22.out.lt)
    clear HB22 P0_22 P1_22
    generalize W22.alloc (Obj.cells #[(.int .i64 N), (.int .i64 D)] 23) = W23 at *
    refine (H4.out _).mono ?_
    rintro e W24 ⟨rfl, hb24⟩
    have HB24 := Lib.hid (HB23.out.trans ((hb24).mono HB23.out.size))
    have P0_24 := Lib.hid (P0_23.out.below (hb24) P0_23.out.lt)
    have P1_24 := Lib.hid (P1_23.out.below (hb24) P1_23.out.lt)
    have P2_24 := Lib.hid (P2_23.out.below (hb24) P2_23.out.lt)
    clear HB23 P0_23 P1_23 P2_23 hb24
    go_wp2
    go_ret
    exact ⟨rfl, HB24.out⟩

set_option maxRecDepth 100000 in
set_option maxHeartbeats 8000000 in
theorem inv_111 (a b c d : Int) (w : World) (a1 : -9223372036854775808 ≤ a) (a2 : a ≤ 9223372036854775807) (b1 : -9223372036854775808 ≤ b) (b2 : b ≤ 9223372036854775807) (c1 : -9223372036854775808 ≤ c) (c2 : c ≤ 9223372036854775807) (d1 : -9223372036854775808 ≤ d) (d2 : d ≤ 9223372036854775807) (he : opE (okB a b c d) (a * d + c * b) (b * d) = 0) (hz : opE (okB a b c d) (a * c) (b * d) = 0) (hc : c = 0) :
    Calls Try.prog 9 #[.agg #[.int .i64 a, .int .i64 b], .agg #[.int .i64 c, .int .i64 d]] w fun e w' => e = .returned (.bool true) ∧ Below w.heap.size w w' := by
  have H1 := Lib.hid (fun W => fAdd_any a b c d W a1 a2 b1 b2 c1 c2 d1 d2)
  have H2 := Lib.hid (fun W => fAdd_any c d a b W c1 c2 d1 d2 a1 a2 b1 b2)
  have H4 := Lib.hid (fun W => fMul_any a b c d W a1 a2 b1 b2 c1 c2 d1 d2)
  have H5 := Lib.hid (fun W => fMul_any c d a b W c1 c2 d1 d2 a1 a2 b1 b2)
  have H7 := Lib.hid lives3_any
  rw [(add_comm3 a b c d).1, (add_comm3 a b c d).2.1, (add_comm3 a b c d).2.2] at H2
  rw [(mul_comm3 a b c d).1, (mul_comm3 a b c d).2.1, (mul_comm3 a b c d).2.2] at H5
  obtain ⟨⟨s1, s2⟩, t1, t2⟩ := op_small (okB a b c d) (a * d + c * b) (b * d)
  have HI := op_inv_add he
  have H3 := Lib.hid (fun W => fSub_any _ _ c d W s1 s2 t1 t2 c1 c2 d1 d2)
  rw [HI.1, HI.2.1, HI.2.2] at H3
  rw [he] at H1 H2
  clear HI s1 s2 t1 t2
  rw [hz] at H4 H5
  clear a1 a2 b1 b2 c1 c2 d1 d2
  clear he hz
  generalize opN (okB a b c d) (a * d + c * b) (b * d) = s at *
  generalize opD (okB a b c d) (a * d + c * b) (b * d) = t at *
  generalize opN (okB a b c d) (a * c) (b * d) = x at *
  generalize opD (okB a b c d) (a * c) (b * d) = y at *
  subst hc
  go_enter Try.func9, Try.ntmps9
  go_wp2_with fail
  have P0_25 := Lib.hid (show Cell2 ((w.alloc (Obj.cells #[(.int .i64 a), (.int .i64 b)] 23)).alloc (Obj.cells #[(.int .i64 0), (.int .i64 d)] 23)) (w.heap.size) (.int .i64 a) (.int .i64 b) from by have q := Cell2.alloc w (.int .i64 a) (.int .i64 b) 23; exact q.below (N := w.heap.size + 1) ((Below.refl _ _).alloc (by simp <;> omega) (Obj.cells #[(.int .i64 0), (.int .i64 d)] 23)) (by omega))
  have P1_25 := Lib.hid (show Cell2 ((w.alloc (Obj.cells #[(.int .i64 a), (.int .i64 b)] 23)).alloc (Obj.cells #[(.int .i64 0), (.int .i64 d)] 23)) (w.heap.size + 1) (.int .i64 0) (.int .i64 d) from by simpa using Cell2.alloc (w.alloc (Obj.cells #[(.int .i64 a), (.int .i64 b)] 23)) (.int .i64 0) (.int .i64 d) 23)
  have HB25 := Lib.hid (((Below.refl w.heap.size w).alloc (Nat.le_refl _) (Obj.cells #[(.int .i64 a), (.int .i64 b)] 23)).alloc (by simp) (Obj.cells #[(.int .i64 0), (.int .i64 d)] 23))
  generalize ((w.alloc (Obj.cells #[(.int .i64 a), (.int .i64 b)] 23)).alloc (Obj.cells #[(.int .i64 0), (.int .i64 d)] 23)) = W25 at *
  refine (H1.out _).mono ?_
  rintro e W26 ⟨rfl, hb26⟩
  have HB26 := Lib.hid (HB25.out.trans ((hb26).mono HB25.out.size))
  have P0_26 := Lib.hid (P0_25.out.below (hb26) P0_25.out.lt)
  have P1_26 := Lib.hid (P1_25.out.below (hb26) P1_25.out.lt)
  clear HB25 P0_25 P1_25 hb26
  have lP0_26 := P0_26.out.lt
  have cP0_26_0 := P0_26.out.c0
  have cP0_26_1 := P0_26.out.c1
  have lP1_26 := P1_26.out.lt
  have cP1_26_0 := P1_26.out.c0
  have cP1_26_1 := P1_26.out.c1
  go_wp2_with fail
  clear lP0_26 cP0_26_0 cP0_26_1 lP1_26 cP1_26_0 cP1_26_1
  have P2_27 := Lib.hid (Cell2.alloc W26 (.int .i64 s) (.int .i64 t) 23)
  have HB27 := Lib.hid (HB26.out.trans (((Below.refl W26.heap.size W26).alloc (Nat.le_refl _) (Obj.cells #[(.int .i64 s), (.int .i64 t)] 23)).mono HB26.out.size))
  have P0_27 := Lib.hid (P0_26.out.below ((Below.refl W26.heap.size W26).alloc (Nat.le_refl _) (Obj.cells #[(.int .i64 s), (.int .i64 t)] 23)) P0_26.out.lt)
  have P1_27 := Lib.hid (P1_26.out.below ((Below.refl W26.heap.size W26).alloc (Nat.le_refl _) (Obj.cells #[(.int .i64 s), (.int .i64 t)] 23)) P1_26.out.lt)
  clear HB26 P0_26 P1_26
  generalize W26.alloc (Obj.cells #[(.int .i64 s), (.int .i64 t)] 23) = W27 at *
  refine (H2.out _).mono ?_
  rintro e W28 ⟨rfl, hb28⟩
  have HB28 := Lib.hid (HB27.out.trans ((hb28).mono HB27.out.size))
  have P0_28 := Lib.hid (P0_27.out.below (hb28) P0_27.out.lt)
  have P1_28 := Lib.hid (P1_27.out.below (hb28) P1_27.out.lt)
  have P2_28 := Lib.hid (P2_27.out.below (hb28) P2_27.out.lt)
  clear HB27 P0_27 P1_27 P2_27 hb28
  have lP0_28 := P0_28.out.lt
  have cP0_28_0 := P0_28.out.c0
  have cP0_28_1 := P0_28.out.c1
  have lP1_28 := P1_28.out.lt
  have cP1_28_0 := P1_28.out.c0
  have cP1_28_1 := P1_28.out.c1
  have lP2_28 := P2_28.out.lt
  have cP2_28_0 := P2_28.out.c0
  have cP2_28_1 := P2_28.out.c1
  go_wp2_with fail
  clear lP0_28 cP0_28_0 cP0_28_1 lP1_28 cP1_28_0 cP1_28_1 lP2_28 cP2_28_0 cP2_28_1
  have P3_29 := Lib.hid (Cell2.alloc W28 (.int .i64 s) (.int .i64 t) 23)
  have HB29 := Lib.hid (HB28.out.trans (((Below.refl W28.heap.size W28).alloc (Nat.le_refl _) (Obj.cells #[(.int .i64 s), (.int .i64 t)] 23)).mono HB28.out.size))
  have P0_29 := Lib.hid (P0_28.out.below ((Below.refl W28.heap.size W28).alloc (Nat.le_refl _) (Obj.cells #[(.int .i64 s), (.int .i64 t)] 23)) P0_28.out.lt)
  have P1_29 := Lib.hid (P1_28.out.below ((Below.refl W28.heap.size W28).alloc (Nat.le_refl _) (Obj.cells #[(.int .i64 s), (.int .i64 t)] 23)) P1_28.out.lt)
  have P2_29 := Lib.hid (P2_28.out.below ((Below.refl W28.heap.size W28).alloc (Nat.le_refl _) (Obj.cells #[(.int .i64 s), (.int .i64 t)] 23)) P2_28.out.lt)
  clear HB28 P0_28 P1_28 P2_28
  generalize W28.alloc (Obj.cells #[(.int .i64 s), (.int .i64 t)] 23) = W29 at *
  refine (H3.out _).mono ?_
  rintro e W30 ⟨rfl, hb30⟩
  have HB30 := Lib.hid (HB29.out.trans ((hb30).mono HB29.out.size))
  have P0_30 := Lib.hid (P0_29.out.below (hb30) P0_29.out.lt)
  have P1_30 := Lib.hid (P1_29.out.below (hb30) P1_29.out.lt)
  have P2_30 := Lib.hid (P2_29.out.below (hb30) P2_29.out.lt)
  have P3_30 := Lib.hid (P3_29.out.below (hb30) P3_29.out.lt)
  clear HB29 P0_29 P1_29 P2_29 P3_29 hb30
  have lP0_30 := P0_30.out.lt
  have cP0_30_0 := P0_30.out.c0
  have cP0_30_1 := P0_30.out.c1
  have lP1_30 := P1_30.out.lt
  have cP1_30_0 := P1_30.out.c0
  have cP1_30_1 := P1_30.out.c1
  have lP2_30 := P2_30.out.lt
  have cP2_30_0 := P2_30.out.c0
  have cP2_30_1 := P2_30.out.c1
  have lP3_30 := P3_30.out.lt
  have cP3_30_0 := P3_30.out.c0
  have cP3_30_1 := P3_30.out.c1
  go_wp2_with fail
  clear lP0_30 cP0_30_0 cP0_30_1 lP1_30 cP1_30_0 cP1_30_1 lP2_30 cP2_30_0 cP2_30_1 lP3_30 cP3_30_0 cP3_30_1
  have P4_31 := Lib.hid (Cell2.alloc W30 (.int .i64 a) (.int .i64 b) 23)
  have HB31 := Lib.hid (HB30.out.trans (((Below.refl W30.heap.size W30).alloc (Nat.le_refl _) (Obj.cells #[(.int .i64 a), (.int .i64 b)] 23)).mono HB30.out.size))
  have P0_31 := Lib.hid (P0_30.out.below ((Below.refl W30.heap.size W30).alloc (Nat.le_refl _) (Obj.cells #[(.int .i64 a), (.int .i64 b)] 23)) P0_30.out.lt)
  have P1_31 := Lib.hid (P1_30.out.below ((Below.refl W30.heap.size W30).alloc (Nat.le_refl _) (Obj.cells #[(.int .i64 a), (.int .i64 b)] 23)) P1_30.out.lt)
  have P2_31 := Lib.hid (P2_30.out.below ((Below.refl W30.heap.size W30).alloc (Nat.le_refl _) (Obj.cells #[(.int .i64 a), (.int .i64 b)] 23)) P2_30.out.lt)
  have P3_31 := Lib.hid (P3_30.out.below ((Below.refl W30.heap.size W30).alloc (Nat.le_refl _) (Obj.cells #[(.int .i64 a), (.int .i64 b)] 23)) P3_30.out.lt)
  clear HB30 P0_30 P1_30 P2_30 P3_30
  generalize W30.alloc (Obj.cells #[(.int .i64 a), (.int .i64 b)] 23) = W31 at *
  refine (H4.out _).mono ?_
  rintro e W32 ⟨rfl, hb32⟩
  have HB32 := Lib.hid (HB31.out.trans ((hb32).mono HB31.out.size))
  have P0_32 := Lib.hid (P0_31.out.below (hb32) P0_31.out.lt)
  have P1_32 := Lib.hid (P1_31.out.below (hb32) P1_31.out.lt)
  have P2_32 := Lib.hid (P2_31.out.below (hb32) P2_31.out.lt)
  have P3_32 := Lib.hid (P3_31.out.below (hb32) P3_31.out.lt)
  have P4_32 := Lib.hid (P4_31.out.below (hb32) P4_31.out.lt)
  clear HB31 P0_31 P1_31 P2_31 P3_31 P4_31 hb32
  have lP0_32 := P0_32.out.lt
  have cP0_32_0 := P0_32.out.c0
  have cP0_32_1 := P0_32.out.c1
  have lP1_32 := P1_32.out.lt
  have cP1_32_0 := P1_32.out.c0
  have cP1_32_1 := P1_32.out.c1
  have lP2_32 := P2_32.out.lt
  have cP2_32_0 := P2_32.out.c0
  have cP2_32_1 := P2_32.out.c1
  have lP3_32 := P3_32.out.lt
  have cP3_32_0 := P3_32.out.c0
  have cP3_32_1 := P3_32.out.c1
  have lP4_32 := P4_32.out.lt
  have cP4_32_0 := P4_32.out.c0
  have cP4_32_1 := P4_32.out.c1
  go_wp2_with fail
  clear lP0_32 cP0_32_0 cP0_32_1 lP1_32 cP1_32_0 cP1_32_1 lP2_32 cP2_32_0 cP2_32_1 lP3_32 cP3_32_0 cP3_32_1 lP4_32 cP4_32_0 cP4_32_1
  have P5_33 := Lib.hid (Cell2.alloc W32 (.int .i64 x) (.int .i64 y) 23)
  have HB33 := Lib.hid (HB32.out.trans (((Below.refl W32.heap.size W32).alloc (Nat.le_refl _) (Obj.cells #[(.int .i64 x), (.int .i64 y)] 23)).mono HB32.out.size))
  have P0_33 := Lib.hid (P0_32.out.below ((Below.refl W32.heap.size W32).alloc (Nat.le_refl _) (Obj.cells #[(.int .i64 x), (.int .i64 y)] 23)) P0_32.out.lt)
  have P1_33 := Lib.hid (P1_32.out.below ((Below.refl W32.heap.size W32).alloc (Nat.le_refl _) (Obj.cells #[(.int .i64 x), (.int .i64 y)] 23)) P1_32.out.lt)
  have P2_33 := Lib.hid (P2_32.out.below ((Below.refl W32.heap.size W32).alloc (Nat.le_refl _) (Obj.cells #[(.int .i64 x), (.int .i64 y)] 23)) P2_32.out.lt)
  have P3_33 := Lib.hid (P3_32.out.below ((Below.refl W32.heap.size W32).alloc (Nat.le_refl _) (Obj.cells #[(.int .i64 x), (.int .i64 y)] 23)) P3_32.out.lt)
  have P4_33 := Lib.hid (P4_32.out.below ((Below.refl W32.heap.size W32).alloc (Nat.le_refl _) (Obj.cells #[(.int .i64 x), (.int .i64 y)] 23)) P4_32.out.lt)
  clear HB32 P0_32 P1_32 P2_32 P3_32 P4_32
  generalize W32.alloc (Obj.cells #[(.int .i64 x), (.int .i64 y)] 23) = W33 at *
  refine (H5.out _).mono ?_
  rintro e W34 ⟨rfl, hb34⟩
  have HB34 := Lib.hid (HB33.out.trans ((hb34).mono HB33.out.size))
  have P0_34 := Lib.hid (P0_33.out.below (hb34) P0_33.out.lt)
  have P1_34 := Lib.hid (P1_33.out.below (hb34) P1_33.out.lt)
  have P2_34 := Lib.hid (P2_33.out.below (hb34) P2_33.out.lt)
  have P3_34 := Lib.hid (P3_33.out.below (hb34) P3_33.out.lt)
  have P4_34 := Lib.hid (P4_33.out.below (hb34) P4_33.out.lt)
  have P5_34 := Lib.hid (P5_33.out.below (hb34) P5_33.out.lt)
  clear HB33 P0_33 P1_33 P2_33 P3_33 P4_33 P5_33 hb34
  have lP0_34 := P0_34.out.lt
  have cP0_34_0 := P0_34.out.c0
  have cP0_34_1 := P0_34.out.c1
  have lP1_34 := P1_34.out.lt
  have cP1_34_0 := P1_34.out.c0
  have cP1_34_1 := P1_34.out.c1
  have lP2_34 := P2_34.out.lt
  have cP2_34_0 := P2_34.out.c0
  have cP2_34_1 := P2_34.out.c1
  have lP3_34 := P3_34.out.lt
  have cP3_34_0 := P3_34.out.c0
  have cP3_34_1 := P3_34.out.c1
  have lP4_34 := P4_34.out.lt
  have cP4_34_0 := P4_34.out.c0
  have cP4_34_1 := P4_34.out.c1
  have lP5_34 := P5_34.out.lt
  have cP5_34_0 := P5_34.out.c0
  have cP5_34_1 := P5_34.out.c1
  go_wp2_with fail
  clear lP0_34 cP0_34_0 cP0_34_1 lP1_34 cP1_34_0 cP1_34_1 lP2_34 cP2_34_0 cP2_34_1 lP3_34 cP3_34_0 cP3_34_1 lP4_34 cP4_34_0 cP4_34_1 lP5_34 cP5_34_0 cP5_34_1
  have P6_35 := Lib.hid (Cell2.alloc W34 (.int .i64 x) (.int .i64 y) 23)
  have HB35 := Lib.hid (HB34.out.trans (((Below.refl W34.heap.size W34).alloc (Nat.le_refl _) (Obj.cells #[(.int .i64 x), (.int .i64 y)] 23)).mono HB34.out.size))
  have P0_35 := Lib.hid (P0_34.out.below ((Below.refl W34.heap.size W34).alloc (Nat.le_refl _) (Obj.cells #[(.int .i64 x), (.int .i64 y)] 23)) P0_34.out.lt)
  have P1_35 := Lib.hid (P1_34.out.below ((Below.refl W34.heap.size W34).alloc (Nat.le_refl _) (Obj.cells #[(.int .i64 x), (.int .i64 y)] 23)) P1_34.out.lt)
  have P2_35 := Lib.hid (P2_34.out.below ((Below.refl W34.heap.size W34).alloc (Nat.le_refl _) (Obj.cells #[(.int .i64 x), (.int .i64 y)] 23)) P2_34.out.lt)
  have P3_35 := Lib.hid (P3_34.out.below ((Below.refl W34.heap.size W34).alloc (Nat.le_refl _) (Obj.cells #[(.int .i64 x), (.int .i64 y)] 23)) P3_34.out.lt)
  have P4_35 := Lib.hid (P4_34.out.below ((Below.refl W34.heap.size W34).alloc (Nat.le_refl _) (Obj.cells #[(.int .i64 x), (.int .i64 y)] 23)) P4_34.out.lt)
  have P5_35 := Lib.hid (P5_34.out.below ((Below.refl W34.heap.size W34).alloc (Nat.le_refl _) (Obj.cells #[(.int .i64 x), (.int .i64 y)] 23)) P5_34.out.lt)
  clear HB34 P0_34 P1_34 P2_34 P3_34 P4_34 P5_34
  generalize W34.alloc (Obj.cells #[(.int .i64 x), (.int .i64 y)] 23) = W35 at *
  refine (H7.out _).mono ?_
  rintro e W36 ⟨rfl, hb36⟩
  have HB36 := Lib.hid (HB35.out.trans ((hb36).mono HB35.out.size))
  have P0_36 := Lib.hid (P0_35.out.below (hb36) P0_35.out.lt)
  have P1_36 := Lib.hid (P1_35.out.below (hb36) P1_35.out.lt)
  have P2_36 := Lib.hid (P2_35.out.below (hb36) P2_35.out.lt)
  have P3_36 := Lib.hid (P3_35.out.below (hb36) P3_35.out.lt)
  have P4_36 := Lib.hid (P4_35.out.below (hb36) P4_35.out.lt)
  have P5_36 := Lib.hid (P5_35.out.below (hb36) P5_35.out.lt)
  have P6_36 := Lib.hid (P6_35.out.below (hb36) P6_35.out.lt)
  clear HB35 P0_35 P1_35 P2_35 P3_35 P4_35 P5_35 P6_35 hb36
  go_wp2
  go_ret
  exact ⟨rfl, HB36.out⟩

set_option maxRecDepth 100000 in
set_option maxHeartbeats 8000000 in
theorem inv_110 (a b c d : Int) (w : World) (a1 : -9223372036854775808 ≤ a) (a2 : a ≤ 9223372036854775807) (b1 : -9223372036854775808 ≤ b) (b2 : b ≤ 9223372036854775807) (c1 : -9223372036854775808 ≤ c) (c2 : c ≤ 9223372036854775807) (d1 : -9223372036854775808 ≤ d) (d2 : d ≤ 9223372036854775807) (he : opE (okB a b c d) (a * d + c * b) (b * d) = 0) (hz : opE (okB a b c d) (a * c) (b * d) = 0) (hc : ¬ c = 0) :
    Calls Try.prog 9 #[.agg #[.int .i64 a, .int .i64 b], .agg #[.int .i64 c, .int .i64 d]] w fun e w' => e = .returned (.bool true) ∧ Below w.heap.size w w' := by
  have H1 := Lib.hid (fun W => fAdd_any a b c d W a1 a2 b1 b2 c1 c2 d1 d2)
  have H2 := Lib.hid (fun W => fAdd_any c d a b W c1 c2 d1 d2 a1 a2 b1 b2)
  have H4 := Lib.hid (fun W => fMul_any a b c d W a1 a2 b1 b2 c1 c2 d1 d2)
  have H5 := Lib.hid (fun W => fMul_any c d a b W c1 c2 d1 d2 a1 a2 b1 b2)
  have H7 := Lib.hid lives3_any
  rw [(add_comm3 a b c d).1, (add_comm3 a b c d).2.1, (add_comm3 a b c d).2.2] at H2
  rw [(mul_comm3 a b c d).1, (mul_comm3 a b c d).2.1, (mul_comm3 a b c d).2.2] at H5
  obtain ⟨⟨s1, s2⟩, t1, t2⟩ := op_small (okB a b c d) (a * d + c * b) (b * d)
  have HI := op_inv_add he
  have H3 := Lib.hid (fun W => fSub_any _ _ c d W s1 s2 t1 t2 c1 c2 d1 d2)
  rw [HI.1, HI.2.1, HI.2.2] at H3
  rw [he] at H1 H2
  clear HI s1 s2 t1 t2
  obtain ⟨⟨x1, x2⟩, y1, y2⟩ := op_small (okB a b c d) (a * c) (b * d)
  have HJ := op_inv_mul hc hz
  have H6 := Lib.hid (fun W => fQuo_any _ _ c d W x1 x2 y1 y2 c1 c2 d1 d2)
  rw [HJ.1, HJ.2.1, HJ.2.2] at H6
  clear HJ x1 x2 y1 y2
  rw [hz] at H4 H5
  clear a1 a2 b1 b2 c1 c2 d1 d2
  clear he hz
  generalize opN (okB a b c d) (a * d + c * b) (b * d) = s at *
  generalize opD (okB a b c d) (a * d + c * b) (b * d) = t at *
  generalize opN (okB a b c d) (a * c) (b * d) = x at *
  generalize opD (okB a b c d) (a * c) (b * d) = y at *
  have hc' : (c != 0) = true := by simpa using hc
  clear hc
  go_enter Try.func9, Try.ntmps9
  go_wp2_with fail
  have P0_37 := Lib.hid (show Cell2 ((w.alloc (Obj.cells #[(.int .i64 a), (.int .i64 b)] 23)).alloc (Obj.cells #[(.int .i64 c), (.int .i64 d)] 23)) (w.heap.size) (.int .i64 a) (.int .i64 b) from by have q := Cell2.alloc w (.int .i64 a) (.int .i64 b) 23; exact q.below (N := w.heap.size + 1) ((Below.refl _ _).alloc (by simp <;> omega) (Obj.cells #[(.int .i64 c), (.int .i64 d)] 23)) (by omega))
  have P1_37 := Lib.hid (show Cell2 ((w.alloc (Obj.cells #[(.int .i64 a), (.int .i64 b)] 23)).alloc (Obj.cells #[(.int .i64 c), (.int .i64 d)] 23)) (w.heap.size + 1) (.int .i64 c) (.int .i64 d) from by simpa using Cell2.alloc (w.alloc (Obj.cells #[(.int .i64 a), (.int .i64 b)] 23)) (.int .i64 c) (.int .i64 d) 23)
  have HB37 := Lib.hid (((Below.refl w.heap.size w).alloc (Nat.le_refl _) (Obj.cells #[(.int .i64 a), (.int .i64 b)] 23)).alloc (by simp) (Obj.cells #[(.int .i64 c), (.int .i64 d)] 23))
  generalize ((w.alloc (Obj.cells #[(.int .i64 a), (.int .i64 b)] 23)).alloc (Obj.cells #[(.int .i64 c), (.int .i64 d)] 23)) = W37 at *
  refine (H1.out _).mono ?_
  rintro e W38 ⟨rfl, hb38⟩
  have HB38 := Lib.hid (HB37.out.trans ((hb38).mono HB37.out.size))
  have P0_38 := Lib.hid (P0_37.out.below (hb38) P0_37.out.lt)
  have P1_38 := Lib.hid (P1_37.out.below (hb38) P1_37.out.lt)
  clear HB37 P0_37 P1_37 hb38
  have lP0_38 := P0_38.out.lt
  have cP0_38_0 := P0_38.out.c0
  have cP0_38_1 := P0_38.out.c1
  have lP1_38 := P1_38.out.lt
  have cP1_38_0 := P1_38.out.c0
  have cP1_38_1 := P1_38.out.c1
  go_wp2_with fail
  clear lP0_38 cP0_38_0 cP0_38_1 lP1_38 cP1_38_0 cP1_38_1
  have P2_39 := Lib.hid (Cell2.alloc W38 (.int .i64 s) (.int .i64 t) 23)
  have HB39 := Lib.hid (HB38.out.trans (((Below.refl W38.heap.size W38).alloc (Nat.le_refl _) (Obj.cells #[(.int .i64 s), (.int .i64 t)] 23)).mono HB38.out.size))
  have P0_39 := Lib.hid (P0_38.out.below ((Below.refl W38.heap.size W38).alloc (Nat.le_refl _) (Obj.cells #[(.int .i64 s), (.int .i64 t)] 23)) P0_38.out.lt)
  have P1_39 := Lib.hid (P1_38.out.below ((Below.refl W38.heap.size W38).alloc (Nat.le_refl _) (Obj.cells #[(.int .i64 s), (.int .i64 t)] 23)) P1_38.out.lt)
  clear HB38 P0_38 P1_38
  generalize W38.alloc (Obj.cells #[(.int .i64 s), (.int .i64 t)] 23) = W39 at *
  refine (H2.out _).mono ?_
  rintro e W40 ⟨rfl, hb40⟩
  have HB40 := Lib.hid (HB39.out.trans ((hb40).mono HB39.out.size))
  have P0_40 := Lib.hid (P0_39.out.below (hb40) P0_39.out.lt)
  have P1_40 := Lib.hid (P1_39.out.below (hb40) P1_39.out.lt)
  have P2_40 := Lib.hid (P2_39.out.below (hb40) P2_39.out.lt)
  clear HB39 P0_39 P1_39 P2_39 hb40
  have lP0_40 := P0_40.out.lt
  have cP0_40_0 := P0_40.out.c0
  have cP0_40_1 := P0_40.out.c1
  have lP1_40 := P1_40.out.lt
  have cP1_40_0 := P1_40.out.c0
  have cP1_40_1 := P1_40.out.c1
  have lP2_40 := P2_40.out.lt
  have cP2_40_0 := P2_40.out.c0
  have cP2_40_1 := P2_40.out.c1
  go_wp2_with fail
  clear lP0_40 cP0_40_0 cP0_40_1 lP1_40 cP1_40_0 cP1_40_1 lP2_40 cP2_40_0 cP2_40_1
  have P3_41 := Lib.hid (Cell2.alloc W40 (.int .i64 s) (.int .i64 t) 23)
  have HB41 := Lib.hid (HB40.out.trans (((Below.refl W40.heap.size W40).alloc (Nat.le_refl _) (Obj.cells #[(.int .i64 s), (.int .i64 t)] 23)).mono HB40.out.size))
  have P0_41 := Lib.hid (P0_40.out.below ((Below.refl W40.heap.size W40).alloc (Nat.le_refl _) (Obj.cells #[(.int .i64 s), (.int .i64 t)] 23)) P0_40.out.lt)
  have P1_41 := Lib.hid (P1_40.out.below ((Below.refl W40.heap.size W40).alloc (Nat.le_refl _) (Obj.cells #[(.int .i64 s), (.int .i64 t)] 23)) P1_40.out.lt)
  have P2_41 := Lib.hid (P2_40.out.below ((Below.refl W40.heap.size W40).alloc (Nat.le_refl _) (Obj.cells #[(.int .i64 s), (.int .i64 t)] 23)) P2_40.out.lt)
  clear HB40 P0_40 P1_40 P2_40
  generalize W40.alloc (Obj.cells #[(.int .i64 s), (.int .i64 t)] 23) = W41 at *
  refine (H3.out _).mono ?_
  rintro e W42 ⟨rfl, hb42⟩
  have HB42 := Lib.hid (HB41.out.trans ((hb42).mono HB41.out.size))
  have P0_42 := Lib.hid (P0_41.out.below (hb42) P0_41.out.lt)
  have P1_42 := Lib.hid (P1_41.out.below (hb42) P1_41.out.lt)
  have P2_42 := Lib.hid (P2_41.out.below (hb42) P2_41.out.lt)
  have P3_42 := Lib.hid (P3_41.out.below (hb42) P3_41.out.lt)
  clear HB41 P0_41 P1_41 P2_41 P3_41 hb42
  have lP0_42 := P0_42.out.lt
  have cP0_42_0 := P0_42.out.c0
  have cP0_42_1 := P0_42.out.c1
  have lP1_42 := P1_42.out.lt
  have cP1_42_0 := P1_42.out.c0
  have cP1_42_1 := P1_42.out.c1
  have lP2_42 := P2_42.out.lt
  have cP2_42_0 := P2_42.out.c0
  have cP2_42_1 := P2_42.out.c1
  have lP3_42 := P3_42.out.lt
  have cP3_42_0 := P3_42.out.c0
  have cP3_42_1 := P3_42.out.c1
  go_wp2_with fail
  clear lP0_42 cP0_42_0 cP0_42_1 lP1_42 cP1_42_0 cP1_42_1 lP2_42 cP2_42_0 cP2_42_1 lP3_42 cP3_42_0 cP3_42_1
  have P4_43 := Lib.hid (Cell2.alloc W42 (.int .i64 a) (.int .i64 b) 23)
  have HB43 := Lib.hid (HB42.out.trans (((Below.refl W42.heap.size W42).alloc (Nat.le_refl _) (Obj.cells #[(.int .i64 a), (.int .i64 b)] 23)).mono HB42.out.size))
  have P0_43 := Lib.hid (P0_42.out.below ((Below.refl W42.heap.size W42).alloc (Nat.le_refl _) (Obj.cells #[(.int .i64 a), (.int .i64 b)] 23)) P0_42.out.lt)
  have P1_43 := Lib.hid (P1_42.out.below ((Below.refl W42.heap.size W42).alloc (Nat.le_refl _) (Obj.cells #[(.int .i64 a), (.int .i64 b)] 23)) P1_42.out.lt)
  have P2_43 := Lib.hid (P2_42.out.below ((Below.refl W42.heap.size W42).alloc (Nat.le_refl _) (Obj.cells #[(.int .i64 a), (.int .i64 b)] 23)) P2_42.out.lt)
  have P3_43 := Lib.hid (P3_42.out.below ((Below.refl W42.heap.size W42).alloc (Nat.le_refl _) (Obj.cells #[(.int .i64 a), (.int .i64 b)] 23)) P3_42.out.lt)
  clear HB42 P0_42 P1_42 P2_42 P3_42
  generalize W42.alloc (Obj.cells #[(.int .i64 a), (.int .i64 b)] 23) = W43 at *
  refine (H4.out _).mono ?_
  rintro e W44 ⟨rfl, hb44⟩
  have HB44 := Lib.hid (HB43.out.trans ((hb44).mono HB43.out.size))
  have P0_44 := Lib.hid (P0_43.out.below (hb44) P0_43.out.lt)
  have P1_44 := Lib.hid (P1_43.out.below (hb44) P1_43.out.lt)
  have P2_44 := Lib.hid (P2_43.out.below (hb44) P2_43.out.lt)
  have P3_44 := Lib.hid (P3_43.out.below (hb44) P3_43.out.lt)
  have P4_44 := Lib.hid (P4_43.out.below (hb44) P4_43.out.lt)
  clear HB43 P0_43 P1_43 P2_43 P3_43 P4_43 hb44
  have lP0_44 := P0_44.out.lt
  have cP0_44_0 := P0_44.out.c0
  have cP0_44_1 := P0_44.out.c1
  have lP1_44 := P1_44.out.lt
  have cP1_44_0 := P1_44.out.c0
  have cP1_44_1 := P1_44.out.c1
  have lP2_44 := P2_44.out.lt
  have cP2_44_0 := P2_44.out.c0
  have cP2_44_1 := P2_44.out.c1
  have lP3_44 := P3_44.out.lt
  have cP3_44_0 := P3_44.out.c0
  have cP3_44_1 := P3_44.out.c1
  have lP4_44 := P4_44.out.lt
  have cP4_44_0 := P4_44.out.c0
  have cP4_44_1 := P4_44.out.c1
  go_wp2_with fail
  clear lP0_44 cP0_44_0 cP0_44_1 lP1_44 cP1_44_0 cP1_44_1 lP2_44 cP2_44_0 cP2_44_1 lP3_44 cP3_44_0 cP3_44_1 lP4_44 cP4_44_0 cP4_44_1
  have P5_45 := Lib.hid (Cell2.alloc W44 (.int .i64 x) (.int .i64 y) 23)
  have HB45 := Lib.hid (HB44.out.trans (((Below.refl W44.heap.size W44).alloc (Nat.le_refl _) (Obj.cells #[(.int .i64 x), (.int .i64 y)] 23)).mono HB44.out.size))
  have P0_45 := Lib.hid (P0_44.out.below ((Below.refl W44.heap.size W44).alloc (Nat.le_refl _) (Obj.cells #[(.int .i64 x), (.int .i64 y)] 23)) P0_44.out.lt)
  have P1_45 := Lib.hid (P1_44.out.below ((Below.refl W44.heap.size W44).alloc (Nat.le_refl _) (Obj.cells #[(.int .i64 x), (.int .i64 y)] 23)) P1_44.out.lt)
  have P2_45 := Lib.hid (P2_44.out.below ((Below.refl W44.heap.size W44).alloc (Nat.le_refl _) (Obj.cells #[(.int .i64 x), (.int .i64 y)] 23)) P2_44.out.lt)
  have P3_45 := Lib.hid (P3_44.out.below ((Below.refl W44.heap.size W44).alloc (Nat.le_refl _) (Obj.cells #[(.int .i64 x), (.int .i64 y)] 23)) P3_44.out.lt)
  have P4_45 := Lib.hid (P4_44.out.below ((Below.refl W44.heap.size W44).alloc (Nat.le_refl _) (Obj.cells #[(.int .i64 x), (.int .i64 y)] 23)) P4_44.out.lt)
  clear HB44 P0_44 P1_44 P2_44 P3_44 P4_44
  generalize W44.alloc (Obj.cells #[(.int .i64 x), (.int .i64 y)] 23) = W45 at *
  refine (H5.out _).mono ?_
  rintro e W46 ⟨rfl, hb46⟩
  have HB46 := Lib.hid (HB45.out.trans ((hb46).mono HB45.out.size))
  have P0_46 := Lib.hid (P0_45.out.below (hb46) P0_45.out.lt)
  have P1_46 := Lib.hid (P1_45.out.below (hb46) P1_45.out.lt)
  have P2_46 := Lib.hid (P2_45.out.below (hb46) P2_45.out.lt)
  have P3_46 := Lib.hid (P3_45.out.below (hb46) P3_45.out.lt)
  have P4_46 := Lib.hid (P4_45.out.below (hb46) P4_45.out.lt)
  have P5_46 := Lib.hid (P5_45.out.below (hb46) P5_45.out.lt)
  clear HB45 P0_45 P1_45 P2_45 P3_45 P4_45 P5_45 hb46
  have lP0_46 := P0_46.out.lt
  have cP0_46_0 := P0_46.out.c0
  have cP0_46_1 := P0_46.out.c1
  have lP1_46 := P1_46.out.lt
  have cP1_46_0 := P1_46.out.c0
  have cP1_46_1 := P1_46.out.c1
  have lP2_46 := P2_46.out.lt
  have cP2_46_0 := P2_46.out.c0
  have cP2_46_1 := P2_46.out.c1
  have lP3_46 := P3_46.out.lt
  have cP3_46_0 := P3_46.out.c0
  have cP3_46_1 := P3_46.out.c1
  have lP4_46 := P4_46.out.lt
  have cP4_46_0 := P4_46.out.c0
  have cP4_46_1 := P4_46.out.c1
  have lP5_46 := P5_46.out.lt
  have cP5_46_0 := P5_46.out.c0
  have cP5_46_1 := P5_46.out.c1
  go_wp2_with fail
  clear lP0_46 cP0_46_0 cP0_46_1 lP1_46 cP1_46_0 cP1_46_1 lP2_46 cP2_46_0 cP2_46_1 lP3_46 cP3_46_0 cP3_46_1 lP4_46 cP4_46_0 cP4_46_1 lP5_46 cP5_46_0 cP5_46_1
  have P6_47 := Lib.hid (Cell2.alloc W46 (.int .i64 x) (.int .i64 y) 23)
  have HB47 := Lib.hid (HB46.out.trans (((Below.refl W46.heap.size W46).alloc (Nat.le_refl _) (Obj.cells #[(.int .i64 x), (.int .i64 y)] 23)).mono HB46.out.size))
  have P0_47 := Lib.hid (P0_46.out.below ((Below.refl W46.heap.size W46).alloc (Nat.le_refl _) (Obj.cells #[(.int .i64 x), (.int .i64 y)] 23)) P0_46.out.lt)
  have P1_47 := Lib.hid (P1_46.out.below ((Below.refl W46.heap.size W46).alloc (Nat.le_refl _) (Obj.cells #[(.int .i64 x), (.int .i64 y)] 23)) P1_46.out.lt)
  have P2_47 := Lib.hid (P2_46.out.below ((Below.refl W46.heap.size W46).alloc (Nat.le_refl _) (Obj.cells #[(.int .i64 x), (.int .i64 y)] 23)) P2_46.out.lt)
  have P3_47 := Lib.hid (P3_46.out.below ((Below.refl W46.heap.size W46).alloc (Nat.le_refl _) (Obj.cells #[(.int .i64 x), (.int .i64 y)] 23)) P3_46.out.lt)
  have P4_47 := Lib.hid (P4_46.out.below ((Below.refl W46.heap.size W46).alloc (Nat.le_refl _) (Obj.cells #[(.int .i64 x), (.int .i64 y)] 23)) P4_46.out.lt)
  have P5_47 := Lib.hid (P5_46.out.below ((Below.refl W46.heap.size W46).alloc (Nat.le_refl _) (Obj.cells #[(.int .i64 x), (.int .i64 y)] 23)) P5_46.out.lt)
  clear HB46 P0_46 P1_46 P2_46 P3_46 P4_46 P5_46
  generalize W46.alloc (Obj.cells #[(.int .i64 x), (.int .i64 y)] 23) = W47 at *
  refine (H6.out _).mono ?_
  rintro e W48 ⟨rfl, hb48⟩
  have HB48 := Lib.hid (HB47.out.trans ((hb48).mono HB47.out.size))
  have P0_48 := Lib.hid (P0_47.out.below (hb48) P0_47.out.lt)
  have P1_48 := Lib.hid (P1_47.out.below (hb48) P1_47.out.lt)
  have P2_48 := Lib.hid (P2_47.out.below (hb48) P2_47.out.lt)
  have P3_48 := Lib.hid (P3_47.out.below (hb48) P3_47.out.lt)
  have P4_48 := Lib.hid (P4_47.out.below (hb48) P4_47.out.lt)
  have P5_48 := Lib.hid (P5_47.out.below (hb48) P5_47.out.lt)
  have P6_48 := Lib.hid (P6_47.out.below (hb48) P6_47.out.lt)
  clear HB47 P0_47 P1_47 P2_47 P3_47 P4_47 P5_47 P6_47 hb48
  have lP0_48 := P0_48.out.lt
  have cP0_48_0 := P0_48.out.c0
  have cP0_48_1 := P0_48.out.c1
  have lP1_48 := P1_48.out.lt
  have cP1_48_0 := P1_48.out.c0
  have cP1_48_1 := P1_48.out.c1
  have lP2_48 := P2_48.out.lt
  have cP2_48_0 := P2_48.out.c0
  have cP2_48_1 := P2_48.out.c1
  have lP3_48 := P3_48.out.lt
  have cP3_48_0 := P3_48.out.c0
  have cP3_48_1 := P3_48.out.c1
  have lP4_48 := P4_48.out.lt
  have cP4_48_0 := P4_48.out.c0
  have cP4_48_1 := P4_48.out.c1
  have lP5_48 := P5_48.out.lt
  have cP5_48_0 := P5_48.out.c0
  have cP5_48_1 := P5_48.out.c1
  have lP6_48 := P6_48.out.lt
  have cP6_48_0 := P6_48.out.c0
  have cP6_48_1 := P6_48.out.c1
  go_wp2_with fail
  clear lP0_48 cP0_48_0 cP0_48_1 lP1_48 cP1_48_0 cP1_48_1 lP2_48 cP2_48_0 cP2_48_1 lP3_48 cP3_48_0 cP3_48_1 lP4_48 cP4_48_0 cP4_48_1 lP5_48 cP5_48_0 cP5_48_1 lP6_48 cP6_48_0 cP6_48_1
  have P7_49 := Lib.hid (Cell2.alloc W48 (.int .i64 a) (.int .i64 b) 23)
  have HB49 := Lib.hid (HB48.out.trans (((Below.refl W48.heap.size W48).alloc (Nat.le_refl _) (Obj.cells #[(.int .i64 a), (.int .i64 b)] 23)).mono HB48.out.size))
  have P0_49 := Lib.hid (P0_48.out.below ((Below.refl W48.heap.size W48).alloc (Nat.le_refl _) (Obj.cells #[(.int .i64 a), (.int .i64 b)] 23)) P0_48.out.lt)
  have P1_49 := Lib.hid (P1_48.out.below ((Below.refl W48.heap.size W48).alloc (Nat.le_refl _) (Obj.cells #[(.int .i64 a), (.int .i64 b)] 23)) P1_48.out.lt)
  have P2_49 := Lib.hid (P2_48.out.below ((Below.refl W48.heap.size W48).alloc (Nat.le_refl _) (Obj.cells #[(.int .i64 a), (.int .i64 b)] 23)) P2_48.out.lt)
  have P3_49 := Lib.hid (P3_48.out.below ((Below.refl W48.heap.size W48).alloc (Nat.le_refl _) (Obj.cells #[(.int .i64 a), (.int .i64 b)] 23)) P3_48.out.lt)
  have P4_49 := Lib.hid (P4_48.out.below ((Below.refl W48.heap.size W48).alloc (Nat.le_refl _) (Obj.cells #[(.int .i64 a), (.int .i64 b)] 23)) P4_48.out.lt)
  have P5_49 := Lib.hid (P5_48.out.below ((Below.refl W48.heap.size W48).alloc (Nat.le_refl _) (Obj.cells #[(.int .i64 a), (.int .i64 b)] 23)) P5_48.out.lt)
  have P6_49 := Lib.hid (P6_48.out.below ((Below.refl W48.heap.size W48).alloc (Nat.le_refl _) (Obj.cells #[(.int .i64 a), (.int .i64 b)] 23)) P6_48.out.lt)
  clear HB48 P0_48 P1_48 P2_48 P3_48 P4_48 P5_48 P6_48
  generalize W48.alloc (Obj.cells #[(.int .i64 a), (.int .i64 b)] 23) = W49 at *
  refine (H7.out _).mono ?_
  rintro e W50 ⟨rfl, hb50⟩
  have HB50 := Lib.hid (HB49.out.trans ((hb50).mono HB49.out.size))
  have P0_50 := Lib.hid (P0_49.out.below (hb50) P0_49.out.lt)
  have P1_50 := Lib.hid (P1_49.out.below (hb50) P1_49.out.lt)
  have P2_50 := Lib.hid (P2_49.out.below (hb50) P2_49.out.lt)
  have P3_50 := Lib.hid (P3_49.out.below (hb50) P3_49.out.lt)
  have P4_50 := Lib.hid (P4_49.out.below (hb50) P4_49.out.lt)
  have P5_50 := Lib.hid (P5_49.out.below (hb50) P5_49.out.lt)
  have P6_50 := Lib.hid (P6_49.out.below (hb50) P6_49.out.lt)
  have P7_50 := Lib.hid (P7_49.out.below (hb50) P7_49.out.lt)
  clear HB49 P0_49 P1_49 P2_49 P3_49 P4_49 P5_49 P6_49 P7_49 hb50
  go_wp2
  go_ret
  exact ⟨rfl, HB50.out⟩

set_option maxRecDepth 100000 in
set_option maxHeartbeats 8000000 in
theorem inv_100 (a b c d : Int) (w : World) (a1 : -9223372036854775808 ≤ a) (a2 : a ≤ 9223372036854775807) (b1 : -9223372036854775808 ≤ b) (b2 : b ≤ 9223372036854775807) (c1 : -9223372036854775808 ≤ c) (c2 : c ≤ 9223372036854775807) (d1 : -9223372036854775808 ≤ d) (d2 : d ≤ 9223372036854775807) (he : opE (okB a b c d) (a * d + c * b) (b * d) = 0) (hz : ¬ opE (okB a b c d) (a * c) (b * d) = 0) :
    Calls Try.prog 9 #[.agg #[.int .i64 a, .int .i64 b], .agg #[.int .i64 c, .int .i64 d]] w fun e w' => e = .returned (.bool true) ∧ Below w.heap.size w w' := by
  have H1 := Lib.hid (fun W => fAdd_any a b c d W a1 a2 b1 b2 c1 c2 d1 d2)
  have H2 := Lib.hid (fun W => fAdd_any c d a b W c1 c2 d1 d2 a1 a2 b1 b2)
  have H4 := Lib.hid (fun W => fMul_any a b c d W a1 a2 b1 b2 c1 c2 d1 d2)
  have H5 := Lib.hid (fun W => fMul_any c d a b W c1 c2 d1 d2 a1 a2 b1 b2)
  have H7 := Lib.hid lives3_any
  rw [(add_comm3 a b c d).1, (add_comm3 a b c d).2.1, (add_comm3 a b c d).2.2] at H2
  rw [(mul_comm3 a b c d).1, (mul_comm3 a b c d).2.1, (mul_comm3 a b c d).2.2] at H5
  obtain ⟨⟨s1, s2⟩, t1, t2⟩ := op_small (okB a b c d) (a * d + c * b) (b * d)
  have HI := op_inv_add he
  have H3 := Lib.hid (fun W => fSub_any _ _ c d W s1 s2 t1 t2 c1 c2 d1 d2)
  rw [HI.1, HI.2.1, HI.2.2] at H3
  rw [he] at H1 H2
  clear HI s1 s2 t1 t2
  clear a1 a2 b1 b2 c1 c2 d1 d2
  have hz' : (opE (okB a b c d) (a * c) (b * d) == 0) = false := by simpa using hz
  clear he hz
  generalize opN (okB a b c d) (a * d + c * b) (b * d) = s at *
  generalize opD (okB a b c d) (a * d + c * b) (b * d) = t at *
  generalize opN (okB a b c d) (a * c) (b * d) = x at *
  generalize opD (okB a b c d) (a * c) (b * d) = y at *
  generalize opE (okB a b c d) (a * c) (b * d) = z at *
  go_enter Try.func9, Try.ntmps9
  go_wp2_with fail
  have P0_51 := Lib.hid (show Cell2 ((w.alloc (Obj.cells #[(.int .i64 a), (.int .i64 b)] 23)).alloc (Obj.cells #[(.int .i64 c), (.int .i64 d)] 23)) (w.heap.size) (.int .i64 a) (.int .i64 b) from by have q := Cell2.alloc w (.int .i64 a) (.int .i64 b) 23; exact q.below (N := w.heap.size + 1) ((Below.refl _ _).alloc (by simp <;> omega) (Obj.cells #[(.int .i64 c), (.int .i64 d)] 23)) (by omega))
  have P1_51 := Lib.hid (show Cell2 ((w.alloc (Obj.cells #[(.int .i64 a), (.int .i64 b)] 23)).alloc (Obj.cells #[(.int .i64 c), (.int .i64 d)] 23)) (w.heap.size + 1) (.int .i64 c) (.int .i64 d) from by simpa using Cell2.alloc (w.alloc (Obj.cells #[(.int .i64 a), (.int .i64 b)] 23)) (.int .i64 c) (.int .i64 d) 23)
  have HB51 := Lib.hid (((Below.refl w.heap.size w).alloc (Nat.le_refl _) (Obj.cells #[(.int .i64 a), (.int .i64 b)] 23)).alloc (by simp) (Obj.cells #[(.int .i64 c), (.int .i64 d)] 23))
  generalize ((w.alloc (Obj.cells #[(.int .i64 a), (.int .i64 b)] 23)).alloc (Obj.cells #[(.int .i64 c), (.int .i64 d)] 23)) = W51 at *
  refine (H1.out _).mono ?_
  rintro e W52 ⟨rfl, hb52⟩
  have HB52 := Lib.hid (HB51.out.trans ((hb52).mono HB51.out.size))
  have P0_52 := Lib.hid (P0_51.out.below (hb52) P0_51.out.lt)
  have P1_52 := Lib.hid (P1_51.out.below (hb52) P1_51.out.lt)
  clear HB51 P0_51 P1_51 hb52
  have lP0_52 := P0_52.out.lt
  have cP0_52_0 := P0_52.out.c0
  have cP0_52_1 := P0_52.out.c1
  have lP1_52 := P1_52.out.lt
  have cP1_52_0 := P1_52.out.c0
  have cP1_52_1 := P1_52.out.c1
  go_wp2_with fail
  clear lP0_52 cP0_52_0 cP0_52_1 lP1_52 cP1_52_0 cP1_52_1
  have P2_53 := Lib.hid (Cell2.alloc W52 (.int .i64 s) (.int .i64 t) 23)
  have HB53 := Lib.hid (HB52.out.trans (((Below.refl W52.heap.size W52).alloc (Nat.le_refl _) (Obj.cells #[(.int .i64 s), (.int .i64 t)] 23)).mono HB52.out.size))
  have P0_53 := Lib.hid (P0_52.out.below ((Below.refl W52.heap.size W52).alloc (Nat.le_refl _) (Obj.cells #[(.int .i64 s), (.int .i64 t)] 23)) P0_52.out.lt)
  have P1_53 := Lib.hid (P1_52.out.below ((Below.refl W52.heap.size W52).alloc (Nat.le_refl _) (Obj.cells #[(.int .i64 s), (.int .i64 t)] 23)) P1_52.out.lt)
  clear HB52 P0_52 P1_52
  generalize W52.alloc (Obj.cells #[(.int .i64 s), (.int .i64 t)] 23) = W53 at *
  refine (H2.out _).mono ?_
  rintro e W54 ⟨rfl, hb54⟩
  have HB54 := Lib.hid (HB53.out.trans ((hb54).mono HB53.out.size))
  have P0_54 := Lib.hid (P0_53.out.below (hb54) P0_53.out.lt)
  have P1_54 := Lib.hid (P1_53.out.below (hb54) P1_53.out.lt)
  have P2_54 := Lib.hid (P2_53.out.below (hb54) P2_53.out.lt)
  clear HB53 P0_53 P1_53 P2_53 hb54
  have lP0_54 := P0_54.out.lt
  have cP0_54_0 := P0_54.out.c0
  have cP0_54_1 := P0_54.out.c1
  have lP1_54 := P1_54.out.lt
  have cP1_54_0 := P1_54.out.c0
  have cP1_54_1 := P1_54.out.c1
  have lP2_54 := P2_54.out.lt
  have cP2_54_0 := P2_54.out.c0
  have cP2_54_1 := P2_54.out.c1
  go_wp2_with fail
  clear lP0_54 cP0_54_0 cP0_54_1 lP1_54 cP1_54_0 cP1_54_1 lP2_54 cP2_54_0 cP2_54_1
  have P3_55 := Lib.hid (Cell2.alloc W54 (.int .i64 s) (.int .i64 t) 23)
  have HB55 := Lib.hid (HB54.out.trans (((Below.refl W54.heap.size W54).alloc (Nat.le_refl _) (Obj.cells #[(.int .i64 s), (.int .i64 t)] 23)).mono HB54.out.size))
  have P0_55 := Lib.hid (P0_54.out.below ((Below.refl W54.heap.size W54).alloc (Nat.le_refl _) (Obj.cells #[(.int .i64 s), (.int .i64 t)] 23)) P0_54.out.lt)
  have P1_55 := Lib.hid (P1_54.out.below ((Below.refl W54.heap.size W54).alloc (Nat.le_refl _) (Obj.cells #[(.int .i64 s), (.int .i64 t)] 23)) P1_54.out.lt)
  have P2_55 := Lib.hid (P2_54.out.below ((Below.refl W54.heap.size W54).alloc (Nat.le_refl _) (Obj.cells #[(.int .i64 s), (.int .i64 t)] 23)) P2_54.out.lt)
  clear HB54 P0_54 P1_54 P2_54
  generalize W54.alloc (Obj.cells #[(.int .i64 s), (.int .i64 t)] 23) = W55 at *
  refine (H3.out _).mono ?_
  rintro e W56 ⟨rfl, hb56⟩
  have HB56 := Lib.hid (HB55.out.trans ((hb56).mono HB55.out.size))
  have P0_56 := Lib.hid (P0_55.out.below (hb56) P0_55.out.lt)
  have P1_56 := Lib.hid (P1_55.out.below (hb56) P1_55.out.lt)
  have P2_56 := Lib.hid (P2_55.out.below (hb56) P2_55.out.lt)
  have P3_56 := Lib.hid (P3_55.out.below (hb56) P3_55.out.lt)
  clear HB55 P0_55 P1_55 P2_55 P3_55 hb56
  have lP0_56 := P0_56.out.lt
  have cP0_56_0 := P0_56.out.c0
  have cP0_56_1 := P0_56.out.c1
  have lP1_56 := P1_56.out.lt
  have cP1_56_0 := P1_56.out.c0
  have cP1_56_1 := P1_56.out.c1
  have lP2_56 := P2_56.out.lt
  have cP2_56_0 := P2_56.out.c0
  have cP2_56_1 := P2_56.out.c1
  have lP3_56 := P3_56.out.lt
  have cP3_56_0 := P3_56.out.c0
  have cP3_56_1 := P3_56.out.c1
  go_wp2_with fail
  clear lP0_56 cP0_56_0 cP0_56_1 lP1_56 cP1_56_0 cP1_56_1 lP2_56 cP2_56_0 cP2_56_1 lP3_56 cP3_56_0 cP3_56_1
  have P4_57 := Lib.hid (Cell2.alloc W56 (.int .i64 a) (.int .i64 b) 23)
  have HB57 := Lib.hid (HB56.out.trans (((Below.refl W56.heap.size W56).alloc (Nat.le_refl _) (Obj.cells #[(.int .i64 a), (.int .i64 b)] 23)).mono HB56.out.size))
  have P0_57 := Lib.hid (P0_56.out.below ((Below.refl W56.heap.size W56).alloc (Nat.le_refl _) (Obj.cells #[(.int .i64 a), (.int .i64 b)] 23)) P0_56.out.lt)
  have P1_57 := Lib.hid (P1_56.out.below ((Below.refl W56.heap.size W56).alloc (Nat.le_refl _) (Obj.cells #[(.int .i64 a), (.int .i64 b)] 23)) P1_56.out.lt)
  have P2_57 := Lib.hid (P2_56.out.below ((Below.refl W56.heap.size W56).alloc (Nat.le_refl _) (Obj.cells #[(.int .i64 a), (.int .i64 b)] 23)) P2_56.out.lt)
  have P3_57 := Lib.hid (P3_56.out.below ((Below.refl W56.heap.size W56).alloc (Nat.le_refl _) (Obj.cells #[(.int .i64 a), (.int .i64 b)] 23)) P3_56.out.lt)
  clear HB56 P0_56 P1_56 P2_56 P3_56
  generalize W56.alloc (Obj.cells #[(.int .i64 a), (.int .i64 b)] 23) = W57 at *
  refine (H4.out _).mono ?_
  rintro e W58 ⟨rfl, hb58⟩
  have HB58 := Lib.hid (HB57.out.trans ((hb58).mono HB57.out.size))
  have P0_58 := Lib.hid (P0_57.out.below (hb58) P0_57.out.lt)
  have P1_58 := Lib.hid (P1_57.out.below (hb58) P1_57.out.lt)
  have P2_58 := Lib.hid (P2_57.out.below (hb58) P2_57.out.lt)
  have P3_58 := Lib.hid (P3_57.out.below (hb58) P3_57.out.lt)
  have P4_58 := Lib.hid (P4_57.out.below (hb58) P4_57.out.lt)
  clear HB57 P0_57 P1_57 P2_57 P3_57 P4_57 hb58
  have lP0_58 := P0_58.out.lt
  have cP0_58_0 := P0_58.out.c0
  have cP0_58_1 := P0_58.out.c1
  have lP1_58 := P1_58.out.lt
  have cP1_58_0 := P1_58.out.c0
  have cP1_58_1 := P1_58.out.c1
  have lP2_58 := P2_58.out.lt
  have cP2_58_0 := P2_58.out.c0
  have cP2_58_1 := P2_58.out.c1
  have lP3_58 := P3_58.out.lt
  have cP3_58_0 := P3_58.out.c0
  have cP3_58_1 := P3_58.out.c1
  have lP4_58 := P4_58.out.lt
  have cP4_58_0 := P4_58.out.c0
  have cP4_58_1 := P4_58.out.c1
  go_wp2_with fail
  clear lP0_58 cP0_58_0 cP0_58_1 lP1_58 cP1_58_0 cP1_58_1 lP2_58 cP2_58_0 cP2_58_1 lP3_58 cP3_58_0 cP3_58_1 lP4_58 cP4_58_0 cP4_58_1
  have P5_59 := Lib.hid (Cell2.alloc W58 (.int .i64 x) (.int .i64 y) 23)
  have HB59 := Lib.hid (HB58.out.trans (((Below.refl W58.heap.size W58).alloc (Nat.le_refl _) (Obj.cells #[(.int .i64 x), (.int .i64 y)] 23)).mono HB58.out.size))
  have P0_59 := Lib.hid (P0_58.out.below ((Below.refl W58.heap.size W58).alloc (Nat.le_refl _) (Obj.cells #[(.int .i64 x), (.int .i64 y)] 23)) P0_58.out.lt)
  have P1_59 := Lib.hid (P1_58.out.below ((Below.refl W58.heap.size W58).alloc (Nat.le_refl _) (Obj.cells #[(.int .i64 x), (.int .i64 y)] 23)) P1_58.out.lt)
  have P2_59 := Lib.hid (P2_58.out.below ((Below.refl W58.heap.size W58).alloc (Nat.le_refl _) (Obj.cells #[(.int .i64 x), (.int .i64 y)] 23)) P2_58.out.lt)
  have P3_59 := Lib.hid (P3_58.out.below ((Below.refl W58.heap.size W58).alloc (Nat.le_refl _) (Obj.cells #[(.int .i64 x), (.int .i64 y)] 23)) P3_58.out.lt)
  have P4_59 := Lib.hid (P4_58.out.below ((Below.refl W58.heap.size W58).alloc (Nat.le_refl _) (Obj.cells #[(.int .i64 x), (.int .i64 y)] 23)) P4_58.out.lt)
  clear HB58 P0_58 P1_58 P2_58 P3_58 P4_58
  generalize W58.alloc (Obj.cells #[(.int .i64 x), (.int .i64 y)] 23) = W59 at *
  refine (H5.out _).mono ?_
  rintro e W60 ⟨rfl, hb60⟩
  have HB60 := Lib.hid (HB59.out.trans ((hb60).mono HB59.out.size))
  have P0_60 := Lib.hid (P0_59.out.below (hb60) P0_59.out.lt)
  have P1_60 := Lib.hid (P1_59.out.below (hb60) P1_59.out.lt)
  have P2_60 := Lib.hid (P2_59.out.below (hb60) P2_59.out.lt)
  have P3_60 := Lib.hid (P3_59.out.below (hb60) P3_59.out.lt)
  have P4_60 := Lib.hid (P4_59.out.below (hb60) P4_59.out.lt)
  have P5_60 := Lib.hid (P5_59.out.below (hb60) P5_59.out.lt)
  clear HB59 P0_59 P1_59 P2_59 P3_59 P4_59 P5_59 hb60
  have lP0_60 := P0_60.out.lt
  have cP0_60_0 := P0_60.out.c0
  have cP0_60_1 := P0_60.out.c1
  have lP1_60 := P1_60.out.lt
  have cP1_60_0 := P1_60.out.c0
  have cP1_60_1 := P1_60.out.c1
  have lP2_60 := P2_60.out.lt
  have cP2_60_0 := P2_60.out.c0
  have cP2_60_1 := P2_60.out.c1
  have lP3_60 := P3_60.out.lt
  have cP3_60_0 := P3_60.out.c0
  have cP3_60_1 := P3_60.out.c1
  have lP4_60 := P4_60.out.lt
  have cP4_60_0 := P4_60.out.c0
  have cP4_60_1 := P4_60.out.c1
  have lP5_60 := P5_60.out.lt
  have cP5_60_0 := P5_60.out.c0
  have cP5_60_1 := P5_60.out.c1
  go_wp2_with fail
  clear lP0_60 cP0_60_0 cP0_60_1 lP1_60 cP1_60_0 cP1_60_1 lP2_60 cP2_60_0 cP2_60_1 lP3_60 cP3_60_0 cP3_60_1 lP4_60 cP4_60_0 cP4_60_1 lP5_60 cP5_60_0 cP5_60_1
  have P6_61 := Lib.hid (Cell2.alloc W60 (.int .i64 x) (.int .i64 y) 23)
  have HB61 := Lib.hid (HB60.out.trans (((Below.refl W60.heap.size W60).alloc (Nat.le_refl _) (Obj.cells #[(.int .i64 x), (.int .i64 y)] 23)).mono HB60.out.size))
  have P0_61 := Lib.hid (P0_60.out.below ((Below.refl W60.heap.size W60).alloc (Nat.le_refl _) (Obj.cells #[(.int .i64 x), (.int .i64 y)] 23)) P0_60.out.lt)
  have P1_61 := Lib.hid (P1_60.out.below ((Below.refl W60.heap.size W60).alloc (Nat.le_refl _) (Obj.cells #[(.int .i64 x), (.int .i64 y)] 23)) P1_60.out.lt)
  have P2_61 := Lib.hid (P2_60.out.below ((Below.refl W60.heap.size W60).alloc (Nat.le_refl _) (Obj.cells #[(.int .i64 x), (.int .i64 y)] 23)) P2_60.out.lt)
  have P3_61 := Lib.hid (P3_60.out.below ((Below.refl W60.heap.size W60).alloc (Nat.le_refl _) (Obj.cells #[(.int .i64 x), (.int .i64 y)] 23)) P3_60.out.lt)
  have P4_61 := Lib.hid (P4_60.out.below ((Below.refl W60.heap.size W60).alloc (Nat.le_refl _) (Obj.cells #[(.int .i64 x), (.int .i64 y)] 23)) P4_60.out.lt)
  have P5_61 := Lib.hid (P5_60.out.below ((Below.refl W60.heap.size W60).alloc (Nat.le_refl _) (Obj.cells #[(.int .i64 x), (.int .i64 y)] 23)) P5_60.out.lt)
  clear HB60 P0_60 P1_60 P2_60 P3_60 P4_60 P5_60
  generalize W60.alloc (Obj.cells #[(.int .i64 x), (.int .i64 y)] 23) = W61 at *
  refine (H7.out _).mono ?_
  rintro e W62 ⟨rfl, hb62⟩
  have HB62 := Lib.hid (HB61.out.trans ((hb62).mono HB61.out.size))
  have P0_62 := Lib.hid (P0_61.out.below (hb62) P0_61.out.lt)
  have P1_62 := Lib.hid (P1_61.out.below (hb62) P1_61.out.lt)
  have P2_62 := Lib.hid (P2_61.out.below (hb62) P2_61.out.lt)
  have P3_62 := Lib.hid (P3_61.out.below (hb62) P3_61.out.lt)
  have P4_62 := Lib.hid (P4_61.out.below (hb62) P4_61.out.lt)
  have P5_62 := Lib.hid (P5_61.out.below (hb62) P5_61.out.lt)
  have P6_62 := Lib.hid (P6_61.out.below (hb62) P6_61.out.lt)
  clear HB61 P0_61 P1_61 P2_61 P3_61 P4_61 P5_61 P6_61 hb62
  go_wp2
  go_ret
  exact ⟨rfl, HB62.out⟩

set_option maxRecDepth 100000 in
set_option maxHeartbeats 8000000 in
theorem inv_011 (a b c d : Int) (w : World) (a1 : -9223372036854775808 ≤ a) (a2 : a ≤ 9223372036854775807) (b1 : -9223372036854775808 ≤ b) (b2 : b ≤ 9223372036854775807) (c1 : -9223372036854775808 ≤ c) (c2 : c ≤ 9223372036854775807) (d1 : -9223372036854775808 ≤ d) (d2 : d ≤ 9223372036854775807) (he : ¬ opE (okB a b c d) (a * d + c * b) (b * d) = 0) (hz : opE (okB a b c d) (a * c) (b * d) = 0) (hc : c = 0) :
    Calls Try.prog 9 #[.agg #[.int .i64 a, .int .i64 b], .agg #[.int .i64 c, .int .i64 d]] w fun e w' => e = .returned (.bool true) ∧ Below w.heap.size w w' := by
  have H1 := Lib.hid (fun W => fAdd_any a b c d W a1 a2 b1 b2 c1 c2 d1 d2)
  have H2 := Lib.hid (fun W => fAdd_any c d a b W c1 c2 d1 d2 a1 a2 b1 b2)
  have H4 := Lib.hid (fun W => fMul_any a b c d W a1 a2 b1 b2 c1 c2 d1 d2)
  have H5 := Lib.hid (fun W => fMul_any c d a b W c1 c2 d1 d2 a1 a2 b1 b2)
  have H7 := Lib.hid lives3_any
  rw [(add_comm3 a b c d).1, (add_comm3 a b c d).2.1, (add_comm3 a b c d).2.2] at H2
  rw [(mul_comm3 a b c d).1, (mul_comm3 a b c d).2.1, (mul_comm3 a b c d).2.2] at H5
  rw [hz] at H4 H5
  clear a1 a2 b1 b2 c1 c2 d1 d2
  have he' : (opE (okB a b c d) (a * d + c * b) (b * d) == 0) = false := by simpa using he
  clear he hz
  generalize opN (okB a b c d) (a * d + c * b) (b * d) = s at *
  generalize opD (okB a b c d) (a * d + c * b) (b * d) = t at *
  generalize opE (okB a b c d) (a * d + c * b) (b * d) = e at *
  generalize opN (okB a b c d) (a * c) (b * d) = x at *
  generalize opD (okB a b c d) (a * c) (b * d) = y at *
  subst hc
  go_enter Try.func9, Try.ntmps9
  go_wp2_with fail
  have P0_63 := Lib.hid (show Cell2 ((w.alloc (Obj.cells #[(.int .i64 a), (.int .i64 b)] 23)).alloc (Obj.cells #[(.int .i64 0), (.int .i64 d)] 23)) (w.heap.size) (.int .i64 a) (.int .i64 b) from by have q := Cell2.alloc w (.int .i64 a) (.int .i64 b) 23; exact q.below (N := w.heap.size + 1) ((Below.refl _ _).alloc (by simp <;> omega) (Obj.cells #[(.int .i64 0), (.int .i64 d)] 23)) (by omega))
  have P1_63 := Lib.hid (show Cell2 ((w.alloc (Obj.cells #[(.int .i64 a), (.int .i64 b)] 23)).alloc (Obj.cells #[(.int .i64 0), (.int .i64 d)] 23)) (w.heap.size + 1) (.int .i64 0) (.int .i64 d) from by simpa using Cell2.alloc (w.alloc (Obj.cells #[(.int .i64 a), (.int .i64 b)] 23)) (.int .i64 0) (.int .i64 d) 23)
  have HB63 := Lib.hid (((Below.refl w.heap.size w).alloc (Nat.le_refl _) (Obj.cells #[(.int .i64 a), (.int .i64 b)] 23)).alloc (by simp) (Obj.cells #[(.int .i64 0), (.int .i64 d)] 23))
  generalize ((w.alloc (Obj.cells #[(.int .i64 a), (.int .i64 b)] 23)).alloc (Obj.cells #[(.int .i64 0), (.int .i64 d)] 23)) = W63 at *
  refine (H1.out _).mono ?_
  rintro e W64 ⟨rfl, hb64⟩
  have HB64 := Lib.hid (HB63.out.trans ((hb64).mono HB63.out.size))
  have P0_64 := Lib.hid (P0_63.out.below (hb64) P0_63.out.lt)
  have P1_64 := Lib.hid (P1_63.out.below (hb64) P1_63.out.lt)
  clear HB63 P0_63 P1_63 hb64
  have lP0_64 := P0_64.out.lt
  have cP0_64_0 := P0_64.out.c0
  have cP0_64_1 := P0_64.out.c1
  have lP1_64 := P1_64.out.lt
  have cP1_64_0 := P1_64.out.c0
  have cP1_64_1 := P1_64.out.c1
  go_wp2_with fail
  clear lP0_64 cP0_64_0 cP0_64_1 lP1_64 cP1_64_0 cP1_64_1
  have P2_65 := Lib.hid (Cell2.alloc W64 (.int .i64 s) (.int .i64 t) 23)
  have HB65 := Lib.hid (HB64.out.trans (((Below.refl W64.heap.size W64).alloc (Nat.le_refl _) (Obj.cells #[(.int .i64 s), (.int .i64 t)] 23)).mono HB64.out.size))
  have P0_65 := Lib.hid (P0_64.out.below ((Below.refl W64.heap.size W64).alloc (Nat.le_refl _) (Obj.cells #[(.int .i64 s), (.int .i64 t)] 23)) P0_64.out.lt)
  have P1_65 := Lib.hid (P1_64.out.below ((Below.refl W64.heap.size W64).alloc (Nat.le_refl _) (Obj.cells #[(.int .i64 s), (.int .i64 t)] 23)) P1_64.out.lt)
  clear HB64 P0_64 P1_64
  generalize W64.alloc (Obj.cells #[(.int .i64 s), (.int .i64 t)] 23) = W65 at *
  refine (H2.out _).mono ?_
  rintro e W66 ⟨rfl, hb66⟩
  have HB66 := Lib.hid (HB65.out.trans ((hb66).mono HB65.out.size))
  have P0_66 := Lib.hid (P0_65.out.below (hb66) P0_65.out.lt)
  have P1_66 := Lib.hid (P1_65.out.below (hb66) P1_65.out.lt)
  have P2_66 := Lib.hid (P2_65.out.below (hb66) P2_65.out.lt)
  clear HB65 P0_65 P1_65 P2_65 hb66
  have lP0_66 := P0_66.out.lt
  have cP0_66_0 := P0_66.out.c0
  have cP0_66_1 := P0_66.out.c1
  have lP1_66 := P1_66.out.lt
  have cP1_66_0 := P1_66.out.c0
  have cP1_66_1 := P1_66.out.c1
  have lP2_66 := P2_66.out.lt
  have cP2_66_0 := P2_66.out.c0
  have cP2_66_1 := P2_66.out.c1
  go_wp2_with fail
  clear lP0_66 cP0_66_0 cP0_66_1 lP1_66 cP1_66_0 cP1_66_1 lP2_66 cP2_66_0 cP2_66_1
  have P3_67 := Lib.hid (Cell2.alloc W66 (.int .i64 s) (.int .i64 t) 23)
  have HB67 := Lib.hid (HB66.out.trans (((Below.refl W66.heap.size W66).alloc (Nat.le_refl _) (Obj.cells #[(.int .i64 s), (.int .i64 t)] 23)).mono HB66.out.size))
  have P0_67 := Lib.hid (P0_66.out.below ((Below.refl W66.heap.size W66).alloc (Nat.le_refl _) (Obj.cells #[(.int .i64 s), (.int .i64 t)] 23)) P0_66.out.lt)
  have P1_67 := Lib.hid (P1_66.out.below ((Below.refl W66.heap.size W66).alloc (Nat.le_refl _) (Obj.cells #[(.int .i64 s), (.int .i64 t)] 23)) P1_66.out.lt)
  have P2_67 := Lib.hid (P2_66.out.below ((Below.refl W66.heap.size W66).alloc (Nat.le_refl _) (Obj.cells #[(.int .i64 s), (.int .i64 t)] 23)) P2_66.out.lt)
  clear HB66 P0_66 P1_66 P2_66
  generalize W66.alloc (Obj.cells #[(.int .i64 s), (.int .i64 t)] 23) = W67 at *
  refine (H4.out _).mono ?_
  rintro e W68 ⟨rfl, hb68⟩
  have HB68 := Lib.hid (HB67.out.trans ((hb68).mono HB67.out.size))
  have P0_68 := Lib.hid (P0_67.out.below (hb68) P0_67.out.lt)
  have P1_68 := Lib.hid (P1_67.out.below (hb68) P1_67.out.lt)
  have P2_68 := Lib.hid (P2_67.out.below (hb68) P2_67.out.lt)
  have P3_68 := Lib.hid (P3_67.out.below (hb68) P3_67.out.lt)
  clear HB67 P0_67 P1_67 P2_67 P3_67 hb68
  have lP0_68 := P0_68.out.lt
  have cP0_68_0 := P0_68.out.c0
  have cP0_68_1 := P0_68.out.c1
  have lP1_68 := P1_68.out.lt
  have cP1_68_0 := P1_68.out.c0
  have cP1_68_1 := P1_68.out.c1
  have lP2_68 := P2_68.out.lt
  have cP2_68_0 := P2_68.out.c0
  have cP2_68_1 := P2_68.out.c1
  have lP3_68 := P3_68.out.lt
  have cP3_68_0 := P3_68.out.c0
  have cP3_68_1 := P3_68.out.c1
  go_wp2_with fail
  clear lP0_68 cP0_68_0 cP0_68_1 lP1_68 cP1_68_0 cP1_68_1 lP2_68 cP2_68_0 cP2_68_1 lP3_68 cP3_68_0 cP3_68_1
  have P5_69 := Lib.hid (Cell2.alloc W68 (.int .i64 x) (.int .i64 y) 23)
  have HB69 := Lib.hid (HB68.out.trans (((Below.refl W68.heap.size W68).alloc (Nat.le_refl _) (Obj.cells #[(.int .i64 x), (.int .i64 y)] 23)).mono HB68.out.size))
  have P0_69 := Lib.hid (P0_68.out.below ((Below.refl W68.heap.size W68).alloc (Nat.le_refl _) (Obj.cells #[(.int .i64 x), (.int .i64 y)] 23)) P0_68.out.lt)
  have P1_69 := Lib.hid (P1_68.out.below ((Below.refl W68.heap.size W68).alloc (Nat.le_refl _) (Obj.cells #[(.int .i64 x), (.int .i64 y)] 23)) P1_68.out.lt)
  have P2_69 := Lib.hid (P2_68.out.below ((Below.refl W68.heap.size W68).alloc (Nat.le_refl _) (Obj.cells #[(.int .i64 x), (.int .i64 y)] 23)) P2_68.out.lt)
  have P3_69 := Lib.hid (P3_68.out.below ((Below.refl W68.heap.size W68).alloc (Nat.le_refl _) (Obj.cells #[(.int .i64 x), (.int .i64 y)] 23)) P3_68.out.lt)
  clear HB68 P0_68 P1_68 P2_68 P3_68
  generalize W68.alloc (Obj.cells #[(.int .i64 x), (.int .i64 y)] 23) = W69 at *
  refine (H5.out _).mono ?_
  rintro e W70 ⟨rfl, hb70⟩
  have HB70 := Lib.hid (HB69.out.trans ((hb70).mono HB69.out.size))
  have P0_70 := Lib.hid (P0_69.out.below (hb70) P0_69.out.lt)
  have P1_70 := Lib.hid (P1_69.out.below (hb70) P1_69.out.lt)
  have P2_70 := Lib.hid (P2_69.out.below (hb70) P2_69.out.lt)
  have P3_70 := Lib.hid (P3_69.out.below (hb70) P3_69.out.lt)
  have P5_70 := Lib.hid (P5_69.out.below (hb70) P5_69.out.lt)
  clear HB69 P0_69 P1_69 P2_69 P3_69 P5_69 hb70
  have lP0_70 := P0_70.out.lt
  have cP0_70_0 := P0_70.out.c0
  have cP0_70_1 := P0_70.out.c1
  have lP1_70 := P1_70.out.lt
  have cP1_70_0 := P1_70.out.c0
  have cP1_70_1 := P1_70.out.c1
  have lP2_70 := P2_70.out.lt
  have cP2_70_0 := P2_70.out.c0
  have cP2_70_1 := P2_70.out.c1
  have lP3_70 := P3_70.out.lt
  have cP3_70_0 := P3_70.out.c0
  have cP3_70_1 := P3_70.out.c1
  have lP5_70 := P5_70.out.lt
  have cP5_70_0 := P5_70.out.c0
  have cP5_70_1 := P5_70.out.c1
  go_wp2_with fail
  clear lP0_70 cP0_70_0 cP0_70_1 lP1_70 cP1_70_0 cP1_70_1 lP2_70 cP2_70_0 cP2_70_1 lP3_70 cP3_70_0 cP3_70_1 lP5_70 cP5_70_0 cP5_70_1
  have P6_71 := Lib.hid (Cell2.alloc W70 (.int .i64 x) (.int .i64 y) 23)
  have HB71 := Lib.hid (HB70.out.trans (((Below.refl W70.heap.size W70).alloc (Nat.le_refl _) (Obj.cells #[(.int .i64 x), (.int .i64 y)] 23)).mono HB70.out.size))
  have P0_71 := Lib.hid (P0_70.out.below ((Below.refl W70.heap.size W70).alloc (Nat.le_refl _) (Obj.cells #[(.int .i64 x), (.int .i64 y)] 23)) P0_70.out.lt)
  have P1_71 := Lib.hid (P1_70.out.below ((Below.refl W70.heap.size W70).alloc (Nat.le_refl _) (Obj.cells #[(.int .i64 x), (.int .i64 y)] 23)) P1_70.out.lt)
  have P2_71 := Lib.hid (P2_70.out.below ((Below.refl W70.heap.size W70).alloc (Nat.le_refl _) (Obj.cells #[(.int .i64 x), (.int .i64 y)] 23)) P2_70.out.lt)
  have P3_71 := Lib.hid (P3_70.out.below ((Below.refl W70.heap.size W70).alloc (Nat.le_refl _) (Obj.cells #[(.int .i64 x), (.int .i64 y)] 23)) P3_70.out.lt)
  have P5_71 := Lib.hid (P5_70.out.below ((Below.refl W70.heap.size W70).alloc (Nat.le_refl _) (Obj.cells #[(.int .i64 x), (.int .i64 y)] 23)) P5_70.out.lt)
  clear HB70 P0_70 P1_70 P2_70 P3_70 P5_70
  generalize W70.alloc (Obj.cells #[(.int .i64 x), (.int .i64 y)] 23) = W71 at *
  refine (H7.out _).mono ?_
  rintro e W72 ⟨rfl, hb72⟩
  have HB72 := Lib.hid (HB71.out.trans ((hb72).mono HB71.out.size))
  have P0_72 := Lib.hid (P0_71.out.below (hb72) P0_71.out.lt)
  have P1_72 := Lib.hid (P1_71.out.below (hb72) P1_71.out.lt)
  have P2_72 := Lib.hid (P2_71.out.below (hb72) P2_71.out.lt)
  have P3_72 := Lib.hid (P3_71.out.below (hb72) P3_71.out.lt)
  have P5_72 := Lib.hid (P5_71.out.below (hb72) P5_71.out.lt)
  have P6_72 := Lib.hid (P6_71.out.below (hb72) P6_71.out.lt)
  clear HB71 P0_71 P1_71 P2_71 P3_71 P5_71 P6_71 hb72
  go_wp2
  go_ret
  exact ⟨rfl, HB72.out⟩

set_option maxRecDepth 100000 in
set_option maxHeartbeats 8000000 in
theorem inv_010 (a b c d : Int) (w : World) (a1 : -9223372036854775808 ≤ a) (a2 : a ≤ 9223372036854775807) (b1 : -9223372036854775808 ≤ b) (b2 : b ≤ 9223372036854775807) (c1 : -9223372036854775808 ≤ c) (c2 : c ≤ 9223372036854775807) (d1 : -9223372036854775808 ≤ d) (d2 : d ≤ 9223372036854775807) (he : ¬ opE (okB a b c d) (a * d + c * b) (b * d) = 0) (hz : opE (okB a b c d) (a * c) (b * d) = 0) (hc : ¬ c = 0) :
    Calls Try.prog 9 #[.agg #[.int .i64 a, .int .i64 b], .agg #[.int .i64 c, .int .i64 d]] w fun e w' => e = .returned (.bool true) ∧ Below w.heap.size w w' := by
  have H1 := Lib.hid (fun W => fAdd_any a b c d W a1 a2 b1 b2 c1 c2 d1 d2)
  have H2 := Lib.hid (fun W => fAdd_any c d a b W c1 c2 d1 d2 a1 a2 b1 b2)
  have H4 := Lib.hid (fun W => fMul_any a b c d W a1 a2 b1 b2 c1 c2 d1 d2)
  have H5 := Lib.hid (fun W => fMul_any c d a b W c1 c2 d1 d2 a1 a2 b1 b2)
  have H7 := Lib.hid lives3_any
  rw [(add_comm3 a b c d).1, (add_comm3 a b c d).2.1, (add_comm3 a b c d).2.2] at H2
  rw [(mul_comm3 a b c d).1, (mul_comm3 a b c d).2.1, (mul_comm3 a b c d).2.2] at H5
  obtain ⟨⟨x1, x2⟩, y1, y2⟩ := op_small (okB a b c d) (a * c) (b * d)
  have HJ := op_inv_mul hc hz
  have H6 := Lib.hid (fun W => fQuo_any _ _ c d W x1 x2 y1 y2 c1 c2 d1 d2)
  rw [HJ.1, HJ.2.1, HJ.2.2] at H6
  clear HJ x1 x2 y1 y2
  rw [hz] at H4 H5
  clear a1 a2 b1 b2 c1 c2 d1 d2
  have he' : (opE (okB a b c d) (a * d + c * b) (b * d) == 0) = false := by simpa using he
  clear he hz
  generalize opN (okB a b c d) (a * d + c * b) (b * d) = s at *
  generalize opD (okB a b c d) (a * d + c * b) (b * d) = t at *
  generalize opE (okB a b c d) (a * d + c * b) (b * d) = e at *
  generalize opN (okB a b c d) (a * c) (b * d) = x at *
  generalize opD (okB a b c d) (a * c) (b * d) = y at *
  have hc' : (c != 0) = true := by simpa using hc
  clear hc
  go_enter Try.func9, Try.ntmps9
  go_wp2_with fail
  have P0_73 := Lib.hid (show Cell2 ((w.alloc (Obj.cells #[(.int .i64 a), (.int .i64 b)] 23)).alloc (Obj.cells #[(.int .i64 c), (.int .i64 d)] 23)) (w.heap.size) (.int .i64 a) (.int .i64 b) from by have q := Cell2.alloc w (.int .i64 a) (.int .i64 b) 23; exact q.below (N := w.heap.size + 1) ((Below.refl _ _).alloc (by simp <;> omega) (Obj.cells #[(.int .i64 c), (.int .i64 d)] 23)) (by omega))
  have P1_73 := Lib.hid (show Cell2 ((w.alloc (Obj.cells #[(.int .i64 a), (.int .i64 b)] 23)).alloc (Obj.cells #[(.int .i64 c), (.int .i64 d)] 23)) (w.heap.size + 1) (.int .i64 c) (.int .i64 d) from by simpa using Cell2.alloc (w.alloc (Obj.cells #[(.int .i64 a), (.int .i64 b)] 23)) (.int .i64 c) (.int .i64 d) 23)
  have HB73 := Lib.hid (((Below.refl w.heap.size w).alloc (Nat.le_refl _) (Obj.cells #[(.int .i64 a), (.int .i64 b)] 23)).alloc (by simp) (Obj.cells #[(.int .i64 c), (.int .i64 d)] 23))
  generalize ((w.alloc (Obj.cells #[(.int .i64 a), (.int .i64 b)] 23)).alloc (Obj.cells #[(.int .i64 c), (.int .i64 d)] 23)) = W73 at *
  refine (H1.out _).mono ?_
  rintro e W74 ⟨rfl, hb74⟩
  have HB74 := Lib.hid (HB73.out.trans ((hb74).mono HB73.out.size))
  have P0_74 := Lib.hid (P0_73.out.below (hb74) P0_73.out.lt)
  have P1_74 := Lib.hid (P1_73.out.below (hb74) P1_73.out.lt)
  clear HB73 P0_73 P1_73 hb74
  have lP0_74 := P0_74.out.lt
  have cP0_74_0 := P0_74.out.c0
  have cP0_74_1 := P0_74.out.c1
  have lP1_74 := P1_74.out.lt
  have cP1_74_0 := P1_74.out.c0
  have cP1_74_1 := P1_74.out.c1
  go_wp2_with fail
  clear lP0_74 cP0_74_0 cP0_74_1 lP1_74 cP1_74_0 cP1_74_1
  have P2_75 := Lib.hid (Cell2.alloc W74 (.int .i64 s) (.int .i64 t) 23)
  have HB75 := Lib.hid (HB74.out.trans (((Below.refl W74.heap.size W74).alloc (Nat.le_refl _) (Obj.cells #[(.int .i64 s), (.int .i64 t)] 23)).mono HB74.out.size))
  have P0_75 := Lib.hid (P0_74.out.below ((Below.refl W74.heap.size W74).alloc (Nat.le_refl _) (Obj.cells #[(.int .i64 s), (.int .i64 t)] 23)) P0_74.out.lt)
  have P1_75 := Lib.hid (P1_74.out.below ((Below.refl W74.heap.size W74).alloc (Nat.le_refl _) (Obj.cells #[(.int .i64 s), (.int .i64 t)] 23)) P1_74.out.lt)
  clear HB74 P0_74 P1_74
  generalize W74.alloc (Obj.cells #[(.int .i64 s), (.int .i64 t)] 23) = W75 at *
  refine (H2.out _).mono ?_
  rintro e W76 ⟨rfl, hb76⟩
  have HB76 := Lib.hid (HB75.out.trans ((hb76).mono HB75.out.size))
  have P0_76 := Lib.hid (P0_75.out.below (hb76) P0_75.out.lt)
  have P1_76 := Lib.hid (P1_75.out.below (hb76) P1_75.out.lt)
  have P2_76 := Lib.hid (P2_75.out.below (hb76) P2_75.out.lt)
  clear HB75 P0_75 P1_75 P2_75 hb76
  have lP0_76 := P0_76.out.lt
  have cP0_76_0 := P0_76.out.c0
  have cP0_76_1 := P0_76.out.c1
  have lP1_76 := P1_76.out.lt
  have cP1_76_0 := P1_76.out.c0
  have cP1_76_1 := P1_76.out.c1
  have lP2_76 := P2_76.out.lt
  have cP2_76_0 := P2_76.out.c0
  have cP2_76_1 := P2_76.out.c1
  go_wp2_with fail
  clear lP0_76 cP0_76_0 cP0_76_1 lP1_76 cP1_76_0 cP1_76_1 lP2_76 cP2_76_0 cP2_76_1
  have P3_77 := Lib.hid (Cell2.alloc W76 (.int .i64 s) (.int .i64 t) 23)
  have HB77 := Lib.hid (HB76.out.trans (((Below.refl W76.heap.size W76).alloc (Nat.le_refl _) (Obj.cells #[(.int .i64 s), (.int .i64 t)] 23)).mono HB76.out.size))
  have P0_77 := Lib.hid (P0_76.out.below ((Below.refl W76.heap.size W76).alloc (Nat.le_refl _) (Obj.cells #[(.int .i64 s), (.int .i64 t)] 23)) P0_76.out.lt)
  have P1_77 := Lib.hid (P1_76.out.below ((Below.refl W76.heap.size W76).alloc (Nat.le_refl _) (Obj.cells #[(.int .i64 s), (.int .i64 t)] 23)) P1_76.out.lt)
  have P2_77 := Lib.hid (P2_76.out.below ((Below.refl W76.heap.size W76).alloc (Nat.le_refl _) (Obj.cells #[(.int .i64 s), (.int .i64 t)] 23)) P2_76.out.lt)
  clear HB76 P0_76 P1_76 P2_76
  generalize W76.alloc (Obj.cells #[(.int .i64 s), (.int .i64 t)] 23) = W77 at *
  refine (H4.out _).mono ?_
  rintro e W78 ⟨rfl, hb78⟩
  have HB78 := Lib.hid (HB77.out.trans ((hb78).mono HB77.out.size))
  have P0_78 := Lib.hid (P0_77.out.below (hb78) P0_77.out.lt)
  have P1_78 := Lib.hid (P1_77.out.below (hb78) P1_77.out.lt)
  have P2_78 := Lib.hid (P2_77.out.below (hb78) P2_77.out.lt)
  have P3_78 := Lib.hid (P3_77.out.below (hb78) P3_77.out.lt)
  clear HB77 P0_77 P1_77 P2_77 P3_77 hb78
  have lP0_78 := P0_78.out.lt
  have cP0_78_0 := P0_78.out.c0
  have cP0_78_1 := P0_78.out.c1
  have lP1_78 := P1_78.out.lt
  have cP1_78_0 := P1_78.out.c0
  have cP1_78_1 := P1_78.out.c1
  have lP2_78 := P2_78.out.lt
  have cP2_78_0 := P2_78.out.c0
  have cP2_78_1 := P2_78.out.c1
  have lP3_78 := P3_78.out.lt
  have cP3_78_0 := P3_78.out.c0
  have cP3_78_1 := P3_78.out.c1
  go_wp2_with fail
  clear lP0_78 cP0_78_0 cP0_78_1 lP1_78 cP1_78_0 cP1_78_1 lP2_78 cP2_78_0 cP2_78_1 lP3_78 cP3_78_0 cP3_78_1
  have P5_79 := Lib.hid (Cell2.alloc W78 (.int .i64 x) (.int .i64 y) 23)
  have HB79 := Lib.hid (HB78.out.trans (((Below.refl W78.heap.size W78).alloc (Nat.le_refl _) (Obj.cells #[(.int .i64 x), (.int .i64 y)] 23)).mono HB78.out.size))
  have P0_79 := Lib.hid (P0_78.out.below ((Below.refl W78.heap.size W78).alloc (Nat.le_refl _) (Obj.cells #[(.int .i64 x), (.int .i64 y)] 23)) P0_78.out.lt)
  have P1_79 := Lib.hid (P1_78.out.below ((Below.refl W78.heap.size W78).alloc (Nat.le_refl _) (Obj.cells #[(.int .i64 x), (.int .i64 y)] 23)) P1_78.out.lt)
  have P2_79 := Lib.hid (P2_78.out.below ((Below.refl W78.heap.size W78).alloc (Nat.le_refl _) (Obj.cells #[(.int .i64 x), (.int .i64 y)] 23)) P2_78.out.lt)
  have P3_79 := Lib.hid (P3_78.out.below ((Below.refl W78.heap.size W78).alloc (Nat.le_refl _) (Obj.cells #[(.int .i64 x), (.int .i64 y)] 23)) P3_78.out.lt)
  clear HB78 P0_78 P1_78 P2_78 P3_78
  generalize W78.alloc (Obj.cells #[(.int .i64 x), (.int .i64 y)] 23) = W79 at *
  refine (H5.out _).mono ?_
  rintro e W80 ⟨rfl, hb80⟩
  have HB80 := Lib.hid (HB79.out.trans ((hb80).mono HB79.out.size))
  have P0_80 := Lib.hid (P0_79.out.below (hb80) P0_79.out.lt)
  have P1_80 := Lib.hid (P1_79.out.below (hb80) P1_79.out.lt)
  have P2_80 := Lib.hid (P2_79.out.below (hb80) P2_79.out.lt)
  have P3_80 := Lib.hid (P3_79.out.below (hb80) P3_79.out.lt)
  have P5_80 := Lib.hid (P5_79.out.below (hb80) P5_79.out.lt)
  clear HB79 P0_79 P1_79 P2_79 P3_79 P5_79 hb80
  have lP0_80 := P0_80.out.lt
  have cP0_80_0 := P0_80.out.c0
  have cP0_80_1 := P0_80.out.c1
  have lP1_80 := P1_80.out.lt
  have cP1_80_0 := P1_80.out.c0
  have cP1_80_1 := P1_80.out.c1
  have lP2_80 := P2_80.out.lt
  have cP2_80_0 := P2_80.out.c0
  have cP2_80_1 := P2_80.out.c1
  have lP3_80 := P3_80.out.lt
  have cP3_80_0 := P3_80.out.c0
  have cP3_80_1 := P3_80.out.c1
  have lP5_80 := P5_80.out.lt
  have cP5_80_0 := P5_80.out.c0
  have cP5_80_1 := P5_80.out.c1
  go_wp2_with fail
  clear lP0_80 cP0_80_0 cP0_80_1 lP1_80 cP1_80_0 cP1_80_1 lP2_80 cP2_80_0 cP2_80_1 lP3_80 cP3_80_0 cP3_80_1 lP5_80 cP5_80_0 cP5_80_1
  have P6_81 := Lib.hid (Cell2.alloc W80 (.int .i64 x) (.int .i64 y) 23)
  have HB81 := Lib.hid (HB80.out.trans (((Below.refl W80.heap.size W80).alloc (Nat.le_refl _) (Obj.cells #[(.int .i64 x), (.int .i64 y)] 23)).mono HB80.out.size))
  have P0_81 := Lib.hid (P0_80.out.below ((Below.refl W80.heap.size W80).alloc (Nat.le_refl _) (Obj.cells #[(.int .i64 x), (.int .i64 y)] 23)) P0_80.out.lt)
  have P1_81 := Lib.hid (P1_80.out.below ((Below.refl W80.heap.size W80).alloc (Nat.le_refl _) (Obj.cells #[(.int .i64 x), (.int .i64 y)] 23)) P1_80.out.lt)
  have P2_81 := Lib.hid (P2_80.out.below ((Below.refl W80.heap.size W80).alloc (Nat.le_refl _) (Obj.cells #[(.int .i64 x), (.int .i64 y)] 23)) P2_80.out.lt)
  have P3_81 := Lib.hid (P3_80.out.below ((Below.refl W80.heap.size W80).alloc (Nat.le_refl _) (Obj.cells #[(.int .i64 x), (.int .i64 y)] 23)) P3_80.out.lt)
  have P5_81 := Lib.hid (P5_80.out.below ((Below.refl W80.heap.size W80).alloc (Nat.le_refl _) (Obj.cells #[(.int .i64 x), (.int .i64 y)] 23)) P5_80.out.lt)
  clear HB80 P0_80 P1_80 P2_80 P3_80 P5_80
  generalize W80.alloc (Obj.cells #[(.int .i64 x), (.int .i64 y)] 23) = W81 at *
  refine (H6.out _).mono ?_
  rintro e W82 ⟨rfl, hb82⟩
  have HB82 := Lib.hid (HB81.out.trans ((hb82).mono HB81.out.size))
  have P0_82 := Lib.hid (P0_81.out.below (hb82) P0_81.out.lt)
  have P1_82 := Lib.hid (P1_81.out.below (hb82) P1_81.out.lt)
  have P2_82 := Lib.hid (P2_81.out.below (hb82) P2_81.out.lt)
  have P3_82 := Lib.hid (P3_81.out.below (hb82) P3_81.out.lt)
  have P5_82 := Lib.hid (P5_81.out.below (hb82) P5_81.out.lt)
  have P6_82 := Lib.hid (P6_81.out.below (hb82) P6_81.out.lt)
  clear HB81 P0_81 P1_81 P2_81 P3_81 P5_81 P6_81 hb82
  have lP0_82 := P0_82.out.lt
  have cP0_82_0 := P0_82.out.c0
  have cP0_82_1 := P0_82.out.c1
  have lP1_82 := P1_82.out.lt
  have cP1_82_0 := P1_82.out.c0
  have cP1_82_1 := P1_82.out.c1
  have lP2_82 := P2_82.out.lt
  have cP2_82_0 := P2_82.out.c0
  have cP2_82_1 := P2_82.out.c1
  have lP3_82 := P3_82.out.lt
  have cP3_82_0 := P3_82.out.c0
  have cP3_82_1 := P3_82.out.c1
  have lP5_82 := P5_82.out.lt
  have cP5_82_0 := P5_82.out.c0
  have cP5_82_1 := P5_82.out.c1
  have lP6_82 := P6_82.out.lt
  have cP6_82_0 := P6_82.out.c0
  have cP6_82_1 := P6_82.out.c1
  go_wp2_with fail
  clear lP0_82 cP0_82_0 cP0_82_1 lP1_82 cP1_82_0 cP1_82_1 lP2_82 cP2_82_0 cP2_82_1 lP3_82 cP3_82_0 cP3_82_1 lP5_82 cP5_82_0 cP5_82_1 lP6_82 cP6_82_0 cP6_82_1
  have P7_83 := Lib.hid (Cell2.alloc W82 (.int .i64 a) (.int .i64 b) 23)
  have HB83 := Lib.hid (HB82.out.trans (((Below.refl W82.heap.size W82).alloc (Nat.le_refl _) (Obj.cells #[(.int .i64 a), (.int .i64 b)] 23)).mono HB82.out.size))
  have P0_83 := Lib.hid (P0_82.out.below ((Below.refl W82.heap.size W82).alloc (Nat.le_refl _) (Obj.cells #[(.int .i64 a), (.int .i64 b)] 23)) P0_82.out.lt)
  have P1_83 := Lib.hid (P1_82.out.below ((Below.refl W82.heap.size W82).alloc (Nat.le_refl _) (Obj.cells #[(.int .i64 a), (.int .i64 b)] 23)) P1_82.out.lt)
  have P2_83 := Lib.hid (P2_82.out.below ((Below.refl W82.heap.size W82).alloc (Nat.le_refl _) (Obj.cells #[(.int .i64 a), (.int .i64 b)] 23)) P2_82.out.lt)
  have P3_83 := Lib.hid (P3_82.out.below ((Below.refl W82.heap.size W82).alloc (Nat.le_refl _) (Obj.cells #[(.int .i64 a), (.int .i64 b)] 23)) P3_82.out.lt)
  have P5_83 := Lib.hid (P5_82.out.below ((Below.refl W82.heap.size W82).alloc (Nat.le_refl _) (Obj.cells #[(.int .i64 a), (.int .i64 b)] 23)) P5_82.out.lt)
  have P6_83 := Lib.hid (P6_82.out.below ((Below.refl W82.heap.size W82).alloc (Nat.le_refl _) (Obj.cells #[(.int .i64 a), (.int .i64 b)] 23)) P6_82.out.lt)
  clear HB82 P0_82 P1_82 P2_82 P3_82 P5_82 P6_82
  generalize W82.alloc (Obj.cells #[(.int .i64 a), (.int .i64 b)] 23) = W83 at *
  refine (H7.out _).mono ?_
  rintro e W84 ⟨rfl, hb84⟩
  have HB84 := Lib.hid (HB83.out.trans ((hb84).mono HB83.out.size))
  have P0_84 := Lib.hid (P0_83.out.below (hb84) P0_83.out.lt)
  have P1_84 := Lib.hid (P1_83.out.below (hb84) P1_83.out.lt)
  have P2_84 := Lib.hid (P2_83.out.below (hb84) P2_83.out.lt)
  have P3_84 := Lib.hid (P3_83.out.below (hb84) P3_83.out.lt)
  have P5_84 := Lib.hid (P5_83.out.below (hb84) P5_83.out.lt)
  have P6_84 := Lib.hid (P6_83.out.below (hb84) P6_83.out.lt)
  have P7_84 := Lib.hid (P7_83.out.below (hb84) P7_83.out.lt)
  clear HB83 P0_83 P1_83 P2_83 P3_83 P5_83 P6_83 P7_83 hb84
  go_wp2
  go_ret
  exact ⟨rfl, HB84.out⟩

set_option maxRecDepth 100000 in
set_option maxHeartbeats 8000000 in
theorem inv_000 (a b c d : Int) (w : World) (a1 : -9223372036854775808 ≤ a) (a2 : a ≤ 9223372036854775807) (b1 : -9223372036854775808 ≤ b) (b2 : b ≤ 9223372036854775807) (c1 : -9223372036854775808 ≤ c) (c2 : c ≤ 9223372036854775807) (d1 : -9223372036854775808 ≤ d) (d2 : d ≤ 9223372036854775807) (he : ¬ opE (okB a b c d) (a * d + c * b) (b * d) = 0) (hz : ¬ opE (okB a b c d) (a * c) (b * d) = 0) :
    Calls Try.prog 9 #[.agg #[.int .i64 a, .int .i64 b], .agg #[.int .i64 c, .int .i64 d]] w fun e w' => e = .returned (.bool true) ∧ Below w.heap.size w w' := by
  have H1 := Lib.hid (fun W => fAdd_any a b c d W a1 a2 b1 b2 c1 c2 d1 d2)
  have H2 := Lib.hid (fun W => fAdd_any c d a b W c1 c2 d1 d2 a1 a2 b1 b2)
  have H4 := Lib.hid (fun W => fMul_any a b c d W a1 a2 b1 b2 c1 c2 d1 d2)
  have H5 := Lib.hid (fun W => fMul_any c d a b W c1 c2 d1 d2 a1 a2 b1 b2)
  have H7 := Lib.hid lives3_any
  rw [(add_comm3 a b c d).1, (add_comm3 a b c d).2.1, (add_comm3 a b c d).2.2] at H2
  rw [(mul_comm3 a b c d).1, (mul_comm3 a b c d).2.1, (mul_comm3 a b c d).2.2] at H5
  clear a1 a2 b1 b2 c1 c2 d1 d2
  have he' : (opE (okB a b c d) (a * d + c * b) (b * d) == 0) = false := by simpa using he
  have hz' : (opE (okB a b c d) (a * c) (b * d) == 0) = false := by simpa using hz
  clear he hz
  generalize opN (okB a b c d) (a * d + c * b) (b * d) = s at *
  generalize opD (okB a b c d) (a * d + c * b) (b * d) = t at *
  generalize opE (okB a b c d) (a * d + c * b) (b * d) = e at *
  generalize opN (okB a b c d) (a * c) (b * d) = x at *
  generalize opD (okB a b c d) (a * c) (b * d) = y at *
  generalize opE (okB a b c d) (a * c) (b * d) = z at *
  go_enter Try.func9, Try.ntmps9
  go_wp2_with fail
  have P0_85 := Lib.hid (show Cell2 ((w.alloc (Obj.cells #[(.int .i64 a), (.int .i64 b)] 23)).alloc (Obj.cells #[(.int .i64 c), (.int .i64 d)] 23)) (w.heap.size) (.int .i64 a) (.int .i64 b) from by have q := Cell2.alloc w (.int .i64 a) (.int .i64 b) 23; exact q.below (N := w.heap.size + 1) ((Below.refl _ _).alloc (by simp <;> omega) (Obj.cells #[(.int .i64 c), (.int .i64 d)] 23)) (by omega))
  have P1_85 := Lib.hid (show Cell2 ((w.alloc (Obj.cells #[(.int .i64 a), (.int .i64 b)] 23)).alloc (Obj.cells #[(.int .i64 c), (.int .i64 d)] 23)) (w.heap.size + 1) (.int .i64 c) (.int .i64 d) from by simpa using Cell2.alloc (w.alloc (Obj.cells #[(.int .i64 a), (.int .i64 b)] 23)) (.int .i64 c) (.int .i64 d) 23)
  have HB85 := Lib.hid (((Below.refl w.heap.size w).alloc (Nat.le_refl _) (Obj.cells #[(.int .i64 a), (.int .i64 b)] 23)).alloc (by simp) (Obj.cells #[(.int .i64 c), (.int .i64 d)] 23))
  generalize ((w.alloc (Obj.cells #[(.int .i64 a), (.int .i64 b)] 23)).alloc (Obj.cells #[(.int .i64 c), (.int .i64 d)] 23)) = W85 at *
  refine (H1.out _).mono ?_
  rintro e W86 ⟨rfl, hb86⟩
  have HB86 := Lib.hid (HB85.out.trans ((hb86).mono HB85.out.size))
  have P0_86 := Lib.hid (P0_85.out.below (hb86) P0_85.out.lt)
  have P1_86 := Lib.hid (P1_85.out.below (hb86) P1_85.out.lt)
  clear HB85 P0_85 P1_85 hb86
  have lP0_86 := P0_86.out.lt
  have cP0_86_0 := P0_86.out.c0
  have cP0_86_1 := P0_86.out.c1
  have lP1_86 := P1_86.out.lt
  have cP1_86_0 := P1_86.out.c0
  have cP1_86_1 := P1_86.out.c1
  go_wp2_with fail
  clear lP0_86 cP0_86_0 cP0_86_1 lP1_86 cP1_86_0 cP1_86_1
  have P2_87 := Lib.hid (Cell2.alloc W86 (.int .i64 s) (.int .i64 t) 23)
  have HB87 := Lib.hid (HB86.out.trans (((Below.refl W86.heap.size W86).alloc (Nat.le_refl _) (Obj.cells #[(.int .i64 s), (.int .i64 t)] 23)).mono HB86.out.size))
  have P0_87 := Lib.hid (P0_86.out.below ((Below.refl W86.heap.size W86).alloc (Nat.le_refl _) (Obj.cells #[(.int .i64 s), (.int .i64 t)] 23)) P0_86.out.lt)
  have P1_87 := Lib.hid (P1_86.out.below ((Below.refl W86.heap.size W86).alloc (Nat.le_refl _) (Obj.cells #[(.int .i64 s), (.int .i64 t)] 23)) P1_86.out.lt)
  clear HB86 P0_86 P1_86
  generalize W86.alloc (Obj.cells #[(.int .i64 s), (.int .i64 t)] 23) = W87 at *
  refine (H2.out _).mono ?_
  rintro e W88 ⟨rfl, hb88⟩
  have HB88 := Lib.hid (HB87.out.trans ((hb88).mono HB87.out.size))
  have P0_88 := Lib.hid (P0_87.out.below (hb88) P0_87.out.lt)
  have P1_88 := Lib.hid (P1_87.out.below (hb88) P1_87.out.lt)
  have P2_88 := Lib.hid (P2_87.out.below (hb88) P2_87.out.lt)
  clear HB87 P0_87 P1_87 P2_87 hb88
  have lP0_88 := P0_88.out.lt
  have cP0_88_0 := P0_88.out.c0
  have cP0_88_1 := P0_88.out.c1
  have lP1_88 := P1_88.out.lt
  have cP1_88_0 := P1_88.out.c0
  have cP1_88_1 := P1_88.out.c1
  have lP2_88 := P2_88.out.lt
  have cP2_88_0 := P2_88.out.c0
  have cP2_88_1 := P2_88.out.c1
  go_wp2_with fail
  clear lP0_88 cP0_88_0 cP0_88_1 lP1_88 cP1_88_0 cP1_88_1 lP2_88 cP2_88_0 cP2_88_1
  have P3_89 := Lib.hid (Cell2.alloc W88 (.int .i64 s) (.int .i64 t) 23)
  have HB89 := Lib.hid (HB88.out.trans (((Below.refl W88.heap.size W88).alloc (Nat.le_refl _) (Obj.cells #[(.int .i64 s), (.int .i64 t)] 23)).mono HB88.out.size))
  have P0_89 := Lib.hid (P0_88.out.below ((Below.refl W88.heap.size W88).alloc (Nat.le_refl _) (Obj.cells #[(.int .i64 s), (.int .i64 t)] 23)) P0_88.out.lt)
  have P1_89 := Lib.hid (P1_88.out.below ((Below.refl W88.heap.size W88).alloc (Nat.le_refl _) (Obj.cells #[(.int .i64 s), (.int .i64 t)] 23)) P1_88.out.lt)
  have P2_89 := Lib.hid (P2_88.out.below ((Below.refl W88.heap.size W88).alloc (Nat.le_refl _) (Obj.cells #[(.int .i64 s), (.int .i64 t)] 23)) P2_88.out.lt)
  clear HB88 P0_88 P1_88 P2_88
  generalize W88.alloc (Obj.cells #[(.int .i64 s), (.int .i64 t)] 23) = W89 at *
  refine (H4.out _).mono ?_
  rintro e W90 ⟨rfl, hb90⟩
  have HB90 := Lib.hid (HB89.out.trans ((hb90).mono HB89.out.size))
  have P0_90 := Lib.hid (P0_89.out.below (hb90) P0_89.out.lt)
  have P1_90 := Lib.hid (P1_89.out.below (hb90) P1_89.out.lt)
  have P2_90 := Lib.hid (P2_89.out.below (hb90) P2_89.out.lt)
  have P3_90 := Lib.hid (P3_89.out.below (hb90) P3_89.out.lt)
  clear HB89 P0_89 P1_89 P2_89 P3_89 hb90
  have lP0_90 := P0_90.out.lt
  have cP0_90_0 := P0_90.out.c0
  have cP0_90_1 := P0_90.out.c1
  have lP1_90 := P1_90.out.lt
  have cP1_90_0 := P1_90.out.c0
  have cP1_90_1 := P1_90.out.c1
  have lP2_90 := P2_90.out.lt
  have cP2_90_0 := P2_90.out.c0
  have cP2_90_1 := P2_90.out.c1
  have lP3_90 := P3_90.out.lt
  have cP3_90_0 := P3_90.out.c0
  have cP3_90_1 := P3_90.out.c1
  go_wp2_with fail
  clear lP0_90 cP0_90_0 cP0_90_1 lP1_90 cP1_90_0 cP1_90_1 lP2_90 cP2_90_0 cP2_90_1 lP3_90 cP3_90_0 cP3_90_1
  have P5_91 := Lib.hid (Cell2.alloc W90 (.int .i64 x) (.int .i64 y) 23)
  have HB91 := Lib.hid (HB90.out.trans (((Below.refl W90.heap.size W90).alloc (Nat.le_refl _) (Obj.cells #[(.int .i64 x), (.int .i64 y)] 23)).mono HB90.out.size))
  have P0_91 := Lib.hid (P0_90.out.below ((Below.refl W90.heap.size W90).alloc (Nat.le_refl _) (Obj.cells #[(.int .i64 x), (.int .i64 y)] 23)) P0_90.out.lt)
  have P1_91 := Lib.hid (P1_90.out.below ((Below.refl W90.heap.size W90).alloc (Nat.le_refl _) (Obj.cells #[(.int .i64 x), (.int .i64 y)] 23)) P1_90.out.lt)
  have P2_91 := Lib.hid (P2_90.out.below ((Below.refl W90.heap.size W90).alloc (Nat.le_refl _) (Obj.cells #[(.int .i64 x), (.int .i64 y)] 23)) P2_90.out.lt)
  have P3_91 := Lib.hid (P3_90.out.below ((Below.refl W90.heap.size W90).alloc (Nat.le_refl _) (Obj.cells #[(.int .i64 x), (.int .i64 y)] 23)) P3_90.out.lt)
  clear HB90 P0_90 P1_90 P2_90 P3_90
  generalize W90.alloc (Obj.cells #[(.int .i64 x), (.int .i64 y)] 23) = W91 at *
  refine (H5.out _).mono ?_
  rintro e W92 ⟨rfl, hb92⟩
  have HB92 := Lib.hid (HB91.out.trans ((hb92).mono HB91.out.size))
  have P0_92 := Lib.hid (P0_91.out.below (hb92) P0_91.out.lt)
  have P1_92 := Lib.hid (P1_91.out.below (hb92) P1_91.out.lt)
  have P2_92 := Lib.hid (P2_91.out.below (hb92) P2_91.out.lt)
  have P3_92 := Lib.hid (P3_91.out.below (hb92) P3_91.out.lt)
  have P5_92 := Lib.hid (P5_91.out.below (hb92) P5_91.out.lt)
  clear HB91 P0_91 P1_91 P2_91 P3_91 P5_91 hb92
  have lP0_92 := P0_92.out.lt
  have cP0_92_0 := P0_92.out.c0
  have cP0_92_1 := P0_92.out.c1
  have lP1_92 := P1_92.out.lt
  have cP1_92_0 := P1_92.out.c0
  have cP1_92_1 := P1_92.out.c1
  have lP2_92 := P2_92.out.lt
  have cP2_92_0 := P2_92.out.c0
  have cP2_92_1 := P2_92.out.c1
  have lP3_92 := P3_92.out.lt
  have cP3_92_0 := P3_92.out.c0
  have cP3_92_1 := P3_92.out.c1
  have lP5_92 := P5_92.out.lt
  have cP5_92_0 := P5_92.out.c0
  have cP5_92_1 := P5_92.out.c1
  go_wp2_with fail
  clear lP0_92 cP0_92_0 cP0_92_1 lP1_92 cP1_92_0 cP1_92_1 lP2_92 cP2_92_0 cP2_92_1 lP3_92 cP3_92_0 cP3_92_1 lP5_92 cP5_92_0 cP5_92_1
  have P6_93 := Lib.hid (Cell2.alloc W92 (.int .i64 x) (.int .i64 y) 23)
  have HB93 := Lib.hid (HB92.out.trans (((Below.refl W92.heap.size W92).alloc (Nat.le_refl _) (Obj.cells #[(.int .i64 x), (.int .i64 y)] 23)).mono HB92.out.size))
  have P0_93 := Lib.hid (P0_92.out.below ((Below.refl W92.heap.size W92).alloc (Nat.le_refl _) (Obj.cells #[(.int .i64 x), (.int .i64 y)] 23)) P0_92.out.lt)
  have P1_93 := Lib.hid (P1_92.out.below ((Below.refl W92.heap.size W92).alloc (Nat.le_refl _) (Obj.cells #[(.int .i64 x), (.int .i64 y)] 23)) P1_92.out.lt)
  have P2_93 := Lib.hid (P2_92.out.below ((Below.refl W92.heap.size W92).alloc (Nat.le_refl _) (Obj.cells #[(.int .i64 x), (.int .i64 y)] 23)) P2_92.out.lt)
  have P3_93 := Lib.hid (P3_92.out.below ((Below.refl W92.heap.size W92).alloc (Nat.le_refl _) (Obj.cells #[(.int .i64 x), (.int .i64 y)] 23)) P3_92.out.lt)
  have P5_93 := Lib.hid (P5_92.out.below ((Below.refl W92.heap.size W92).alloc (Nat.le_refl _) (Obj.cells #[(.int .i64 x), (.int .i64 y)] 23)) P5_92.out.lt)
  clear HB92 P0_92 P1_92 P2_92 P3_92 P5_92
  generalize W92.alloc (Obj.cells #[(.int .i64 x), (.int .i64 y)] 23) = W93 at *
  refine (H7.out _).mono ?_
  rintro e W94 ⟨rfl, hb94⟩
  have HB94 := Lib.hid (HB93.out.trans ((hb94).mono HB93.out.size))
  have P0_94 := Lib.hid (P0_93.out.below (hb94) P0_93.out.lt)
  have P1_94 := Lib.hid (P1_93.out.below (hb94) P1_93.out.lt)
  have P2_94 := Lib.hid (P2_93.out.below (hb94) P2_93.out.lt)
  have P3_94 := Lib.hid (P3_93.out.below (hb94) P3_93.out.lt)
  have P5_94 := Lib.hid (P5_93.out.below (hb94) P5_93.out.lt)
  have P6_94 := Lib.hid (P6_93.out.below (hb94) P6_93.out.lt)
  clear HB93 P0_93 P1_93 P2_93 P3_93 P5_93 P6_93 hb94
  go_wp2
  go_ret
  exact ⟨rfl, HB94.out⟩

theorem fracInverse_walk (a b c d : Int) (w : World) (wa : (Lit.int .i64 a).wf = true) (wb : (Lit.int .i64 b).wf = true) (wc : (Lit.int .i64 c).wf = true) (wd : (Lit.int .i64 d).wf = true) :
    Calls Try.prog 9 #[.agg #[.int .i64 a, .int .i64 b], .agg #[.int .i64 c, .int .i64 d]] w fun e w' => e = .returned (.bool true) ∧ Below w.heap.size w w' := by
  obtain ⟨a1, a2⟩ := i64_rng wa
  obtain ⟨b1, b2⟩ := i64_rng wb
  obtain ⟨c1, c2⟩ := i64_rng wc
  obtain ⟨d1, d2⟩ := i64_rng wd
  clear wa wb wc wd
  by_cases he : opE (okB a b c d) (a * d + c * b) (b * d) = 0 <;> by_cases hz : opE (okB a b c d) (a * c) (b * d) = 0 <;> by_cases hc : c = 0
  · exact inv_111 a b c d w a1 a2 b1 b2 c1 c2 d1 d2 he hz hc
  · exact inv_110 a b c d w a1 a2 b1 b2 c1 c2 d1 d2 he hz hc
  · exact inv_100 a b c d w a1 a2 b1 b2 c1 c2 d1 d2 he hz
  · exact inv_100 a b c d w a1 a2 b1 b2 c1 c2 d1 d2 he hz
  · exact inv_011 a b c d w a1 a2 b1 b2 c1 c2 d1 d2 he hz hc
  · exact inv_010 a b c d w a1 a2 b1 b2 c1 c2 d1 d2 he hz hc
  · exact inv_000 a b c d w a1 a2 b1 b2 c1 c2 d1 d2 he hz
  · exact inv_000 a b c d w a1 a2 b1 b2 c1 c2 d1 d2 he hz

set_option maxRecDepth 100000 in
set_option maxHeartbeats 8000000 in
theorem fracArith_walk (a b c d : Int) (w : World) (wa : (Lit.int .i64 a).wf = true) (wb : (Lit.int .i64 b).wf = true) (wc : (Lit.int .i64 c).wf = true) (wd : (Lit.int .i64 d).wf = true) :
    Calls Try.prog 5 #[.agg #[.int .i64 a, .int .i64 b], .agg #[.int .i64 c, .int .i64 d]] w fun e w' => e = .returned (.bool true) ∧ Below w.heap.size w w' := by
  obtain ⟨a1, a2⟩ := i64_rng wa
  obtain ⟨b1, b2⟩ := i64_rng wb
  obtain ⟨c1, c2⟩ := i64_rng wc
  obtain ⟨d1, d2⟩ := i64_rng wd
  clear wa wb wc wd
  have FAdd := Lib.hid (fun W => fAdd_any a b c d W a1 a2 b1 b2 c1 c2 d1 d2)
  have RAdd := Lib.hid (fun W => rAdd_any a b c d W a1 a2 b1 b2 c1 c2 d1 d2)
  have FSub := Lib.hid (fun W => fSub_any a b c d W a1 a2 b1 b2 c1 c2 d1 d2)
  have RSub := Lib.hid (fun W => rSub_any a b c d W a1 a2 b1 b2 c1 c2 d1 d2)
  have FMul := Lib.hid (fun W => fMul_any a b c d W a1 a2 b1 b2 c1 c2 d1 d2)
  have RMul := Lib.hid (fun W => rMul_any a b c d W a1 a2 b1 b2 c1 c2 d1 d2)
  have FQuo := Lib.hid (fun W => fQuo_any a b c d W a1 a2 b1 b2 c1 c2 d1 d2)
  have RQuo := Lib.hid (fun W => rQuo_any a b c d W a1 a2 b1 b2 c1 c2 d1 d2)
  have H1 := Lib.hid (fun W => cmpF_any a b c d W a1 a2 b1 b2 c1 c2 d1 d2)
  have H2 := Lib.hid (fun W => rCmpF_any a b c d W a1 a2 b1 b2 c1 c2 d1 d2)
  have H3 := Lib.hid lives3_any
  clear a1 a2 b1 b2 c1 c2 d1 d2
  generalize cpV a b c d = C at *
  generalize opN (okB a b c d) (a * d + c * b) (b * d) = x0 at *
  generalize opD (okB a b c d) (a * d + c * b) (b * d) = y0 at *
  generalize opE (okB a b c d) (a * d + c * b) (b * d) = z0 at *
  generalize opN (okB a b c d) (a * d - c * b) (b * d) = x1 at *
  generalize opD (okB a b c d) (a * d - c * b) (b * d) = y1 at *
  generalize opE (okB a b c d) (a * d - c * b) (b * d) = z1 at *
  generalize opN (okB a b c d) (a * c) (b * d) = x2 at *
  generalize opD (okB a b c d) (a * c) (b * d) = y2 at *
  generalize opE (okB a b c d) (a * c) (b * d) = z2 at *
  generalize opN (okB a b c d) (a * d) (b * c) = x3 at *
  generalize opD (okB a b c d) (a * d) (b * c) = y3 at *
  generalize opE (okB a b c d) (a * d) (b * c) = z3 at *
  go_enter Try.func5, Try.ntmps5
  go_wp2_with fail
  have P0_95 := Lib.hid (show Cell2 ((w.alloc (Obj.cells #[(.int .i64 a), (.int .i64 b)] 23)).alloc (Obj.cells #[(.int .i64 c), (.int .i64 d)] 23)) (w.heap.size) (.int .i64 a) (.int .i64 b) from by have q := Cell2.alloc w (.int .i64 a) (.int .i64 b) 23; exact q.below (N := w.heap.size + 1) ((Below.refl _ _).alloc (by simp <;> omega) (Obj.cells #[(.int .i64 c), (.int .i64 d)] 23)) (by omega))
  have P1_95 := Lib.hid (show Cell2 ((w.alloc (Obj.cells #[(.int .i64 a), (.int .i64 b)] 23)).alloc (Obj.cells #[(.int .i64 c), (.int .i64 d)] 23)) (w.heap.size + 1) (.int .i64 c) (.int .i64 d) from by simpa using Cell2.alloc (w.alloc (Obj.cells #[(.int .i64 a), (.int .i64 b)] 23)) (.int .i64 c) (.int .i64 d) 23)
  have HB95 := Lib.hid (((Below.refl w.heap.size w).alloc (Nat.le_refl _) (Obj.cells #[(.int .i64 a), (.int .i64 b)] 23)).alloc (by simp) (Obj.cells #[(.int .i64 c), (.int .i64 d)] 23))
  generalize ((w.alloc (Obj.cells #[(.int .i64 a), (.int .i64 b)] 23)).alloc (Obj.cells #[(.int .i64 c), (.int .i64 d)] 23)) = W95 at *
  refine (FAdd.out _).mono ?_
  rintro e W96 ⟨rfl, hb96⟩
  have HB96 := Lib.hid (HB95.out.trans ((hb96).mono HB95.out.size))
  have P0_96 := Lib.hid (P0_95.out.below (hb96) P0_95.out.lt)
  have P1_96 := Lib.hid (P1_95.out.below (hb96) P1_95.out.lt)
  clear HB95 P0_95 P1_95 hb96
  have lP0_96 := P0_96.out.lt
  have cP0_96_0 := P0_96.out.c0
  have cP0_96_1 := P0_96.out.c1
  have lP1_96 := P1_96.out.lt
  have cP1_96_0 := P1_96.out.c0
  have cP1_96_1 := P1_96.out.c1
  go_wp2_with fail
  have oP2_P0_96 := P0_96.out.lt
  have oP2_P1_96 := P1_96.out.lt
  have P2_97 := Lib.hid (show Cell2 (W96.alloc (Obj.cells #[(.int .i64 x0), (.int .i64 y0)] 23)) (W96.heap.size) (.int .i64 x0) (.int .i64 y0) from by exact Cell2.alloc W96 (.int .i64 x0) (.int .i64 y0) 23)
  have HB97 := Lib.hid (HB96.out.trans (((Below.refl W96.heap.size W96).alloc (Nat.le_refl _) (Obj.cells #[(.int .i64 x0), (.int .i64 y0)] 23)).mono HB96.out.size))
  have P0_97 := Lib.hid (P0_96.out.below ((Below.refl W96.heap.size W96).alloc (Nat.le_refl _) (Obj.cells #[(.int .i64 x0), (.int .i64 y0)] 23)) P0_96.out.lt)
  have P1_97 := Lib.hid (P1_96.out.below ((Below.refl W96.heap.size W96).alloc (Nat.le_refl _) (Obj.cells #[(.int .i64 x0), (.int .i64 y0)] 23)) P1_96.out.lt)
  clear lP0_96 cP0_96_0 cP0_96_1 lP1_96 cP1_96_0 cP1_96_1
  clear HB96 P0_96 P1_96
  generalize W96.alloc (Obj.cells #[(.int .i64 x0), (.int .i64 y0)] 23) = W98 at *
  refine (RAdd.out _).mono ?_
  rintro e W99 ⟨rfl, hb99⟩
  have HB99 := Lib.hid (HB97.out.trans ((hb99).mono HB97.out.size))
  have P0_99 := Lib.hid (P0_97.out.below (hb99) P0_97.out.lt)
  have P1_99 := Lib.hid (P1_97.out.below (hb99) P1_97.out.lt)
  have P2_99 := Lib.hid (P2_97.out.below (hb99) P2_97.out.lt)
  clear HB97 P0_97 P1_97 P2_97 hb99
  have lP0_99 := P0_99.out.lt
  have cP0_99_0 := P0_99.out.c0
  have cP0_99_1 := P0_99.out.c1
  have lP1_99 := P1_99.out.lt
  have cP1_99_0 := P1_99.out.c0
  have cP1_99_1 := P1_99.out.c1
  have lP2_99 := P2_99.out.lt
  have cP2_99_0 := P2_99.out.c0
  have cP2_99_1 := P2_99.out.c1
  go_wp2_with fail
  have oP3_P0_99 := P0_99.out.lt
  have oP3_P1_99 := P1_99.out.lt
  have oP3_P2_99 := P2_99.out.lt
  have P3_100 := Lib.hid (show Cell2 (W99.alloc (Obj.cells #[(.int .i64 x0), (.int .i64 y0)] 23)) (W99.heap.size) (.int .i64 x0) (.int .i64 y0) from by exact Cell2.alloc W99 (.int .i64 x0) (.int .i64 y0) 23)
  have HB100 := Lib.hid (HB99.out.trans (((Below.refl W99.heap.size W99).alloc (Nat.le_refl _) (Obj.cells #[(.int .i64 x0), (.int .i64 y0)] 23)).mono HB99.out.size))
  have P0_100 := Lib.hid (P0_99.out.below ((Below.refl W99.heap.size W99).alloc (Nat.le_refl _) (Obj.cells #[(.int .i64 x0), (.int .i64 y0)] 23)) P0_99.out.lt)
  have P1_100 := Lib.hid (P1_99.out.below ((Below.refl W99.heap.size W99).alloc (Nat.le_refl _) (Obj.cells #[(.int .i64 x0), (.int .i64 y0)] 23)) P1_99.out.lt)
  have P2_100 := Lib.hid (P2_99.out.below ((Below.refl W99.heap.size W99).alloc (Nat.le_refl _) (Obj.cells #[(.int .i64 x0), (.int .i64 y0)] 23)) P2_99.out.lt)
  clear lP0_99 cP0_99_0 cP0_99_1 lP1_99 cP1_99_0 cP1_99_1 lP2_99 cP2_99_0 cP2_99_1
  clear HB99 P0_99 P1_99 P2_99
  generalize W99.alloc (Obj.cells #[(.int .i64 x0), (.int .i64 y0)] 23) = W101 at *
  refine (FSub.out _).mono ?_
  rintro e W102 ⟨rfl, hb102⟩
  have HB102 := Lib.hid (HB100.out.trans ((hb102).mono HB100.out.size))
  have P0_102 := Lib.hid (P0_100.out.below (hb102) P0_100.out.lt)
  have P1_102 := Lib.hid (P1_100.out.below (hb102) P1_100.out.lt)
  have P2_102 := Lib.hid (P2_100.out.below (hb102) P2_100.out.lt)
  have P3_102 := Lib.hid (P3_100.out.below (hb102) P3_100.out.lt)
  clear HB100 P0_100 P1_100 P2_100 P3_100 hb102
  have lP0_102 := P0_102.out.lt
  have cP0_102_0 := P0_102.out.c0
  have cP0_102_1 := P0_102.out.c1
  have lP1_102 := P1_102.out.lt
  have cP1_102_0 := P1_102.out.c0
  have cP1_102_1 := P1_102.out.c1
  have lP2_102 := P2_102.out.lt
  have cP2_102_0 := P2_102.out.c0
  have cP2_102_1 := P2_102.out.c1
  have lP3_102 := P3_102.out.lt
  have cP3_102_0 := P3_102.out.c0
  have cP3_102_1 := P3_102.out.c1
  have fP2_102_0 := P2_102.out.f0
  have fP2_102_1 := P2_102.out.f1
  go_wp2_with fail
  have P0_103 := Lib.hid (P0_102.out.far (B' := W96.heap.size) (by omega) 0 (.int .i64 x1))
  have P1_103 := Lib.hid (P1_102.out.far (B' := W96.heap.size) (by omega) 0 (.int .i64 x1))
  have P2_103 := Lib.hid (P2_102.out.set0 (.int .i64 x1))
  have P3_103 := Lib.hid (P3_102.out.far (B' := W96.heap.size) (by omega) 0 (.int .i64 x1))
  have HB103 := Lib.hid (HB102.out.setCell (p := ⟨W96.heap.size, 0, none⟩) (by simp <;> omega) (.int .i64 x1))
  have P0_104 := Lib.hid (P0_103.out.far (B' := W96.heap.size) (by omega) 1 (.int .i64 y1))
  have P1_104 := Lib.hid (P1_103.out.far (B' := W96.heap.size) (by omega) 1 (.int .i64 y1))
  have P2_104 := Lib.hid (P2_103.out.set1 (.int .i64 y1))
  have P3_104 := Lib.hid (P3_103.out.far (B' := W96.heap.size) (by omega) 1 (.int .i64 y1))
  have HB104 := Lib.hid (HB103.out.setCell (p := ⟨W96.heap.size, 1, none⟩) (by simp <;> omega) (.int .i64 y1))
  clear lP0_102 cP0_102_0 cP0_102_1 lP1_102 cP1_102_0 cP1_102_1 lP2_102 cP2_102_0 cP2_102_1 lP3_102 cP3_102_0 cP3_102_1 fP2_102_0 fP2_102_1
  clear P0_102 P1_102 P2_102 P3_102 HB102 P0_103 P1_103 P2_103 P3_103 HB103
  generalize (W102.setCell ⟨W96.heap.size, 0, none⟩ (.int .i64 x1)).setCell ⟨W96.heap.size, 1, none⟩ (.int .i64 y1) = W105 at *
  refine (RSub.out _).mono ?_
  rintro e W106 ⟨rfl, hb106⟩
  have HB106 := Lib.hid (HB104.out.trans ((hb106).mono HB104.out.size))
  have P0_106 := Lib.hid (P0_104.out.below (hb106) P0_104.out.lt)
  have P1_106 := Lib.hid (P1_104.out.below (hb106) P1_104.out.lt)
  have P2_106 := Lib.hid (P2_104.out.below (hb106) P2_104.out.lt)
  have P3_106 := Lib.hid (P3_104.out.below (hb106) P3_104.out.lt)
  clear HB104 P0_104 P1_104 P2_104 P3_104 hb106
  have lP0_106 := P0_106.out.lt
  have cP0_106_0 := P0_106.out.c0
  have cP0_106_1 := P0_106.out.c1
  have lP1_106 := P1_106.out.lt
  have cP1_106_0 := P1_106.out.c0
  have cP1_106_1 := P1_106.out.c1
  have lP2_106 := P2_106.out.lt
  have cP2_106_0 := P2_106.out.c0
  have cP2_106_1 := P2_106.out.c1
  have lP3_106 := P3_106.out.lt
  have cP3_106_0 := P3_106.out.c0
  have cP3_106_1 := P3_106.out.c1
  have fP3_106_0 := P3_106.out.f0
  have fP3_106_1 := P3_106.out.f1
  go_wp2_with fail
  have P0_107 := Lib.hid (P0_106.out.far (B' := W99.heap.size) (by omega) 0 (.int .i64 x1))
  have P1_107 := Lib.hid (P1_106.out.far (B' := W99.heap.size) (by omega) 0 (.int .i64 x1))
  have P2_107 := Lib.hid (P2_106.out.far (B' := W99.heap.size) (by omega) 0 (.int .i64 x1))
  have P3_107 := Lib.hid (P3_106.out.set0 (.int .i64 x1))
  have HB107 := Lib.hid (HB106.out.setCell (p := ⟨W99.heap.size, 0, none⟩) (by simp <;> omega) (.int .i64 x1))
  have P0_108 := Lib.hid (P0_107.out.far (B' := W99.heap.size) (by omega) 1 (.int .i64 y1))
  have P1_108 := Lib.hid (P1_107.out.far (B' := W99.heap.size) (by omega) 1 (.int .i64 y1))
  have P2_108 := Lib.hid (P2_107.out.far (B' := W99.heap.size) (by omega) 1 (.int .i64 y1))
  have P3_108 := Lib.hid (P3_107.out.set1 (.int .i64 y1))
  have HB108 := Lib.hid (HB107.out.setCell (p := ⟨W99.heap.size, 1, none⟩) (by simp <;> omega) (.int .i64 y1))
  clear lP0_106 cP0_106_0 cP0_106_1 lP1_106 cP1_106_0 cP1_106_1 lP2_106 cP2_106_0 cP2_106_1 lP3_106 cP3_106_0 cP3_106_1 fP3_106_0 fP3_106_1
  clear P0_106 P1_106 P2_106 P3_106 HB106 P0_107 P1_107 P2_107 P3_107 HB107
  generalize (W106.setCell ⟨W99.heap.size, 0, none⟩ (.int .i64 x1)).setCell ⟨W99.heap.size, 1, none⟩ (.int .i64 y1) = W109 at *
  refine (FMul.out _).mono ?_
  rintro e W110 ⟨rfl, hb110⟩
  have HB110 := Lib.hid (HB108.out.trans ((hb110).mono HB108.out.size))
  have P0_110 := Lib.hid (P0_108.out.below (hb110) P0_108.out.lt)
  have P1_110 := Lib.hid (P1_108.out.below (hb110) P1_108.out.lt)
  have P2_110 := Lib.hid (P2_108.out.below (hb110) P2_108.out.lt)
  have P3_110 := Lib.hid (P3_108.out.below (hb110) P3_108.out.lt)
  clear HB108 P0_108 P1_108 P2_108 P3_108 hb110
  have lP0_110 := P0_110.out.lt
  have cP0_110_0 := P0_110.out.c0
  have cP0_110_1 := P0_110.out.c1
  have lP1_110 := P1_110.out.lt
  have cP1_110_0 := P1_110.out.c0
  have cP1_110_1 := P1_110.out.c1
  have lP2_110 := P2_110.out.lt
  have cP2_110_0 := P2_110.out.c0
  have cP2_110_1 := P2_110.out.c1
  have lP3_110 := P3_110.out.lt
  have cP3_110_0 := P3_110.out.c0
  have cP3_110_1 := P3_110.out.c1
  have fP2_110_0 := P2_110.out.f0
  have fP2_110_1 := P2_110.out.f1
  go_wp2_with fail
  have P0_111 := Lib.hid (P0_110.out.far (B' := W96.heap.size) (by omega) 0 (.int .i64 x2))
  have P1_111 := Lib.hid (P1_110.out.far (B' := W96.heap.size) (by omega) 0 (.int .i64 x2))
  have P2_111 := Lib.hid (P2_110.out.set0 (.int .i64 x2))
  have P3_111 := Lib.hid (P3_110.out.far (B' := W96.heap.size) (by omega) 0 (.int .i64 x2))
  have HB111 := Lib.hid (HB110.out.setCell (p := ⟨W96.heap.size, 0, none⟩) (by simp <;> omega) (.int .i64 x2))
  have P0_112 := Lib.hid (P0_111.out.far (B' := W96.heap.size) (by omega) 1 (.int .i64 y2))
  have P1_112 := Lib.hid (P1_111.out.far (B' := W96.heap.size) (by omega) 1 (.int .i64 y2))
  have P2_112 := Lib.hid (P2_111.out.set1 (.int .i64 y2))
  have P3_112 := Lib.hid (P3_111.out.far (B' := W96.heap.size) (by omega) 1 (.int .i64 y2))
  have HB112 := Lib.hid (HB111.out.setCell (p := ⟨W96.heap.size, 1, none⟩) (by simp <;> omega) (.int .i64 y2))
  clear lP0_110 cP0_110_0 cP0_110_1 lP1_110 cP1_110_0 cP1_110_1 lP2_110 cP2_110_0 cP2_110_1 lP3_110 cP3_110_0 cP3_110_1 fP2_110_0 fP2_110_1
  clear P0_110 P1_110 P2_110 P3_110 HB110 P0_111 P1_111 P2_111 P3_111 HB111
  generalize (W110.setCell ⟨W96.heap.size, 0, none⟩ (.int .i64 x2)).setCell ⟨W96.heap.size, 1, none⟩ (.int .i64 y2) = W113 at *
  refine (RMul.out _).mono ?_
  rintro e W114 ⟨rfl, hb114⟩
  have HB114 := Lib.hid (HB112.out.trans ((hb114).mono HB112.out.size))
  have P0_114 := Lib.hid (P0_112.out.below (hb114) P0_112.out.lt)
  have P1_114 := Lib.hid (P1_112.out.below (hb114) P1_112.out.lt)
  have P2_114 := Lib.hid (P2_112.out.below (hb114) P2_112.out.lt)
  have P3_114 := Lib.hid (P3_112.out.below (hb114) P3_112.out.lt)
  clear HB112 P0_112 P1_112 P2_112 P3_112 hb114
  have lP0_114 := P0_114.out.lt
  have cP0_114_0 := P0_114.out.c0
  have cP0_114_1 := P0_114.out.c1
  have lP1_114 := P1_114.out.lt
  have cP1_114_0 := P1_114.out.c0
  have cP1_114_1 := P1_114.out.c1
  have lP2_114 := P2_114.out.lt
  have cP2_114_0 := P2_114.out.c0
  have cP2_114_1 := P2_114.out.c1
  have lP3_114 := P3_114.out.lt
  have cP3_114_0 := P3_114.out.c0
  have cP3_114_1 := P3_114.out.c1
  have fP3_114_0 := P3_114.out.f0
  have fP3_114_1 := P3_114.out.f1
  go_wp2_with fail
  have P0_115 := Lib.hid (P0_114.out.far (B' := W99.heap.size) (by omega) 0 (.int .i64 x2))
  have P1_115 := Lib.hid (P1_114.out.far (B' := W99.heap.size) (by omega) 0 (.int .i64 x2))
  have P2_115 := Lib.hid (P2_114.out.far (B' := W99.heap.size) (by omega) 0 (.int .i64 x2))
  have P3_115 := Lib.hid (P3_114.out.set0 (.int .i64 x2))
  have HB115 := Lib.hid (HB114.out.setCell (p := ⟨W99.heap.size, 0, none⟩) (by simp <;> omega) (.int .i64 x2))
  have P0_116 := Lib.hid (P0_115.out.far (B' := W99.heap.size) (by omega) 1 (.int .i64 y2))
  have P1_116 := Lib.hid (P1_115.out.far (B' := W99.heap.size) (by omega) 1 (.int .i64 y2))
  have P2_116 := Lib.hid (P2_115.out.far (B' := W99.heap.size) (by omega) 1 (.int .i64 y2))
  have P3_116 := Lib.hid (P3_115.out.set1 (.int .i64 y2))
  have HB116 := Lib.hid (HB115.out.setCell (p := ⟨W99.heap.size, 1, none⟩) (by simp <;> omega) (.int .i64 y2))
  clear lP0_114 cP0_114_0 cP0_114_1 lP1_114 cP1_114_0 cP1_114_1 lP2_114 cP2_114_0 cP2_114_1 lP3_114 cP3_114_0 cP3_114_1 fP3_114_0 fP3_114_1
  clear P0_114 P1_114 P2_114 P3_114 HB114 P0_115 P1_115 P2_115 P3_115 HB115
  generalize (W114.setCell ⟨W99.heap.size, 0, none⟩ (.int .i64 x2)).setCell ⟨W99.heap.size, 1, none⟩ (.int .i64 y2) = W117 at *
  refine (FQuo.out _).mono ?_
  rintro e W118 ⟨rfl, hb118⟩
  have HB118 := Lib.hid (HB116.out.trans ((hb118).mono HB116.out.size))
  have P0_118 := Lib.hid (P0_116.out.below (hb118) P0_116.out.lt)
  have P1_118 := Lib.hid (P1_116.out.below (hb118) P1_116.out.lt)
  have P2_118 := Lib.hid (P2_116.out.below (hb118) P2_116.out.lt)
  have P3_118 := Lib.hid (P3_116.out.below (hb118) P3_116.out.lt)
  clear HB116 P0_116 P1_116 P2_116 P3_116 hb118
  have lP0_118 := P0_118.out.lt
  have cP0_118_0 := P0_118.out.c0
  have cP0_118_1 := P0_118.out.c1
  have lP1_118 := P1_118.out.lt
  have cP1_118_0 := P1_118.out.c0
  have cP1_118_1 := P1_118.out.c1
  have lP2_118 := P2_118.out.lt
  have cP2_118_0 := P2_118.out.c0
  have cP2_118_1 := P2_118.out.c1
  have lP3_118 := P3_118.out.lt
  have cP3_118_0 := P3_118.out.c0
  have cP3_118_1 := P3_118.out.c1
  have fP2_118_0 := P2_118.out.f0
  have fP2_118_1 := P2_118.out.f1
  go_wp2_with fail
  have P0_119 := Lib.hid (P0_118.out.far (B' := W96.heap.size) (by omega) 0 (.int .i64 x3))
  have P1_119 := Lib.hid (P1_118.out.far (B' := W96.heap.size) (by omega) 0 (.int .i64 x3))
  have P2_119 := Lib.hid (P2_118.out.set0 (.int .i64 x3))
  have P3_119 := Lib.hid (P3_118.out.far (B' := W96.heap.size) (by omega) 0 (.int .i64 x3))
  have HB119 := Lib.hid (HB118.out.setCell (p := ⟨W96.heap.size, 0, none⟩) (by simp <;> omega) (.int .i64 x3))
  have P0_120 := Lib.hid (P0_119.out.far (B' := W96.heap.size) (by omega) 1 (.int .i64 y3))
  have P1_120 := Lib.hid (P1_119.out.far (B' := W96.heap.size) (by omega) 1 (.int .i64 y3))
  have P2_120 := Lib.hid (P2_119.out.set1 (.int .i64 y3))
  have P3_120 := Lib.hid (P3_119.out.far (B' := W96.heap.size) (by omega) 1 (.int .i64 y3))
  have HB120 := Lib.hid (HB119.out.setCell (p := ⟨W96.heap.size, 1, none⟩) (by simp <;> omega) (.int .i64 y3))
  clear lP0_118 cP0_118_0 cP0_118_1 lP1_118 cP1_118_0 cP1_118_1 lP2_118 cP2_118_0 cP2_118_1 lP3_118 cP3_118_0 cP3_118_1 fP2_118_0 fP2_118_1
  clear P0_118 P1_118 P2_118 P3_118 HB118 P0_119 P1_119 P2_119 P3_119 HB119
  generalize (W118.setCell ⟨W96.heap.size, 0, none⟩ (.int .i64 x3)).setCell ⟨W96.heap.size, 1, none⟩ (.int .i64 y3) = W121 at *
  refine (RQuo.out _).mono ?_
  rintro e W122 ⟨rfl, hb122⟩
  have HB122 := Lib.hid (HB120.out.trans ((hb122).mono HB120.out.size))
  have P0_122 := Lib.hid (P0_120.out.below (hb122) P0_120.out.lt)
  have P1_122 := Lib.hid (P1_120.out.below (hb122) P1_120.out.lt)
  have P2_122 := Lib.hid (P2_120.out.below (hb122) P2_120.out.lt)
  have P3_122 := Lib.hid (P3_120.out.below (hb122) P3_120.out.lt)
  clear HB120 P0_120 P1_120 P2_120 P3_120 hb122
  have lP0_122 := P0_122.out.lt
  have cP0_122_0 := P0_122.out.c0
  have cP0_122_1 := P0_122.out.c1
  have lP1_122 := P1_122.out.lt
  have cP1_122_0 := P1_122.out.c0
  have cP1_122_1 := P1_122.out.c1
  have lP2_122 := P2_122.out.lt
  have cP2_122_0 := P2_122.out.c0
  have cP2_122_1 := P2_122.out.c1
  have lP3_122 := P3_122.out.lt
  have cP3_122_0 := P3_122.out.c0
  have cP3_122_1 := P3_122.out.c1
  have fP3_122_0 := P3_122.out.f0
  have fP3_122_1 := P3_122.out.f1
  go_wp2_with fail
  have P0_123 := Lib.hid (P0_122.out.far (B' := W99.heap.size) (by omega) 0 (.int .i64 x3))
  have P1_123 := Lib.hid (P1_122.out.far (B' := W99.heap.size) (by omega) 0 (.int .i64 x3))
  have P2_123 := Lib.hid (P2_122.out.far (B' := W99.heap.size) (by omega) 0 (.int .i64 x3))
  have P3_123 := Lib.hid (P3_122.out.set0 (.int .i64 x3))
  have HB123 := Lib.hid (HB122.out.setCell (p := ⟨W99.heap.size, 0, none⟩) (by simp <;> omega) (.int .i64 x3))
  have P0_124 := Lib.hid (P0_123.out.far (B' := W99.heap.size) (by omega) 1 (.int .i64 y3))
  have P1_124 := Lib.hid (P1_123.out.far (B' := W99.heap.size) (by omega) 1 (.int .i64 y3))
  have P2_124 := Lib.hid (P2_123.out.far (B' := W99.heap.size) (by omega) 1 (.int .i64 y3))
  have P3_124 := Lib.hid (P3_123.out.set1 (.int .i64 y3))
  have HB124 := Lib.hid (HB123.out.setCell (p := ⟨W99.heap.size, 1, none⟩) (by simp <;> omega) (.int .i64 y3))
  clear lP0_122 cP0_122_0 cP0_122_1 lP1_122 cP1_122_0 cP1_122_1 lP2_122 cP2_122_0 cP2_122_1 lP3_122 cP3_122_0 cP3_122_1 fP3_122_0 fP3_122_1
  clear P0_122 P1_122 P2_122 P3_122 HB122 P0_123 P1_123 P2_123 P3_123 HB123
  generalize (W122.setCell ⟨W99.heap.size, 0, none⟩ (.int .i64 x3)).setCell ⟨W99.heap.size, 1, none⟩ (.int .i64 y3) = W125 at *
  have l00 := cell_regrown P0_124.out.c0
  have l01 := cell_regrown P0_124.out.c1
  have l10 := cell_regrown P1_124.out.c0
  have l11 := cell_regrown P1_124.out.c1
  have l20 := cell_regrown P2_124.out.c0
  have l21 := cell_regrown P2_124.out.c1
  have l30 := cell_regrown P3_124.out.c0
  have l31 := cell_regrown P3_124.out.c1
  have kH1 : ∀ dd os, Calls Try.prog 25 #[.agg #[.int .i64 a, .int .i64 b], .agg #[.int .i64 c, .int .i64 d]] (grow (redrawn W125 dd) os) fun e w'' => e = .returned (.int .i64 C) ∧ ∃ p : Regrown, w'' = grow (redrawn W125 p.d) p.os := fun dd os => Calls.regrown_of (H1.out _)
  have kH2 : ∀ dd os, Calls Try.prog 26 #[.agg #[.int .i64 a, .int .i64 b], .agg #[.int .i64 c, .int .i64 d]] (grow (redrawn W125 dd) os) fun e w'' => e = .returned (.int .i64 C) ∧ ∃ p : Regrown, w'' = grow (redrawn W125 p.d) p.os := fun dd os => Calls.regrown_of (H2.out _)
  have kH3 : ∀ dd os, Calls Try.prog 14 #[] (grow (redrawn W125 dd) os) fun e w'' => e = .returned (.bool true) ∧ ∃ p : Regrown, w'' = grow (redrawn W125 p.d) p.os := fun dd os => Calls.regrown_of (H3.out _)
  refine wp_region_quiet_below (l := _) (by kernel_rfl) (by kernel_rfl) ?_
  repeat (first | go_big_quiet_step (first | (go_at_call 25; exact kH1 _ _) | (go_at_call 26; exact kH2 _ _) | (go_at_call 14; exact kH3 _ _)))
  refine wpQuiet_nil ?_
  intro w2 hw'
  obtain ⟨⟨dq2, osq2⟩, hw''⟩ := hw'
  have hb2 := below_regrown W125 dq2 osq2
  rw [← hw''] at hb2
  clear hw'' kH1 kH2 kH3 l00 l01 l10 l11 l20 l21 l30 l31
  have HB126 := Lib.hid (HB124.out.trans ((hb2).mono HB124.out.size))
  have P0_126 := Lib.hid (P0_124.out.below (hb2) P0_124.out.lt)
  have P1_126 := Lib.hid (P1_124.out.below (hb2) P1_124.out.lt)
  have P2_126 := Lib.hid (P2_124.out.below (hb2) P2_124.out.lt)
  have P3_126 := Lib.hid (P3_124.out.below (hb2) P3_124.out.lt)
  clear HB124 P0_124 P1_124 P2_124 P3_124 hb2
  go_wp2
  go_ret
  exact ⟨rfl, HB126.out⟩

end Go.Proofs.Ytmanlfkoannkoaa
