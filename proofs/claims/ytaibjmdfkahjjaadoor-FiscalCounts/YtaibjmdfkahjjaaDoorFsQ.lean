/- The statement FiscalCounts of package accountinglaw05. -/
import Derived.Test.YtaibjmdfkahjjaaDoorFsW
namespace Go.Proofs.YtaibjmdfkahjjaaDoor
open Go.RowKit Go.Sort
set_option linter.unusedVariables false

/-- a struct of seven cells in memory. -/
structure Cell7 (w : World) (B : Nat) (a0 a1 a2 a3 a4 a5 a6 : Value) : Prop where
  c0 : w.cell? ⟨B, 0, none⟩ = some a0
  c1 : w.cell? ⟨B, 1, none⟩ = some a1
  c2 : w.cell? ⟨B, 2, none⟩ = some a2
  c3 : w.cell? ⟨B, 3, none⟩ = some a3
  c4 : w.cell? ⟨B, 4, none⟩ = some a4
  c5 : w.cell? ⟨B, 5, none⟩ = some a5
  c6 : w.cell? ⟨B, 6, none⟩ = some a6
theorem Cell7.alloc (w : World) (a0 a1 a2 a3 a4 a5 a6 : Value) (t : TypeId) : Cell7 (w.alloc (Obj.cells #[a0, a1, a2, a3, a4, a5, a6] t)) w.heap.size a0 a1 a2 a3 a4 a5 a6 :=
  ⟨World.cell?_alloc_at _ _ _ _ rfl, World.cell?_alloc_at _ _ _ _ rfl, World.cell?_alloc_at _ _ _ _ rfl, World.cell?_alloc_at _ _ _ _ rfl, World.cell?_alloc_at _ _ _ _ rfl, World.cell?_alloc_at _ _ _ _ rfl, World.cell?_alloc_at _ _ _ _ rfl⟩
theorem Cell7.below {w w' : World} {B N : Nat} {a0 a1 a2 a3 a4 a5 a6 : Value} (h : Cell7 w B a0 a1 a2 a3 a4 a5 a6) (hb : Below N w w') (hB : B < N) : Cell7 w' B a0 a1 a2 a3 a4 a5 a6 :=
  ⟨by rw [hb.cell hB]; exact h.c0, by rw [hb.cell hB]; exact h.c1, by rw [hb.cell hB]; exact h.c2, by rw [hb.cell hB]; exact h.c3, by rw [hb.cell hB]; exact h.c4, by rw [hb.cell hB]; exact h.c5, by rw [hb.cell hB]; exact h.c6⟩
theorem Cell7.lt {w : World} {B : Nat} {a0 a1 a2 a3 a4 a5 a6 : Value} (h : Cell7 w B a0 a1 a2 a3 a4 a5 a6) : B < w.heap.size := by
  rcases Nat.lt_or_ge B w.heap.size with k | k
  · exact k
  · exact absurd h.c0 (by simp [World.cell?, Array.getElem?_eq_none k])

theorem counts {f a b c d e g : Int} (h1 : calO f) (h2 : perO f a b) (h3 : perO f c d) (h4 : perO f e g) :
    (∀ x, x = cntV f a b c d ∨ x = cntV f c d e g ∨ x = cntV f a b e g → -10000 ≤ x ∧ x ≤ 10000) ∧ cntV f a b c d + cntV f c d e g = cntV f a b e g ∧ ((cmpV a b e g = -1 ∧ 0 < cntV f a b e g) ∨ (cmpV a b e g = 0 ∧ cntV f a b e g = 0) ∨ (cmpV a b e g = 1 ∧ cntV f a b e g < 0)) := by
  have b2 := h2.b h1
  have b3 := h3.b h1
  have b4 := h4.b h1
  unfold cntV
  rw [twoE_yes h1 h2 h3, twoE_yes h1 h3 h4, twoE_yes h1 h2 h4]
  unfold ifOk
  simp only [if_true]
  refine ⟨?_, by omega, ?_⟩
  · rintro x (rfl | rfl | rfl) <;> omega
  · unfold cmpV
    by_cases k : a = e ∧ b = g
    · right; left; rw [if_pos k]; exact ⟨rfl, by omega⟩
    · rw [if_neg k]
      by_cases k2 : a < e ∨ (a = e ∧ b < g)
      · left; rw [if_pos k2]; exact ⟨rfl, by omega⟩
      · right; right; rw [if_neg k2]; exact ⟨rfl, by omega⟩

set_option maxHeartbeats 4000000 in
theorem fiscalCounts_walk (f a b c d e g : Int) (w : World) (ht : Tab w) (wf : (Lit.int .i64 f).wf = true) (wa : (Lit.int .i64 a).wf = true) (wb : (Lit.int .i64 b).wf = true) (wc : (Lit.int .i64 c).wf = true) (wd : (Lit.int .i64 d).wf = true) (we : (Lit.int .i64 e).wf = true) (wg : (Lit.int .i64 g).wf = true) :
    Calls Tryd.prog 10 #[.agg #[.int .i64 f, .int .i64 a, .int .i64 b, .int .i64 c, .int .i64 d, .int .i64 e, .int .i64 g]] w fun x w' => x = .returned (.bool true) ∧ Below w.heap.size w w' := by
  obtain ⟨a1, a2⟩ := i64_bd wa
  obtain ⟨c1, c2⟩ := i64_bd wc
  obtain ⟨e1, e2⟩ := i64_bd we
  have H1 := Lib.hid (fun w ht => fCount_any f a b c d w ht a1 a2 c1 c2)
  have H2 := Lib.hid (fun w ht => fCount_any f c d e g w ht c1 c2 e1 e2)
  have H3 := Lib.hid (fun w ht => fCount_any f a b e g w ht a1 a2 e1 e2)
  have H9 := Lib.hid (fun w ht => lives_any w ht)
  have HX := Lib.hid (show (twoE f a b c d = 0 ∧ twoE f c d e g = 0 ∧ twoE f a b e g = 0 ∧ calO f ∧ perO f a b ∧ perO f c d ∧ perO f e g) ∨ twoE f a b c d = 2 ∨ twoE f a b c d = 16 ∨ (twoE f a b c d = 0 ∧ twoE f c d e g = 16) from by
    by_cases h1 : calO f
    · by_cases h2 : perO f a b
      · by_cases h3 : perO f c d
        · by_cases h4 : perO f e g
          · exact .inl ⟨twoE_yes h1 h2 h3, twoE_yes h1 h3 h4, twoE_yes h1 h2 h4, h1, h2, h3, h4⟩
          · exact .inr (.inr (.inr ⟨twoE_yes h1 h2 h3, twoE_no2 h1 h4⟩))
        · exact .inr (.inr (.inl (twoE_no2 h1 h3)))
      · exact .inr (.inr (.inl (twoE_no1 h1 h2)))
    · exact .inr (.inl (twoE_cal h1)))
  by_cases hE : twoE f a b c d = 0 ∧ twoE f c d e g = 0
  · rcases HX.out with ⟨z1, z2, z3, h1, h2, h3, h4⟩ | z | z | ⟨z1, z2⟩
    · have HC := Lib.hid (counts h1 h2 h3 h4)
      have H4 := Lib.hid (fun w => fCmp_any a b e g w)
      rw [z1] at H1
      rw [z2] at H2
      rw [z3] at H3
      have u1 := HC.out.1 _ (.inl rfl)
      have u2 := HC.out.1 _ (.inr (.inl rfl))
      have HK := Lib.hid HC.out.2.2
      have hs := HC.out.2.1
      clear HC HX hE z1 z2 z3 h1 h2 h3 h4
      generalize cntV f a b c d = n1 at *
      generalize cntV f c d e g = n2 at *
      generalize cntV f a b e g = n3 at *
      generalize cmpV a b e g = k at *
      obtain ⟨u11, u12⟩ := u1
      obtain ⟨u21, u22⟩ := u2
      subst hs
      go_enter Tryd.func10, Tryd.ntmps10
      go_wp2_with fail
      have P0_1 := Lib.hid (show Cell7 (w.alloc (Obj.cells #[(.int .i64 f), (.int .i64 a), (.int .i64 b), (.int .i64 c), (.int .i64 d), (.int .i64 e), (.int .i64 g)] 57)) (w.heap.size) (.int .i64 f) (.int .i64 a) (.int .i64 b) (.int .i64 c) (.int .i64 d) (.int .i64 e) (.int .i64 g) from by simpa using Cell7.alloc w (.int .i64 f) (.int .i64 a) (.int .i64 b) (.int .i64 c) (.int .i64 d) (.int .i64 e) (.int .i64 g) 57)
      have HB1 := Lib.hid ((Below.refl w.heap.size w).alloc (Nat.le_refl _) (Obj.cells #[(.int .i64 f), (.int .i64 a), (.int .i64 b), (.int .i64 c), (.int .i64 d), (.int .i64 e), (.int .i64 g)] 57))
      generalize (w.alloc (Obj.cells #[(.int .i64 f), (.int .i64 a), (.int .i64 b), (.int .i64 c), (.int .i64 d), (.int .i64 e), (.int .i64 g)] 57)) = W1 at *
      refine (H1.out _ (ht.below HB1.out)).mono ?_
      rintro e W2 ⟨rfl, hb2⟩
      have HB2 := Lib.hid (HB1.out.trans ((hb2).mono HB1.out.size))
      have P0_2 := Lib.hid (P0_1.out.below (hb2) P0_1.out.lt)
      clear HB1 P0_1 hb2
      have lP0_2 := P0_2.out.lt
      have cP0_2_0 := P0_2.out.c0
      have cP0_2_1 := P0_2.out.c1
      have cP0_2_2 := P0_2.out.c2
      have cP0_2_3 := P0_2.out.c3
      have cP0_2_4 := P0_2.out.c4
      have cP0_2_5 := P0_2.out.c5
      have cP0_2_6 := P0_2.out.c6
      go_wp2_with fail
      clear lP0_2 cP0_2_0 cP0_2_1 cP0_2_2 cP0_2_3 cP0_2_4 cP0_2_5 cP0_2_6
      refine (H2.out _ (ht.below HB2.out)).mono ?_
      rintro e W3 ⟨rfl, hb3⟩
      have HB3 := Lib.hid (HB2.out.trans ((hb3).mono HB2.out.size))
      have P0_3 := Lib.hid (P0_2.out.below (hb3) P0_2.out.lt)
      clear HB2 P0_2 hb3
      have lP0_3 := P0_3.out.lt
      have cP0_3_0 := P0_3.out.c0
      have cP0_3_1 := P0_3.out.c1
      have cP0_3_2 := P0_3.out.c2
      have cP0_3_3 := P0_3.out.c3
      have cP0_3_4 := P0_3.out.c4
      have cP0_3_5 := P0_3.out.c5
      have cP0_3_6 := P0_3.out.c6
      go_wp2_with fail
      clear lP0_3 cP0_3_0 cP0_3_1 cP0_3_2 cP0_3_3 cP0_3_4 cP0_3_5 cP0_3_6
      refine (H3.out _ (ht.below HB3.out)).mono ?_
      rintro e W4 ⟨rfl, hb4⟩
      have HB4 := Lib.hid (HB3.out.trans ((hb4).mono HB3.out.size))
      have P0_4 := Lib.hid (P0_3.out.below (hb4) P0_3.out.lt)
      clear HB3 P0_3 hb4
      have lP0_4 := P0_4.out.lt
      have cP0_4_0 := P0_4.out.c0
      have cP0_4_1 := P0_4.out.c1
      have cP0_4_2 := P0_4.out.c2
      have cP0_4_3 := P0_4.out.c3
      have cP0_4_4 := P0_4.out.c4
      have cP0_4_5 := P0_4.out.c5
      have cP0_4_6 := P0_4.out.c6
      go_wp2_with fail
      clear lP0_4 cP0_4_0 cP0_4_1 cP0_4_2 cP0_4_3 cP0_4_4 cP0_4_5 cP0_4_6
      refine (H4.out _).mono ?_
      rintro e W5 ⟨rfl, hb5⟩
      have HB5 := Lib.hid (HB4.out.trans ((hb5).mono HB4.out.size))
      have P0_5 := Lib.hid (P0_4.out.below (hb5) P0_4.out.lt)
      clear HB4 P0_4 hb5
      rcases HK.out with ⟨rfl, kk⟩ | ⟨rfl, kk⟩ | ⟨rfl, kk⟩
      · clear HK
        have z1 : (n1 + n2 == 0) = false := by simp; omega
        go_wp2_with fail
        refine (H9.out _ (ht.below HB5.out)).mono ?_
        rintro e W6 ⟨rfl, hb6⟩
        have HB6 := Lib.hid (HB5.out.trans ((hb6).mono HB5.out.size))
        have P0_6 := Lib.hid (P0_5.out.below (hb6) P0_5.out.lt)
        clear HB5 P0_5 hb6
        go_wp2
        go_ret
        exact ⟨rfl, HB6.out⟩
      · clear HK
        go_wp2_with fail
        refine (H9.out _ (ht.below HB5.out)).mono ?_
        rintro e W7 ⟨rfl, hb7⟩
        have HB7 := Lib.hid (HB5.out.trans ((hb7).mono HB5.out.size))
        have P0_7 := Lib.hid (P0_5.out.below (hb7) P0_5.out.lt)
        clear HB5 P0_5 hb7
        go_wp2
        go_ret
        exact ⟨rfl, HB7.out⟩
      · clear HK
        have z1 : (n1 + n2 == 0) = false := by simp; omega
        have z2 : decide (0 < n1 + n2) = false := by simp; omega
        go_wp2_with fail
        refine (H9.out _ (ht.below HB5.out)).mono ?_
        rintro e W8 ⟨rfl, hb8⟩
        have HB8 := Lib.hid (HB5.out.trans ((hb8).mono HB5.out.size))
        have P0_8 := Lib.hid (P0_5.out.below (hb8) P0_5.out.lt)
        clear HB5 P0_5 hb8
        go_wp2
        go_ret
        exact ⟨rfl, HB8.out⟩
    · omega
    · omega
    · omega
  · have HY := Lib.hid (show twoE f a b c d = 2 ∨ twoE f a b c d = 16 ∨ (twoE f a b c d = 0 ∧ twoE f c d e g = 16) from by
      rcases HX.out with ⟨z1, z2, _⟩ | z | z | z
      · exact absurd ⟨z1, z2⟩ hE
      · exact .inl z
      · exact .inr (.inl z)
      · exact .inr (.inr z))
    clear HX hE
    generalize cntV f a b c d = n1 at *
    generalize cntV f c d e g = n2 at *
    generalize cntV f a b e g = n3 at *
    generalize twoE f a b c d = E1 at *
    generalize twoE f c d e g = E2 at *
    generalize twoE f a b e g = E3 at *
    go_enter Tryd.func10, Tryd.ntmps10
    go_wp2_with fail
    have P0_9 := Lib.hid (show Cell7 (w.alloc (Obj.cells #[(.int .i64 f), (.int .i64 a), (.int .i64 b), (.int .i64 c), (.int .i64 d), (.int .i64 e), (.int .i64 g)] 57)) (w.heap.size) (.int .i64 f) (.int .i64 a) (.int .i64 b) (.int .i64 c) (.int .i64 d) (.int .i64 e) (.int .i64 g) from by simpa using Cell7.alloc w (.int .i64 f) (.int .i64 a) (.int .i64 b) (.int .i64 c) (.int .i64 d) (.int .i64 e) (.int .i64 g) 57)
    have HB9 := Lib.hid ((Below.refl w.heap.size w).alloc (Nat.le_refl _) (Obj.cells #[(.int .i64 f), (.int .i64 a), (.int .i64 b), (.int .i64 c), (.int .i64 d), (.int .i64 e), (.int .i64 g)] 57))
    generalize (w.alloc (Obj.cells #[(.int .i64 f), (.int .i64 a), (.int .i64 b), (.int .i64 c), (.int .i64 d), (.int .i64 e), (.int .i64 g)] 57)) = W9 at *
    refine (H1.out _ (ht.below HB9.out)).mono ?_
    rintro e W10 ⟨rfl, hb10⟩
    have HB10 := Lib.hid (HB9.out.trans ((hb10).mono HB9.out.size))
    have P0_10 := Lib.hid (P0_9.out.below (hb10) P0_9.out.lt)
    clear HB9 P0_9 hb10
    have lP0_10 := P0_10.out.lt
    have cP0_10_0 := P0_10.out.c0
    have cP0_10_1 := P0_10.out.c1
    have cP0_10_2 := P0_10.out.c2
    have cP0_10_3 := P0_10.out.c3
    have cP0_10_4 := P0_10.out.c4
    have cP0_10_5 := P0_10.out.c5
    have cP0_10_6 := P0_10.out.c6
    go_wp2_with fail
    clear lP0_10 cP0_10_0 cP0_10_1 cP0_10_2 cP0_10_3 cP0_10_4 cP0_10_5 cP0_10_6
    refine (H2.out _ (ht.below HB10.out)).mono ?_
    rintro e W11 ⟨rfl, hb11⟩
    have HB11 := Lib.hid (HB10.out.trans ((hb11).mono HB10.out.size))
    have P0_11 := Lib.hid (P0_10.out.below (hb11) P0_10.out.lt)
    clear HB10 P0_10 hb11
    have lP0_11 := P0_11.out.lt
    have cP0_11_0 := P0_11.out.c0
    have cP0_11_1 := P0_11.out.c1
    have cP0_11_2 := P0_11.out.c2
    have cP0_11_3 := P0_11.out.c3
    have cP0_11_4 := P0_11.out.c4
    have cP0_11_5 := P0_11.out.c5
    have cP0_11_6 := P0_11.out.c6
    go_wp2_with fail
    clear lP0_11 cP0_11_0 cP0_11_1 cP0_11_2 cP0_11_3 cP0_11_4 cP0_11_5 cP0_11_6
    refine (H3.out _ (ht.below HB11.out)).mono ?_
    rintro e W12 ⟨rfl, hb12⟩
    have HB12 := Lib.hid (HB11.out.trans ((hb12).mono HB11.out.size))
    have P0_12 := Lib.hid (P0_11.out.below (hb12) P0_11.out.lt)
    clear HB11 P0_11 hb12
    rcases HY.out with rfl | rfl | ⟨rfl, rfl⟩
    · clear HY
      go_wp2_with fail
      refine (H9.out _ (ht.below HB12.out)).mono ?_
      rintro e W13 ⟨rfl, hb13⟩
      have HB13 := Lib.hid (HB12.out.trans ((hb13).mono HB12.out.size))
      have P0_13 := Lib.hid (P0_12.out.below (hb13) P0_12.out.lt)
      clear HB12 P0_12 hb13
      go_wp2
      go_ret
      exact ⟨rfl, HB13.out⟩
    · clear HY
      go_wp2_with fail
      refine (H9.out _ (ht.below HB12.out)).mono ?_
      rintro e W14 ⟨rfl, hb14⟩
      have HB14 := Lib.hid (HB12.out.trans ((hb14).mono HB12.out.size))
      have P0_14 := Lib.hid (P0_12.out.below (hb14) P0_12.out.lt)
      clear HB12 P0_12 hb14
      go_wp2
      go_ret
      exact ⟨rfl, HB14.out⟩
    · clear HY
      go_wp2_with fail
      refine (H9.out _ (ht.below HB12.out)).mono ?_
      rintro e W15 ⟨rfl, hb15⟩
      have HB15 := Lib.hid (HB12.out.trans ((hb15).mono HB12.out.size))
      have P0_15 := Lib.hid (P0_12.out.below (hb15) P0_12.out.lt)
      clear HB12 P0_12 hb15
      go_wp2
      go_ret
      exact ⟨rfl, HB15.out⟩
end Go.Proofs.YtaibjmdfkahjjaaDoor
