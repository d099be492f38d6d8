/- What Span of package fiscal returns. -/
import Derived.Test.YtaibjmdfkahjjaaDoorFsB
namespace Go.Proofs.YtaibjmdfkahjjaaDoor
open Go.RowKit Go.Sort
set_option linter.unusedVariables false

/-- the first day of the month before month j, or 0. -/
def frV (f y : Int) : Nat → Int
  | 0 => 0
  | j + 1 => fdM f y (j : Int)
/-- what the loop of Span keeps. -/
def SpI (w : World) (f y n : Int) (N : Int) (a b i : Value) (wr : World) : Prop :=
  ∃ j : Nat, (j : Int) ≤ N ∧ i = .int .i64 (j : Int) ∧ b = .int .i64 (fdM f y (j : Int) - 1) ∧ a = .int .i64 (frV f y j) ∧ Below w.heap.size w wr ∧ Cell1 wr w.heap.size (.int .i64 f) ∧ Cell2 wr (w.heap.size + 1) (.int .i64 y) (.int .i64 n)

theorem sp_far {f y n N : Int} (h1 : 1 ≤ n) (hN : (if n = 13 then 12 else n) = N) : (n = 13 → spF f y n = fdM f y N - 1) ∧ (∀ j : Nat, (j : Int) = N → n ≠ 13 → spF f y n = frV f y j) ∧ spL f y n = fdM f y N - 1 := by
  by_cases h13 : n = 13
  · subst h13
    have e : (12 : Int) = N := by simpa using hN
    rw [← e]
    exact ⟨fun _ => sp_13.1, fun _ _ h => absurd rfl h, sp_13.2⟩
  · rw [if_neg h13] at hN
    subst hN
    refine ⟨fun h => absurd h h13, fun j hj _ => ?_, (sp_n h13).2⟩
    rw [(sp_n h13).1]
    obtain ⟨k, rfl⟩ : ∃ k : Nat, j = k + 1 := ⟨j - 1, by omega⟩
    rw [show n - 1 = (k : Int) by omega]
    rfl
set_option maxHeartbeats 1000000 in
theorem fSpan_any (f y n : Int) (w : World) (ht : Tab w) (y1 : -9223372036854775808 ≤ y) (y2 : y ≤ 9223372036854775807) :
    Calls Tryd.prog 11 #[.agg #[.int .i64 f], .agg #[.int .i64 y, .int .i64 n]] w fun e w' => e = .returned (.tuple #[.int .i64 (spaF f y n), .int .i64 (spaL f y n), .int .i64 (spaE f y n)]) ∧ Below w.heap.size w w' := by
  have HC := Lib.hid (fun A w ht hA => check1_any f y n A w ht hA y1 y2)
  by_cases hf : calO f
  · by_cases hp : perO f y n
    · obtain ⟨e1, e2, e3⟩ := spa_yes hf hp
      rw [e3] at HC
      rw [e1, e2, e3]
      clear e1 e2 e3
      obtain ⟨q1, q2, q3⟩ := hp
      have qy := q3.le hf
      have HY := Lib.hid (fun w ht => fYearStart_any f y w ht hf y1 y2)
      have eY : ysV f y = fdM f y 0 := if_pos q3
      rw [eY, decide_eq_true q3] at HY
      have HN := Lib.hid (fun w => near_any n 1 12 w)
      have eN : nearTo n 1 12 = if n = 13 then 12 else n := by unfold nearTo; repeat (split <;> try omega)
      rw [eN] at HN
      have hN : 1 ≤ (if n = 13 then 12 else n) ∧ (if n = 13 then 12 else n) ≤ 12 := by split <;> omega
      have b0 := fdM_b (f := f) (y := y) (j := 0) hf qy.1 qy.2 (by omega) (by omega)
      have HF := Lib.hid hf
      have HV := Lib.hid (sp_far (f := f) (y := y) (n := n) q1 rfl)
      generalize (if n = 13 then 12 else n) = N at *
      clear eN eY hf q3
      obtain ⟨b01, b02⟩ := b0
      obtain ⟨hN1, hN2⟩ := hN
      obtain ⟨qy1, qy2⟩ := qy
      go_enter Tryd.func11, Tryd.ntmps11
      go_wp2_with fail
      have P0_1 := Lib.hid (show Cell1 (((w.alloc (Obj.cells #[(.int .i64 f)] 23)).alloc (Obj.cells #[(.int .i64 y), (.int .i64 n)] 25)).alloc (Obj.cells #[(.int .i64 y), (.int .i64 n)] 25)) (w.heap.size) (.int .i64 f) from by have q := Cell1.alloc w (.int .i64 f) 23; exact q.below (N := w.heap.size + 1) (((Below.refl _ _).alloc (by simp <;> omega) (Obj.cells #[(.int .i64 y), (.int .i64 n)] 25)).alloc (by simp <;> omega) (Obj.cells #[(.int .i64 y), (.int .i64 n)] 25)) (by omega))
      have P1_1 := Lib.hid (show Cell2 (((w.alloc (Obj.cells #[(.int .i64 f)] 23)).alloc (Obj.cells #[(.int .i64 y), (.int .i64 n)] 25)).alloc (Obj.cells #[(.int .i64 y), (.int .i64 n)] 25)) (w.heap.size + 1) (.int .i64 y) (.int .i64 n) from by have q := Cell2.alloc (w.alloc (Obj.cells #[(.int .i64 f)] 23)) (.int .i64 y) (.int .i64 n) 25; try simp only [World.size_alloc] at q; exact q.below (N := w.heap.size + 1 + 1) ((Below.refl _ _).alloc (by simp <;> omega) (Obj.cells #[(.int .i64 y), (.int .i64 n)] 25)) (by omega))
      have P2_1 := Lib.hid (show Cell2 (((w.alloc (Obj.cells #[(.int .i64 f)] 23)).alloc (Obj.cells #[(.int .i64 y), (.int .i64 n)] 25)).alloc (Obj.cells #[(.int .i64 y), (.int .i64 n)] 25)) (w.heap.size + 2) (.int .i64 y) (.int .i64 n) from by simpa using Cell2.alloc ((w.alloc (Obj.cells #[(.int .i64 f)] 23)).alloc (Obj.cells #[(.int .i64 y), (.int .i64 n)] 25)) (.int .i64 y) (.int .i64 n) 25)
      have HB1 := Lib.hid ((((Below.refl w.heap.size w).alloc (Nat.le_refl _) (Obj.cells #[(.int .i64 f)] 23)).alloc (by simp) (Obj.cells #[(.int .i64 y), (.int .i64 n)] 25)).alloc (by simp; omega) (Obj.cells #[(.int .i64 y), (.int .i64 n)] 25))
      generalize (((w.alloc (Obj.cells #[(.int .i64 f)] 23)).alloc (Obj.cells #[(.int .i64 y), (.int .i64 n)] 25)).alloc (Obj.cells #[(.int .i64 y), (.int .i64 n)] 25)) = W1 at *
      refine (HC.out _ _ (ht.below HB1.out) P2_1.out).mono ?_
      rintro e W2 ⟨rfl, hb2⟩
      have HB2 := Lib.hid (HB1.out.trans ((hb2).mono HB1.out.size))
      have P0_2 := Lib.hid (P0_1.out.below (hb2) P0_1.out.lt)
      have P1_2 := Lib.hid (P1_1.out.below (hb2) P1_1.out.lt)
      have P2_2 := Lib.hid (P2_1.out.below (hb2) P2_1.out.lt)
      clear HB1 P0_1 P1_1 P2_1 hb2
      have lP0_2 := P0_2.out.lt
      have cP0_2_0 := P0_2.out.c0
      have lP1_2 := P1_2.out.lt
      have cP1_2_0 := P1_2.out.c0
      have cP1_2_1 := P1_2.out.c1
      go_wp2_with fail
      clear lP0_2 cP0_2_0 lP1_2 cP1_2_0 cP1_2_1
      refine (HY.out _ (ht.below HB2.out)).mono ?_
      rintro e W3 ⟨rfl, hb3⟩
      have HB3 := Lib.hid (HB2.out.trans ((hb3).mono HB2.out.size))
      have P0_3 := Lib.hid (P0_2.out.below (hb3) P0_2.out.lt)
      have P1_3 := Lib.hid (P1_2.out.below (hb3) P1_2.out.lt)
      clear HB2 P0_2 P1_2 hb3
      have lP0_3 := P0_3.out.lt
      have cP0_3_0 := P0_3.out.c0
      have lP1_3 := P1_3.out.lt
      have cP1_3_0 := P1_3.out.c0
      have cP1_3_1 := P1_3.out.c1
      go_wp2_with fail
      clear lP0_3 cP0_3_0 lP1_3 cP1_3_0 cP1_3_1
      refine (HN.out _).mono ?_
      rintro e w_ ⟨rfl, rfl⟩
      have lP0_3 := P0_3.out.lt
      have cP0_3_0 := P0_3.out.c0
      have lP1_3 := P1_3.out.lt
      have cP1_3_0 := P1_3.out.c0
      have cP1_3_1 := P1_3.out.c1
      go_wp2_with fail
      clear lP0_3 cP0_3_0 lP1_3 cP1_3_0 cP1_3_1
      go_loopw [4, 5, 30] (fun a b i wr => SpI w f y n N a b i wr) (fun _ _ i _ => (N - intOf i).toNat)
      case atStart => exact ⟨0, by omega, rfl, rfl, rfl, HB3.out, P0_3.out, P1_3.out⟩
      case round =>
        obtain ⟨j, hj, rfl, rfl, rfl, hb, hc1, hc2⟩ := hrel
        have HBr := Lib.hid hb
        have P0r := Lib.hid hc1
        have P1r := Lib.hid hc2
        clear hb hc1 hc2
        have bj := fdM_b (f := f) (y := y) (j := j) HF.out qy1 qy2 (by omega) (by omega)
        obtain ⟨bj1, bj2⟩ := bj
        have lP := P0r.out.lt
        have c0 := P0r.out.c0
        have d0 := P1r.out.c0
        have d1 := P1r.out.c1
        by_cases hlt : (j : Int) < N
        · have HL := Lib.hid (fun w ht => monthLength_any f y j w ht HF.out qy1 qy2 (by omega) (by omega))
          have HS := Lib.hid (fdM_succ (f := f) (y := y) (j := j) HF.out qy1 (by omega) (by omega))
          have bl := lenV_all (myV f y j) (mmV f j)
          generalize lenV (myV f y j) (mmV f j) = Ln at *
          obtain ⟨bl1, bl2⟩ := bl
          have HR1 := Lib.hid (show frV f y (j + 1) = fdM f y j from rfl)
          generalize fdM f y (j : Int) = FJ at *
          go_wp2_with fail
          clear c0 d0 d1 lP
          refine (HL.out _ (ht.below HBr.out)).mono ?_
          rintro e W9 ⟨rfl, hb⟩
          have HBn := Lib.hid (HBr.out.trans (hb.mono HBr.out.size))
          have P0n := Lib.hid (P0r.out.below hb P0r.out.lt)
          have P1n := Lib.hid (P1r.out.below hb P1r.out.lt)
          clear hb
          go_wp2
          go_roundw
          case rel =>
            refine ⟨j + 1, by omega, by go_num, ?_, ?_, HBn.out, P0n.out, P1n.out⟩
            · rw [show (((j + 1 : Nat) : Int)) = (j : Int) + 1 by omega, HS.out]; go_num
            · rw [HR1.out]
          case measure => simp [intOf]; omega
        · have ej : (j : Int) = N := by omega
          by_cases h13 : n = 13
          · subst h13
            have HV1 := Lib.hid (show spF f y 13 = fdM f y N - 1 ∧ spL f y 13 = fdM f y N - 1 from ⟨HV.out.1 rfl, HV.out.2.2⟩)
            clear HV
            rw [ej] at bj1 bj2
            rw [ej]
            generalize fdM f y N = FJ at *
            clear ej
            go_wp2
            go_ret3
            exact ⟨by rw [HV1.out.1, HV1.out.2]; rfl, HBr.out⟩
          · have HV1 := Lib.hid (show spF f y n = frV f y j ∧ spL f y n = fdM f y N - 1 from ⟨HV.out.2.1 j ej h13, HV.out.2.2⟩)
            clear HV
            rw [ej] at bj1 bj2
            rw [ej]
            generalize fdM f y N = FJ at *
            generalize frV f y j = GJ at *
            clear ej
            go_wp2
            go_ret3
            exact ⟨by rw [HV1.out.1, HV1.out.2]; rfl, HBr.out⟩
    · obtain ⟨e1, e2, e3⟩ := spa_no hf hp
      rw [e3] at HC
      rw [e1, e2, e3]
      clear e1 e2 e3 hf hp
      go_enter Tryd.func11, Tryd.ntmps11
      go_wp2_with fail
      have P0_4 := Lib.hid (show Cell1 (((w.alloc (Obj.cells #[(.int .i64 f)] 23)).alloc (Obj.cells #[(.int .i64 y), (.int .i64 n)] 25)).alloc (Obj.cells #[(.int .i64 y), (.int .i64 n)] 25)) (w.heap.size) (.int .i64 f) from by have q := Cell1.alloc w (.int .i64 f) 23; exact q.below (N := w.heap.size + 1) (((Below.refl _ _).alloc (by simp <;> omega) (Obj.cells #[(.int .i64 y), (.int .i64 n)] 25)).alloc (by simp <;> omega) (Obj.cells #[(.int .i64 y), (.int .i64 n)] 25)) (by omega))
      have P1_4 := Lib.hid (show Cell2 (((w.alloc (Obj.cells #[(.int .i64 f)] 23)).alloc (Obj.cells #[(.int .i64 y), (.int .i64 n)] 25)).alloc (Obj.cells #[(.int .i64 y), (.int .i64 n)] 25)) (w.heap.size + 1) (.int .i64 y) (.int .i64 n) from by have q := Cell2.alloc (w.alloc (Obj.cells #[(.int .i64 f)] 23)) (.int .i64 y) (.int .i64 n) 25; try simp only [World.size_alloc] at q; exact q.below (N := w.heap.size + 1 + 1) ((Below.refl _ _).alloc (by simp <;> omega) (Obj.cells #[(.int .i64 y), (.int .i64 n)] 25)) (by omega))
      have P2_4 := Lib.hid (show Cell2 (((w.alloc (Obj.cells #[(.int .i64 f)] 23)).alloc (Obj.cells #[(.int .i64 y), (.int .i64 n)] 25)).alloc (Obj.cells #[(.int .i64 y), (.int .i64 n)] 25)) (w.heap.size + 2) (.int .i64 y) (.int .i64 n) from by simpa using Cell2.alloc ((w.alloc (Obj.cells #[(.int .i64 f)] 23)).alloc (Obj.cells #[(.int .i64 y), (.int .i64 n)] 25)) (.int .i64 y) (.int .i64 n) 25)
      have HB4 := Lib.hid ((((Below.refl w.heap.size w).alloc (Nat.le_refl _) (Obj.cells #[(.int .i64 f)] 23)).alloc (by simp) (Obj.cells #[(.int .i64 y), (.int .i64 n)] 25)).alloc (by simp; omega) (Obj.cells #[(.int .i64 y), (.int .i64 n)] 25))
      generalize (((w.alloc (Obj.cells #[(.int .i64 f)] 23)).alloc (Obj.cells #[(.int .i64 y), (.int .i64 n)] 25)).alloc (Obj.cells #[(.int .i64 y), (.int .i64 n)] 25)) = W4 at *
      refine (HC.out _ _ (ht.below HB4.out) P2_4.out).mono ?_
      rintro e W5 ⟨rfl, hb5⟩
      have HB5 := Lib.hid (HB4.out.trans ((hb5).mono HB4.out.size))
      have P0_5 := Lib.hid (P0_4.out.below (hb5) P0_4.out.lt)
      have P1_5 := Lib.hid (P1_4.out.below (hb5) P1_4.out.lt)
      have P2_5 := Lib.hid (P2_4.out.below (hb5) P2_4.out.lt)
      clear HB4 P0_4 P1_4 P2_4 hb5
      go_wp2
      go_ret3
      exact ⟨rfl, HB5.out⟩
  · obtain ⟨e1, e2, e3⟩ := spa_cal (y := y) (n := n) hf
    rw [e3] at HC
    rw [e1, e2, e3]
    clear e1 e2 e3 hf
    go_enter Tryd.func11, Tryd.ntmps11
    go_wp2_with fail
    have P0_6 := Lib.hid (show Cell1 (((w.alloc (Obj.cells #[(.int .i64 f)] 23)).alloc (Obj.cells #[(.int .i64 y), (.int .i64 n)] 25)).alloc (Obj.cells #[(.int .i64 y), (.int .i64 n)] 25)) (w.heap.size) (.int .i64 f) from by have q := Cell1.alloc w (.int .i64 f) 23; exact q.below (N := w.heap.size + 1) (((Below.refl _ _).alloc (by simp <;> omega) (Obj.cells #[(.int .i64 y), (.int .i64 n)] 25)).alloc (by simp <;> omega) (Obj.cells #[(.int .i64 y), (.int .i64 n)] 25)) (by omega))
    have P1_6 := Lib.hid (show Cell2 (((w.alloc (Obj.cells #[(.int .i64 f)] 23)).alloc (Obj.cells #[(.int .i64 y), (.int .i64 n)] 25)).alloc (Obj.cells #[(.int .i64 y), (.int .i64 n)] 25)) (w.heap.size + 1) (.int .i64 y) (.int .i64 n) from by have q := Cell2.alloc (w.alloc (Obj.cells #[(.int .i64 f)] 23)) (.int .i64 y) (.int .i64 n) 25; try simp only [World.size_alloc] at q; exact q.below (N := w.heap.size + 1 + 1) ((Below.refl _ _).alloc (by simp <;> omega) (Obj.cells #[(.int .i64 y), (.int .i64 n)] 25)) (by omega))
    have P2_6 := Lib.hid (show Cell2 (((w.alloc (Obj.cells #[(.int .i64 f)] 23)).alloc (Obj.cells #[(.int .i64 y), (.int .i64 n)] 25)).alloc (Obj.cells #[(.int .i64 y), (.int .i64 n)] 25)) (w.heap.size + 2) (.int .i64 y) (.int .i64 n) from by simpa using Cell2.alloc ((w.alloc (Obj.cells #[(.int .i64 f)] 23)).alloc (Obj.cells #[(.int .i64 y), (.int .i64 n)] 25)) (.int .i64 y) (.int .i64 n) 25)
    have HB6 := Lib.hid ((((Below.refl w.heap.size w).alloc (Nat.le_refl _) (Obj.cells #[(.int .i64 f)] 23)).alloc (by simp) (Obj.cells #[(.int .i64 y), (.int .i64 n)] 25)).alloc (by simp; omega) (Obj.cells #[(.int .i64 y), (.int .i64 n)] 25))
    generalize (((w.alloc (Obj.cells #[(.int .i64 f)] 23)).alloc (Obj.cells #[(.int .i64 y), (.int .i64 n)] 25)).alloc (Obj.cells #[(.int .i64 y), (.int .i64 n)] 25)) = W6 at *
    refine (HC.out _ _ (ht.below HB6.out) P2_6.out).mono ?_
    rintro e W7 ⟨rfl, hb7⟩
    have HB7 := Lib.hid (HB6.out.trans ((hb7).mono HB6.out.size))
    have P0_7 := Lib.hid (P0_6.out.below (hb7) P0_6.out.lt)
    have P1_7 := Lib.hid (P1_6.out.below (hb7) P1_6.out.lt)
    have P2_7 := Lib.hid (P2_6.out.below (hb7) P2_6.out.lt)
    clear HB6 P0_6 P1_6 P2_6 hb7
    go_wp2
    go_ret3
    exact ⟨rfl, HB7.out⟩
end Go.Proofs.YtaibjmdfkahjjaaDoor
