/- The law TermsLater, but for its frame. Written by wip/mk_tml.py. -/
import Derived.Test.YtkpdbhpmnegahaaDoorGF
namespace Go.Proofs.YtkpdbhpmnegahaaDoor
open Go.RowKit Go.Sort
set_option linter.unusedVariables false
set_option linter.unusedSimpArgs false

theorem lcBad {net : Int} {L : List Ct} (h : tmB net L = false) (day paid : Int) : cuT net L day paid = (0, 0, 2) := by unfold cuT; rw [if_pos h]
theorem lcOk {net : Int} {L : List Ct} (h : tmB net L = true) {day paid : Int} (d0 : 0 ≤ day) (d1 : day ≤ 109572) (p0 : 0 ≤ paid) (p1 : paid ≤ 109572) : cuT net L day paid = ((cuD day paid L).1, (cuD day paid L).2, 0) := by
  unfold cuT; rw [if_neg (by rw [h]; simp), if_neg (by omega)]
theorem ldBad {net : Int} {eom : Bool} {L : List Ct} (h : tmB net L = false) (day E : Int) : dyV net eom L day E = (0, 2) := by unfold dyV; rw [if_pos h]
theorem ldOk {net : Int} {eom : Bool} {L : List Ct} (h : tmB net L = true) {day E : Int} (d0 : 0 ≤ day) (d1 : day ≤ 109572) :
    dyV net eom L day E = if ¬ (0 ≤ (if eom = true then E else day) + net ∧ (if eom = true then E else day) + net ≤ 109572) then (0, 11) else ((if eom = true then E else day) + net, 0) := by
  unfold dyV; rw [if_neg (by rw [h]; simp), if_neg (by omega)]
set_option maxRecDepth 100000 in
set_option maxHeartbeats 2000000 in
theorem termsLater_walk (net : Int) (eom : Bool) (A : Option Addr) (len c : Nat) (L : List Ct) (day paid : Int) (w : World) (ht : Tab w) (h : r64 net ∧ OkC w A len L) (hd0 : (Lit.int .i64 day).wf = true) (hp0 : (Lit.int .i64 paid).wf = true) :
    Calls Tryd.prog 4 #[.agg #[.int .i64 net, .bool eom, .slice A len c], .int .i64 day, .int .i64 paid] w fun e w' => e = .returned (.bool true) ∧ Below w.heap.size w w' := by
  obtain ⟨hn, rfl, hR, hBd, hl⟩ := h
  have hd := wf64' hd0
  have hp := wf64' hp0
  have hl' := hl
  unfold maxLen at hl'
  have HLi := Lib.hid lives_any
  have HP := Lib.hid (Q3.alloc w (.int .i64 net) (.bool eom) (.slice A L.length c) 24)
  have HB0 := Lib.hid ((Below.refl w.heap.size w).alloc (Nat.le_refl _) (Obj.cells #[.int .i64 net, .bool eom, .slice A L.length c] 24))
  have HR := Lib.hid (hR.below ((Below.refl w.heap.size w).alloc (Nat.le_refl _) (Obj.cells #[.int .i64 net, .bool eom, .slice A L.length c] 24)))
  have HT := Lib.hid (ht.below ((Below.refl w.heap.size w).alloc (Nat.le_refl _) (Obj.cells #[.int .i64 net, .bool eom, .slice A L.length c] 24)))
  clear hR ht
  by_cases g0 : 20 < L.length
  · have g0' : decide ((20 : Int) < (L.length : Int)) = true := decide_eq_true (by omega)
    go_enter Tryd.func4, Tryd.ntmps4
    have xP0 := HP.out.c0
    have xP1 := HP.out.c1
    have xP2 := HP.out.c2
    go_wp2_with fail
    refine (HLi.out _ HT.out).mono ?_
    rintro e w1 ⟨rfl, hb⟩
    clear xP0 xP1 xP2
    have HB1 := Lib.hid (HB0.out.trans ((hb).mono HB0.out.size))
    have P_1 := Lib.hid (HP.out.below hb)
    have R_1 := Lib.hid (HR.out.below hb)
    have T_1 := Lib.hid (HT.out.below hb)
    clear hb HP HR HT
    have xP0 := P_1.out.c0
    have xP1 := P_1.out.c1
    have xP2 := P_1.out.c2
    go_wp2
    go_ret
    exact ⟨rfl, HB1.out⟩
  have g0' : decide ((20 : Int) < (L.length : Int)) = false := decide_eq_false (by omega)
  by_cases g1 : day < 0
  · have g1' : decide (day < 0) = true := decide_eq_true (by omega)
    go_enter Tryd.func4, Tryd.ntmps4
    have xP0 := HP.out.c0
    have xP1 := HP.out.c1
    have xP2 := HP.out.c2
    go_wp2_with fail
    refine (HLi.out _ HT.out).mono ?_
    rintro e w1 ⟨rfl, hb⟩
    clear xP0 xP1 xP2
    have HB1 := Lib.hid (HB0.out.trans ((hb).mono HB0.out.size))
    have P_1 := Lib.hid (HP.out.below hb)
    have R_1 := Lib.hid (HR.out.below hb)
    have T_1 := Lib.hid (HT.out.below hb)
    clear hb HP HR HT
    have xP0 := P_1.out.c0
    have xP1 := P_1.out.c1
    have xP2 := P_1.out.c2
    go_wp2
    go_ret
    exact ⟨rfl, HB1.out⟩
  have g1' : decide (day < 0) = false := decide_eq_false (by omega)
  by_cases g2 : 109572 ≤ day
  · have g2' : decide (109572 ≤ day) = true := decide_eq_true (by omega)
    go_enter Tryd.func4, Tryd.ntmps4
    have xP0 := HP.out.c0
    have xP1 := HP.out.c1
    have xP2 := HP.out.c2
    go_wp2_with fail
    refine (HLi.out _ HT.out).mono ?_
    rintro e w1 ⟨rfl, hb⟩
    clear xP0 xP1 xP2
    have HB1 := Lib.hid (HB0.out.trans ((hb).mono HB0.out.size))
    have P_1 := Lib.hid (HP.out.below hb)
    have R_1 := Lib.hid (HR.out.below hb)
    have T_1 := Lib.hid (HT.out.below hb)
    clear hb HP HR HT
    have xP0 := P_1.out.c0
    have xP1 := P_1.out.c1
    have xP2 := P_1.out.c2
    go_wp2
    go_ret
    exact ⟨rfl, HB1.out⟩
  have g2' : decide (109572 ≤ day) = false := decide_eq_false (by omega)
  by_cases g3 : paid < 0
  · have g3' : decide (paid < 0) = true := decide_eq_true (by omega)
    go_enter Tryd.func4, Tryd.ntmps4
    have xP0 := HP.out.c0
    have xP1 := HP.out.c1
    have xP2 := HP.out.c2
    go_wp2_with fail
    refine (HLi.out _ HT.out).mono ?_
    rintro e w1 ⟨rfl, hb⟩
    clear xP0 xP1 xP2
    have HB1 := Lib.hid (HB0.out.trans ((hb).mono HB0.out.size))
    have P_1 := Lib.hid (HP.out.below hb)
    have R_1 := Lib.hid (HR.out.below hb)
    have T_1 := Lib.hid (HT.out.below hb)
    clear hb HP HR HT
    have xP0 := P_1.out.c0
    have xP1 := P_1.out.c1
    have xP2 := P_1.out.c2
    go_wp2
    go_ret
    exact ⟨rfl, HB1.out⟩
  have g3' : decide (paid < 0) = false := decide_eq_false (by omega)
  by_cases g4 : 109572 ≤ paid
  · have g4' : decide (109572 ≤ paid) = true := decide_eq_true (by omega)
    go_enter Tryd.func4, Tryd.ntmps4
    have xP0 := HP.out.c0
    have xP1 := HP.out.c1
    have xP2 := HP.out.c2
    go_wp2_with fail
    refine (HLi.out _ HT.out).mono ?_
    rintro e w1 ⟨rfl, hb⟩
    clear xP0 xP1 xP2
    have HB1 := Lib.hid (HB0.out.trans ((hb).mono HB0.out.size))
    have P_1 := Lib.hid (HP.out.below hb)
    have R_1 := Lib.hid (HR.out.below hb)
    have T_1 := Lib.hid (HT.out.below hb)
    clear hb HP HR HT
    have xP0 := P_1.out.c0
    have xP1 := P_1.out.c1
    have xP2 := P_1.out.c2
    go_wp2
    go_ret
    exact ⟨rfl, HB1.out⟩
  have g4' : decide (109572 ≤ paid) = false := decide_eq_false (by omega)
  obtain ⟨E, F, hE, hEF, h3, h4⟩ := dues2 net eom A c L day hn hBd hl (by omega) (by omega)
  have H3 := Lib.hid h3
  have H4 := Lib.hid h4
  have H1 := Lib.hid (fun W hr => cut_tm net eom A c L day paid W hn hr hBd hl hd hp)
  have H2 := Lib.hid (fun W hr => cut_tm net eom A c L day (paid + 1) W hn hr hBd hl hd ⟨by omega, by omega⟩)
  clear hBd h3 h4
  cases tb : tmB net L
  · rw [lcBad tb] at H1 H2
    rw [ldBad tb] at H3 H4
    clear tb
    go_enter Tryd.func4, Tryd.ntmps4
    have xP0 := HP.out.c0
    have xP1 := HP.out.c1
    have xP2 := HP.out.c2
    go_wp2_with fail
    refine (H1.out _ HR.out).mono ?_
    rintro e w1 ⟨rfl, hb⟩
    clear xP0 xP1 xP2
    have HB1 := Lib.hid (HB0.out.trans ((hb).mono HB0.out.size))
    have P_1 := Lib.hid (HP.out.below hb)
    have R_1 := Lib.hid (HR.out.below hb)
    have T_1 := Lib.hid (HT.out.below hb)
    clear hb HP HR HT
    have ha : Below w1.heap.size w1 (w1.alloc (Obj.cells #[.int .i64 0, .int .i64 0] 35)) := (Below.refl _ _).alloc (Nat.le_refl _) _
    have HB2 := Lib.hid (HB1.out.trans ((ha).mono HB1.out.size))
    have P_2 := Lib.hid (P_1.out.below ha)
    have R_2 := Lib.hid (R_1.out.below ha)
    have T_2 := Lib.hid (T_1.out.below ha)
    have F_2 := Lib.hid (Q2.alloc w1 (.int .i64 0) (.int .i64 0) 35)
    clear ha HB1 P_1 R_1 T_1
    have xP0 := P_2.out.c0
    have xP1 := P_2.out.c1
    have xP2 := P_2.out.c2
    have xF0 := F_2.out.c0
    have xF1 := F_2.out.c1
    go_wp2_with fail
    refine (H2.out _ R_2.out).mono ?_
    rintro e w3 ⟨rfl, hb⟩
    clear xP0 xP1 xP2 xF0 xF1
    have HB3 := Lib.hid (HB2.out.trans ((hb).mono HB2.out.size))
    have P_3 := Lib.hid (P_2.out.below hb)
    have R_3 := Lib.hid (R_2.out.below hb)
    have T_3 := Lib.hid (T_2.out.below hb)
    have F_3 := Lib.hid (F_2.out.below hb)
    clear hb HB2 P_2 R_2 T_2 F_2
    have ha : Below w3.heap.size w3 (w3.alloc (Obj.cells #[.int .i64 0, .int .i64 0] 35)) := (Below.refl _ _).alloc (Nat.le_refl _) _
    have HB4 := Lib.hid (HB3.out.trans ((ha).mono HB3.out.size))
    have P_4 := Lib.hid (P_3.out.below ha)
    have R_4 := Lib.hid (R_3.out.below ha)
    have T_4 := Lib.hid (T_3.out.below ha)
    have F_4 := Lib.hid (F_3.out.below ha)
    have G_4 := Lib.hid (Q2.alloc w3 (.int .i64 0) (.int .i64 0) 35)
    clear ha HB3 P_3 R_3 T_3 F_3
    have xP0 := P_4.out.c0
    have xP1 := P_4.out.c1
    have xP2 := P_4.out.c2
    have xF0 := F_4.out.c0
    have xF1 := F_4.out.c1
    have xG0 := G_4.out.c0
    have xG1 := G_4.out.c1
    go_wp2_with fail
    refine (H3.out _ T_4.out R_4.out).mono ?_
    rintro e w5 ⟨rfl, hb⟩
    clear xP0 xP1 xP2 xF0 xF1 xG0 xG1
    have HB5 := Lib.hid (HB4.out.trans ((hb).mono HB4.out.size))
    have P_5 := Lib.hid (P_4.out.below hb)
    have R_5 := Lib.hid (R_4.out.below hb)
    have T_5 := Lib.hid (T_4.out.below hb)
    have F_5 := Lib.hid (F_4.out.below hb)
    have G_5 := Lib.hid (G_4.out.below hb)
    clear hb HB4 P_4 R_4 T_4 F_4 G_4
    have xP0 := P_5.out.c0
    have xP1 := P_5.out.c1
    have xP2 := P_5.out.c2
    have xF0 := F_5.out.c0
    have xF1 := F_5.out.c1
    have xG0 := G_5.out.c0
    have xG1 := G_5.out.c1
    go_wp2_with fail
    refine (H4.out _ T_5.out R_5.out).mono ?_
    rintro e w6 ⟨rfl, hb⟩
    clear xP0 xP1 xP2 xF0 xF1 xG0 xG1
    have HB6 := Lib.hid (HB5.out.trans ((hb).mono HB5.out.size))
    have P_6 := Lib.hid (P_5.out.below hb)
    have R_6 := Lib.hid (R_5.out.below hb)
    have T_6 := Lib.hid (T_5.out.below hb)
    have F_6 := Lib.hid (F_5.out.below hb)
    have G_6 := Lib.hid (G_5.out.below hb)
    clear hb HB5 P_5 R_5 T_5 F_5 G_5
    have xP0 := P_6.out.c0
    have xP1 := P_6.out.c1
    have xP2 := P_6.out.c2
    have xF0 := F_6.out.c0
    have xF1 := F_6.out.c1
    have xG0 := G_6.out.c0
    have xG1 := G_6.out.c1
    go_wp2_with fail
    refine (HLi.out _ T_6.out).mono ?_
    rintro e w7 ⟨rfl, hb⟩
    clear xP0 xP1 xP2 xF0 xF1 xG0 xG1
    have HB7 := Lib.hid (HB6.out.trans ((hb).mono HB6.out.size))
    have P_7 := Lib.hid (P_6.out.below hb)
    have R_7 := Lib.hid (R_6.out.below hb)
    have T_7 := Lib.hid (T_6.out.below hb)
    have F_7 := Lib.hid (F_6.out.below hb)
    have G_7 := Lib.hid (G_6.out.below hb)
    clear hb HB6 P_6 R_6 T_6 F_6 G_6
    have xP0 := P_7.out.c0
    have xP1 := P_7.out.c1
    have xP2 := P_7.out.c2
    have xF0 := F_7.out.c0
    have xF1 := F_7.out.c1
    have xG0 := G_7.out.c0
    have xG1 := G_7.out.c1
    go_wp2
    go_ret
    exact ⟨rfl, HB7.out⟩
  · rw [lcOk tb (by omega) (by omega) (by omega) (by omega)] at H1 H2
    rw [ldOk tb (by omega) (by omega)] at H3 H4
    have hf := cuD_fall (day := day) (paid := paid) (tm_falls tb)
    have hb1 := cuD_bd tb day paid
    have hb2 := cuD_bd tb day (paid + 1)
    have hnet := tm_is tb
    obtain ⟨n0, n1, _, _⟩ := hnet
    clear tb
    unfold LeF at hf
    generalize cuD day paid L = f at *
    generalize cuD day (paid + 1) L = k at *
    obtain ⟨f1, f2⟩ := f
    obtain ⟨k1, k2⟩ := k
    dsimp only at H1 H2 hf hb1 hb2
    obtain ⟨a1, a2, a3, a4⟩ := hb1
    obtain ⟨b1, b2, b3, b4⟩ := hb2
    have m1 : f1 * k2 ≤ 1000000 * 1000000 := Int.mul_le_mul a2 b4 (by omega) (by omega)
    have m2 : k1 * f2 ≤ 1000000 * 1000000 := Int.mul_le_mul b2 a4 (by omega) (by omega)
    have m3 : 0 ≤ f1 * k2 := Int.mul_nonneg a1 (by omega)
    have m4 : 0 ≤ k1 * f2 := Int.mul_nonneg b1 (by omega)
    obtain ⟨X, hX⟩ : ∃ x, f1 * k2 = x := ⟨_, rfl⟩
    obtain ⟨Y, hY⟩ : ∃ x, k1 * f2 = x := ⟨_, rfl⟩
    rw [hX] at hf m1 m3
    rw [hY] at hf m2 m4
    have q1 : decide (X < Y) = false := decide_eq_false (by omega)
    obtain ⟨B1, hB1⟩ : ∃ x, (if eom = true then E else day) + net = x := ⟨_, rfl⟩
    obtain ⟨B2, hB2⟩ : ∃ x, (if eom = true then F else day + 1) + net = x := ⟨_, rfl⟩
    rw [hB1] at H3
    rw [hB2] at H4
    have hBB : B1 ≤ B2 ∧ day ≤ B1 := by subst hB1 hB2; cases eom <;> simp <;> omega
    obtain ⟨c1, c2⟩ := hBB
    clear hB1 hB2 hE hEF hf
    by_cases d1 : B1 ≤ 109572
    · rw [if_neg (show ¬ ¬ (0 ≤ B1 ∧ B1 ≤ 109572) by omega)] at H3
      by_cases d2 : B2 ≤ 109572
      · rw [if_neg (show ¬ ¬ (0 ≤ B2 ∧ B2 ≤ 109572) by omega)] at H4
        have q2 : decide (B2 < B1) = false := decide_eq_false (by omega)
        have q3 : decide (B1 < day) = false := decide_eq_false (by omega)
        go_enter Tryd.func4, Tryd.ntmps4
        have xP0 := HP.out.c0
        have xP1 := HP.out.c1
        have xP2 := HP.out.c2
        go_wp2_with fail
        refine (H1.out _ HR.out).mono ?_
        rintro e w1 ⟨rfl, hb⟩
        clear xP0 xP1 xP2
        have HB1 := Lib.hid (HB0.out.trans ((hb).mono HB0.out.size))
        have P_1 := Lib.hid (HP.out.below hb)
        have R_1 := Lib.hid (HR.out.below hb)
        have T_1 := Lib.hid (HT.out.below hb)
        clear hb HP HR HT
        have ha : Below w1.heap.size w1 (w1.alloc (Obj.cells #[.int .i64 f1, .int .i64 f2] 35)) := (Below.refl _ _).alloc (Nat.le_refl _) _
        have HB2 := Lib.hid (HB1.out.trans ((ha).mono HB1.out.size))
        have P_2 := Lib.hid (P_1.out.below ha)
        have R_2 := Lib.hid (R_1.out.below ha)
        have T_2 := Lib.hid (T_1.out.below ha)
        have F_2 := Lib.hid (Q2.alloc w1 (.int .i64 f1) (.int .i64 f2) 35)
        clear ha HB1 P_1 R_1 T_1
        have xP0 := P_2.out.c0
        have xP1 := P_2.out.c1
        have xP2 := P_2.out.c2
        have xF0 := F_2.out.c0
        have xF1 := F_2.out.c1
        go_wp2_with fail
        refine (H2.out _ R_2.out).mono ?_
        rintro e w3 ⟨rfl, hb⟩
        clear xP0 xP1 xP2 xF0 xF1
        have HB3 := Lib.hid (HB2.out.trans ((hb).mono HB2.out.size))
        have P_3 := Lib.hid (P_2.out.below hb)
        have R_3 := Lib.hid (R_2.out.below hb)
        have T_3 := Lib.hid (T_2.out.below hb)
        have F_3 := Lib.hid (F_2.out.below hb)
        clear hb HB2 P_2 R_2 T_2 F_2
        have ha : Below w3.heap.size w3 (w3.alloc (Obj.cells #[.int .i64 k1, .int .i64 k2] 35)) := (Below.refl _ _).alloc (Nat.le_refl _) _
        have HB4 := Lib.hid (HB3.out.trans ((ha).mono HB3.out.size))
        have P_4 := Lib.hid (P_3.out.below ha)
        have R_4 := Lib.hid (R_3.out.below ha)
        have T_4 := Lib.hid (T_3.out.below ha)
        have F_4 := Lib.hid (F_3.out.below ha)
        have G_4 := Lib.hid (Q2.alloc w3 (.int .i64 k1) (.int .i64 k2) 35)
        clear ha HB3 P_3 R_3 T_3 F_3
        have xP0 := P_4.out.c0
        have xP1 := P_4.out.c1
        have xP2 := P_4.out.c2
        have xF0 := F_4.out.c0
        have xF1 := F_4.out.c1
        have xG0 := G_4.out.c0
        have xG1 := G_4.out.c1
        go_wp2_with fail
        refine (H3.out _ T_4.out R_4.out).mono ?_
        rintro e w5 ⟨rfl, hb⟩
        clear xP0 xP1 xP2 xF0 xF1 xG0 xG1
        have HB5 := Lib.hid (HB4.out.trans ((hb).mono HB4.out.size))
        have P_5 := Lib.hid (P_4.out.below hb)
        have R_5 := Lib.hid (R_4.out.below hb)
        have T_5 := Lib.hid (T_4.out.below hb)
        have F_5 := Lib.hid (F_4.out.below hb)
        have G_5 := Lib.hid (G_4.out.below hb)
        clear hb HB4 P_4 R_4 T_4 F_4 G_4
        have xP0 := P_5.out.c0
        have xP1 := P_5.out.c1
        have xP2 := P_5.out.c2
        have xF0 := F_5.out.c0
        have xF1 := F_5.out.c1
        have xG0 := G_5.out.c0
        have xG1 := G_5.out.c1
        go_wp2_with fail
        refine (H4.out _ T_5.out R_5.out).mono ?_
        rintro e w6 ⟨rfl, hb⟩
        clear xP0 xP1 xP2 xF0 xF1 xG0 xG1
        have HB6 := Lib.hid (HB5.out.trans ((hb).mono HB5.out.size))
        have P_6 := Lib.hid (P_5.out.below hb)
        have R_6 := Lib.hid (R_5.out.below hb)
        have T_6 := Lib.hid (T_5.out.below hb)
        have F_6 := Lib.hid (F_5.out.below hb)
        have G_6 := Lib.hid (G_5.out.below hb)
        clear hb HB5 P_5 R_5 T_5 F_5 G_5
        have xP0 := P_6.out.c0
        have xP1 := P_6.out.c1
        have xP2 := P_6.out.c2
        have xF0 := F_6.out.c0
        have xF1 := F_6.out.c1
        have xG0 := G_6.out.c0
        have xG1 := G_6.out.c1
        go_wp2_with fail
        refine (HLi.out _ T_6.out).mono ?_
        rintro e w7 ⟨rfl, hb⟩
        clear xP0 xP1 xP2 xF0 xF1 xG0 xG1
        have HB7 := Lib.hid (HB6.out.trans ((hb).mono HB6.out.size))
        have P_7 := Lib.hid (P_6.out.below hb)
        have R_7 := Lib.hid (R_6.out.below hb)
        have T_7 := Lib.hid (T_6.out.below hb)
        have F_7 := Lib.hid (F_6.out.below hb)
        have G_7 := Lib.hid (G_6.out.below hb)
        clear hb HB6 P_6 R_6 T_6 F_6 G_6
        have xP0 := P_7.out.c0
        have xP1 := P_7.out.c1
        have xP2 := P_7.out.c2
        have xF0 := F_7.out.c0
        have xF1 := F_7.out.c1
        have xG0 := G_7.out.c0
        have xG1 := G_7.out.c1
        go_wp2
        go_ret
        exact ⟨rfl, HB7.out⟩
      · rw [if_pos (show ¬ (0 ≤ B2 ∧ B2 ≤ 109572) by omega)] at H4
        go_enter Tryd.func4, Tryd.ntmps4
        have xP0 := HP.out.c0
        have xP1 := HP.out.c1
        have xP2 := HP.out.c2
        go_wp2_with fail
        refine (H1.out _ HR.out).mono ?_
        rintro e w1 ⟨rfl, hb⟩
        clear xP0 xP1 xP2
        have HB1 := Lib.hid (HB0.out.trans ((hb).mono HB0.out.size))
        have P_1 := Lib.hid (HP.out.below hb)
        have R_1 := Lib.hid (HR.out.below hb)
        have T_1 := Lib.hid (HT.out.below hb)
        clear hb HP HR HT
        have ha : Below w1.heap.size w1 (w1.alloc (Obj.cells #[.int .i64 f1, .int .i64 f2] 35)) := (Below.refl _ _).alloc (Nat.le_refl _) _
        have HB2 := Lib.hid (HB1.out.trans ((ha).mono HB1.out.size))
        have P_2 := Lib.hid (P_1.out.below ha)
        have R_2 := Lib.hid (R_1.out.below ha)
        have T_2 := Lib.hid (T_1.out.below ha)
        have F_2 := Lib.hid (Q2.alloc w1 (.int .i64 f1) (.int .i64 f2) 35)
        clear ha HB1 P_1 R_1 T_1
        have xP0 := P_2.out.c0
        have xP1 := P_2.out.c1
        have xP2 := P_2.out.c2
        have xF0 := F_2.out.c0
        have xF1 := F_2.out.c1
        go_wp2_with fail
        refine (H2.out _ R_2.out).mono ?_
        rintro e w3 ⟨rfl, hb⟩
        clear xP0 xP1 xP2 xF0 xF1
        have HB3 := Lib.hid (HB2.out.trans ((hb).mono HB2.out.size))
        have P_3 := Lib.hid (P_2.out.below hb)
        have R_3 := Lib.hid (R_2.out.below hb)
        have T_3 := Lib.hid (T_2.out.below hb)
        have F_3 := Lib.hid (F_2.out.below hb)
        clear hb HB2 P_2 R_2 T_2 F_2
        have ha : Below w3.heap.size w3 (w3.alloc (Obj.cells #[.int .i64 k1, .int .i64 k2] 35)) := (Below.refl _ _).alloc (Nat.le_refl _) _
        have HB4 := Lib.hid (HB3.out.trans ((ha).mono HB3.out.size))
        have P_4 := Lib.hid (P_3.out.below ha)
        have R_4 := Lib.hid (R_3.out.below ha)
        have T_4 := Lib.hid (T_3.out.below ha)
        have F_4 := Lib.hid (F_3.out.below ha)
        have G_4 := Lib.hid (Q2.alloc w3 (.int .i64 k1) (.int .i64 k2) 35)
        clear ha HB3 P_3 R_3 T_3 F_3
        have xP0 := P_4.out.c0
        have xP1 := P_4.out.c1
        have xP2 := P_4.out.c2
        have xF0 := F_4.out.c0
        have xF1 := F_4.out.c1
        have xG0 := G_4.out.c0
        have xG1 := G_4.out.c1
        go_wp2_with fail
        refine (H3.out _ T_4.out R_4.out).mono ?_
        rintro e w5 ⟨rfl, hb⟩
        clear xP0 xP1 xP2 xF0 xF1 xG0 xG1
        have HB5 := Lib.hid (HB4.out.trans ((hb).mono HB4.out.size))
        have P_5 := Lib.hid (P_4.out.below hb)
        have R_5 := Lib.hid (R_4.out.below hb)
        have T_5 := Lib.hid (T_4.out.below hb)
        have F_5 := Lib.hid (F_4.out.below hb)
        have G_5 := Lib.hid (G_4.out.below hb)
        clear hb HB4 P_4 R_4 T_4 F_4 G_4
        have xP0 := P_5.out.c0
        have xP1 := P_5.out.c1
        have xP2 := P_5.out.c2
        have xF0 := F_5.out.c0
        have xF1 := F_5.out.c1
        have xG0 := G_5.out.c0
        have xG1 := G_5.out.c1
        go_wp2_with fail
        refine (H4.out _ T_5.out R_5.out).mono ?_
        rintro e w6 ⟨rfl, hb⟩
        clear xP0 xP1 xP2 xF0 xF1 xG0 xG1
        have HB6 := Lib.hid (HB5.out.trans ((hb).mono HB5.out.size))
        have P_6 := Lib.hid (P_5.out.below hb)
        have R_6 := Lib.hid (R_5.out.below hb)
        have T_6 := Lib.hid (T_5.out.below hb)
        have F_6 := Lib.hid (F_5.out.below hb)
        have G_6 := Lib.hid (G_5.out.below hb)
        clear hb HB5 P_5 R_5 T_5 F_5 G_5
        have xP0 := P_6.out.c0
        have xP1 := P_6.out.c1
        have xP2 := P_6.out.c2
        have xF0 := F_6.out.c0
        have xF1 := F_6.out.c1
        have xG0 := G_6.out.c0
        have xG1 := G_6.out.c1
        go_wp2_with fail
        refine (HLi.out _ T_6.out).mono ?_
        rintro e w7 ⟨rfl, hb⟩
        clear xP0 xP1 xP2 xF0 xF1 xG0 xG1
        have HB7 := Lib.hid (HB6.out.trans ((hb).mono HB6.out.size))
        have P_7 := Lib.hid (P_6.out.below hb)
        have R_7 := Lib.hid (R_6.out.below hb)
        have T_7 := Lib.hid (T_6.out.below hb)
        have F_7 := Lib.hid (F_6.out.below hb)
        have G_7 := Lib.hid (G_6.out.below hb)
        clear hb HB6 P_6 R_6 T_6 F_6 G_6
        have xP0 := P_7.out.c0
        have xP1 := P_7.out.c1
        have xP2 := P_7.out.c2
        have xF0 := F_7.out.c0
        have xF1 := F_7.out.c1
        have xG0 := G_7.out.c0
        have xG1 := G_7.out.c1
        go_wp2
        go_ret
        exact ⟨rfl, HB7.out⟩
    · rw [if_pos (show ¬ (0 ≤ B1 ∧ B1 ≤ 109572) by omega)] at H3
      rw [if_pos (show ¬ (0 ≤ B2 ∧ B2 ≤ 109572) by omega)] at H4
      go_enter Tryd.func4, Tryd.ntmps4
      have xP0 := HP.out.c0
      have xP1 := HP.out.c1
      have xP2 := HP.out.c2
      go_wp2_with fail
      refine (H1.out _ HR.out).mono ?_
      rintro e w1 ⟨rfl, hb⟩
      clear xP0 xP1 xP2
      have HB1 := Lib.hid (HB0.out.trans ((hb).mono HB0.out.size))
      have P_1 := Lib.hid (HP.out.below hb)
      have R_1 := Lib.hid (HR.out.below hb)
      have T_1 := Lib.hid (HT.out.below hb)
      clear hb HP HR HT
      have ha : Below w1.heap.size w1 (w1.alloc (Obj.cells #[.int .i64 f1, .int .i64 f2] 35)) := (Below.refl _ _).alloc (Nat.le_refl _) _
      have HB2 := Lib.hid (HB1.out.trans ((ha).mono HB1.out.size))
      have P_2 := Lib.hid (P_1.out.below ha)
      have R_2 := Lib.hid (R_1.out.below ha)
      have T_2 := Lib.hid (T_1.out.below ha)
      have F_2 := Lib.hid (Q2.alloc w1 (.int .i64 f1) (.int .i64 f2) 35)
      clear ha HB1 P_1 R_1 T_1
      have xP0 := P_2.out.c0
      have xP1 := P_2.out.c1
      have xP2 := P_2.out.c2
      have xF0 := F_2.out.c0
      have xF1 := F_2.out.c1
      go_wp2_with fail
      refine (H2.out _ R_2.out).mono ?_
      rintro e w3 ⟨rfl, hb⟩
      clear xP0 xP1 xP2 xF0 xF1
      have HB3 := Lib.hid (HB2.out.trans ((hb).mono HB2.out.size))
      have P_3 := Lib.hid (P_2.out.below hb)
      have R_3 := Lib.hid (R_2.out.below hb)
      have T_3 := Lib.hid (T_2.out.below hb)
      have F_3 := Lib.hid (F_2.out.below hb)
      clear hb HB2 P_2 R_2 T_2 F_2
      have ha : Below w3.heap.size w3 (w3.alloc (Obj.cells #[.int .i64 k1, .int .i64 k2] 35)) := (Below.refl _ _).alloc (Nat.le_refl _) _
      have HB4 := Lib.hid (HB3.out.trans ((ha).mono HB3.out.size))
      have P_4 := Lib.hid (P_3.out.below ha)
      have R_4 := Lib.hid (R_3.out.below ha)
      have T_4 := Lib.hid (T_3.out.below ha)
      have F_4 := Lib.hid (F_3.out.below ha)
      have G_4 := Lib.hid (Q2.alloc w3 (.int .i64 k1) (.int .i64 k2) 35)
      clear ha HB3 P_3 R_3 T_3 F_3
      have xP0 := P_4.out.c0
      have xP1 := P_4.out.c1
      have xP2 := P_4.out.c2
      have xF0 := F_4.out.c0
      have xF1 := F_4.out.c1
      have xG0 := G_4.out.c0
      have xG1 := G_4.out.c1
      go_wp2_with fail
      refine (H3.out _ T_4.out R_4.out).mono ?_
      rintro e w5 ⟨rfl, hb⟩
      clear xP0 xP1 xP2 xF0 xF1 xG0 xG1
      have HB5 := Lib.hid (HB4.out.trans ((hb).mono HB4.out.size))
      have P_5 := Lib.hid (P_4.out.below hb)
      have R_5 := Lib.hid (R_4.out.below hb)
      have T_5 := Lib.hid (T_4.out.below hb)
      have F_5 := Lib.hid (F_4.out.below hb)
      have G_5 := Lib.hid (G_4.out.below hb)
      clear hb HB4 P_4 R_4 T_4 F_4 G_4
      have xP0 := P_5.out.c0
      have xP1 := P_5.out.c1
      have xP2 := P_5.out.c2
      have xF0 := F_5.out.c0
      have xF1 := F_5.out.c1
      have xG0 := G_5.out.c0
      have xG1 := G_5.out.c1
      go_wp2_with fail
      refine (H4.out _ T_5.out R_5.out).mono ?_
      rintro e w6 ⟨rfl, hb⟩
      clear xP0 xP1 xP2 xF0 xF1 xG0 xG1
      have HB6 := Lib.hid (HB5.out.trans ((hb).mono HB5.out.size))
      have P_6 := Lib.hid (P_5.out.below hb)
      have R_6 := Lib.hid (R_5.out.below hb)
      have T_6 := Lib.hid (T_5.out.below hb)
      have F_6 := Lib.hid (F_5.out.below hb)
      have G_6 := Lib.hid (G_5.out.below hb)
      clear hb HB5 P_5 R_5 T_5 F_5 G_5
      have xP0 := P_6.out.c0
      have xP1 := P_6.out.c1
      have xP2 := P_6.out.c2
      have xF0 := F_6.out.c0
      have xF1 := F_6.out.c1
      have xG0 := G_6.out.c0
      have xG1 := G_6.out.c1
      go_wp2_with fail
      refine (HLi.out _ T_6.out).mono ?_
      rintro e w7 ⟨rfl, hb⟩
      clear xP0 xP1 xP2 xF0 xF1 xG0 xG1
      have HB7 := Lib.hid (HB6.out.trans ((hb).mono HB6.out.size))
      have P_7 := Lib.hid (P_6.out.below hb)
      have R_7 := Lib.hid (R_6.out.below hb)
      have T_7 := Lib.hid (T_6.out.below hb)
      have F_7 := Lib.hid (F_6.out.below hb)
      have G_7 := Lib.hid (G_6.out.below hb)
      clear hb HB6 P_6 R_6 T_6 F_6 G_6
      have xP0 := P_7.out.c0
      have xP1 := P_7.out.c1
      have xP2 := P_7.out.c2
      have xF0 := F_7.out.c0
      have xF1 := F_7.out.c1
      have xG0 := G_7.out.c0
      have xG1 := G_7.out.c1
      go_wp2
      go_ret
      exact ⟨rfl, HB7.out⟩
end Go.Proofs.YtkpdbhpmnegahaaDoor
