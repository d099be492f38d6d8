/- The walk of SheetKeeps. Written by wip/mk_siq.py. -/
import Derived.Test.YtenhnnfemehbcaaSiP
namespace Go.Proofs.Ytenhnnfemehbcaa
open Go.RowKit Go.Sort
set_option linter.unusedVariables false
set_option linter.unusedSimpArgs false

theorem okSum_r64 {n : Int} (h : okSum n = true) : r64 n := by
  unfold okSum at h
  simp at h
  exact ⟨by omega, by omega⟩
theorem sht_bd {S : List Cl} (h : rightB S = true) : BdS S := fun c hc => by
  obtain ⟨_, h2, h3⟩ := (right_sht h).ok c hc
  exact ⟨okSum_r64 h2, okSum_r64 h3⟩
theorem fo_right (L : List Cl) (m : Int) : rightB (foL L m) = true := by
  unfold foL
  split
  · exact ofL_right _
  · rfl
theorem fo_len (L : List Cl) (m : Int) : (foL L m).length ≤ L.length := by
  unfold foL
  split
  · refine Nat.le_trans (ofL_len _) ?_
    rw [List.length_map]; exact Nat.le_refl _
  · simp
theorem fo_two {L : List Cl} {m : Int} (h : rightB L = true) (m0 : 0 ≤ m) (m1 : m ≤ 31) : foE L m = 0 ∨ foE L m = 4 := by
  have e : foB L m = true := by unfold foB; rw [h, decide_eq_true m0, decide_eq_true m1]; rfl
  unfold foE
  rw [if_pos e]
  exact ofE_two _
set_option maxRecDepth 100000 in
set_option maxHeartbeats 4000000 in
theorem sheetKeeps_walk (A : Option Addr) (len cap : Nat) (L : List Cl) (m n : Int) (w : World) (h : OkS w A len L) (hm : (Lit.int .i64 m).wf = true) (hn : (Lit.int .i64 n).wf = true) :
    Calls Try.prog 10 #[.slice A len cap, .int .i64 m, .int .i64 n] w fun e w' => e = .returned (.bool true) ∧ Below w.heap.size w w' := by
  obtain ⟨rfl, hR, hBd, hl⟩ := h
  have HLg := Lib.hid (fun W => large_any A L.length cap W hl)
  have HR := Lib.hid hR
  have HLi := Lib.hid lives_any
  have HBd := Lib.hid hBd
  have hm := wf64' hm
  have hn := wf64' hn
  clear hR hBd
  by_cases g1 : 300 < (L.length : Int)
  · rw [decide_eq_true g1] at HLg
    go_enter Try.func10, Try.ntmps10
    go_wp2_with fail
    refine (HLg.out _).mono ?_
    rintro e w_ ⟨rfl, rfl⟩
    go_wp2
    go_ret
    exact ⟨rfl, Below.refl _ _⟩
  rw [decide_eq_false g1] at HLg
  by_cases q1 : m < 0
  · go_enter Try.func10, Try.ntmps10
    go_wp2_with fail
    refine (HLg.out _).mono ?_
    rintro e w_ ⟨rfl, rfl⟩
    go_wp2
    go_ret
    exact ⟨rfl, Below.refl _ _⟩
  by_cases q2 : 31 < m
  · go_enter Try.func10, Try.ntmps10
    go_wp2_with fail
    refine (HLg.out _).mono ?_
    rintro e w_ ⟨rfl, rfl⟩
    go_wp2
    go_ret
    exact ⟨rfl, Below.refl _ _⟩
  by_cases q3 : n < 0
  · go_enter Try.func10, Try.ntmps10
    go_wp2_with fail
    refine (HLg.out _).mono ?_
    rintro e w_ ⟨rfl, rfl⟩
    go_wp2
    go_ret
    exact ⟨rfl, Below.refl _ _⟩
  by_cases q4 : 31 < n
  · go_enter Try.func10, Try.ntmps10
    go_wp2_with fail
    refine (HLg.out _).mono ?_
    rintro e w_ ⟨rfl, rfl⟩
    go_wp2
    go_ret
    exact ⟨rfl, Below.refl _ _⟩
  have HO := Lib.hid (fun W (hr : RowS W A L) => of_any A cap L W hr HBd.out (by omega))
  have hXr := ofL_right L
  have hXl := ofL_len L
  rcases ofE_two L with hE | hE
  rotate_left
  · rw [hE] at HO
    generalize ofL L = X at *
    clear hE
    go_enter Try.func10, Try.ntmps10
    go_wp2_with fail
    refine (HLg.out _).mono ?_
    rintro e w_ ⟨rfl, rfl⟩
    go_wp2_with fail
    refine (HO.out _ HR.out).mono ?_
    rintro e w1 ⟨v1, rfl, ho, hb⟩
    obtain ⟨ax, cx, rfl, _, _, hr, _⟩ := ho.shape
    have HB1 := Lib.hid (hb)
    have R_1 := Lib.hid (HR.out.below hb)
    have X_1 := Lib.hid hr
    clear ho hr hb HR
    go_wp2_with fail
    refine (HLi.out _).mono ?_
    rintro e w2 ⟨rfl, hb⟩
    have HB2 := Lib.hid (HB1.out.trans ((hb).mono HB1.out.size))
    have R_2 := Lib.hid (R_1.out.below hb)
    have X_2 := Lib.hid (X_1.out.below hb)
    clear hb HB1 R_1 X_1
    go_wp2
    go_ret
    exact ⟨rfl, HB2.out⟩
  rw [hE] at HO
  clear hE
  generalize ofL L = X at *
  have hXb := sht_bd hXr
  have hm31 : 0 ≤ m ∧ m ≤ 31 := ⟨by omega, by omega⟩
  have hn31 : 0 ≤ n ∧ n ≤ 31 := ⟨by omega, by omega⟩
  have HF := Lib.hid (fun ax cx W (hr : RowS W ax X) => fold_any ax cx X m W hr hXb (by omega) hm)
  have hYr := fo_right X m
  have hYl := fo_len X m
  rcases fo_two hXr hm31.1 hm31.2 with hE | hE
  rotate_left
  · rw [hE] at HF
    clear hE
    generalize foL X m = Y at *
    go_enter Try.func10, Try.ntmps10
    go_wp2_with fail
    refine (HLg.out _).mono ?_
    rintro e w_ ⟨rfl, rfl⟩
    go_wp2_with fail
    refine (HO.out _ HR.out).mono ?_
    rintro e w1 ⟨v1, rfl, ho, hb⟩
    obtain ⟨ax, cx, rfl, _, _, hr, _⟩ := ho.shape
    have HB1 := Lib.hid (hb)
    have R_1 := Lib.hid (HR.out.below hb)
    have X_1 := Lib.hid hr
    clear ho hr hb HR
    go_wp2_with fail
    refine (HF.out ax cx _ X_1.out).mono ?_
    rintro e w2 ⟨v2, rfl, ho, hb⟩
    obtain ⟨ay, cy, rfl, _, _, hr, _⟩ := ho.shape
    have HB2 := Lib.hid (HB1.out.trans ((hb).mono HB1.out.size))
    have R_2 := Lib.hid (R_1.out.below hb)
    have X_2 := Lib.hid (X_1.out.below hb)
    have Y_2 := Lib.hid hr
    clear ho hr hb HB1 R_1 X_1
    go_wp2_with fail
    refine (HLi.out _).mono ?_
    rintro e w3 ⟨rfl, hb⟩
    have HB3 := Lib.hid (HB2.out.trans ((hb).mono HB2.out.size))
    have R_3 := Lib.hid (R_2.out.below hb)
    have X_3 := Lib.hid (X_2.out.below hb)
    have Y_3 := Lib.hid (Y_2.out.below hb)
    clear hb HB2 R_2 X_2 Y_2
    go_wp2
    go_ret
    exact ⟨rfl, HB3.out⟩
  rw [hE] at HF
  obtain ⟨t1, t2, t3⟩ := fold_two hm31.1 hm31.2 hn31.1 hn31.2 hXr hE
  clear hE
  have HG2 := Lib.hid (fun ax cx W (hr : RowS W ax X) => fold_any ax cx X (bits .and .i64 m n) W hr hXb (by omega) (by have q := mask_bd hm31.1 hm31.2 hn31.1 hn31.2; exact ⟨by omega, by omega⟩))
  have hZl := fo_len X (bits .and .i64 m n)
  generalize foL X m = Y at *
  have hYb := sht_bd hYr
  have HG1 := Lib.hid (fun ay cy W (hr : RowS W ay Y) => fold_any ay cy Y n W hr hYb (by omega) hn)
  have HB1 := Lib.hid (fun ax cx W (hr : RowS W ax X) => base_any ax cx X W hr hXb (by omega))
  have HB2 := Lib.hid (fun ay cy W (hr : RowS W ay Y) => base_any ay cy Y W hr hYb (by omega))
  rw [t1, t2] at HG1
  rw [t3] at HB2
  clear t1 t2 t3
  generalize foL X (bits .and .i64 m n) = Z at *
  generalize foE X (bits .and .i64 m n) = E at *
  generalize suV (baS X) = b1 at *
  generalize suE (baS X) = b2 at *
  have HSm := Lib.hid (show ∀ ao co bo cp (W : World), RowS W ao Z → RowS W bo Z → Calls Try.prog 20 #[.slice ao Z.length co, .slice bo Z.length cp] W fun e w' => e = .returned (.bool true) ∧ Below W.heap.size W w' from fun ao co bo cp W h1 h2 => by
    have q := rSame_any ao bo co cp Z Z W h1 h2 (by omega) (by omega)
    rw [show smB Z Z = true from decide_eq_true rfl] at q
    exact q)
  clear hXb hYb hXr hYr hm31 hn31 hm hn
  go_enter Try.func10, Try.ntmps10
  go_wp2_with fail
  refine (HLg.out _).mono ?_
  rintro e w_ ⟨rfl, rfl⟩
  go_wp2_with fail
  refine (HO.out _ HR.out).mono ?_
  rintro e w1 ⟨v1, rfl, ho, hb⟩
  obtain ⟨ax, cx, rfl, _, _, hr, _⟩ := ho.shape
  have HB1 := Lib.hid (hb)
  have R_1 := Lib.hid (HR.out.below hb)
  have X_1 := Lib.hid hr
  clear ho hr hb HR
  go_wp2_with fail
  refine (HF.out ax cx _ X_1.out).mono ?_
  rintro e w2 ⟨v2, rfl, ho, hb⟩
  obtain ⟨ay, cy, rfl, _, _, hr, _⟩ := ho.shape
  have HB2 := Lib.hid (HB1.out.trans ((hb).mono HB1.out.size))
  have R_2 := Lib.hid (R_1.out.below hb)
  have X_2 := Lib.hid (X_1.out.below hb)
  have Y_2 := Lib.hid hr
  clear ho hr hb HB1 R_1 X_1
  go_wp2_with fail
  refine (HB1.out ax cx _ X_2.out).mono ?_
  rintro e w3 ⟨rfl, hb⟩
  have HB3 := Lib.hid (HB2.out.trans ((hb).mono HB2.out.size))
  have R_3 := Lib.hid (R_2.out.below hb)
  have X_3 := Lib.hid (X_2.out.below hb)
  have Y_3 := Lib.hid (Y_2.out.below hb)
  clear hb HB2 R_2 X_2 Y_2
  go_wp2_with fail
  refine (HB2.out ay cy _ Y_3.out).mono ?_
  rintro e w4 ⟨rfl, hb⟩
  have HB4 := Lib.hid (HB3.out.trans ((hb).mono HB3.out.size))
  have R_4 := Lib.hid (R_3.out.below hb)
  have X_4 := Lib.hid (X_3.out.below hb)
  have Y_4 := Lib.hid (Y_3.out.below hb)
  clear hb HB3 R_3 X_3 Y_3
  go_wp2_with fail
  refine (HG1.out ay cy _ Y_4.out).mono ?_
  rintro e w5 ⟨v5, rfl, ho, hb⟩
  obtain ⟨at_, ct, rfl, _, _, hr, _⟩ := ho.shape
  have HB5 := Lib.hid (HB4.out.trans ((hb).mono HB4.out.size))
  have R_5 := Lib.hid (R_4.out.below hb)
  have X_5 := Lib.hid (X_4.out.below hb)
  have Y_5 := Lib.hid (Y_4.out.below hb)
  have T_5 := Lib.hid hr
  clear ho hr hb HB4 R_4 X_4 Y_4
  go_wp2_with fail
  refine (HG2.out ax cx _ X_5.out).mono ?_
  rintro e w6 ⟨v6, rfl, ho, hb⟩
  obtain ⟨au, cu, rfl, _, _, hr, _⟩ := ho.shape
  have HB6 := Lib.hid (HB5.out.trans ((hb).mono HB5.out.size))
  have R_6 := Lib.hid (R_5.out.below hb)
  have X_6 := Lib.hid (X_5.out.below hb)
  have Y_6 := Lib.hid (Y_5.out.below hb)
  have T_6 := Lib.hid (T_5.out.below hb)
  have U_6 := Lib.hid hr
  clear ho hr hb HB5 R_5 X_5 Y_5 T_5
  go_wp2_with fail
  refine (HSm.out at_ ct au cu _ T_6.out U_6.out).mono ?_
  rintro e w7 ⟨rfl, hb⟩
  have HB7 := Lib.hid (HB6.out.trans ((hb).mono HB6.out.size))
  have R_7 := Lib.hid (R_6.out.below hb)
  have X_7 := Lib.hid (X_6.out.below hb)
  have Y_7 := Lib.hid (Y_6.out.below hb)
  have T_7 := Lib.hid (T_6.out.below hb)
  have U_7 := Lib.hid (U_6.out.below hb)
  clear hb HB6 R_6 X_6 Y_6 T_6 U_6
  go_wp2_with fail
  refine (HLi.out _).mono ?_
  rintro e w8 ⟨rfl, hb⟩
  have HB8 := Lib.hid (HB7.out.trans ((hb).mono HB7.out.size))
  have R_8 := Lib.hid (R_7.out.below hb)
  have X_8 := Lib.hid (X_7.out.below hb)
  have Y_8 := Lib.hid (Y_7.out.below hb)
  have T_8 := Lib.hid (T_7.out.below hb)
  have U_8 := Lib.hid (U_7.out.below hb)
  clear hb HB7 R_7 X_7 Y_7 T_7 U_7
  go_wp2
  go_ret
  exact ⟨rfl, HB8.out⟩
end Go.Proofs.Ytenhnnfemehbcaa
