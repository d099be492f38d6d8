/- The walks of FxAnswers, FxInverse and FxRounds. Written by wip/mk_fxp.py. -/
import Derived.Test.YtdeoplbdgbgimaaFxL
namespace Go.Proofs.Ytdeoplbdgbgimaa
open Go.RowKit Go.Sort
set_option linter.unusedVariables false
set_option linter.unusedSimpArgs false

theorem eqFrYes (a b : Int) (w : World) : (Op.equalIn 10000 37 (.agg #[.int .i64 a, .int .i64 b]) (.agg #[.int .i64 a, .int .i64 b])).run Try.prog w = .ok true w := by
  rw [eqFr]; simp
theorem crs_sym {base : ByteArray} {L : List Rt} {c c2 : ByteArray} {k d : Int} (h : (crs base L c c2 k d).2.2 = 0) : (crs base L c2 c k d).2.2 = 0 ∧ (crs base L c2 c k d).1 = (crs base L c c2 k d).2.1 ∧ (crs base L c2 c k d).2.1 = (crs base L c c2 k d).1 := by
  unfold crs at *
  by_cases h1 : (fnd base L c k d).2.2 = 0
  · have e1 : ¬ (fnd base L c k d).2.2 ≠ 0 := by simpa using h1
    rw [if_neg e1] at h
    by_cases h2 : (fnd base L c2 k d).2.2 = 0
    · have e2 : ¬ (fnd base L c2 k d).2.2 ≠ 0 := by simpa using h2
      rw [if_neg e2] at h
      rw [if_neg e2, if_neg e1, if_neg e1, if_neg e2]
      exact ⟨rfl, (cr_swap _ _ _ _).1, (cr_swap _ _ _ _).2⟩
    · rw [if_pos h2] at h; exact absurd h h2
  · rw [if_pos h1] at h; exact absurd h h1
theorem crs_self {base : ByteArray} {L : List Rt} (hO : OkR base L) {c c2 : ByteArray} {k d : Int} (h : (crs base L c c2 k d).2.2 = 0) : crs base L c c k d = (1, 1, 0) := by
  unfold crs at *
  by_cases h1 : (fnd base L c k d).2.2 = 0
  · rw [if_neg (by simpa using h1), if_neg (by simpa using h1), (cr_same (fnd_ok hO h1)).1, (cr_same (fnd_ok hO h1)).2]
  · rw [if_pos h1] at h; exact absurd h h1
set_option maxRecDepth 100000 in
set_option maxHeartbeats 6000000 in
theorem fxAnswers_walk (bs : ByteArray) (A : Option Addr) (len cap : Nat) (L : List Rt) (fr to_ : ByteArray) (kd dy am md : Int) (w : World) (h : AskF w bs A len L fr to_ kd dy am md) :
    Calls Try.prog 4 #[.agg #[.string bs, .slice A len cap, .string fr, .string to_, .int .i64 kd, .int .i64 dy, .int .i64 am, .int .i64 md]] w fun e w' => e = .returned (.bool true) ∧ Below w.heap.size w w' := by
  obtain ⟨hbs, ⟨rfl, hR, hBd, hm⟩, hfr, hto, hkd, hdy, ham, hmd⟩ := h
  have hm' := hm
  unfold maxLen at hm'
  have HLg := Lib.hid (fun W => large_any A L.length cap W hm)
  have HLi := Lib.hid lives_any
  have HP := Lib.hid (Q8.alloc w (.string bs) (.slice A L.length cap) (.string fr) (.string to_) (.int .i64 kd) (.int .i64 dy) (.int .i64 am) (.int .i64 md) 35)
  have HB0 := Lib.hid ((Below.refl w.heap.size w).alloc (Nat.le_refl _) (Obj.cells #[.string bs, .slice A L.length cap, .string fr, .string to_, .int .i64 kd, .int .i64 dy, .int .i64 am, .int .i64 md] 35))
  have HR := Lib.hid (hR.below ((Below.refl w.heap.size w).alloc (Nat.le_refl _) (Obj.cells #[.string bs, .slice A L.length cap, .string fr, .string to_, .int .i64 kd, .int .i64 dy, .int .i64 am, .int .i64 md] 35)))
  by_cases g1 : 60 < L.length
  · rw [decide_eq_true g1] at HLg
    go_enter Try.func4, Try.ntmps4
    have xP0 := HP.out.c0
    have xP1 := HP.out.c1
    have xP2 := HP.out.c2
    have xP3 := HP.out.c3
    have xP4 := HP.out.c4
    have xP5 := HP.out.c5
    have xP6 := HP.out.c6
    have xP7 := HP.out.c7
    go_wp2_with fail
    refine (HLg.out _).mono ?_
    rintro e w_ ⟨rfl, rfl⟩
    go_wp2_with fail
    refine (HLi.out _).mono ?_
    rintro e w1 ⟨rfl, hb⟩
    clear xP0 xP1 xP2 xP3 xP4 xP5 xP6 xP7
    have HB1 := Lib.hid (HB0.out.trans ((hb).mono HB0.out.size))
    have P_1 := Lib.hid (HP.out.below hb)
    have R_1 := Lib.hid (HR.out.below hb)
    clear hb HP HR
    have xP0 := P_1.out.c0
    have xP1 := P_1.out.c1
    have xP2 := P_1.out.c2
    have xP3 := P_1.out.c3
    have xP4 := P_1.out.c4
    have xP5 := P_1.out.c5
    have xP6 := P_1.out.c6
    have xP7 := P_1.out.c7
    go_wp2
    go_ret
    exact ⟨rfl, HB1.out⟩
  rw [decide_eq_false g1] at HLg
  by_cases hc : (chk bs L).2 = 0
  · have hO := chk_ok.1 hc
    have H1 := Lib.hid (fun W hr => new_ok bs A cap L W hbs hr hBd hm hc)
    have H2 := Lib.hid (fun N B W hT => find_any N B bs L fr kd dy W hT hO hfr hkd hdy)
    have H3 := Lib.hid (fun W hr => rFind_any bs A cap L fr kd dy W hbs hr hBd hO.2.1 hfr hkd hdy)
    have H4 := Lib.hid (fun N B W hT => cross_any N B bs L fr to_ kd dy W hT hO hfr hto hkd hdy)
    have H5 := Lib.hid (fun W hr => rCross_any bs A cap L fr to_ kd dy W hbs hr hBd hO hfr hto hkd hdy)
    have H6 := Lib.hid (fun N B W hT => convert_any N B bs L am fr to_ kd dy md W hT hO ham hfr hto hkd hdy hmd)
    have H7 := Lib.hid (fun W hr => rConvert_any bs A cap L am fr to_ kd dy md W hbs hr hBd hO ham hfr hto hkd hdy hmd)
    have hE := eqFrYes
    clear hc hO hBd hR
    generalize fnd bs L fr kd dy = f at *
    generalize crs bs L fr to_ kd dy = cr at *
    generalize cnv bs L am fr to_ kd dy md = cv at *
    obtain ⟨f1, f2, f3⟩ := f
    obtain ⟨r1, r2, r3⟩ := cr
    obtain ⟨v1, v2⟩ := cv
    dsimp only at H2 H3 H4 H5 H6 H7
    go_enter Try.func4, Try.ntmps4
    have xP0 := HP.out.c0
    have xP1 := HP.out.c1
    have xP2 := HP.out.c2
    have xP3 := HP.out.c3
    have xP4 := HP.out.c4
    have xP5 := HP.out.c5
    have xP6 := HP.out.c6
    have xP7 := HP.out.c7
    go_wp2_with fail
    refine (HLg.out _).mono ?_
    rintro e w_ ⟨rfl, rfl⟩
    go_wp2_with fail
    refine (H1.out _ HR.out).mono ?_
    rintro e w1 ⟨B, rfl, hT, hb⟩
    clear xP0 xP1 xP2 xP3 xP4 xP5 xP6 xP7
    have HB1 := Lib.hid (HB0.out.trans ((hb).mono HB0.out.size))
    have P_1 := Lib.hid (HP.out.below hb)
    have R_1 := Lib.hid (HR.out.below hb)
    have T_1 := Lib.hid hT
    clear hb HP HR hT
    have xP0 := P_1.out.c0
    have xP1 := P_1.out.c1
    have xP2 := P_1.out.c2
    have xP3 := P_1.out.c3
    have xP4 := P_1.out.c4
    have xP5 := P_1.out.c5
    have xP6 := P_1.out.c6
    have xP7 := P_1.out.c7
    go_wp2_with fail
    refine (H2.out _ _ _ T_1.out).mono ?_
    rintro e w2 ⟨rfl, hb⟩
    clear xP0 xP1 xP2 xP3 xP4 xP5 xP6 xP7
    have HB2 := Lib.hid (HB1.out.trans ((hb).mono HB1.out.size))
    have P_2 := Lib.hid (P_1.out.below hb)
    have R_2 := Lib.hid (R_1.out.below hb)
    have T_2 := Lib.hid (T_1.out.below hb)
    clear hb HB1 P_1 R_1 T_1
    have ha : Below w2.heap.size w2 (w2.alloc (Obj.cells #[.int .i64 f1, .int .i64 f2] 37)) := (Below.refl _ _).alloc (Nat.le_refl _) _
    have HB3 := Lib.hid (HB2.out.trans ((ha).mono HB2.out.size))
    have P_3 := Lib.hid (P_2.out.below ha)
    have R_3 := Lib.hid (R_2.out.below ha)
    have T_3 := Lib.hid (T_2.out.below ha)
    have F_3 := Lib.hid (Q2.alloc w2 (.int .i64 f1) (.int .i64 f2) 37)
    clear ha HB2 P_2 R_2 T_2
    have xP0 := P_3.out.c0
    have xP1 := P_3.out.c1
    have xP2 := P_3.out.c2
    have xP3 := P_3.out.c3
    have xP4 := P_3.out.c4
    have xP5 := P_3.out.c5
    have xP6 := P_3.out.c6
    have xP7 := P_3.out.c7
    have xF0 := F_3.out.c0
    have xF1 := F_3.out.c1
    go_wp2_with fail
    refine (H3.out _ R_3.out).mono ?_
    rintro e w4 ⟨rfl, hb⟩
    clear xP0 xP1 xP2 xP3 xP4 xP5 xP6 xP7 xF0 xF1
    have HB4 := Lib.hid (HB3.out.trans ((hb).mono HB3.out.size))
    have P_4 := Lib.hid (P_3.out.below hb)
    have R_4 := Lib.hid (R_3.out.below hb)
    have T_4 := Lib.hid (T_3.out.below hb)
    have F_4 := Lib.hid (F_3.out.below hb)
    clear hb HB3 P_3 R_3 T_3 F_3
    have ha : Below w4.heap.size w4 (w4.alloc (Obj.cells #[.int .i64 f1, .int .i64 f2] 37)) := (Below.refl _ _).alloc (Nat.le_refl _) _
    have HB5 := Lib.hid (HB4.out.trans ((ha).mono HB4.out.size))
    have P_5 := Lib.hid (P_4.out.below ha)
    have R_5 := Lib.hid (R_4.out.below ha)
    have T_5 := Lib.hid (T_4.out.below ha)
    have F_5 := Lib.hid (F_4.out.below ha)
    have G_5 := Lib.hid (Q2.alloc w4 (.int .i64 f1) (.int .i64 f2) 37)
    clear ha HB4 P_4 R_4 T_4 F_4
    have xP0 := P_5.out.c0
    have xP1 := P_5.out.c1
    have xP2 := P_5.out.c2
    have xP3 := P_5.out.c3
    have xP4 := P_5.out.c4
    have xP5 := P_5.out.c5
    have xP6 := P_5.out.c6
    have xP7 := P_5.out.c7
    have xF0 := F_5.out.c0
    have xF1 := F_5.out.c1
    have xG0 := G_5.out.c0
    have xG1 := G_5.out.c1
    go_wp2_with fail
    refine (H4.out _ _ _ T_5.out).mono ?_
    rintro e w6 ⟨rfl, hb⟩
    clear xP0 xP1 xP2 xP3 xP4 xP5 xP6 xP7 xF0 xF1 xG0 xG1
    have HB6 := Lib.hid (HB5.out.trans ((hb).mono HB5.out.size))
    have P_6 := Lib.hid (P_5.out.below hb)
    have R_6 := Lib.hid (R_5.out.below hb)
    have T_6 := Lib.hid (T_5.out.below hb)
    have F_6 := Lib.hid (F_5.out.below hb)
    have G_6 := Lib.hid (G_5.out.below hb)
    clear hb HB5 P_5 R_5 T_5 F_5 G_5
    have xP0 := P_6.out.c0
    have xP1 := P_6.out.c1
    have xP2 := P_6.out.c2
    have xP3 := P_6.out.c3
    have xP4 := P_6.out.c4
    have xP5 := P_6.out.c5
    have xP6 := P_6.out.c6
    have xP7 := P_6.out.c7
    have xF0 := F_6.out.c0
    have xF1 := F_6.out.c1
    have xG0 := G_6.out.c0
    have xG1 := G_6.out.c1
    go_wp2_with fail
    refine (H5.out _ R_6.out).mono ?_
    rintro e w7 ⟨rfl, hb⟩
    clear xP0 xP1 xP2 xP3 xP4 xP5 xP6 xP7 xF0 xF1 xG0 xG1
    have HB7 := Lib.hid (HB6.out.trans ((hb).mono HB6.out.size))
    have P_7 := Lib.hid (P_6.out.below hb)
    have R_7 := Lib.hid (R_6.out.below hb)
    have T_7 := Lib.hid (T_6.out.below hb)
    have F_7 := Lib.hid (F_6.out.below hb)
    have G_7 := Lib.hid (G_6.out.below hb)
    clear hb HB6 P_6 R_6 T_6 F_6 G_6
    have xP0 := P_7.out.c0
    have xP1 := P_7.out.c1
    have xP2 := P_7.out.c2
    have xP3 := P_7.out.c3
    have xP4 := P_7.out.c4
    have xP5 := P_7.out.c5
    have xP6 := P_7.out.c6
    have xP7 := P_7.out.c7
    have xF0 := F_7.out.c0
    have xF1 := F_7.out.c1
    have xG0 := G_7.out.c0
    have xG1 := G_7.out.c1
    go_wp2_with fail
    refine (H6.out _ _ _ T_7.out).mono ?_
    rintro e w8 ⟨rfl, hb⟩
    clear xP0 xP1 xP2 xP3 xP4 xP5 xP6 xP7 xF0 xF1 xG0 xG1
    have HB8 := Lib.hid (HB7.out.trans ((hb).mono HB7.out.size))
    have P_8 := Lib.hid (P_7.out.below hb)
    have R_8 := Lib.hid (R_7.out.below hb)
    have T_8 := Lib.hid (T_7.out.below hb)
    have F_8 := Lib.hid (F_7.out.below hb)
    have G_8 := Lib.hid (G_7.out.below hb)
    clear hb HB7 P_7 R_7 T_7 F_7 G_7
    have xP0 := P_8.out.c0
    have xP1 := P_8.out.c1
    have xP2 := P_8.out.c2
    have xP3 := P_8.out.c3
    have xP4 := P_8.out.c4
    have xP5 := P_8.out.c5
    have xP6 := P_8.out.c6
    have xP7 := P_8.out.c7
    have xF0 := F_8.out.c0
    have xF1 := F_8.out.c1
    have xG0 := G_8.out.c0
    have xG1 := G_8.out.c1
    go_wp2_with fail
    refine (H7.out _ R_8.out).mono ?_
    rintro e w9 ⟨rfl, hb⟩
    clear xP0 xP1 xP2 xP3 xP4 xP5 xP6 xP7 xF0 xF1 xG0 xG1
    have HB9 := Lib.hid (HB8.out.trans ((hb).mono HB8.out.size))
    have P_9 := Lib.hid (P_8.out.below hb)
    have R_9 := Lib.hid (R_8.out.below hb)
    have T_9 := Lib.hid (T_8.out.below hb)
    have F_9 := Lib.hid (F_8.out.below hb)
    have G_9 := Lib.hid (G_8.out.below hb)
    clear hb HB8 P_8 R_8 T_8 F_8 G_8
    have xP0 := P_9.out.c0
    have xP1 := P_9.out.c1
    have xP2 := P_9.out.c2
    have xP3 := P_9.out.c3
    have xP4 := P_9.out.c4
    have xP5 := P_9.out.c5
    have xP6 := P_9.out.c6
    have xP7 := P_9.out.c7
    have xF0 := F_9.out.c0
    have xF1 := F_9.out.c1
    have xG0 := G_9.out.c0
    have xG1 := G_9.out.c1
    go_wp2_with fail
    refine (HLi.out _).mono ?_
    rintro e w10 ⟨rfl, hb⟩
    clear xP0 xP1 xP2 xP3 xP4 xP5 xP6 xP7 xF0 xF1 xG0 xG1
    have HB10 := Lib.hid (HB9.out.trans ((hb).mono HB9.out.size))
    have P_10 := Lib.hid (P_9.out.below hb)
    have R_10 := Lib.hid (R_9.out.below hb)
    have T_10 := Lib.hid (T_9.out.below hb)
    have F_10 := Lib.hid (F_9.out.below hb)
    have G_10 := Lib.hid (G_9.out.below hb)
    clear hb HB9 P_9 R_9 T_9 F_9 G_9
    have xP0 := P_10.out.c0
    have xP1 := P_10.out.c1
    have xP2 := P_10.out.c2
    have xP3 := P_10.out.c3
    have xP4 := P_10.out.c4
    have xP5 := P_10.out.c5
    have xP6 := P_10.out.c6
    have xP7 := P_10.out.c7
    have xF0 := F_10.out.c0
    have xF1 := F_10.out.c1
    have xG0 := G_10.out.c0
    have xG1 := G_10.out.c1
    go_wp2
    go_ret
    exact ⟨rfl, HB10.out⟩
  · have H1 := Lib.hid (fun W hr => new_bad bs A cap L W hbs hr hBd hm hc)
    have H2 := Lib.hid (fun W => find_nil fr kd dy W)
    have H4 := Lib.hid (fun W => cross_nil fr to_ kd dy W)
    have H6 := Lib.hid (fun W => convert_nil am fr to_ kd dy md W)
    have hne : ((chk bs L).2 != 0) = true := by simpa using hc
    clear hc hBd hR
    generalize chk bs L = ck at *
    obtain ⟨k1, k2⟩ := ck
    dsimp only at H1 hne
    go_enter Try.func4, Try.ntmps4
    have xP0 := HP.out.c0
    have xP1 := HP.out.c1
    have xP2 := HP.out.c2
    have xP3 := HP.out.c3
    have xP4 := HP.out.c4
    have xP5 := HP.out.c5
    have xP6 := HP.out.c6
    have xP7 := HP.out.c7
    go_wp2_with fail
    refine (HLg.out _).mono ?_
    rintro e w_ ⟨rfl, rfl⟩
    go_wp2_with fail
    refine (H1.out _ HR.out).mono ?_
    rintro e w1 ⟨rfl, hb⟩
    clear xP0 xP1 xP2 xP3 xP4 xP5 xP6 xP7
    have HB1 := Lib.hid (HB0.out.trans ((hb).mono HB0.out.size))
    have P_1 := Lib.hid (HP.out.below hb)
    have R_1 := Lib.hid (HR.out.below hb)
    clear hb HP HR
    have xP0 := P_1.out.c0
    have xP1 := P_1.out.c1
    have xP2 := P_1.out.c2
    have xP3 := P_1.out.c3
    have xP4 := P_1.out.c4
    have xP5 := P_1.out.c5
    have xP6 := P_1.out.c6
    have xP7 := P_1.out.c7
    go_wp2_with fail
    refine (H2.out _).mono ?_
    rintro e w2 ⟨rfl, hb⟩
    clear xP0 xP1 xP2 xP3 xP4 xP5 xP6 xP7
    have HB2 := Lib.hid (HB1.out.trans ((hb).mono HB1.out.size))
    have P_2 := Lib.hid (P_1.out.below hb)
    have R_2 := Lib.hid (R_1.out.below hb)
    clear hb HB1 P_1 R_1
    have ha : Below w2.heap.size w2 (w2.alloc (Obj.cells #[.int .i64 0, .int .i64 0] 37)) := (Below.refl _ _).alloc (Nat.le_refl _) _
    have HB3 := Lib.hid (HB2.out.trans ((ha).mono HB2.out.size))
    have P_3 := Lib.hid (P_2.out.below ha)
    have R_3 := Lib.hid (R_2.out.below ha)
    have F_3 := Lib.hid (Q2.alloc w2 (.int .i64 0) (.int .i64 0) 37)
    clear ha HB2 P_2 R_2
    have xP0 := P_3.out.c0
    have xP1 := P_3.out.c1
    have xP2 := P_3.out.c2
    have xP3 := P_3.out.c3
    have xP4 := P_3.out.c4
    have xP5 := P_3.out.c5
    have xP6 := P_3.out.c6
    have xP7 := P_3.out.c7
    have xF0 := F_3.out.c0
    have xF1 := F_3.out.c1
    go_wp2_with fail
    refine (H4.out _).mono ?_
    rintro e w4 ⟨rfl, hb⟩
    clear xP0 xP1 xP2 xP3 xP4 xP5 xP6 xP7 xF0 xF1
    have HB4 := Lib.hid (HB3.out.trans ((hb).mono HB3.out.size))
    have P_4 := Lib.hid (P_3.out.below hb)
    have R_4 := Lib.hid (R_3.out.below hb)
    have F_4 := Lib.hid (F_3.out.below hb)
    clear hb HB3 P_3 R_3 F_3
    have xP0 := P_4.out.c0
    have xP1 := P_4.out.c1
    have xP2 := P_4.out.c2
    have xP3 := P_4.out.c3
    have xP4 := P_4.out.c4
    have xP5 := P_4.out.c5
    have xP6 := P_4.out.c6
    have xP7 := P_4.out.c7
    have xF0 := F_4.out.c0
    have xF1 := F_4.out.c1
    go_wp2_with fail
    refine (H6.out _).mono ?_
    rintro e w_ ⟨rfl, rfl⟩
    go_wp2_with fail
    refine (HLi.out _).mono ?_
    rintro e w5 ⟨rfl, hb⟩
    clear xP0 xP1 xP2 xP3 xP4 xP5 xP6 xP7 xF0 xF1
    have HB5 := Lib.hid (HB4.out.trans ((hb).mono HB4.out.size))
    have P_5 := Lib.hid (P_4.out.below hb)
    have R_5 := Lib.hid (R_4.out.below hb)
    have F_5 := Lib.hid (F_4.out.below hb)
    clear hb HB4 P_4 R_4 F_4
    have xP0 := P_5.out.c0
    have xP1 := P_5.out.c1
    have xP2 := P_5.out.c2
    have xP3 := P_5.out.c3
    have xP4 := P_5.out.c4
    have xP5 := P_5.out.c5
    have xP6 := P_5.out.c6
    have xP7 := P_5.out.c7
    have xF0 := F_5.out.c0
    have xF1 := F_5.out.c1
    go_wp2
    go_ret
    exact ⟨rfl, HB5.out⟩
set_option maxRecDepth 100000 in
set_option maxHeartbeats 6000000 in
theorem fxInverse_walk (bs : ByteArray) (A : Option Addr) (len cap : Nat) (L : List Rt) (fr to_ : ByteArray) (kd dy am md : Int) (w : World) (h : AskF w bs A len L fr to_ kd dy am md) :
    Calls Try.prog 7 #[.agg #[.string bs, .slice A len cap, .string fr, .string to_, .int .i64 kd, .int .i64 dy, .int .i64 am, .int .i64 md]] w fun e w' => e = .returned (.bool true) ∧ Below w.heap.size w w' := by
  obtain ⟨hbs, ⟨rfl, hR, hBd, hm⟩, hfr, hto, hkd, hdy, ham, hmd⟩ := h
  have hm' := hm
  unfold maxLen at hm'
  have HLg := Lib.hid (fun W => large_any A L.length cap W hm)
  have HLi := Lib.hid lives_any
  have HP := Lib.hid (Q8.alloc w (.string bs) (.slice A L.length cap) (.string fr) (.string to_) (.int .i64 kd) (.int .i64 dy) (.int .i64 am) (.int .i64 md) 35)
  have HB0 := Lib.hid ((Below.refl w.heap.size w).alloc (Nat.le_refl _) (Obj.cells #[.string bs, .slice A L.length cap, .string fr, .string to_, .int .i64 kd, .int .i64 dy, .int .i64 am, .int .i64 md] 35))
  have HR := Lib.hid (hR.below ((Below.refl w.heap.size w).alloc (Nat.le_refl _) (Obj.cells #[.string bs, .slice A L.length cap, .string fr, .string to_, .int .i64 kd, .int .i64 dy, .int .i64 am, .int .i64 md] 35)))
  by_cases g1 : 60 < L.length
  · rw [decide_eq_true g1] at HLg
    go_enter Try.func7, Try.ntmps7
    have xP0 := HP.out.c0
    have xP1 := HP.out.c1
    have xP2 := HP.out.c2
    have xP3 := HP.out.c3
    have xP4 := HP.out.c4
    have xP5 := HP.out.c5
    have xP6 := HP.out.c6
    have xP7 := HP.out.c7
    go_wp2_with fail
    refine (HLg.out _).mono ?_
    rintro e w_ ⟨rfl, rfl⟩
    go_wp2_with fail
    refine (HLi.out _).mono ?_
    rintro e w1 ⟨rfl, hb⟩
    clear xP0 xP1 xP2 xP3 xP4 xP5 xP6 xP7
    have HB1 := Lib.hid (HB0.out.trans ((hb).mono HB0.out.size))
    have P_1 := Lib.hid (HP.out.below hb)
    have R_1 := Lib.hid (HR.out.below hb)
    clear hb HP HR
    have xP0 := P_1.out.c0
    have xP1 := P_1.out.c1
    have xP2 := P_1.out.c2
    have xP3 := P_1.out.c3
    have xP4 := P_1.out.c4
    have xP5 := P_1.out.c5
    have xP6 := P_1.out.c6
    have xP7 := P_1.out.c7
    go_wp2
    go_ret
    exact ⟨rfl, HB1.out⟩
  rw [decide_eq_false g1] at HLg
  by_cases hc : (chk bs L).2 = 0
  · have hO := chk_ok.1 hc
    have H1 := Lib.hid (fun W hr => new_ok bs A cap L W hbs hr hBd hm hc)
    have H2 := Lib.hid (fun N B W hT => cross_any N B bs L fr to_ kd dy W hT hO hfr hto hkd hdy)
    have H3 := Lib.hid (fun N B W hT => cross_any N B bs L to_ fr kd dy W hT hO hto hfr hkd hdy)
    have H4 := Lib.hid (fun N B W hT => cross_any N B bs L fr fr kd dy W hT hO hfr hfr hkd hdy)
    by_cases he : (crs bs L fr to_ kd dy).2.2 = 0
    · obtain ⟨q1, q2, q3⟩ := crs_sym he
      obtain ⟨⟨p1, p2⟩, p3, p4⟩ := crs_ok hO he
      rw [crs_self hO he] at H4
      rw [q1, q2, q3] at H3
      rw [he] at H2
      clear hc hO hBd hR q1 q2 q3 he
      generalize crs bs L fr to_ kd dy = cr at *
      obtain ⟨r1, r2, r3⟩ := cr
      dsimp only at H2 H3 p1 p2 p3 p4
      have p5 : 0 < r1 := by omega
      have p6 : 0 < r2 := by omega
      go_enter Try.func7, Try.ntmps7
      have xP0 := HP.out.c0
      have xP1 := HP.out.c1
      have xP2 := HP.out.c2
      have xP3 := HP.out.c3
      have xP4 := HP.out.c4
      have xP5 := HP.out.c5
      have xP6 := HP.out.c6
      have xP7 := HP.out.c7
      go_wp2_with fail
      refine (HLg.out _).mono ?_
      rintro e w_ ⟨rfl, rfl⟩
      go_wp2_with fail
      refine (H1.out _ HR.out).mono ?_
      rintro e w1 ⟨B, rfl, hT, hb⟩
      clear xP0 xP1 xP2 xP3 xP4 xP5 xP6 xP7
      have HB1 := Lib.hid (HB0.out.trans ((hb).mono HB0.out.size))
      have P_1 := Lib.hid (HP.out.below hb)
      have R_1 := Lib.hid (HR.out.below hb)
      have T_1 := Lib.hid hT
      clear hb HP HR hT
      have xP0 := P_1.out.c0
      have xP1 := P_1.out.c1
      have xP2 := P_1.out.c2
      have xP3 := P_1.out.c3
      have xP4 := P_1.out.c4
      have xP5 := P_1.out.c5
      have xP6 := P_1.out.c6
      have xP7 := P_1.out.c7
      go_wp2_with fail
      refine (H2.out _ _ _ T_1.out).mono ?_
      rintro e w2 ⟨rfl, hb⟩
      clear xP0 xP1 xP2 xP3 xP4 xP5 xP6 xP7
      have HB2 := Lib.hid (HB1.out.trans ((hb).mono HB1.out.size))
      have P_2 := Lib.hid (P_1.out.below hb)
      have R_2 := Lib.hid (R_1.out.below hb)
      have T_2 := Lib.hid (T_1.out.below hb)
      clear hb HB1 P_1 R_1 T_1
      have xP0 := P_2.out.c0
      have xP1 := P_2.out.c1
      have xP2 := P_2.out.c2
      have xP3 := P_2.out.c3
      have xP4 := P_2.out.c4
      have xP5 := P_2.out.c5
      have xP6 := P_2.out.c6
      have xP7 := P_2.out.c7
      go_wp2_with fail
      refine (H3.out _ _ _ T_2.out).mono ?_
      rintro e w3 ⟨rfl, hb⟩
      clear xP0 xP1 xP2 xP3 xP4 xP5 xP6 xP7
      have HB3 := Lib.hid (HB2.out.trans ((hb).mono HB2.out.size))
      have P_3 := Lib.hid (P_2.out.below hb)
      have R_3 := Lib.hid (R_2.out.below hb)
      have T_3 := Lib.hid (T_2.out.below hb)
      clear hb HB2 P_2 R_2 T_2
      have xP0 := P_3.out.c0
      have xP1 := P_3.out.c1
      have xP2 := P_3.out.c2
      have xP3 := P_3.out.c3
      have xP4 := P_3.out.c4
      have xP5 := P_3.out.c5
      have xP6 := P_3.out.c6
      have xP7 := P_3.out.c7
      go_wp2_with fail
      refine (H4.out _ _ _ T_3.out).mono ?_
      rintro e w4 ⟨rfl, hb⟩
      clear xP0 xP1 xP2 xP3 xP4 xP5 xP6 xP7
      have HB4 := Lib.hid (HB3.out.trans ((hb).mono HB3.out.size))
      have P_4 := Lib.hid (P_3.out.below hb)
      have R_4 := Lib.hid (R_3.out.below hb)
      have T_4 := Lib.hid (T_3.out.below hb)
      clear hb HB3 P_3 R_3 T_3
      have xP0 := P_4.out.c0
      have xP1 := P_4.out.c1
      have xP2 := P_4.out.c2
      have xP3 := P_4.out.c3
      have xP4 := P_4.out.c4
      have xP5 := P_4.out.c5
      have xP6 := P_4.out.c6
      have xP7 := P_4.out.c7
      go_wp2_with fail
      refine (HLi.out _).mono ?_
      rintro e w5 ⟨rfl, hb⟩
      clear xP0 xP1 xP2 xP3 xP4 xP5 xP6 xP7
      have HB5 := Lib.hid (HB4.out.trans ((hb).mono HB4.out.size))
      have P_5 := Lib.hid (P_4.out.below hb)
      have R_5 := Lib.hid (R_4.out.below hb)
      have T_5 := Lib.hid (T_4.out.below hb)
      clear hb HB4 P_4 R_4 T_4
      have xP0 := P_5.out.c0
      have xP1 := P_5.out.c1
      have xP2 := P_5.out.c2
      have xP3 := P_5.out.c3
      have xP4 := P_5.out.c4
      have xP5 := P_5.out.c5
      have xP6 := P_5.out.c6
      have xP7 := P_5.out.c7
      go_wp2
      go_ret
      exact ⟨rfl, HB5.out⟩
    · have hf : (crs bs L to_ fr kd dy).2.2 ≠ 0 := fun q => he (crs_sym q).1
      have he' : ((crs bs L fr to_ kd dy).2.2 != 0) = true := by simpa using he
      have hf' : ((crs bs L to_ fr kd dy).2.2 != 0) = true := by simpa using hf
      clear hc hO hBd hR he hf H4
      generalize crs bs L fr to_ kd dy = cr at *
      generalize crs bs L to_ fr kd dy = cr2 at *
      obtain ⟨r1, r2, r3⟩ := cr
      obtain ⟨s1, s2, s3⟩ := cr2
      dsimp only at H2 H3 he' hf'
      go_enter Try.func7, Try.ntmps7
      have xP0 := HP.out.c0
      have xP1 := HP.out.c1
      have xP2 := HP.out.c2
      have xP3 := HP.out.c3
      have xP4 := HP.out.c4
      have xP5 := HP.out.c5
      have xP6 := HP.out.c6
      have xP7 := HP.out.c7
      go_wp2_with fail
      refine (HLg.out _).mono ?_
      rintro e w_ ⟨rfl, rfl⟩
      go_wp2_with fail
      refine (H1.out _ HR.out).mono ?_
      rintro e w1 ⟨B, rfl, hT, hb⟩
      clear xP0 xP1 xP2 xP3 xP4 xP5 xP6 xP7
      have HB1 := Lib.hid (HB0.out.trans ((hb).mono HB0.out.size))
      have P_1 := Lib.hid (HP.out.below hb)
      have R_1 := Lib.hid (HR.out.below hb)
      have T_1 := Lib.hid hT
      clear hb HP HR hT
      have xP0 := P_1.out.c0
      have xP1 := P_1.out.c1
      have xP2 := P_1.out.c2
      have xP3 := P_1.out.c3
      have xP4 := P_1.out.c4
      have xP5 := P_1.out.c5
      have xP6 := P_1.out.c6
      have xP7 := P_1.out.c7
      go_wp2_with fail
      refine (H2.out _ _ _ T_1.out).mono ?_
      rintro e w2 ⟨rfl, hb⟩
      clear xP0 xP1 xP2 xP3 xP4 xP5 xP6 xP7
      have HB2 := Lib.hid (HB1.out.trans ((hb).mono HB1.out.size))
      have P_2 := Lib.hid (P_1.out.below hb)
      have R_2 := Lib.hid (R_1.out.below hb)
      have T_2 := Lib.hid (T_1.out.below hb)
      clear hb HB1 P_1 R_1 T_1
      have xP0 := P_2.out.c0
      have xP1 := P_2.out.c1
      have xP2 := P_2.out.c2
      have xP3 := P_2.out.c3
      have xP4 := P_2.out.c4
      have xP5 := P_2.out.c5
      have xP6 := P_2.out.c6
      have xP7 := P_2.out.c7
      go_wp2_with fail
      refine (H3.out _ _ _ T_2.out).mono ?_
      rintro e w3 ⟨rfl, hb⟩
      clear xP0 xP1 xP2 xP3 xP4 xP5 xP6 xP7
      have HB3 := Lib.hid (HB2.out.trans ((hb).mono HB2.out.size))
      have P_3 := Lib.hid (P_2.out.below hb)
      have R_3 := Lib.hid (R_2.out.below hb)
      have T_3 := Lib.hid (T_2.out.below hb)
      clear hb HB2 P_2 R_2 T_2
      have xP0 := P_3.out.c0
      have xP1 := P_3.out.c1
      have xP2 := P_3.out.c2
      have xP3 := P_3.out.c3
      have xP4 := P_3.out.c4
      have xP5 := P_3.out.c5
      have xP6 := P_3.out.c6
      have xP7 := P_3.out.c7
      go_wp2_with fail
      refine (HLi.out _).mono ?_
      rintro e w4 ⟨rfl, hb⟩
      clear xP0 xP1 xP2 xP3 xP4 xP5 xP6 xP7
      have HB4 := Lib.hid (HB3.out.trans ((hb).mono HB3.out.size))
      have P_4 := Lib.hid (P_3.out.below hb)
      have R_4 := Lib.hid (R_3.out.below hb)
      have T_4 := Lib.hid (T_3.out.below hb)
      clear hb HB3 P_3 R_3 T_3
      have xP0 := P_4.out.c0
      have xP1 := P_4.out.c1
      have xP2 := P_4.out.c2
      have xP3 := P_4.out.c3
      have xP4 := P_4.out.c4
      have xP5 := P_4.out.c5
      have xP6 := P_4.out.c6
      have xP7 := P_4.out.c7
      go_wp2
      go_ret
      exact ⟨rfl, HB4.out⟩
  · have H1 := Lib.hid (fun W hr => new_bad bs A cap L W hbs hr hBd hm hc)
    have hne : ((chk bs L).2 != 0) = true := by simpa using hc
    clear hc hBd hR
    generalize chk bs L = ck at *
    obtain ⟨k1, k2⟩ := ck
    dsimp only at H1 hne
    go_enter Try.func7, Try.ntmps7
    have xP0 := HP.out.c0
    have xP1 := HP.out.c1
    have xP2 := HP.out.c2
    have xP3 := HP.out.c3
    have xP4 := HP.out.c4
    have xP5 := HP.out.c5
    have xP6 := HP.out.c6
    have xP7 := HP.out.c7
    go_wp2_with fail
    refine (HLg.out _).mono ?_
    rintro e w_ ⟨rfl, rfl⟩
    go_wp2_with fail
    refine (H1.out _ HR.out).mono ?_
    rintro e w1 ⟨rfl, hb⟩
    clear xP0 xP1 xP2 xP3 xP4 xP5 xP6 xP7
    have HB1 := Lib.hid (HB0.out.trans ((hb).mono HB0.out.size))
    have P_1 := Lib.hid (HP.out.below hb)
    have R_1 := Lib.hid (HR.out.below hb)
    clear hb HP HR
    have xP0 := P_1.out.c0
    have xP1 := P_1.out.c1
    have xP2 := P_1.out.c2
    have xP3 := P_1.out.c3
    have xP4 := P_1.out.c4
    have xP5 := P_1.out.c5
    have xP6 := P_1.out.c6
    have xP7 := P_1.out.c7
    go_wp2_with fail
    refine (HLi.out _).mono ?_
    rintro e w2 ⟨rfl, hb⟩
    clear xP0 xP1 xP2 xP3 xP4 xP5 xP6 xP7
    have HB2 := Lib.hid (HB1.out.trans ((hb).mono HB1.out.size))
    have P_2 := Lib.hid (P_1.out.below hb)
    have R_2 := Lib.hid (R_1.out.below hb)
    clear hb HB1 P_1 R_1
    have xP0 := P_2.out.c0
    have xP1 := P_2.out.c1
    have xP2 := P_2.out.c2
    have xP3 := P_2.out.c3
    have xP4 := P_2.out.c4
    have xP5 := P_2.out.c5
    have xP6 := P_2.out.c6
    have xP7 := P_2.out.c7
    go_wp2
    go_ret
    exact ⟨rfl, HB2.out⟩
theorem neg_pos {x n d : Int} (hx : 1 ≤ x) (hn : 1 ≤ n) (hd : 1 ≤ d) : negB x n d = false := by
  unfold negB cmpI
  rw [if_neg (by omega), if_pos (by omega), if_neg (by omega), if_pos (by omega), if_neg (by omega), if_pos (by omega)]
  rfl
theorem sg_pos {q : Int} {up : Bool} (h : (sgV q up false).2 = 0) : (sgV q up false).1 = q + (if up = true then 1 else 0) ∧ q + (if up = true then 1 else 0) ≤ 9223372036854775807 := by
  unfold sgV at h ⊢
  obtain ⟨u, hu⟩ : ∃ u : Int, (if up = true then 1 else 0) = u := ⟨_, rfl⟩
  rw [hu] at h ⊢
  by_cases g1 : 9223372036854775808 < q
  · rw [if_pos g1] at h; simp at h
  rw [if_neg g1] at h ⊢
  by_cases g2 : 9223372036854775808 < q + u ∨ q + u = 9223372036854775808 ∧ false = false
  · rw [if_pos g2] at h; simp at h
  rw [if_neg g2]
  refine ⟨rfl, ?_⟩
  apply Classical.byContradiction
  intro z
  exact g2 (by simp; omega)
theorem md_pos' {x n d m : Int} (hx : 1 ≤ x) (hn : 1 ≤ n) (hd : 1 ≤ d) (m1 : 1 ≤ m) (m2 : m ≤ 5) (h : (mdV x n d m).2 = 0) : (mdV x n d m).1 = x * n / d + (if upB m (x * n / d % 2 != 0) (x * n % d) d false = true then 1 else 0) ∧ (mdV x n d m).1 ≤ 9223372036854775807 := by
  unfold mdV at h ⊢
  rw [if_neg (by omega), if_neg (by omega), absI_pos (by omega), absI_pos (by omega), absI_pos (by omega), neg_pos hx hn hd] at h ⊢
  unfold mdW at h ⊢
  obtain ⟨e1, e2⟩ := sg_pos h
  exact ⟨e1, by rw [e1]; exact e2⟩
theorem md_pos {x n d m : Int} (hx : 1 ≤ x) (hn : 1 ≤ n) (hd : 1 ≤ d) (m1 : 1 ≤ m) (m2 : m ≤ 5) (h : (mdV x n d m).2 = 0) : (mdV x n d m).1 = x * n / d + (if upB m (x * n / d % 2 != 0) (x * n % d) d false = true then 1 else 0) := (md_pos' hx hn hd m1 m2 h).1
theorem md_one {x m : Int} (hx : 1 ≤ x) (hx2 : x ≤ 1000000000000000) (m1 : 1 ≤ m) (m2 : m ≤ 5) : mdV x 1 1 m = (x, 0) := by
  have hup : ∀ o, upB m o 0 1 false = false := by
    intro o
    unfold upB
    split
    · rfl
    · split
      · rfl
      · split
        · simp
        · split <;> rfl
  unfold mdV
  rw [if_neg (by omega), if_neg (by omega), absI_pos (by omega), absI_pos (by omega), neg_pos hx (by omega) (by omega)]
  unfold mdW
  rw [Int.mul_one, Int.ediv_one, Int.emod_one, hup]
  unfold sgV
  rw [if_neg (by omega), if_neg (by simp; omega)]
  simp
theorem rounds {x n d : Int} (hx : 1 ≤ x) (hn : 1 ≤ n) (hd : 1 ≤ d) (h1 : (mdV x n d 1).2 = 0) (h2 : (mdV x n d 2).2 = 0) :
    ¬ 0 < cmpI ((mdV x n d 1).1 * d) (x * n) ∧ ¬ cmpI ((mdV x n d 2).1 * d) (x * n) < 0 ∧ ¬ 1 < (mdV x n d 2).1 - (mdV x n d 1).1 ∧ ¬ (mdV x n d 2).1 < (mdV x n d 1).1 := by
  rw [md_pos hx hn hd (by omega) (by omega) h1, md_pos hx hn hd (by omega) (by omega) h2]
  have e1 : upB 1 (x * n / d % 2 != 0) (x * n % d) d false = false := by unfold upB; simp
  have e2 : upB 2 (x * n / d % 2 != 0) (x * n % d) d false = (x * n % d != 0) := by unfold upB; simp
  rw [e1, e2]
  have hdm := Int.emod_add_mul_ediv (x * n) d
  have hr0 := Int.emod_nonneg (x * n) (show d ≠ 0 by omega)
  have hr1 := Int.emod_lt_of_pos (x * n) (show 0 < d by omega)
  generalize x * n / d = q at *
  generalize x * n % d = r at *
  generalize x * n = N at *
  have hq : (q + (if false = true then 1 else 0)) * d = d * q := by simp [Int.mul_comm]
  rw [hq]
  refine ⟨?_, ?_, ?_, ?_⟩
  · unfold cmpI; split
    · omega
    · split <;> omega
  · by_cases hr : r = 0
    · subst hr
      simp only [bne_self_eq_false, Bool.false_eq_true, if_false, Int.add_zero]
      unfold cmpI
      rw [Int.mul_comm q d]
      split
      · omega
      · split <;> omega
    · have e : (r != 0) = true := by simpa using hr
      rw [e, if_pos rfl, Int.add_mul, Int.one_mul, Int.mul_comm q d]
      unfold cmpI
      split
      · omega
      · split <;> omega
  · simp only [Bool.false_eq_true, if_false]; split <;> omega
  · simp only [Bool.false_eq_true, if_false]; split <;> omega
theorem cnv_split {base : ByteArray} {L : List Rt} {x : Int} {c c2 : ByteArray} {k d mode : Int} (m1 : 1 ≤ mode) (m2 : mode ≤ 5) (h : (crs base L c c2 k d).2.2 = 0) :
    (cnv base L x c c2 k d mode = (0, 4)) ∨ ((mdV x (crs base L c c2 k d).1 (crs base L c c2 k d).2.1 mode).2 = 0 ∧ suB x = true ∧ cnv base L x c c2 k d mode = ((mdV x (crs base L c c2 k d).1 (crs base L c c2 k d).2.1 mode).1, 0)) := by
  unfold cnv
  rw [if_neg (by omega), if_neg (by simpa using h)]
  split
  · exact .inl rfl
  · rename_i q
    refine .inr ⟨?_, ?_, rfl⟩
    · apply Classical.byContradiction
      intro z; exact q (.inl z)
    · cases z : suB x
      · exact absurd (.inr (.inl z)) q
      · rfl
theorem cnv_err {base : ByteArray} {L : List Rt} {x : Int} {c c2 : ByteArray} {k d mode : Int} (m1 : 1 ≤ mode) (m2 : mode ≤ 5) (h : (crs base L c c2 k d).2.2 ≠ 0) : cnv base L x c c2 k d mode = (0, (crs base L c c2 k d).2.2) := by
  unfold cnv
  rw [if_neg (by omega), if_pos h]
theorem cnv_self {base : ByteArray} {L : List Rt} (hO : OkR base L) {x : Int} {c c2 : ByteArray} {k d mode : Int} (h : (crs base L c c2 k d).2.2 = 0) (hx : 1 ≤ x) (hs : suB x = true) : cnv base L x c c k d mode = if mode < 1 ∨ 5 < mode then (0, 10) else (x, 0) := by
  unfold cnv
  rw [crs_self hO h]
  split
  · rfl
  · rename_i g
    have hx2 : x ≤ 1000000000000000 := by unfold suB at hs; simp at hs; omega
    rw [if_neg (by simp), md_one hx hx2 (by omega) (by omega), if_neg]
    rintro (q | q | q)
    · exact q rfl
    · rw [hs] at q; cases q
    · rw [hs] at q; cases q
theorem md_nn {x n d m : Int} (hx : 1 ≤ x) (hn : 1 ≤ n) (hd : 1 ≤ d) (m1 : 1 ≤ m) (m2 : m ≤ 5) (h : (mdV x n d m).2 = 0) : 0 ≤ (mdV x n d m).1 := by
  rw [md_pos hx hn hd m1 m2 h]
  have := Int.ediv_nonneg (show 0 ≤ x * n from Int.mul_nonneg (by omega) (by omega)) (show 0 ≤ d by omega)
  split <;> omega
theorem md_r64 {x n d m : Int} (hx : 1 ≤ x) (hn : 1 ≤ n) (hd : 1 ≤ d) (m1 : 1 ≤ m) (m2 : m ≤ 5) (h : (mdV x n d m).2 = 0) : r64 (mdV x n d m).1 := by
  have h0 := md_nn hx hn hd m1 m2 h
  exact ⟨by omega, (md_pos' hx hn hd m1 m2 h).2⟩
set_option maxRecDepth 100000 in
set_option maxHeartbeats 6000000 in
theorem fxRounds_walk (bs : ByteArray) (A : Option Addr) (len cap : Nat) (L : List Rt) (fr to_ : ByteArray) (kd dy am md : Int) (w : World) (h : AskF w bs A len L fr to_ kd dy am md) :
    Calls Try.prog 8 #[.agg #[.string bs, .slice A len cap, .string fr, .string to_, .int .i64 kd, .int .i64 dy, .int .i64 am, .int .i64 md]] w fun e w' => e = .returned (.bool true) ∧ Below w.heap.size w w' := by
  obtain ⟨hbs, ⟨rfl, hR, hBd, hm⟩, hfr, hto, hkd, hdy, ham, hmd⟩ := h
  have hm' := hm
  unfold maxLen at hm'
  have HLg := Lib.hid (fun W => large_any A L.length cap W hm)
  have HLi := Lib.hid lives_any
  have HP := Lib.hid (Q8.alloc w (.string bs) (.slice A L.length cap) (.string fr) (.string to_) (.int .i64 kd) (.int .i64 dy) (.int .i64 am) (.int .i64 md) 35)
  have HB0 := Lib.hid ((Below.refl w.heap.size w).alloc (Nat.le_refl _) (Obj.cells #[.string bs, .slice A L.length cap, .string fr, .string to_, .int .i64 kd, .int .i64 dy, .int .i64 am, .int .i64 md] 35))
  have HR := Lib.hid (hR.below ((Below.refl w.heap.size w).alloc (Nat.le_refl _) (Obj.cells #[.string bs, .slice A L.length cap, .string fr, .string to_, .int .i64 kd, .int .i64 dy, .int .i64 am, .int .i64 md] 35)))
  by_cases g1 : 60 < L.length
  · rw [decide_eq_true g1] at HLg
    go_enter Try.func8, Try.ntmps8
    have xP0 := HP.out.c0
    have xP1 := HP.out.c1
    have xP2 := HP.out.c2
    have xP3 := HP.out.c3
    have xP4 := HP.out.c4
    have xP5 := HP.out.c5
    have xP6 := HP.out.c6
    have xP7 := HP.out.c7
    go_wp2_with fail
    refine (HLg.out _).mono ?_
    rintro e w_ ⟨rfl, rfl⟩
    go_wp2_with fail
    refine (HLi.out _).mono ?_
    rintro e w1 ⟨rfl, hb⟩
    clear xP0 xP1 xP2 xP3 xP4 xP5 xP6 xP7
    have HB1 := Lib.hid (HB0.out.trans ((hb).mono HB0.out.size))
    have P_1 := Lib.hid (HP.out.below hb)
    have R_1 := Lib.hid (HR.out.below hb)
    clear hb HP HR
    have xP0 := P_1.out.c0
    have xP1 := P_1.out.c1
    have xP2 := P_1.out.c2
    have xP3 := P_1.out.c3
    have xP4 := P_1.out.c4
    have xP5 := P_1.out.c5
    have xP6 := P_1.out.c6
    have xP7 := P_1.out.c7
    go_wp2
    go_ret
    exact ⟨rfl, HB1.out⟩
  rw [decide_eq_false g1] at HLg
  by_cases hc : (chk bs L).2 = 0
  · have hO := chk_ok.1 hc
    have H1 := Lib.hid (fun W hr => new_ok bs A cap L W hbs hr hBd hm hc)
    by_cases g2 : am < 1
    · clear hc hO hBd hR
      go_enter Try.func8, Try.ntmps8
      have xP0 := HP.out.c0
      have xP1 := HP.out.c1
      have xP2 := HP.out.c2
      have xP3 := HP.out.c3
      have xP4 := HP.out.c4
      have xP5 := HP.out.c5
      have xP6 := HP.out.c6
      have xP7 := HP.out.c7
      go_wp2_with fail
      refine (HLg.out _).mono ?_
      rintro e w_ ⟨rfl, rfl⟩
      go_wp2_with fail
      refine (H1.out _ HR.out).mono ?_
      rintro e w1 ⟨B, rfl, hT, hb⟩
      clear xP0 xP1 xP2 xP3 xP4 xP5 xP6 xP7
      have HB1 := Lib.hid (HB0.out.trans ((hb).mono HB0.out.size))
      have P_1 := Lib.hid (HP.out.below hb)
      have R_1 := Lib.hid (HR.out.below hb)
      have T_1 := Lib.hid hT
      clear hb HP HR hT
      have xP0 := P_1.out.c0
      have xP1 := P_1.out.c1
      have xP2 := P_1.out.c2
      have xP3 := P_1.out.c3
      have xP4 := P_1.out.c4
      have xP5 := P_1.out.c5
      have xP6 := P_1.out.c6
      have xP7 := P_1.out.c7
      go_wp2_with fail
      refine (HLi.out _).mono ?_
      rintro e w2 ⟨rfl, hb⟩
      clear xP0 xP1 xP2 xP3 xP4 xP5 xP6 xP7
      have HB2 := Lib.hid (HB1.out.trans ((hb).mono HB1.out.size))
      have P_2 := Lib.hid (P_1.out.below hb)
      have R_2 := Lib.hid (R_1.out.below hb)
      have T_2 := Lib.hid (T_1.out.below hb)
      clear hb HB1 P_1 R_1 T_1
      have xP0 := P_2.out.c0
      have xP1 := P_2.out.c1
      have xP2 := P_2.out.c2
      have xP3 := P_2.out.c3
      have xP4 := P_2.out.c4
      have xP5 := P_2.out.c5
      have xP6 := P_2.out.c6
      have xP7 := P_2.out.c7
      go_wp2
      go_ret
      exact ⟨rfl, HB2.out⟩
    have H2 := Lib.hid (fun N B W hT => cross_any N B bs L fr to_ kd dy W hT hO hfr hto hkd hdy)
    have H3 := Lib.hid (fun N B W hT => convert_any N B bs L am fr to_ kd dy 1 W hT hO ham hfr hto hkd hdy ⟨by decide, by decide⟩)
    have H4 := Lib.hid (fun N B W hT => convert_any N B bs L am fr to_ kd dy 2 W hT hO ham hfr hto hkd hdy ⟨by decide, by decide⟩)
    by_cases he : (crs bs L fr to_ kd dy).2.2 = 0
    · rw [he] at H2
      obtain ⟨⟨p1, p2⟩, p3, p4⟩ := crs_ok hO he
      rcases cnv_split (x := am) (mode := 1) (by decide) (by decide) he with k1 | ⟨k1, k2, k3⟩
      · rw [k1] at H3
        clear hc hO hBd hR he k1
        generalize cnv bs L am fr to_ kd dy 2 = c2 at *
        obtain ⟨c21, c22⟩ := c2
        dsimp only at H4
        generalize crs bs L fr to_ kd dy = cr at *
        obtain ⟨r1, r2, r3⟩ := cr
        dsimp only at H2
        go_enter Try.func8, Try.ntmps8
        have xP0 := HP.out.c0
        have xP1 := HP.out.c1
        have xP2 := HP.out.c2
        have xP3 := HP.out.c3
        have xP4 := HP.out.c4
        have xP5 := HP.out.c5
        have xP6 := HP.out.c6
        have xP7 := HP.out.c7
        go_wp2_with fail
        refine (HLg.out _).mono ?_
        rintro e w_ ⟨rfl, rfl⟩
        go_wp2_with fail
        refine (H1.out _ HR.out).mono ?_
        rintro e w1 ⟨B, rfl, hT, hb⟩
        clear xP0 xP1 xP2 xP3 xP4 xP5 xP6 xP7
        have HB1 := Lib.hid (HB0.out.trans ((hb).mono HB0.out.size))
        have P_1 := Lib.hid (HP.out.below hb)
        have R_1 := Lib.hid (HR.out.below hb)
        have T_1 := Lib.hid hT
        clear hb HP HR hT
        have xP0 := P_1.out.c0
        have xP1 := P_1.out.c1
        have xP2 := P_1.out.c2
        have xP3 := P_1.out.c3
        have xP4 := P_1.out.c4
        have xP5 := P_1.out.c5
        have xP6 := P_1.out.c6
        have xP7 := P_1.out.c7
        go_wp2_with fail
        refine (H2.out _ _ _ T_1.out).mono ?_
        rintro e w2 ⟨rfl, hb⟩
        clear xP0 xP1 xP2 xP3 xP4 xP5 xP6 xP7
        have HB2 := Lib.hid (HB1.out.trans ((hb).mono HB1.out.size))
        have P_2 := Lib.hid (P_1.out.below hb)
        have R_2 := Lib.hid (R_1.out.below hb)
        have T_2 := Lib.hid (T_1.out.below hb)
        clear hb HB1 P_1 R_1 T_1
        have xP0 := P_2.out.c0
        have xP1 := P_2.out.c1
        have xP2 := P_2.out.c2
        have xP3 := P_2.out.c3
        have xP4 := P_2.out.c4
        have xP5 := P_2.out.c5
        have xP6 := P_2.out.c6
        have xP7 := P_2.out.c7
        go_wp2_with fail
        refine (H3.out _ _ _ T_2.out).mono ?_
        rintro e w3 ⟨rfl, hb⟩
        clear xP0 xP1 xP2 xP3 xP4 xP5 xP6 xP7
        have HB3 := Lib.hid (HB2.out.trans ((hb).mono HB2.out.size))
        have P_3 := Lib.hid (P_2.out.below hb)
        have R_3 := Lib.hid (R_2.out.below hb)
        have T_3 := Lib.hid (T_2.out.below hb)
        clear hb HB2 P_2 R_2 T_2
        have xP0 := P_3.out.c0
        have xP1 := P_3.out.c1
        have xP2 := P_3.out.c2
        have xP3 := P_3.out.c3
        have xP4 := P_3.out.c4
        have xP5 := P_3.out.c5
        have xP6 := P_3.out.c6
        have xP7 := P_3.out.c7
        go_wp2_with fail
        refine (H4.out _ _ _ T_3.out).mono ?_
        rintro e w4 ⟨rfl, hb⟩
        clear xP0 xP1 xP2 xP3 xP4 xP5 xP6 xP7
        have HB4 := Lib.hid (HB3.out.trans ((hb).mono HB3.out.size))
        have P_4 := Lib.hid (P_3.out.below hb)
        have R_4 := Lib.hid (R_3.out.below hb)
        have T_4 := Lib.hid (T_3.out.below hb)
        clear hb HB3 P_3 R_3 T_3
        have xP0 := P_4.out.c0
        have xP1 := P_4.out.c1
        have xP2 := P_4.out.c2
        have xP3 := P_4.out.c3
        have xP4 := P_4.out.c4
        have xP5 := P_4.out.c5
        have xP6 := P_4.out.c6
        have xP7 := P_4.out.c7
        go_wp2_with fail
        refine (HLi.out _).mono ?_
        rintro e w5 ⟨rfl, hb⟩
        clear xP0 xP1 xP2 xP3 xP4 xP5 xP6 xP7
        have HB5 := Lib.hid (HB4.out.trans ((hb).mono HB4.out.size))
        have P_5 := Lib.hid (P_4.out.below hb)
        have R_5 := Lib.hid (R_4.out.below hb)
        have T_5 := Lib.hid (T_4.out.below hb)
        clear hb HB4 P_4 R_4 T_4
        have xP0 := P_5.out.c0
        have xP1 := P_5.out.c1
        have xP2 := P_5.out.c2
        have xP3 := P_5.out.c3
        have xP4 := P_5.out.c4
        have xP5 := P_5.out.c5
        have xP6 := P_5.out.c6
        have xP7 := P_5.out.c7
        go_wp2
        go_ret
        exact ⟨rfl, HB5.out⟩
      rcases cnv_split (x := am) (mode := 2) (by decide) (by decide) he with j1 | ⟨j1, j2, j3⟩
      · rw [j1] at H4
        rw [k3] at H3
        clear hc hO hBd hR he j1 k1 k2 k3
        generalize (mdV am (crs bs L fr to_ kd dy).1 (crs bs L fr to_ kd dy).2.1 1).1 = c1 at *
        generalize crs bs L fr to_ kd dy = cr at *
        obtain ⟨r1, r2, r3⟩ := cr
        dsimp only at H2
        go_enter Try.func8, Try.ntmps8
        have xP0 := HP.out.c0
        have xP1 := HP.out.c1
        have xP2 := HP.out.c2
        have xP3 := HP.out.c3
        have xP4 := HP.out.c4
        have xP5 := HP.out.c5
        have xP6 := HP.out.c6
        have xP7 := HP.out.c7
        go_wp2_with fail
        refine (HLg.out _).mono ?_
        rintro e w_ ⟨rfl, rfl⟩
        go_wp2_with fail
        refine (H1.out _ HR.out).mono ?_
        rintro e w1 ⟨B, rfl, hT, hb⟩
        clear xP0 xP1 xP2 xP3 xP4 xP5 xP6 xP7
        have HB1 := Lib.hid (HB0.out.trans ((hb).mono HB0.out.size))
        have P_1 := Lib.hid (HP.out.below hb)
        have R_1 := Lib.hid (HR.out.below hb)
        have T_1 := Lib.hid hT
        clear hb HP HR hT
        have xP0 := P_1.out.c0
        have xP1 := P_1.out.c1
        have xP2 := P_1.out.c2
        have xP3 := P_1.out.c3
        have xP4 := P_1.out.c4
        have xP5 := P_1.out.c5
        have xP6 := P_1.out.c6
        have xP7 := P_1.out.c7
        go_wp2_with fail
        refine (H2.out _ _ _ T_1.out).mono ?_
        rintro e w2 ⟨rfl, hb⟩
        clear xP0 xP1 xP2 xP3 xP4 xP5 xP6 xP7
        have HB2 := Lib.hid (HB1.out.trans ((hb).mono HB1.out.size))
        have P_2 := Lib.hid (P_1.out.below hb)
        have R_2 := Lib.hid (R_1.out.below hb)
        have T_2 := Lib.hid (T_1.out.below hb)
        clear hb HB1 P_1 R_1 T_1
        have xP0 := P_2.out.c0
        have xP1 := P_2.out.c1
        have xP2 := P_2.out.c2
        have xP3 := P_2.out.c3
        have xP4 := P_2.out.c4
        have xP5 := P_2.out.c5
        have xP6 := P_2.out.c6
        have xP7 := P_2.out.c7
        go_wp2_with fail
        refine (H3.out _ _ _ T_2.out).mono ?_
        rintro e w3 ⟨rfl, hb⟩
        clear xP0 xP1 xP2 xP3 xP4 xP5 xP6 xP7
        have HB3 := Lib.hid (HB2.out.trans ((hb).mono HB2.out.size))
        have P_3 := Lib.hid (P_2.out.below hb)
        have R_3 := Lib.hid (R_2.out.below hb)
        have T_3 := Lib.hid (T_2.out.below hb)
        clear hb HB2 P_2 R_2 T_2
        have xP0 := P_3.out.c0
        have xP1 := P_3.out.c1
        have xP2 := P_3.out.c2
        have xP3 := P_3.out.c3
        have xP4 := P_3.out.c4
        have xP5 := P_3.out.c5
        have xP6 := P_3.out.c6
        have xP7 := P_3.out.c7
        go_wp2_with fail
        refine (H4.out _ _ _ T_3.out).mono ?_
        rintro e w4 ⟨rfl, hb⟩
        clear xP0 xP1 xP2 xP3 xP4 xP5 xP6 xP7
        have HB4 := Lib.hid (HB3.out.trans ((hb).mono HB3.out.size))
        have P_4 := Lib.hid (P_3.out.below hb)
        have R_4 := Lib.hid (R_3.out.below hb)
        have T_4 := Lib.hid (T_3.out.below hb)
        clear hb HB3 P_3 R_3 T_3
        have xP0 := P_4.out.c0
        have xP1 := P_4.out.c1
        have xP2 := P_4.out.c2
        have xP3 := P_4.out.c3
        have xP4 := P_4.out.c4
        have xP5 := P_4.out.c5
        have xP6 := P_4.out.c6
        have xP7 := P_4.out.c7
        go_wp2_with fail
        refine (HLi.out _).mono ?_
        rintro e w5 ⟨rfl, hb⟩
        clear xP0 xP1 xP2 xP3 xP4 xP5 xP6 xP7
        have HB5 := Lib.hid (HB4.out.trans ((hb).mono HB4.out.size))
        have P_5 := Lib.hid (P_4.out.below hb)
        have R_5 := Lib.hid (R_4.out.below hb)
        have T_5 := Lib.hid (T_4.out.below hb)
        clear hb HB4 P_4 R_4 T_4
        have xP0 := P_5.out.c0
        have xP1 := P_5.out.c1
        have xP2 := P_5.out.c2
        have xP3 := P_5.out.c3
        have xP4 := P_5.out.c4
        have xP5 := P_5.out.c5
        have xP6 := P_5.out.c6
        have xP7 := P_5.out.c7
        go_wp2
        go_ret
        exact ⟨rfl, HB5.out⟩
      have H5 := Lib.hid (fun N B W hT => convert_any N B bs L am fr fr kd dy md W hT hO ham hfr hfr hkd hdy hmd)
      rw [cnv_self hO he (by omega) k2] at H5
      rw [k3] at H3
      rw [j3] at H4
      obtain ⟨u1, u2, u3, u4⟩ := rounds (show 1 ≤ am by omega) p1 p3 k1 j1
      have hsu : -1000000000000000 ≤ am ∧ am ≤ 1000000000000000 := by unfold suB at k2; simpa using k2
      have b1 : r64 (mdV am (crs bs L fr to_ kd dy).1 (crs bs L fr to_ kd dy).2.1 1).1 := md_r64 (by omega) p1 p3 (by decide) (by decide) k1
      have b2 : r64 (mdV am (crs bs L fr to_ kd dy).1 (crs bs L fr to_ kd dy).2.1 2).1 := md_r64 (by omega) p1 p3 (by decide) (by decide) j1
      have b0 : 0 ≤ (mdV am (crs bs L fr to_ kd dy).1 (crs bs L fr to_ kd dy).2.1 1).1 := md_nn (by omega) p1 p3 (by decide) (by decide) k1
      obtain ⟨b1, b1'⟩ := b1
      obtain ⟨b2, b2'⟩ := b2
      have H6 := Lib.hid (fun W => cmp_any (mdV am (crs bs L fr to_ kd dy).1 (crs bs L fr to_ kd dy).2.1 1).1 (crs bs L fr to_ kd dy).2.1 am (crs bs L fr to_ kd dy).1 W b1 b1' (by omega) (by omega) (by omega) (by omega) (by omega) (by omega))
      have H7 := Lib.hid (fun W => cmp_any (mdV am (crs bs L fr to_ kd dy).1 (crs bs L fr to_ kd dy).2.1 2).1 (crs bs L fr to_ kd dy).2.1 am (crs bs L fr to_ kd dy).1 W b2 b2' (by omega) (by omega) (by omega) (by omega) (by omega) (by omega))
      clear hc hO hBd hR he j1 j2 j3 k1 k2 k3 ham hmd
      generalize cmpI ((mdV am (crs bs L fr to_ kd dy).1 (crs bs L fr to_ kd dy).2.1 1).1 * (crs bs L fr to_ kd dy).2.1) (am * (crs bs L fr to_ kd dy).1) = z1 at *
      generalize cmpI ((mdV am (crs bs L fr to_ kd dy).1 (crs bs L fr to_ kd dy).2.1 2).1 * (crs bs L fr to_ kd dy).2.1) (am * (crs bs L fr to_ kd dy).1) = z2 at *
      generalize (mdV am (crs bs L fr to_ kd dy).1 (crs bs L fr to_ kd dy).2.1 1).1 = c1 at *
      generalize (mdV am (crs bs L fr to_ kd dy).1 (crs bs L fr to_ kd dy).2.1 2).1 = c2 at *
      generalize crs bs L fr to_ kd dy = cr at *
      obtain ⟨r1, r2, r3⟩ := cr
      dsimp only at H2 H6 H7 p1 p2 p3 p4
      by_cases gm : md < 1 ∨ 5 < md
      · rw [if_pos gm] at H5
        go_enter Try.func8, Try.ntmps8
        have xP0 := HP.out.c0
        have xP1 := HP.out.c1
        have xP2 := HP.out.c2
        have xP3 := HP.out.c3
        have xP4 := HP.out.c4
        have xP5 := HP.out.c5
        have xP6 := HP.out.c6
        have xP7 := HP.out.c7
        go_wp2_with fail
        refine (HLg.out _).mono ?_
        rintro e w_ ⟨rfl, rfl⟩
        go_wp2_with fail
        refine (H1.out _ HR.out).mono ?_
        rintro e w1 ⟨B, rfl, hT, hb⟩
        clear xP0 xP1 xP2 xP3 xP4 xP5 xP6 xP7
        have HB1 := Lib.hid (HB0.out.trans ((hb).mono HB0.out.size))
        have P_1 := Lib.hid (HP.out.below hb)
        have R_1 := Lib.hid (HR.out.below hb)
        have T_1 := Lib.hid hT
        clear hb HP HR hT
        have xP0 := P_1.out.c0
        have xP1 := P_1.out.c1
        have xP2 := P_1.out.c2
        have xP3 := P_1.out.c3
        have xP4 := P_1.out.c4
        have xP5 := P_1.out.c5
        have xP6 := P_1.out.c6
        have xP7 := P_1.out.c7
        go_wp2_with fail
        refine (H2.out _ _ _ T_1.out).mono ?_
        rintro e w2 ⟨rfl, hb⟩
        clear xP0 xP1 xP2 xP3 xP4 xP5 xP6 xP7
        have HB2 := Lib.hid (HB1.out.trans ((hb).mono HB1.out.size))
        have P_2 := Lib.hid (P_1.out.below hb)
        have R_2 := Lib.hid (R_1.out.below hb)
        have T_2 := Lib.hid (T_1.out.below hb)
        clear hb HB1 P_1 R_1 T_1
        have xP0 := P_2.out.c0
        have xP1 := P_2.out.c1
        have xP2 := P_2.out.c2
        have xP3 := P_2.out.c3
        have xP4 := P_2.out.c4
        have xP5 := P_2.out.c5
        have xP6 := P_2.out.c6
        have xP7 := P_2.out.c7
        go_wp2_with fail
        refine (H3.out _ _ _ T_2.out).mono ?_
        rintro e w3 ⟨rfl, hb⟩
        clear xP0 xP1 xP2 xP3 xP4 xP5 xP6 xP7
        have HB3 := Lib.hid (HB2.out.trans ((hb).mono HB2.out.size))
        have P_3 := Lib.hid (P_2.out.below hb)
        have R_3 := Lib.hid (R_2.out.below hb)
        have T_3 := Lib.hid (T_2.out.below hb)
        clear hb HB2 P_2 R_2 T_2
        have xP0 := P_3.out.c0
        have xP1 := P_3.out.c1
        have xP2 := P_3.out.c2
        have xP3 := P_3.out.c3
        have xP4 := P_3.out.c4
        have xP5 := P_3.out.c5
        have xP6 := P_3.out.c6
        have xP7 := P_3.out.c7
        go_wp2_with fail
        refine (H4.out _ _ _ T_3.out).mono ?_
        rintro e w4 ⟨rfl, hb⟩
        clear xP0 xP1 xP2 xP3 xP4 xP5 xP6 xP7
        have HB4 := Lib.hid (HB3.out.trans ((hb).mono HB3.out.size))
        have P_4 := Lib.hid (P_3.out.below hb)
        have R_4 := Lib.hid (R_3.out.below hb)
        have T_4 := Lib.hid (T_3.out.below hb)
        clear hb HB3 P_3 R_3 T_3
        have xP0 := P_4.out.c0
        have xP1 := P_4.out.c1
        have xP2 := P_4.out.c2
        have xP3 := P_4.out.c3
        have xP4 := P_4.out.c4
        have xP5 := P_4.out.c5
        have xP6 := P_4.out.c6
        have xP7 := P_4.out.c7
        go_wp2_with fail
        refine (H6.out _).mono ?_
        rintro e w5 ⟨rfl, hb⟩
        clear xP0 xP1 xP2 xP3 xP4 xP5 xP6 xP7
        have HB5 := Lib.hid (HB4.out.trans ((hb).mono HB4.out.size))
        have P_5 := Lib.hid (P_4.out.below hb)
        have R_5 := Lib.hid (R_4.out.below hb)
        have T_5 := Lib.hid (T_4.out.below hb)
        clear hb HB4 P_4 R_4 T_4
        have xP0 := P_5.out.c0
        have xP1 := P_5.out.c1
        have xP2 := P_5.out.c2
        have xP3 := P_5.out.c3
        have xP4 := P_5.out.c4
        have xP5 := P_5.out.c5
        have xP6 := P_5.out.c6
        have xP7 := P_5.out.c7
        go_wp2_with fail
        refine (H7.out _).mono ?_
        rintro e w6 ⟨rfl, hb⟩
        clear xP0 xP1 xP2 xP3 xP4 xP5 xP6 xP7
        have HB6 := Lib.hid (HB5.out.trans ((hb).mono HB5.out.size))
        have P_6 := Lib.hid (P_5.out.below hb)
        have R_6 := Lib.hid (R_5.out.below hb)
        have T_6 := Lib.hid (T_5.out.below hb)
        clear hb HB5 P_5 R_5 T_5
        have xP0 := P_6.out.c0
        have xP1 := P_6.out.c1
        have xP2 := P_6.out.c2
        have xP3 := P_6.out.c3
        have xP4 := P_6.out.c4
        have xP5 := P_6.out.c5
        have xP6 := P_6.out.c6
        have xP7 := P_6.out.c7
        go_wp2_with fail
        refine (H5.out _ _ _ T_6.out).mono ?_
        rintro e w7 ⟨rfl, hb⟩
        clear xP0 xP1 xP2 xP3 xP4 xP5 xP6 xP7
        have HB7 := Lib.hid (HB6.out.trans ((hb).mono HB6.out.size))
        have P_7 := Lib.hid (P_6.out.below hb)
        have R_7 := Lib.hid (R_6.out.below hb)
        have T_7 := Lib.hid (T_6.out.below hb)
        clear hb HB6 P_6 R_6 T_6
        have xP0 := P_7.out.c0
        have xP1 := P_7.out.c1
        have xP2 := P_7.out.c2
        have xP3 := P_7.out.c3
        have xP4 := P_7.out.c4
        have xP5 := P_7.out.c5
        have xP6 := P_7.out.c6
        have xP7 := P_7.out.c7
        go_wp2_with fail
        refine (HLi.out _).mono ?_
        rintro e w8 ⟨rfl, hb⟩
        clear xP0 xP1 xP2 xP3 xP4 xP5 xP6 xP7
        have HB8 := Lib.hid (HB7.out.trans ((hb).mono HB7.out.size))
        have P_8 := Lib.hid (P_7.out.below hb)
        have R_8 := Lib.hid (R_7.out.below hb)
        have T_8 := Lib.hid (T_7.out.below hb)
        clear hb HB7 P_7 R_7 T_7
        have xP0 := P_8.out.c0
        have xP1 := P_8.out.c1
        have xP2 := P_8.out.c2
        have xP3 := P_8.out.c3
        have xP4 := P_8.out.c4
        have xP5 := P_8.out.c5
        have xP6 := P_8.out.c6
        have xP7 := P_8.out.c7
        go_wp2
        go_ret
        exact ⟨rfl, HB8.out⟩
      · rw [if_neg gm] at H5
        go_enter Try.func8, Try.ntmps8
        have xP0 := HP.out.c0
        have xP1 := HP.out.c1
        have xP2 := HP.out.c2
        have xP3 := HP.out.c3
        have xP4 := HP.out.c4
        have xP5 := HP.out.c5
        have xP6 := HP.out.c6
        have xP7 := HP.out.c7
        go_wp2_with fail
        refine (HLg.out _).mono ?_
        rintro e w_ ⟨rfl, rfl⟩
        go_wp2_with fail
        refine (H1.out _ HR.out).mono ?_
        rintro e w1 ⟨B, rfl, hT, hb⟩
        clear xP0 xP1 xP2 xP3 xP4 xP5 xP6 xP7
        have HB1 := Lib.hid (HB0.out.trans ((hb).mono HB0.out.size))
        have P_1 := Lib.hid (HP.out.below hb)
        have R_1 := Lib.hid (HR.out.below hb)
        have T_1 := Lib.hid hT
        clear hb HP HR hT
        have xP0 := P_1.out.c0
        have xP1 := P_1.out.c1
        have xP2 := P_1.out.c2
        have xP3 := P_1.out.c3
        have xP4 := P_1.out.c4
        have xP5 := P_1.out.c5
        have xP6 := P_1.out.c6
        have xP7 := P_1.out.c7
        go_wp2_with fail
        refine (H2.out _ _ _ T_1.out).mono ?_
        rintro e w2 ⟨rfl, hb⟩
        clear xP0 xP1 xP2 xP3 xP4 xP5 xP6 xP7
        have HB2 := Lib.hid (HB1.out.trans ((hb).mono HB1.out.size))
        have P_2 := Lib.hid (P_1.out.below hb)
        have R_2 := Lib.hid (R_1.out.below hb)
        have T_2 := Lib.hid (T_1.out.below hb)
        clear hb HB1 P_1 R_1 T_1
        have xP0 := P_2.out.c0
        have xP1 := P_2.out.c1
        have xP2 := P_2.out.c2
        have xP3 := P_2.out.c3
        have xP4 := P_2.out.c4
        have xP5 := P_2.out.c5
        have xP6 := P_2.out.c6
        have xP7 := P_2.out.c7
        go_wp2_with fail
        refine (H3.out _ _ _ T_2.out).mono ?_
        rintro e w3 ⟨rfl, hb⟩
        clear xP0 xP1 xP2 xP3 xP4 xP5 xP6 xP7
        have HB3 := Lib.hid (HB2.out.trans ((hb).mono HB2.out.size))
        have P_3 := Lib.hid (P_2.out.below hb)
        have R_3 := Lib.hid (R_2.out.below hb)
        have T_3 := Lib.hid (T_2.out.below hb)
        clear hb HB2 P_2 R_2 T_2
        have xP0 := P_3.out.c0
        have xP1 := P_3.out.c1
        have xP2 := P_3.out.c2
        have xP3 := P_3.out.c3
        have xP4 := P_3.out.c4
        have xP5 := P_3.out.c5
        have xP6 := P_3.out.c6
        have xP7 := P_3.out.c7
        go_wp2_with fail
        refine (H4.out _ _ _ T_3.out).mono ?_
        rintro e w4 ⟨rfl, hb⟩
        clear xP0 xP1 xP2 xP3 xP4 xP5 xP6 xP7
        have HB4 := Lib.hid (HB3.out.trans ((hb).mono HB3.out.size))
        have P_4 := Lib.hid (P_3.out.below hb)
        have R_4 := Lib.hid (R_3.out.below hb)
        have T_4 := Lib.hid (T_3.out.below hb)
        clear hb HB3 P_3 R_3 T_3
        have xP0 := P_4.out.c0
        have xP1 := P_4.out.c1
        have xP2 := P_4.out.c2
        have xP3 := P_4.out.c3
        have xP4 := P_4.out.c4
        have xP5 := P_4.out.c5
        have xP6 := P_4.out.c6
        have xP7 := P_4.out.c7
        go_wp2_with fail
        refine (H6.out _).mono ?_
        rintro e w5 ⟨rfl, hb⟩
        clear xP0 xP1 xP2 xP3 xP4 xP5 xP6 xP7
        have HB5 := Lib.hid (HB4.out.trans ((hb).mono HB4.out.size))
        have P_5 := Lib.hid (P_4.out.below hb)
        have R_5 := Lib.hid (R_4.out.below hb)
        have T_5 := Lib.hid (T_4.out.below hb)
        clear hb HB4 P_4 R_4 T_4
        have xP0 := P_5.out.c0
        have xP1 := P_5.out.c1
        have xP2 := P_5.out.c2
        have xP3 := P_5.out.c3
        have xP4 := P_5.out.c4
        have xP5 := P_5.out.c5
        have xP6 := P_5.out.c6
        have xP7 := P_5.out.c7
        go_wp2_with fail
        refine (H7.out _).mono ?_
        rintro e w6 ⟨rfl, hb⟩
        clear xP0 xP1 xP2 xP3 xP4 xP5 xP6 xP7
        have HB6 := Lib.hid (HB5.out.trans ((hb).mono HB5.out.size))
        have P_6 := Lib.hid (P_5.out.below hb)
        have R_6 := Lib.hid (R_5.out.below hb)
        have T_6 := Lib.hid (T_5.out.below hb)
        clear hb HB5 P_5 R_5 T_5
        have xP0 := P_6.out.c0
        have xP1 := P_6.out.c1
        have xP2 := P_6.out.c2
        have xP3 := P_6.out.c3
        have xP4 := P_6.out.c4
        have xP5 := P_6.out.c5
        have xP6 := P_6.out.c6
        have xP7 := P_6.out.c7
        go_wp2_with fail
        refine (H5.out _ _ _ T_6.out).mono ?_
        rintro e w7 ⟨rfl, hb⟩
        clear xP0 xP1 xP2 xP3 xP4 xP5 xP6 xP7
        have HB7 := Lib.hid (HB6.out.trans ((hb).mono HB6.out.size))
        have P_7 := Lib.hid (P_6.out.below hb)
        have R_7 := Lib.hid (R_6.out.below hb)
        have T_7 := Lib.hid (T_6.out.below hb)
        clear hb HB6 P_6 R_6 T_6
        have xP0 := P_7.out.c0
        have xP1 := P_7.out.c1
        have xP2 := P_7.out.c2
        have xP3 := P_7.out.c3
        have xP4 := P_7.out.c4
        have xP5 := P_7.out.c5
        have xP6 := P_7.out.c6
        have xP7 := P_7.out.c7
        go_wp2_with fail
        refine (HLi.out _).mono ?_
        rintro e w8 ⟨rfl, hb⟩
        clear xP0 xP1 xP2 xP3 xP4 xP5 xP6 xP7
        have HB8 := Lib.hid (HB7.out.trans ((hb).mono HB7.out.size))
        have P_8 := Lib.hid (P_7.out.below hb)
        have R_8 := Lib.hid (R_7.out.below hb)
        have T_8 := Lib.hid (T_7.out.below hb)
        clear hb HB7 P_7 R_7 T_7
        have xP0 := P_8.out.c0
        have xP1 := P_8.out.c1
        have xP2 := P_8.out.c2
        have xP3 := P_8.out.c3
        have xP4 := P_8.out.c4
        have xP5 := P_8.out.c5
        have xP6 := P_8.out.c6
        have xP7 := P_8.out.c7
        go_wp2
        go_ret
        exact ⟨rfl, HB8.out⟩
    · have he' : ((crs bs L fr to_ kd dy).2.2 != 0) = true := by simpa using he
      rw [cnv_err (by decide) (by decide) he] at H3 H4
      clear hc hO hBd hR he
      generalize crs bs L fr to_ kd dy = cr at *
      obtain ⟨r1, r2, r3⟩ := cr
      dsimp only at H2 H3 H4 he'
      go_enter Try.func8, Try.ntmps8
      have xP0 := HP.out.c0
      have xP1 := HP.out.c1
      have xP2 := HP.out.c2
      have xP3 := HP.out.c3
      have xP4 := HP.out.c4
      have xP5 := HP.out.c5
      have xP6 := HP.out.c6
      have xP7 := HP.out.c7
      go_wp2_with fail
      refine (HLg.out _).mono ?_
      rintro e w_ ⟨rfl, rfl⟩
      go_wp2_with fail
      refine (H1.out _ HR.out).mono ?_
      rintro e w1 ⟨B, rfl, hT, hb⟩
      clear xP0 xP1 xP2 xP3 xP4 xP5 xP6 xP7
      have HB1 := Lib.hid (HB0.out.trans ((hb).mono HB0.out.size))
      have P_1 := Lib.hid (HP.out.below hb)
      have R_1 := Lib.hid (HR.out.below hb)
      have T_1 := Lib.hid hT
      clear hb HP HR hT
      have xP0 := P_1.out.c0
      have xP1 := P_1.out.c1
      have xP2 := P_1.out.c2
      have xP3 := P_1.out.c3
      have xP4 := P_1.out.c4
      have xP5 := P_1.out.c5
      have xP6 := P_1.out.c6
      have xP7 := P_1.out.c7
      go_wp2_with fail
      refine (H2.out _ _ _ T_1.out).mono ?_
      rintro e w2 ⟨rfl, hb⟩
      clear xP0 xP1 xP2 xP3 xP4 xP5 xP6 xP7
      have HB2 := Lib.hid (HB1.out.trans ((hb).mono HB1.out.size))
      have P_2 := Lib.hid (P_1.out.below hb)
      have R_2 := Lib.hid (R_1.out.below hb)
      have T_2 := Lib.hid (T_1.out.below hb)
      clear hb HB1 P_1 R_1 T_1
      have xP0 := P_2.out.c0
      have xP1 := P_2.out.c1
      have xP2 := P_2.out.c2
      have xP3 := P_2.out.c3
      have xP4 := P_2.out.c4
      have xP5 := P_2.out.c5
      have xP6 := P_2.out.c6
      have xP7 := P_2.out.c7
      go_wp2_with fail
      refine (H3.out _ _ _ T_2.out).mono ?_
      rintro e w3 ⟨rfl, hb⟩
      clear xP0 xP1 xP2 xP3 xP4 xP5 xP6 xP7
      have HB3 := Lib.hid (HB2.out.trans ((hb).mono HB2.out.size))
      have P_3 := Lib.hid (P_2.out.below hb)
      have R_3 := Lib.hid (R_2.out.below hb)
      have T_3 := Lib.hid (T_2.out.below hb)
      clear hb HB2 P_2 R_2 T_2
      have xP0 := P_3.out.c0
      have xP1 := P_3.out.c1
      have xP2 := P_3.out.c2
      have xP3 := P_3.out.c3
      have xP4 := P_3.out.c4
      have xP5 := P_3.out.c5
      have xP6 := P_3.out.c6
      have xP7 := P_3.out.c7
      go_wp2_with fail
      refine (H4.out _ _ _ T_3.out).mono ?_
      rintro e w4 ⟨rfl, hb⟩
      clear xP0 xP1 xP2 xP3 xP4 xP5 xP6 xP7
      have HB4 := Lib.hid (HB3.out.trans ((hb).mono HB3.out.size))
      have P_4 := Lib.hid (P_3.out.below hb)
      have R_4 := Lib.hid (R_3.out.below hb)
      have T_4 := Lib.hid (T_3.out.below hb)
      clear hb HB3 P_3 R_3 T_3
      have xP0 := P_4.out.c0
      have xP1 := P_4.out.c1
      have xP2 := P_4.out.c2
      have xP3 := P_4.out.c3
      have xP4 := P_4.out.c4
      have xP5 := P_4.out.c5
      have xP6 := P_4.out.c6
      have xP7 := P_4.out.c7
      go_wp2_with fail
      refine (HLi.out _).mono ?_
      rintro e w5 ⟨rfl, hb⟩
      clear xP0 xP1 xP2 xP3 xP4 xP5 xP6 xP7
      have HB5 := Lib.hid (HB4.out.trans ((hb).mono HB4.out.size))
      have P_5 := Lib.hid (P_4.out.below hb)
      have R_5 := Lib.hid (R_4.out.below hb)
      have T_5 := Lib.hid (T_4.out.below hb)
      clear hb HB4 P_4 R_4 T_4
      have xP0 := P_5.out.c0
      have xP1 := P_5.out.c1
      have xP2 := P_5.out.c2
      have xP3 := P_5.out.c3
      have xP4 := P_5.out.c4
      have xP5 := P_5.out.c5
      have xP6 := P_5.out.c6
      have xP7 := P_5.out.c7
      go_wp2
      go_ret
      exact ⟨rfl, HB5.out⟩
  · have H1 := Lib.hid (fun W hr => new_bad bs A cap L W hbs hr hBd hm hc)
    have hne : ((chk bs L).2 != 0) = true := by simpa using hc
    clear hc hBd hR
    generalize chk bs L = ck at *
    obtain ⟨k1, k2⟩ := ck
    dsimp only at H1 hne
    go_enter Try.func8, Try.ntmps8
    have xP0 := HP.out.c0
    have xP1 := HP.out.c1
    have xP2 := HP.out.c2
    have xP3 := HP.out.c3
    have xP4 := HP.out.c4
    have xP5 := HP.out.c5
    have xP6 := HP.out.c6
    have xP7 := HP.out.c7
    go_wp2_with fail
    refine (HLg.out _).mono ?_
    rintro e w_ ⟨rfl, rfl⟩
    go_wp2_with fail
    refine (H1.out _ HR.out).mono ?_
    rintro e w1 ⟨rfl, hb⟩
    clear xP0 xP1 xP2 xP3 xP4 xP5 xP6 xP7
    have HB1 := Lib.hid (HB0.out.trans ((hb).mono HB0.out.size))
    have P_1 := Lib.hid (HP.out.below hb)
    have R_1 := Lib.hid (HR.out.below hb)
    clear hb HP HR
    have xP0 := P_1.out.c0
    have xP1 := P_1.out.c1
    have xP2 := P_1.out.c2
    have xP3 := P_1.out.c3
    have xP4 := P_1.out.c4
    have xP5 := P_1.out.c5
    have xP6 := P_1.out.c6
    have xP7 := P_1.out.c7
    go_wp2_with fail
    refine (HLi.out _).mono ?_
    rintro e w2 ⟨rfl, hb⟩
    clear xP0 xP1 xP2 xP3 xP4 xP5 xP6 xP7
    have HB2 := Lib.hid (HB1.out.trans ((hb).mono HB1.out.size))
    have P_2 := Lib.hid (P_1.out.below hb)
    have R_2 := Lib.hid (R_1.out.below hb)
    clear hb HB1 P_1 R_1
    have xP0 := P_2.out.c0
    have xP1 := P_2.out.c1
    have xP2 := P_2.out.c2
    have xP3 := P_2.out.c3
    have xP4 := P_2.out.c4
    have xP5 := P_2.out.c5
    have xP6 := P_2.out.c6
    have xP7 := P_2.out.c7
    go_wp2
    go_ret
    exact ⟨rfl, HB2.out⟩
end Go.Proofs.Ytdeoplbdgbgimaa
