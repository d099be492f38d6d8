/- The walk of SheetGroup. Written by wip/mk_sin.py. -/
import Derived.Test.YtenhnnfemehbcaaSiN
namespace Go.Proofs.Ytenhnnfemehbcaa
open Go.RowKit Go.Sort
set_option linter.unusedVariables false
set_option linter.unusedSimpArgs false

theorem grp_none {X : List Cl} (h : rightB X = true) : sbE X X = 0 ∧ sbL X X = [] := by
  obtain ⟨e1, e2⟩ := of_eqs (eqs_neg X)
  unfold sbE sbL adB
  rw [h, e1, e2]
  exact ⟨rfl, rfl⟩
theorem grp_comm {X Y : List Cl} (hX : rightB X = true) (hY : rightB Y = true) : adE Y X = adE X Y ∧ adL Y X = adL X Y := by
  obtain ⟨e1, e2⟩ := of_perm (List.perm_append_comm (l₁ := Y) (l₂ := X))
  unfold adE adL adB
  rw [hX, hY, e1, e2]
  exact ⟨rfl, rfl⟩
theorem ad_right {X Y : List Cl} : rightB (adL X Y) = true := by
  unfold adL
  split
  · exact ofL_right _
  · rfl
theorem ad_two {X Y : List Cl} (hX : rightB X = true) (hY : rightB Y = true) : adE X Y = 0 ∨ adE X Y = 4 := by
  unfold adE adB
  rw [hX, hY]
  exact ofE_two _
theorem grp_back {X Y : List Cl} (hX : rightB X = true) (hY : rightB Y = true) (h : adE X Y = 0) : sbE (adL X Y) Y = 0 ∧ sbL (adL X Y) Y = X := by
  have hr := ad_right (X := X) (Y := Y)
  have e1 : adL X Y = ofL (X ++ Y) := by unfold adL adB; rw [hX, hY]; rfl
  have e2 : ofE (X ++ Y) = 0 := by unfold adE adB at h; rw [hX, hY] at h; exact h
  rw [e1] at hr ⊢
  have q := eqs_back (ofL_eqs e2)
  obtain ⟨o1, o2⟩ := of_eqs q
  obtain ⟨o3, o4⟩ := sht_of (right_sht hX)
  unfold sbE sbL adB
  rw [hr, hY, o1, o2, o3, o4]
  exact ⟨rfl, rfl⟩
set_option maxRecDepth 100000 in
set_option maxHeartbeats 4000000 in
theorem sheetGroup_walk (A : Option Addr) (lenA ca : Nat) (L : List Cl) (B : Option Addr) (lenB cb : Nat) (M : List Cl) (w : World) (hA : OkS w A lenA L) (hB : OkS w B lenB M) :
    Calls Try.prog 7 #[.slice A lenA ca, .slice B lenB cb] w fun e w' => e = .returned (.bool true) ∧ Below w.heap.size w w' := by
  obtain ⟨rfl, rA, bA, lA⟩ := hA
  obtain ⟨rfl, rB, bB, lB⟩ := hB
  have HLa := Lib.hid (fun W => large_any A L.length ca W lA)
  have HLb := Lib.hid (fun W => large_any B M.length cb W lB)
  have HRA := Lib.hid rA
  have HRB := Lib.hid rB
  have HLi := Lib.hid lives_any
  clear rA rB
  by_cases g1 : 300 < (L.length : Int)
  · rw [decide_eq_true g1] at HLa
    go_enter Try.func7, Try.ntmps7
    go_wp2_with fail
    refine (HLa.out _).mono ?_
    rintro e w_ ⟨rfl, rfl⟩
    go_wp2
    go_ret
    exact ⟨rfl, Below.refl _ _⟩
  rw [decide_eq_false g1] at HLa
  by_cases g2 : 300 < (M.length : Int)
  · rw [decide_eq_true g2] at HLb
    go_enter Try.func7, Try.ntmps7
    go_wp2_with fail
    refine (HLa.out _).mono ?_
    rintro e w_ ⟨rfl, rfl⟩
    go_wp2_with fail
    refine (HLb.out _).mono ?_
    rintro e w_ ⟨rfl, rfl⟩
    go_wp2
    go_ret
    exact ⟨rfl, Below.refl _ _⟩
  rw [decide_eq_false g2] at HLb
  have HO1 := Lib.hid (fun W (hr : RowS W A L) => of_any A ca L W hr bA (by omega))
  have HO2 := Lib.hid (fun W (hr : RowS W B M) => of_any B cb M W hr bB (by omega))
  have hX := ofL_right L
  have hY := ofL_right M
  have lX := ofL_len L
  have lY := ofL_len M
  have eL := ofE_two L
  have eM := ofE_two M
  generalize ofL L = X at *
  generalize ofL M = Y at *
  generalize ofE L = E at *
  generalize ofE M = F at *
  clear bA bB lA lB
  rcases eL with rfl | rfl
  rotate_left
  · skip
    go_enter Try.func7, Try.ntmps7
    go_wp2_with fail
    refine (HLa.out _).mono ?_
    rintro e w_ ⟨rfl, rfl⟩
    go_wp2_with fail
    refine (HLb.out _).mono ?_
    rintro e w_ ⟨rfl, rfl⟩
    go_wp2_with fail
    refine (HO1.out _ HRA.out).mono ?_
    rintro e w1 ⟨v1, rfl, ho, hb⟩
    obtain ⟨xa, xc, rfl, hr, hnX⟩ := ho.shape2
    have HB1 := Lib.hid (hb)
    have A_1 := Lib.hid (HRA.out.below hb)
    have B_1 := Lib.hid (HRB.out.below hb)
    have X_1 := Lib.hid hr
    clear ho hr hb HRA HRB
    go_wp2_with fail
    refine (HO2.out _ B_1.out).mono ?_
    rintro e w2 ⟨v2, rfl, ho, hb⟩
    obtain ⟨ya, yc, rfl, hr, hnY⟩ := ho.shape2
    have HB2 := Lib.hid (HB1.out.trans ((hb).mono HB1.out.size))
    have A_2 := Lib.hid (A_1.out.below hb)
    have B_2 := Lib.hid (B_1.out.below hb)
    have X_2 := Lib.hid (X_1.out.below hb)
    have Y_2 := Lib.hid hr
    clear ho hr hb HB1 A_1 B_1 X_1
    go_wp2_with fail
    refine (HLi.out _).mono ?_
    rintro e w3 ⟨rfl, hb⟩
    have HB3 := Lib.hid (HB2.out.trans ((hb).mono HB2.out.size))
    have A_3 := Lib.hid (A_2.out.below hb)
    have B_3 := Lib.hid (B_2.out.below hb)
    have X_3 := Lib.hid (X_2.out.below hb)
    have Y_3 := Lib.hid (Y_2.out.below hb)
    clear hb HB2 A_2 B_2 X_2 Y_2
    go_wp2
    go_ret
    exact ⟨rfl, HB3.out⟩
  rcases eM with rfl | rfl
  rotate_left
  · skip
    go_enter Try.func7, Try.ntmps7
    go_wp2_with fail
    refine (HLa.out _).mono ?_
    rintro e w_ ⟨rfl, rfl⟩
    go_wp2_with fail
    refine (HLb.out _).mono ?_
    rintro e w_ ⟨rfl, rfl⟩
    go_wp2_with fail
    refine (HO1.out _ HRA.out).mono ?_
    rintro e w1 ⟨v1, rfl, ho, hb⟩
    obtain ⟨xa, xc, rfl, hr, hnX⟩ := ho.shape2
    have HB1 := Lib.hid (hb)
    have A_1 := Lib.hid (HRA.out.below hb)
    have B_1 := Lib.hid (HRB.out.below hb)
    have X_1 := Lib.hid hr
    clear ho hr hb HRA HRB
    go_wp2_with fail
    refine (HO2.out _ B_1.out).mono ?_
    rintro e w2 ⟨v2, rfl, ho, hb⟩
    obtain ⟨ya, yc, rfl, hr, hnY⟩ := ho.shape2
    have HB2 := Lib.hid (HB1.out.trans ((hb).mono HB1.out.size))
    have A_2 := Lib.hid (A_1.out.below hb)
    have B_2 := Lib.hid (B_1.out.below hb)
    have X_2 := Lib.hid (X_1.out.below hb)
    have Y_2 := Lib.hid hr
    clear ho hr hb HB1 A_1 B_1 X_1
    go_wp2_with fail
    refine (HLi.out _).mono ?_
    rintro e w3 ⟨rfl, hb⟩
    have HB3 := Lib.hid (HB2.out.trans ((hb).mono HB2.out.size))
    have A_3 := Lib.hid (A_2.out.below hb)
    have B_3 := Lib.hid (B_2.out.below hb)
    have X_3 := Lib.hid (X_2.out.below hb)
    have Y_3 := Lib.hid (Y_2.out.below hb)
    clear hb HB2 A_2 B_2 X_2 Y_2
    go_wp2
    go_ret
    exact ⟨rfl, HB3.out⟩
  have dX := sht_bd hX
  have dY := sht_bd hY
  have HS0 := Lib.hid (fun xa xc W (h1 : RowS W xa X) n1 => sub_any xa xc X xa xc X W h1 h1 n1 n1 dX dX (by omega) (by omega))
  rw [(grp_none hX).1, (grp_none hX).2] at HS0
  have HA1 := Lib.hid (fun xa xc ya yc W (h1 : RowS W xa X) (h2 : RowS W ya Y) n1 n2 => add_any xa xc X ya yc Y W h1 h2 n1 n2 dX dY (by omega) (by omega))
  have HA2 := Lib.hid (fun xa xc ya yc W (h1 : RowS W xa X) (h2 : RowS W ya Y) n1 n2 => add_any ya yc Y xa xc X W h2 h1 n2 n1 dY dX (by omega) (by omega))
  rw [(grp_comm hX hY).1, (grp_comm hX hY).2] at HA2
  have hS := ad_right (X := X) (Y := Y)
  have lS := ad_len X Y
  have hSame : ∀ Z : List Cl, Z.length ≤ 10000 → ∀ ao co bo cp (W : World), RowS W ao Z → RowS W bo Z → Calls Try.prog 20 #[.slice ao Z.length co, .slice bo Z.length cp] W fun e w' => e = .returned (.bool true) ∧ Below W.heap.size W w' := fun Z hZ ao co bo cp W h1 h2 => by
    have q := rSame_any ao bo co cp Z Z W h1 h2 hZ hZ
    rw [show smB Z Z = true from decide_eq_true rfl] at q
    exact q
  have HSs := Lib.hid (hSame (adL X Y) (by omega))
  rcases ad_two hX hY with hE | hE
  rotate_left
  · rw [hE] at HA1 HA2
    generalize adL X Y = S at *
    clear hSame hE hS lS lX lY dX dY hX hY
    go_enter Try.func7, Try.ntmps7
    go_wp2_with fail
    refine (HLa.out _).mono ?_
    rintro e w_ ⟨rfl, rfl⟩
    go_wp2_with fail
    refine (HLb.out _).mono ?_
    rintro e w_ ⟨rfl, rfl⟩
    go_wp2_with fail
    refine (HO1.out _ HRA.out).mono ?_
    rintro e w1 ⟨v1, rfl, ho, hb⟩
    obtain ⟨xa, xc, rfl, hr, hnX⟩ := ho.shape2
    have HB1 := Lib.hid (hb)
    have A_1 := Lib.hid (HRA.out.below hb)
    have B_1 := Lib.hid (HRB.out.below hb)
    have X_1 := Lib.hid hr
    clear ho hr hb HRA HRB
    go_wp2_with fail
    refine (HO2.out _ B_1.out).mono ?_
    rintro e w2 ⟨v2, rfl, ho, hb⟩
    obtain ⟨ya, yc, rfl, hr, hnY⟩ := ho.shape2
    have HB2 := Lib.hid (HB1.out.trans ((hb).mono HB1.out.size))
    have A_2 := Lib.hid (A_1.out.below hb)
    have B_2 := Lib.hid (B_1.out.below hb)
    have X_2 := Lib.hid (X_1.out.below hb)
    have Y_2 := Lib.hid hr
    clear ho hr hb HB1 A_1 B_1 X_1
    go_wp2_with fail
    refine (HS0.out xa xc _ X_2.out hnX).mono ?_
    rintro e w3 ⟨v3, rfl, ho, hb⟩
    obtain ⟨na, nc, rfl, hr, hnN⟩ := ho.shape2
    have HB3 := Lib.hid (HB2.out.trans ((hb).mono HB2.out.size))
    have A_3 := Lib.hid (A_2.out.below hb)
    have B_3 := Lib.hid (B_2.out.below hb)
    have X_3 := Lib.hid (X_2.out.below hb)
    have Y_3 := Lib.hid (Y_2.out.below hb)
    have N_3 := Lib.hid hr
    clear ho hr hb HB2 A_2 B_2 X_2 Y_2
    go_wp2_with fail
    refine (HA1.out xa xc ya yc _ X_3.out Y_3.out hnX hnY).mono ?_
    rintro e w4 ⟨v4, rfl, ho, hb⟩
    obtain ⟨sa, sc, rfl, hr, hnS⟩ := ho.shape2
    have HB4 := Lib.hid (HB3.out.trans ((hb).mono HB3.out.size))
    have A_4 := Lib.hid (A_3.out.below hb)
    have B_4 := Lib.hid (B_3.out.below hb)
    have X_4 := Lib.hid (X_3.out.below hb)
    have Y_4 := Lib.hid (Y_3.out.below hb)
    have N_4 := Lib.hid (N_3.out.below hb)
    have S_4 := Lib.hid hr
    clear ho hr hb HB3 A_3 B_3 X_3 Y_3 N_3
    go_wp2_with fail
    refine (HA2.out xa xc ya yc _ X_4.out Y_4.out hnX hnY).mono ?_
    rintro e w5 ⟨v5, rfl, ho, hb⟩
    obtain ⟨ta, tc, rfl, hr, hnT⟩ := ho.shape2
    have HB5 := Lib.hid (HB4.out.trans ((hb).mono HB4.out.size))
    have A_5 := Lib.hid (A_4.out.below hb)
    have B_5 := Lib.hid (B_4.out.below hb)
    have X_5 := Lib.hid (X_4.out.below hb)
    have Y_5 := Lib.hid (Y_4.out.below hb)
    have N_5 := Lib.hid (N_4.out.below hb)
    have S_5 := Lib.hid (S_4.out.below hb)
    have T_5 := Lib.hid hr
    clear ho hr hb HB4 A_4 B_4 X_4 Y_4 N_4 S_4
    go_wp2_with fail
    refine (HSs.out sa sc ta tc _ S_5.out T_5.out).mono ?_
    rintro e w6 ⟨rfl, hb⟩
    have HB6 := Lib.hid (HB5.out.trans ((hb).mono HB5.out.size))
    have A_6 := Lib.hid (A_5.out.below hb)
    have B_6 := Lib.hid (B_5.out.below hb)
    have X_6 := Lib.hid (X_5.out.below hb)
    have Y_6 := Lib.hid (Y_5.out.below hb)
    have N_6 := Lib.hid (N_5.out.below hb)
    have S_6 := Lib.hid (S_5.out.below hb)
    have T_6 := Lib.hid (T_5.out.below hb)
    clear hb HB5 A_5 B_5 X_5 Y_5 N_5 S_5 T_5
    go_wp2_with fail
    refine (HLi.out _).mono ?_
    rintro e w7 ⟨rfl, hb⟩
    have HB7 := Lib.hid (HB6.out.trans ((hb).mono HB6.out.size))
    have A_7 := Lib.hid (A_6.out.below hb)
    have B_7 := Lib.hid (B_6.out.below hb)
    have X_7 := Lib.hid (X_6.out.below hb)
    have Y_7 := Lib.hid (Y_6.out.below hb)
    have N_7 := Lib.hid (N_6.out.below hb)
    have S_7 := Lib.hid (S_6.out.below hb)
    have T_7 := Lib.hid (T_6.out.below hb)
    clear hb HB6 A_6 B_6 X_6 Y_6 N_6 S_6 T_6
    go_wp2
    go_ret
    exact ⟨rfl, HB7.out⟩
  have dS := sht_bd hS
  have HB1 := Lib.hid (fun sa sc ya yc W (h1 : RowS W sa (adL X Y)) (h2 : RowS W ya Y) n1 n2 => sub_any sa sc (adL X Y) ya yc Y W h1 h2 n1 n2 dS dY (by omega) (by omega))
  rw [(grp_back hX hY hE).1, (grp_back hX hY hE).2] at HB1
  have HSx := Lib.hid (hSame X (by omega))
  rw [hE] at HA1 HA2
  generalize adL X Y = S at *
  clear hSame hE hS lS lX lY dX dY dS hX hY
  go_enter Try.func7, Try.ntmps7
  go_wp2_with fail
  refine (HLa.out _).mono ?_
  rintro e w_ ⟨rfl, rfl⟩
  go_wp2_with fail
  refine (HLb.out _).mono ?_
  rintro e w_ ⟨rfl, rfl⟩
  go_wp2_with fail
  refine (HO1.out _ HRA.out).mono ?_
  rintro e w1 ⟨v1, rfl, ho, hb⟩
  obtain ⟨xa, xc, rfl, hr, hnX⟩ := ho.shape2
  have HB1 := Lib.hid (hb)
  have A_1 := Lib.hid (HRA.out.below hb)
  have B_1 := Lib.hid (HRB.out.below hb)
  have X_1 := Lib.hid hr
  clear ho hr hb HRA HRB
  go_wp2_with fail
  refine (HO2.out _ B_1.out).mono ?_
  rintro e w2 ⟨v2, rfl, ho, hb⟩
  obtain ⟨ya, yc, rfl, hr, hnY⟩ := ho.shape2
  have HB2 := Lib.hid (HB1.out.trans ((hb).mono HB1.out.size))
  have A_2 := Lib.hid (A_1.out.below hb)
  have B_2 := Lib.hid (B_1.out.below hb)
  have X_2 := Lib.hid (X_1.out.below hb)
  have Y_2 := Lib.hid hr
  clear ho hr hb HB1 A_1 B_1 X_1
  go_wp2_with fail
  refine (HS0.out xa xc _ X_2.out hnX).mono ?_
  rintro e w3 ⟨v3, rfl, ho, hb⟩
  obtain ⟨na, nc, rfl, hr, hnN⟩ := ho.shape2
  have HB3 := Lib.hid (HB2.out.trans ((hb).mono HB2.out.size))
  have A_3 := Lib.hid (A_2.out.below hb)
  have B_3 := Lib.hid (B_2.out.below hb)
  have X_3 := Lib.hid (X_2.out.below hb)
  have Y_3 := Lib.hid (Y_2.out.below hb)
  have N_3 := Lib.hid hr
  clear ho hr hb HB2 A_2 B_2 X_2 Y_2
  go_wp2_with fail
  refine (HA1.out xa xc ya yc _ X_3.out Y_3.out hnX hnY).mono ?_
  rintro e w4 ⟨v4, rfl, ho, hb⟩
  obtain ⟨sa, sc, rfl, hr, hnS⟩ := ho.shape2
  have HB4 := Lib.hid (HB3.out.trans ((hb).mono HB3.out.size))
  have A_4 := Lib.hid (A_3.out.below hb)
  have B_4 := Lib.hid (B_3.out.below hb)
  have X_4 := Lib.hid (X_3.out.below hb)
  have Y_4 := Lib.hid (Y_3.out.below hb)
  have N_4 := Lib.hid (N_3.out.below hb)
  have S_4 := Lib.hid hr
  clear ho hr hb HB3 A_3 B_3 X_3 Y_3 N_3
  go_wp2_with fail
  refine (HA2.out xa xc ya yc _ X_4.out Y_4.out hnX hnY).mono ?_
  rintro e w5 ⟨v5, rfl, ho, hb⟩
  obtain ⟨ta, tc, rfl, hr, hnT⟩ := ho.shape2
  have HB5 := Lib.hid (HB4.out.trans ((hb).mono HB4.out.size))
  have A_5 := Lib.hid (A_4.out.below hb)
  have B_5 := Lib.hid (B_4.out.below hb)
  have X_5 := Lib.hid (X_4.out.below hb)
  have Y_5 := Lib.hid (Y_4.out.below hb)
  have N_5 := Lib.hid (N_4.out.below hb)
  have S_5 := Lib.hid (S_4.out.below hb)
  have T_5 := Lib.hid hr
  clear ho hr hb HB4 A_4 B_4 X_4 Y_4 N_4 S_4
  go_wp2_with fail
  refine (HSs.out sa sc ta tc _ S_5.out T_5.out).mono ?_
  rintro e w6 ⟨rfl, hb⟩
  have HB6 := Lib.hid (HB5.out.trans ((hb).mono HB5.out.size))
  have A_6 := Lib.hid (A_5.out.below hb)
  have B_6 := Lib.hid (B_5.out.below hb)
  have X_6 := Lib.hid (X_5.out.below hb)
  have Y_6 := Lib.hid (Y_5.out.below hb)
  have N_6 := Lib.hid (N_5.out.below hb)
  have S_6 := Lib.hid (S_5.out.below hb)
  have T_6 := Lib.hid (T_5.out.below hb)
  clear hb HB5 A_5 B_5 X_5 Y_5 N_5 S_5 T_5
  go_wp2_with fail
  refine (HB1.out sa sc ya yc _ S_6.out Y_6.out hnS hnY).mono ?_
  rintro e w7 ⟨v7, rfl, ho, hb⟩
  obtain ⟨da, dc, rfl, hr, hnD⟩ := ho.shape2
  have HB7 := Lib.hid (HB6.out.trans ((hb).mono HB6.out.size))
  have A_7 := Lib.hid (A_6.out.below hb)
  have B_7 := Lib.hid (B_6.out.below hb)
  have X_7 := Lib.hid (X_6.out.below hb)
  have Y_7 := Lib.hid (Y_6.out.below hb)
  have N_7 := Lib.hid (N_6.out.below hb)
  have S_7 := Lib.hid (S_6.out.below hb)
  have T_7 := Lib.hid (T_6.out.below hb)
  have D_7 := Lib.hid hr
  clear ho hr hb HB6 A_6 B_6 X_6 Y_6 N_6 S_6 T_6
  go_wp2_with fail
  refine (HSx.out da dc xa xc _ D_7.out X_7.out).mono ?_
  rintro e w8 ⟨rfl, hb⟩
  have HB8 := Lib.hid (HB7.out.trans ((hb).mono HB7.out.size))
  have A_8 := Lib.hid (A_7.out.below hb)
  have B_8 := Lib.hid (B_7.out.below hb)
  have X_8 := Lib.hid (X_7.out.below hb)
  have Y_8 := Lib.hid (Y_7.out.below hb)
  have N_8 := Lib.hid (N_7.out.below hb)
  have S_8 := Lib.hid (S_7.out.below hb)
  have T_8 := Lib.hid (T_7.out.below hb)
  have D_8 := Lib.hid (D_7.out.below hb)
  clear hb HB7 A_7 B_7 X_7 Y_7 N_7 S_7 T_7 D_7
  go_wp2_with fail
  refine (HLi.out _).mono ?_
  rintro e w9 ⟨rfl, hb⟩
  have HB9 := Lib.hid (HB8.out.trans ((hb).mono HB8.out.size))
  have A_9 := Lib.hid (A_8.out.below hb)
  have B_9 := Lib.hid (B_8.out.below hb)
  have X_9 := Lib.hid (X_8.out.below hb)
  have Y_9 := Lib.hid (Y_8.out.below hb)
  have N_9 := Lib.hid (N_8.out.below hb)
  have S_9 := Lib.hid (S_8.out.below hb)
  have T_9 := Lib.hid (T_8.out.below hb)
  have D_9 := Lib.hid (D_8.out.below hb)
  clear hb HB8 A_8 B_8 X_8 Y_8 N_8 S_8 T_8 D_8
  go_wp2
  go_ret
  exact ⟨rfl, HB9.out⟩
end Go.Proofs.Ytenhnnfemehbcaa
