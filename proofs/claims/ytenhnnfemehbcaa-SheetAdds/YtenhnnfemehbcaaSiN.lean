/- The walk of SheetAdds. Written by wip/mk_sin.py. -/
import Derived.Test.YtenhnnfemehbcaaSiL
namespace Go.Proofs.Ytenhnnfemehbcaa
open Go.RowKit Go.Sort
set_option linter.unusedVariables false
set_option linter.unusedSimpArgs false

open Go.ChangeShapes Go.WideShapes Go.Deep
/-- a slice that came in without a block has no room. -/
theorem rowN_of {H : Type} {enc : TypeId × Value → H} {w : World} {base : Nat} {spare : Nat → Bool} {held : Bool} {A : Option Addr} {len cap : Nat} {d : DataW H} {p : List MemPlace}
    (h : DataW.Trod enc Try.prog w base spare held 28 (.slice A len cap) d p) : A = none → cap = 0 := by
  obtain ⟨fuel, hf⟩ := h
  rcases open_slice Try.underlying28 hf with ⟨hcs, _⟩ | ⟨a, l, c, m, n, D, Pl, hcs, _⟩
  · simp [Value.cells] at hcs
    intro _
    exact hcs.2.2
  · simp [Value.cells] at hcs
    obtain ⟨rfl, _⟩ := hcs
    intro z; cases z
theorem ad_len (L M : List Cl) : (adL L M).length ≤ L.length + M.length := by
  unfold adL
  split
  · exact Nat.le_trans (ofL_len _) (by rw [List.length_append]; omega)
  · simp
theorem sb_len (L M : List Cl) : (sbL L M).length ≤ L.length + M.length := by
  unfold sbL
  split
  · exact Nat.le_trans (ofL_len _) (by rw [List.length_append, List.length_map]; omega)
  · simp
theorem ngL_len (L : List Cl) : (ngL L).length ≤ L.length := by
  unfold ngL
  split
  · rw [List.length_map]; omega
  · simp
set_option maxRecDepth 100000 in
set_option maxHeartbeats 4000000 in
theorem sheetAdds_walk (A : Option Addr) (lenA ca : Nat) (L : List Cl) (B : Option Addr) (lenB cb : Nat) (M : List Cl) (w : World) (hA : OkS w A lenA L) (nA : A = none → ca = 0) (hB : OkS w B lenB M) (nB : B = none → cb = 0) :
    Calls Try.prog 6 #[.slice A lenA ca, .slice B lenB cb] w fun e w' => e = .returned (.bool true) ∧ Below w.heap.size w w' := by
  obtain ⟨rfl, rA, bA, lA⟩ := hA
  obtain ⟨rfl, rB, bB, lB⟩ := hB
  have HLa := Lib.hid (fun W => large_any A L.length ca W lA)
  have HLb := Lib.hid (fun W => large_any B M.length cb W lB)
  have HRA := Lib.hid rA
  have HRB := Lib.hid rB
  have HLi := Lib.hid lives_any
  clear rA rB
  by_cases g1 : 300 < (L.length : Int)
  · rw [decide_eq_true g1] at HLa
    go_enter Try.func6, Try.ntmps6
    go_wp2_with fail
    refine (HLa.out _).mono ?_
    rintro e w_ ⟨rfl, rfl⟩
    go_wp2
    go_ret
    exact ⟨rfl, Below.refl _ _⟩
  rw [decide_eq_false g1] at HLa
  by_cases g2 : 300 < (M.length : Int)
  · rw [decide_eq_true g2] at HLb
    go_enter Try.func6, Try.ntmps6
    go_wp2_with fail
    refine (HLa.out _).mono ?_
    rintro e w_ ⟨rfl, rfl⟩
    go_wp2_with fail
    refine (HLb.out _).mono ?_
    rintro e w_ ⟨rfl, rfl⟩
    go_wp2
    go_ret
    exact ⟨rfl, Below.refl _ _⟩
  rw [decide_eq_false g2] at HLb
  have HA1 := Lib.hid (fun W (h1 : RowS W A L) (h2 : RowS W B M) => add_any A ca L B cb M W h1 h2 nA nB bA bB (by omega) (by omega))
  have HA2 := Lib.hid (fun W (h1 : RowS W A L) (h2 : RowS W B M) => rAdd_any A ca L B cb M W h1 h2 nA nB bA bB (by omega) (by omega))
  have HS1 := Lib.hid (fun W (h1 : RowS W A L) (h2 : RowS W B M) => sub_any A ca L B cb M W h1 h2 nA nB bA bB (by omega) (by omega))
  have HS2 := Lib.hid (fun W (h1 : RowS W A L) (h2 : RowS W B M) => rSub_any A ca L B cb M W h1 h2 nA nB bA bB (by omega) (by omega))
  have HN1 := Lib.hid (fun W (h1 : RowS W A L) => neg_any A ca L W h1 bA (by omega))
  have HN2 := Lib.hid (fun W (h1 : RowS W A L) => rNeg_any A ca L W h1 bA (by omega))
  have x1 := ad_len L M
  have x2 := sb_len L M
  have x3 := ngL_len L
  generalize adL L M = X at *
  generalize adE L M = E at *
  generalize sbL L M = Y at *
  generalize sbE L M = F at *
  generalize ngL L = Z at *
  generalize ngE L = G at *
  have hSame : ∀ Z : List Cl, Z.length ≤ 10000 → ∀ ao co bo cp (W : World), RowS W ao Z → RowS W bo Z → Calls Try.prog 20 #[.slice ao Z.length co, .slice bo Z.length cp] W fun e w' => e = .returned (.bool true) ∧ Below W.heap.size W w' := fun Z hZ ao co bo cp W h1 h2 => by
    have q := rSame_any ao bo co cp Z Z W h1 h2 hZ hZ
    rw [show smB Z Z = true from decide_eq_true rfl] at q
    exact q
  have HSx := Lib.hid (hSame X (by omega))
  have HSy := Lib.hid (hSame Y (by omega))
  have HSz := Lib.hid (hSame Z (by omega))
  clear hSame x1 x2 x3 bA bB nA nB lA lB
  go_enter Try.func6, Try.ntmps6
  go_wp2_with fail
  refine (HLa.out _).mono ?_
  rintro e w_ ⟨rfl, rfl⟩
  go_wp2_with fail
  refine (HLb.out _).mono ?_
  rintro e w_ ⟨rfl, rfl⟩
  go_wp2_with fail
  refine (HA1.out _ HRA.out HRB.out).mono ?_
  rintro e w1 ⟨v1, rfl, ho, hb⟩
  obtain ⟨xa, xc, rfl, hr, hnX⟩ := ho.shape2
  have HB1 := Lib.hid (hb)
  have A_1 := Lib.hid (HRA.out.below hb)
  have B_1 := Lib.hid (HRB.out.below hb)
  have X_1 := Lib.hid hr
  clear ho hr hb HRA HRB
  go_wp2_with fail
  refine (HA2.out _ A_1.out B_1.out).mono ?_
  rintro e w2 ⟨v2, rfl, ho, hb⟩
  obtain ⟨ua, uc, rfl, hr, hnU⟩ := ho.shape2
  have HB2 := Lib.hid (HB1.out.trans ((hb).mono HB1.out.size))
  have A_2 := Lib.hid (A_1.out.below hb)
  have B_2 := Lib.hid (B_1.out.below hb)
  have X_2 := Lib.hid (X_1.out.below hb)
  have U_2 := Lib.hid hr
  clear ho hr hb HB1 A_1 B_1 X_1
  go_wp2_with fail
  refine (HSx.out xa xc ua uc _ X_2.out U_2.out).mono ?_
  rintro e w3 ⟨rfl, hb⟩
  have HB3 := Lib.hid (HB2.out.trans ((hb).mono HB2.out.size))
  have A_3 := Lib.hid (A_2.out.below hb)
  have B_3 := Lib.hid (B_2.out.below hb)
  have X_3 := Lib.hid (X_2.out.below hb)
  have U_3 := Lib.hid (U_2.out.below hb)
  clear hb HB2 A_2 B_2 X_2 U_2
  go_wp2_with fail
  refine (HLi.out _).mono ?_
  rintro e w4 ⟨rfl, hb⟩
  have HB4 := Lib.hid (HB3.out.trans ((hb).mono HB3.out.size))
  have A_4 := Lib.hid (A_3.out.below hb)
  have B_4 := Lib.hid (B_3.out.below hb)
  have X_4 := Lib.hid (X_3.out.below hb)
  have U_4 := Lib.hid (U_3.out.below hb)
  clear hb HB3 A_3 B_3 X_3 U_3
  go_wp2_with fail
  refine (HS1.out _ A_4.out B_4.out).mono ?_
  rintro e w5 ⟨v5, rfl, ho, hb⟩
  obtain ⟨ya, yc, rfl, hr, hnY⟩ := ho.shape2
  have HB5 := Lib.hid (HB4.out.trans ((hb).mono HB4.out.size))
  have A_5 := Lib.hid (A_4.out.below hb)
  have B_5 := Lib.hid (B_4.out.below hb)
  have X_5 := Lib.hid (X_4.out.below hb)
  have U_5 := Lib.hid (U_4.out.below hb)
  have Y_5 := Lib.hid hr
  clear ho hr hb HB4 A_4 B_4 X_4 U_4
  go_wp2_with fail
  refine (HS2.out _ A_5.out B_5.out).mono ?_
  rintro e w6 ⟨v6, rfl, ho, hb⟩
  obtain ⟨va, vc, rfl, hr, hnV⟩ := ho.shape2
  have HB6 := Lib.hid (HB5.out.trans ((hb).mono HB5.out.size))
  have A_6 := Lib.hid (A_5.out.below hb)
  have B_6 := Lib.hid (B_5.out.below hb)
  have X_6 := Lib.hid (X_5.out.below hb)
  have U_6 := Lib.hid (U_5.out.below hb)
  have Y_6 := Lib.hid (Y_5.out.below hb)
  have V_6 := Lib.hid hr
  clear ho hr hb HB5 A_5 B_5 X_5 U_5 Y_5
  go_wp2_with fail
  refine (HSy.out ya yc va vc _ Y_6.out V_6.out).mono ?_
  rintro e w7 ⟨rfl, hb⟩
  have HB7 := Lib.hid (HB6.out.trans ((hb).mono HB6.out.size))
  have A_7 := Lib.hid (A_6.out.below hb)
  have B_7 := Lib.hid (B_6.out.below hb)
  have X_7 := Lib.hid (X_6.out.below hb)
  have U_7 := Lib.hid (U_6.out.below hb)
  have Y_7 := Lib.hid (Y_6.out.below hb)
  have V_7 := Lib.hid (V_6.out.below hb)
  clear hb HB6 A_6 B_6 X_6 U_6 Y_6 V_6
  go_wp2_with fail
  refine (HN1.out _ A_7.out).mono ?_
  rintro e w8 ⟨v8, rfl, ho, hb⟩
  obtain ⟨za, zc, rfl, hr, hnZ⟩ := ho.shape2
  have HB8 := Lib.hid (HB7.out.trans ((hb).mono HB7.out.size))
  have A_8 := Lib.hid (A_7.out.below hb)
  have B_8 := Lib.hid (B_7.out.below hb)
  have X_8 := Lib.hid (X_7.out.below hb)
  have U_8 := Lib.hid (U_7.out.below hb)
  have Y_8 := Lib.hid (Y_7.out.below hb)
  have V_8 := Lib.hid (V_7.out.below hb)
  have Z_8 := Lib.hid hr
  clear ho hr hb HB7 A_7 B_7 X_7 U_7 Y_7 V_7
  go_wp2_with fail
  refine (HN2.out _ A_8.out).mono ?_
  rintro e w9 ⟨v9, rfl, ho, hb⟩
  obtain ⟨ta, tc, rfl, hr, hnT⟩ := ho.shape2
  have HB9 := Lib.hid (HB8.out.trans ((hb).mono HB8.out.size))
  have A_9 := Lib.hid (A_8.out.below hb)
  have B_9 := Lib.hid (B_8.out.below hb)
  have X_9 := Lib.hid (X_8.out.below hb)
  have U_9 := Lib.hid (U_8.out.below hb)
  have Y_9 := Lib.hid (Y_8.out.below hb)
  have V_9 := Lib.hid (V_8.out.below hb)
  have Z_9 := Lib.hid (Z_8.out.below hb)
  have T_9 := Lib.hid hr
  clear ho hr hb HB8 A_8 B_8 X_8 U_8 Y_8 V_8 Z_8
  go_wp2_with fail
  refine (HSz.out za zc ta tc _ Z_9.out T_9.out).mono ?_
  rintro e w10 ⟨rfl, hb⟩
  have HB10 := Lib.hid (HB9.out.trans ((hb).mono HB9.out.size))
  have A_10 := Lib.hid (A_9.out.below hb)
  have B_10 := Lib.hid (B_9.out.below hb)
  have X_10 := Lib.hid (X_9.out.below hb)
  have U_10 := Lib.hid (U_9.out.below hb)
  have Y_10 := Lib.hid (Y_9.out.below hb)
  have V_10 := Lib.hid (V_9.out.below hb)
  have Z_10 := Lib.hid (Z_9.out.below hb)
  have T_10 := Lib.hid (T_9.out.below hb)
  clear hb HB9 A_9 B_9 X_9 U_9 Y_9 V_9 Z_9 T_9
  go_wp2
  go_ret
  exact ⟨rfl, HB10.out⟩
end Go.Proofs.Ytenhnnfemehbcaa
