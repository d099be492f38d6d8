/- The walk of SheetOf. Written by wip/mk_sie.py. -/
import Derived.Test.YtenhnnfemehbcaaSiC
import Derived.Test.YtenhnnfemehbcaaSiD
import Derived.Test.YtenhnnfemehbcaaSiQ
namespace Go.Proofs.Ytenhnnfemehbcaa
open Go.RowKit Go.Sort
set_option linter.unusedVariables false
set_option linter.unusedSimpArgs false

set_option maxRecDepth 100000 in
set_option maxHeartbeats 4000000 in
theorem sheetOf_walk (A : Option Addr) (len cap : Nat) (L : List Cl) (w : World) (h : OkS w A len L) :
    Calls Try.prog 4 #[.slice A len cap] w fun e w' => e = .returned (.bool true) ∧ Below w.heap.size w w' := by
  obtain ⟨rfl, hR, hBd, hl⟩ := h
  have HLg := Lib.hid (fun W => large_any A L.length cap W hl)
  have HR := Lib.hid hR
  have HLi := Lib.hid lives_any
  have HBd := Lib.hid hBd
  clear hR hBd
  by_cases g1 : 300 < (L.length : Int)
  · rw [decide_eq_true g1] at HLg
    go_enter Try.func4, Try.ntmps4
    go_wp2_with fail
    refine (HLg.out _).mono ?_
    rintro e w_ ⟨rfl, rfl⟩
    go_wp2
    go_ret
    exact ⟨rfl, Below.refl _ _⟩
  rw [decide_eq_false g1] at HLg
  have HO := Lib.hid (fun W (hr : RowS W A L) => of_any A cap L W hr HBd.out (by omega))
  have HQ := Lib.hid (fun W (hr : RowS W A L) => rOf_any A cap L W hr HBd.out (by omega))
  have HR1 := Lib.hid (fun W (hr : RowS W A L) => right_any A cap L W hr HBd.out (by omega))
  have HR2 := Lib.hid (fun W (hr : RowS W A L) => rRight_any A cap L W hr HBd.out (by omega))
  have hXr := ofL_right L
  have hXl := ofL_len L
  have hXb := sht_bd hXr
  have hE := ofE_two L
  generalize ofL L = X at *
  generalize ofE L = E at *
  generalize rightB L = rB at *
  have HSm := Lib.hid (show ∀ ao co bo cp (W : World), RowS W ao X → RowS W bo X → Calls Try.prog 20 #[.slice ao X.length co, .slice bo X.length cp] W fun e w' => e = .returned (.bool true) ∧ Below W.heap.size W w' from fun ao co bo cp W h1 h2 => by
    have q := rSame_any ao bo co cp X X W h1 h2 (by omega) (by omega)
    rw [show smB X X = true from decide_eq_true rfl] at q
    exact q)
  have HRx := Lib.hid (show ∀ ao co W, RowS W ao X → Calls Try.prog 21 #[.slice ao X.length co] W fun e w' => e = .returned (.bool true) ∧ Below W.heap.size W w' from fun ao co W hr => by
    have q := right_any ao co X W hr hXb (by omega)
    rw [hXr] at q
    exact q)
  clear hXr hXb
  rcases hE with rfl | rfl
  · go_enter Try.func4, Try.ntmps4
    go_wp2_with fail
    refine (HLg.out _).mono ?_
    rintro e w_ ⟨rfl, rfl⟩
    go_wp2_with fail
    refine (HO.out _ HR.out).mono ?_
    rintro e w1 ⟨v1, rfl, ho, hb⟩
    obtain ⟨ax, cx, rfl, _, _, hr, _⟩ := ho.shape
    have HB1 := Lib.hid (hb)
    have R_1 := Lib.hid (HR.out.below hb)
    have X_1 := Lib.hid hr
    clear ho hr hb HR
    go_wp2_with fail
    refine (HQ.out _ R_1.out).mono ?_
    rintro e w2 ⟨v2, rfl, ho, hb⟩
    obtain ⟨ay, cy, rfl, _, _, hr, _⟩ := ho.shape
    have HB2 := Lib.hid (HB1.out.trans ((hb).mono HB1.out.size))
    have R_2 := Lib.hid (R_1.out.below hb)
    have X_2 := Lib.hid (X_1.out.below hb)
    have Y_2 := Lib.hid hr
    clear ho hr hb HB1 R_1 X_1
    go_wp2_with fail
    refine (HSm.out ax cx ay cy _ X_2.out Y_2.out).mono ?_
    rintro e w3 ⟨rfl, hb⟩
    have HB3 := Lib.hid (HB2.out.trans ((hb).mono HB2.out.size))
    have R_3 := Lib.hid (R_2.out.below hb)
    have X_3 := Lib.hid (X_2.out.below hb)
    have Y_3 := Lib.hid (Y_2.out.below hb)
    clear hb HB2 R_2 X_2 Y_2
    go_wp2_with fail
    refine (HR1.out _ R_3.out).mono ?_
    rintro e w4 ⟨rfl, hb⟩
    have HB4 := Lib.hid (HB3.out.trans ((hb).mono HB3.out.size))
    have R_4 := Lib.hid (R_3.out.below hb)
    have X_4 := Lib.hid (X_3.out.below hb)
    have Y_4 := Lib.hid (Y_3.out.below hb)
    clear hb HB3 R_3 X_3 Y_3
    go_wp2_with fail
    refine (HR2.out _ R_4.out).mono ?_
    rintro e w5 ⟨rfl, hb⟩
    have HB5 := Lib.hid (HB4.out.trans ((hb).mono HB4.out.size))
    have R_5 := Lib.hid (R_4.out.below hb)
    have X_5 := Lib.hid (X_4.out.below hb)
    have Y_5 := Lib.hid (Y_4.out.below hb)
    clear hb HB4 R_4 X_4 Y_4
    go_wp2_with fail
    refine (HRx.out ax cx _ X_5.out).mono ?_
    rintro e w6 ⟨rfl, hb⟩
    have HB6 := Lib.hid (HB5.out.trans ((hb).mono HB5.out.size))
    have R_6 := Lib.hid (R_5.out.below hb)
    have X_6 := Lib.hid (X_5.out.below hb)
    have Y_6 := Lib.hid (Y_5.out.below hb)
    clear hb HB5 R_5 X_5 Y_5
    go_wp2_with fail
    refine (HLi.out _).mono ?_
    rintro e w7 ⟨rfl, hb⟩
    have HB7 := Lib.hid (HB6.out.trans ((hb).mono HB6.out.size))
    have R_7 := Lib.hid (R_6.out.below hb)
    have X_7 := Lib.hid (X_6.out.below hb)
    have Y_7 := Lib.hid (Y_6.out.below hb)
    clear hb HB6 R_6 X_6 Y_6
    go_wp2
    go_ret
    exact ⟨rfl, HB7.out⟩
  · go_enter Try.func4, Try.ntmps4
    go_wp2_with fail
    refine (HLg.out _).mono ?_
    rintro e w_ ⟨rfl, rfl⟩
    go_wp2_with fail
    refine (HO.out _ HR.out).mono ?_
    rintro e w1 ⟨v1, rfl, ho, hb⟩
    obtain ⟨ax, cx, rfl, _, _, hr, _⟩ := ho.shape
    have HB1 := Lib.hid (hb)
    have R_1 := Lib.hid (HR.out.below hb)
    have X_1 := Lib.hid hr
    clear ho hr hb HR
    go_wp2_with fail
    refine (HQ.out _ R_1.out).mono ?_
    rintro e w2 ⟨v2, rfl, ho, hb⟩
    obtain ⟨ay, cy, rfl, _, _, hr, _⟩ := ho.shape
    have HB2 := Lib.hid (HB1.out.trans ((hb).mono HB1.out.size))
    have R_2 := Lib.hid (R_1.out.below hb)
    have X_2 := Lib.hid (X_1.out.below hb)
    have Y_2 := Lib.hid hr
    clear ho hr hb HB1 R_1 X_1
    go_wp2_with fail
    refine (HSm.out ax cx ay cy _ X_2.out Y_2.out).mono ?_
    rintro e w3 ⟨rfl, hb⟩
    have HB3 := Lib.hid (HB2.out.trans ((hb).mono HB2.out.size))
    have R_3 := Lib.hid (R_2.out.below hb)
    have X_3 := Lib.hid (X_2.out.below hb)
    have Y_3 := Lib.hid (Y_2.out.below hb)
    clear hb HB2 R_2 X_2 Y_2
    go_wp2_with fail
    refine (HR1.out _ R_3.out).mono ?_
    rintro e w4 ⟨rfl, hb⟩
    have HB4 := Lib.hid (HB3.out.trans ((hb).mono HB3.out.size))
    have R_4 := Lib.hid (R_3.out.below hb)
    have X_4 := Lib.hid (X_3.out.below hb)
    have Y_4 := Lib.hid (Y_3.out.below hb)
    clear hb HB3 R_3 X_3 Y_3
    go_wp2_with fail
    refine (HR2.out _ R_4.out).mono ?_
    rintro e w5 ⟨rfl, hb⟩
    have HB5 := Lib.hid (HB4.out.trans ((hb).mono HB4.out.size))
    have R_5 := Lib.hid (R_4.out.below hb)
    have X_5 := Lib.hid (X_4.out.below hb)
    have Y_5 := Lib.hid (Y_4.out.below hb)
    clear hb HB4 R_4 X_4 Y_4
    go_wp2_with fail
    refine (HLi.out _).mono ?_
    rintro e w6 ⟨rfl, hb⟩
    have HB6 := Lib.hid (HB5.out.trans ((hb).mono HB5.out.size))
    have R_6 := Lib.hid (R_5.out.below hb)
    have X_6 := Lib.hid (X_5.out.below hb)
    have Y_6 := Lib.hid (Y_5.out.below hb)
    clear hb HB5 R_5 X_5 Y_5
    go_wp2
    go_ret
    exact ⟨rfl, HB6.out⟩
end Go.Proofs.Ytenhnnfemehbcaa
