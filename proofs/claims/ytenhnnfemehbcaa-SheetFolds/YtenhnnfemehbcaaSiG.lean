/- The walk of SheetFolds. Written by wip/mk_sig.py. -/
import Derived.Test.YtenhnnfemehbcaaSiF
import Derived.Test.YtenhnnfemehbcaaSiQ
namespace Go.Proofs.Ytenhnnfemehbcaa
open Go.RowKit Go.Sort
set_option linter.unusedVariables false
set_option linter.unusedSimpArgs false

set_option maxRecDepth 100000 in
set_option maxHeartbeats 4000000 in
theorem sheetFolds_walk (A : Option Addr) (len cap : Nat) (L : List Cl) (m : Int) (w : World) (h : OkS w A len L) (hm : (Lit.int .i64 m).wf = true) :
    Calls Try.prog 9 #[.slice A len cap, .int .i64 m] w fun e w' => e = .returned (.bool true) ∧ Below w.heap.size w w' := by
  obtain ⟨rfl, hR, hBd, hl⟩ := h
  have HLg := Lib.hid (fun W => large_any A L.length cap W hl)
  have HR := Lib.hid hR
  have HLi := Lib.hid lives_any
  have HBd := Lib.hid hBd
  have hm := wf64' hm
  clear hR hBd
  by_cases g1 : 300 < (L.length : Int)
  · rw [decide_eq_true g1] at HLg
    go_enter Try.func9, Try.ntmps9
    go_wp2_with fail
    refine (HLg.out _).mono ?_
    rintro e w_ ⟨rfl, rfl⟩
    go_wp2
    go_ret
    exact ⟨rfl, Below.refl _ _⟩
  rw [decide_eq_false g1] at HLg
  have HO := Lib.hid (fun W (hr : RowS W A L) => fold_any A cap L m W hr HBd.out (by omega) hm)
  have HQ := Lib.hid (fun W (hr : RowS W A L) => rFold_any A cap L m W hr HBd.out (by omega) hm)
  have hXl := fo_len L m
  generalize foL L m = X at *
  generalize foE L m = E at *
  have HSm := Lib.hid (show ∀ ao co bo cp (W : World), RowS W ao X → RowS W bo X → Calls Try.prog 20 #[.slice ao X.length co, .slice bo X.length cp] W fun e w' => e = .returned (.bool true) ∧ Below W.heap.size W w' from fun ao co bo cp W h1 h2 => by
    have q := rSame_any ao bo co cp X X W h1 h2 (by omega) (by omega)
    rw [show smB X X = true from decide_eq_true rfl] at q
    exact q)
  clear hm
  go_enter Try.func9, Try.ntmps9
  go_wp2_with fail
  refine (HLg.out _).mono ?_
  rintro e w_ ⟨rfl, rfl⟩
  go_wp2_with fail
  refine (HO.out _ HR.out).mono ?_
  rintro e w1 ⟨v1, rfl, ho, hb⟩
  obtain ⟨ax, cx, rfl, _, _, hr, _⟩ := ho.shape
  have HB1 := Lib.hid (hb)
  have R_1 := Lib.hid (HR.out.below hb)
  have X_1 := Lib.hid hr
  clear ho hr hb HR
  go_wp2_with fail
  refine (HQ.out _ R_1.out).mono ?_
  rintro e w2 ⟨v2, rfl, ho, hb⟩
  obtain ⟨ay, cy, rfl, _, _, hr, _⟩ := ho.shape
  have HB2 := Lib.hid (HB1.out.trans ((hb).mono HB1.out.size))
  have R_2 := Lib.hid (R_1.out.below hb)
  have X_2 := Lib.hid (X_1.out.below hb)
  have Y_2 := Lib.hid hr
  clear ho hr hb HB1 R_1 X_1
  go_wp2_with fail
  refine (HSm.out ax cx ay cy _ X_2.out Y_2.out).mono ?_
  rintro e w3 ⟨rfl, hb⟩
  have HB3 := Lib.hid (HB2.out.trans ((hb).mono HB2.out.size))
  have R_3 := Lib.hid (R_2.out.below hb)
  have X_3 := Lib.hid (X_2.out.below hb)
  have Y_3 := Lib.hid (Y_2.out.below hb)
  clear hb HB2 R_2 X_2 Y_2
  go_wp2_with fail
  refine (HLi.out _).mono ?_
  rintro e w4 ⟨rfl, hb⟩
  have HB4 := Lib.hid (HB3.out.trans ((hb).mono HB3.out.size))
  have R_4 := Lib.hid (R_3.out.below hb)
  have X_4 := Lib.hid (X_3.out.below hb)
  have Y_4 := Lib.hid (Y_3.out.below hb)
  clear hb HB3 R_3 X_3 Y_3
  go_wp2
  go_ret
  exact ⟨rfl, HB4.out⟩
end Go.Proofs.Ytenhnnfemehbcaa
