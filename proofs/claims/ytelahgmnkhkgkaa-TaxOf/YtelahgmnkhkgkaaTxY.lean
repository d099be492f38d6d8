/- The reference's Of, whole; the walk of TaxOf. Written by wip/mk_txy.py. -/
import Derived.Test.YtelahgmnkhkgkaaTxX
namespace Go.Proofs.Ytelahgmnkhkgkaa
open Go.RowKit Go.Sort
set_option linter.unusedVariables false
set_option linter.unusedSimpArgs false

set_option maxRecDepth 100000 in
set_option maxHeartbeats 3000000 in
theorem rOf_bad (A B : Option Addr) (c d : Nat) (L : List Ln) (C : List Cd) (way m : Int) (w : World) (hL : RowL w A L) (hBl : BdL L) (hR : RowC w B C) (hBc : BdC C) (hn : C.length ≤ 1000) (w1 : r64 way) (w2 : r64 m) (hE : errO C L way m ≠ 0) :
    Calls Try.prog 19 #[.slice A L.length c, .slice B C.length d, .int .i64 way, .int .i64 m] w fun e w' => e = .returned (.tuple #[.slice none 0 0, .slice none 0 0, .int .i64 (errO C L way m)]) ∧ Below w.heap.size w w' := by
  have H1 := Lib.hid (fun W hl hr => rcheck_any A B c d L C way m W hl hBl hr hBc hn w1 w2)
  have HL0 := Lib.hid hL
  have HR0 := Lib.hid hR
  obtain ⟨y1, y2⟩ := w1
  generalize errO C L way m = er at *
  have hE' : (er != 0) = true := by simpa using hE
  clear hBl hBc hL hR
  go_enter Try.func19, Try.ntmps19
  go_wp2_with fail
  refine (H1.out _ HL0.out HR0.out).mono ?_
  rintro e w3 ⟨rfl, hb⟩
  have HB1 := Lib.hid hb
  clear hb H1
  go_wp2
  go_ret3
  exact ⟨rfl, HB1.out⟩
theorem rOf_any (A B : Option Addr) (c d : Nat) (L : List Ln) (C : List Cd) (way m : Int) (w : World) (hL : RowL w A L) (hBl : BdL L) (hR : RowC w B C) (hBc : BdC C) (hn : C.length ≤ 1000) (w1 : r64 way) (w2 : r64 m) :
    Calls Try.prog 19 #[.slice A L.length c, .slice B C.length d, .int .i64 way, .int .i64 m] w fun e w' => ∃ v u, e = .returned (.tuple #[v, u, .int .i64 (errO C L way m)]) ∧ OwnI w' w.heap.size v (ofN C L way m) ∧ OwnS w' w.heap.size u (ofS C L way m) ∧ Below w.heap.size w w' := by
  by_cases hE : errO C L way m = 0
  · obtain ⟨hw, _, hco, _⟩ := errO_ok hE
    have e1 : ofN C L way m = ntK way m C L := if_pos hE
    have e2 : ofS C L way m = rO way m L C := (if_pos hE).trans (rO_is hco hw)
    rw [e1, e2, hE]
    exact rOf_ok A B c d L C way m w hL hBl hR hBc w1 w2 hE
  · have e1 : ofN C L way m = [] := if_neg hE
    have e2 : ofS C L way m = [] := if_neg hE
    rw [e1, e2]
    exact (rOf_bad A B c d L C way m w hL hBl hR hBc hn w1 w2 hE).mono (fun e w' q => ⟨_, _, q.1, OwnI.nil _ _, OwnS.nil _ _, q.2⟩)
theorem of_lens {C : List Cd} {L : List Ln} (h1 : L.length ≤ 250) (h2 : C.length ≤ 250) (way m : Int) : (ofN C L way m).length ≤ 1000 ∧ (ofS C L way m).length ≤ 1000 := by
  unfold ofN ofS
  split
  · exact ⟨by unfold ntK; rw [List.length_map]; omega, Nat.le_trans (inO_len _ _ _ _) (by omega)⟩
  · exact ⟨by simp, by simp⟩
set_option maxRecDepth 100000 in
set_option maxHeartbeats 3000000 in
theorem taxOf_walk (A : Option Addr) (len cap : Nat) (L : List Ln) (B : Option Addr) (len2 cap2 : Nat) (C : List Cd) (way m : Int) (w : World) (hl : OkL w A len L) (hc : OkC w B len2 C) (ww : (Lit.int .i64 way).wf = true) (wm : (Lit.int .i64 m).wf = true) :
    Calls Try.prog 7 #[.slice A len cap, .slice B len2 cap2, .int .i64 way, .int .i64 m] w fun e w' => e = .returned (.bool true) ∧ Below w.heap.size w w' := by
  obtain ⟨rfl, hL, hBl, hml⟩ := hl
  obtain ⟨rfl, hR, hBc, hmc⟩ := hc
  have HG := Lib.hid (fun W => large25_any A B cap cap2 L.length C.length W hml hmc)
  have HV := Lib.hid lives_any
  have HL0 := Lib.hid hL
  have HR0 := Lib.hid hR
  have HBl := Lib.hid hBl
  have HBc := Lib.hid hBc
  have W1 := Lib.hid (wf64 ww)
  have W2 := Lib.hid (wf64 wm)
  clear hL hR hBl hBc
  go_enter Try.func7, Try.ntmps7
  go_wp2_with fail
  refine (HG.out _).mono ?_
  rintro e w_ ⟨⟨b, rfl, hb⟩, rfl⟩
  cases b
  · obtain ⟨h1, h2⟩ := hb rfl
    have HO := Lib.hid (fun W hl hr => of_any A B cap cap2 L C way m W hl HBl.out hr HBc.out (by omega) W1.out)
    have HO2 := Lib.hid (fun W hl hr => rOf_any A B cap cap2 L C way m W hl HBl.out hr HBc.out (by omega) W1.out W2.out)
    have HLs := Lib.hid (of_lens (C := C) (L := L) h1 h2 way m)
    clear hb HG
    generalize errO C L way m = er at *
    generalize ofS C L way m = S at *
    generalize ofN C L way m = N at *
    go_wp2_with fail
    refine (HO.out _ HL0.out HR0.out).mono ?_
    rintro e w1 ⟨v1, s1, rfl, hi, hs, hb⟩
    obtain ⟨vi, ci, rfl⟩ := hi.shape
    obtain ⟨vs, cs, rfl⟩ := hs.shape
    have HB1 := Lib.hid hb
    have HI1 := Lib.hid (show RowV w1 vi (N.map inV1) from OwnV.row hi)
    have HS1 := Lib.hid hs.row
    have HL1 := Lib.hid (HL0.out.below hb)
    have HR1 := Lib.hid (HR0.out.below hb)
    clear hi hs hb HO
    go_wp2_with fail
    refine (HO2.out _ HL1.out HR1.out).mono ?_
    rintro e w2 ⟨v2, s2, rfl, hi, hs, hb⟩
    obtain ⟨vj, cj, rfl⟩ := hi.shape
    obtain ⟨vt, ct, rfl⟩ := hs.shape
    have HB2 := Lib.hid (HB1.out.trans (hb.mono HB1.out.size))
    have HI2 := Lib.hid (HI1.out.below hb)
    have HS2 := Lib.hid (HS1.out.below hb)
    have HJ2 := Lib.hid (show RowV w2 vj (N.map inV1) from OwnV.row hi)
    have HT2 := Lib.hid hs.row
    clear hi hs hb HO2
    go_wp2_with fail
    refine (sameI_any _ _ _ _ N _ HI2.out HJ2.out HLs.out.1).mono ?_
    rintro e w3 ⟨rfl, hb⟩
    have HB3 := Lib.hid (HB2.out.trans (hb.mono HB2.out.size))
    have HS3 := Lib.hid (HS2.out.below hb)
    have HT3 := Lib.hid (HT2.out.below hb)
    clear hb
    go_wp2_with fail
    refine (sameS_any _ _ _ _ S _ HS3.out HT3.out HLs.out.2).mono ?_
    rintro e w4 ⟨rfl, hb⟩
    have HB4 := Lib.hid (HB3.out.trans (hb.mono HB3.out.size))
    clear hb
    go_wp2_with fail
    refine (HV.out _).mono ?_
    rintro e w5 ⟨rfl, hb⟩
    have HB5 := Lib.hid (HB4.out.trans (hb.mono HB4.out.size))
    clear hb
    go_wp2
    go_ret
    exact ⟨rfl, HB5.out⟩
  · clear hb
    go_wp2
    go_ret
    exact ⟨rfl, Below.refl _ _⟩
end Go.Proofs.Ytelahgmnkhkgkaa
