/- Sub of both packages. Written by wip/mk_sil.py. -/
import Derived.Test.YtenhnnfemehbcaaSiK
namespace Go.Proofs.Ytenhnnfemehbcaa
open Go.RowKit Go.Sort
set_option linter.unusedVariables false
set_option linter.unusedSimpArgs false

def sbE (L M : List Cl) : Int := if adB L M = true then ofE (L ++ M.map negC) else 2
def sbL (L M : List Cl) : List Cl := if adB L M = true then ofL (L ++ M.map negC) else []
theorem right_neg {M : List Cl} (h : rightB M = true) : rightB (M.map negC) = true := sht_right (sht_neg (right_sht h))
theorem sb_ad {L M : List Cl} (h : rightB M = true) : adE L (M.map negC) = sbE L M ∧ adL L (M.map negC) = sbL L M := by
  unfold adE adL sbE sbL adB
  rw [h, right_neg h]
  exact ⟨rfl, rfl⟩
set_option maxRecDepth 100000 in
set_option maxHeartbeats 1000000 in
theorem sub_any (A : Option Addr) (ca : Nat) (L : List Cl) (B : Option Addr) (cb : Nat) (M : List Cl) (w : World) (hA : RowS w A L) (hB : RowS w B M) (nA : A = none → ca = 0) (nB : B = none → cb = 0) (bA : BdS L) (bB : BdS M) (hl : L.length ≤ 1000) (hm : M.length ≤ 1000) :
    Calls Try.prog 25 #[.slice A L.length ca, .slice B M.length cb] w fun e w' => ∃ v, e = .returned (.tuple #[v, .int .i64 (sbE L M)]) ∧ OwnS w' w.heap.size v (sbL L M) ∧ Below w.heap.size w w' := by
  have HA := Lib.hid hA
  have HB := Lib.hid hB
  have HN := Lib.hid (fun W => OwnS.nil W w.heap.size)
  have HNg := Lib.hid (neg_any B cb M w hB bB hm)
  clear hA hB
  cases r2 : rightB M
  · have HV := Lib.hid (show sbE L M = 2 ∧ sbL L M = [] from by unfold sbE sbL adB; rw [r2]; cases rightB L <;> exact ⟨rfl, rfl⟩)
    rw [show ngE M = 2 from by unfold ngE; rw [r2]; rfl] at HNg
    rw [HV.out.1, HV.out.2]
    clear r2 HV
    go_enter Try.func25, Try.ntmps25
    go_wp2_with fail
    refine HNg.out.mono ?_
    rintro e w1 ⟨v1, rfl, _, hb⟩
    have HX1 := Lib.hid hb
    clear hb
    go_wp2
    go_ret2
    exact ⟨_, rfl, HN.out _, HX1.out⟩
  have hMb := sht_bd (right_neg r2)
  have HAd := Lib.hid (fun ao cp W (h1 : RowS W A L) (h2 : RowS W ao (M.map negC)) n2 => add_any A ca L ao cp (M.map negC) W h1 h2 nA n2 bA hMb hl (by rw [List.length_map]; exact hm))
  rw [(sb_ad (L := L) r2).1, (sb_ad (L := L) r2).2] at HAd
  simp only [List.length_map] at HAd
  rw [show ngE M = 0 from by unfold ngE; rw [r2]; rfl, show ngL M = M.map negC from by unfold ngL; rw [r2]; rfl] at HNg
  clear r2 hMb
  generalize sbE L M = oE at *
  generalize sbL L M = oL at *
  go_enter Try.func25, Try.ntmps25
  go_wp2_with fail
  refine HNg.out.mono ?_
  rintro e w1 ⟨v1, rfl, ho, hb⟩
  obtain ⟨ao, cp, e5, hr, hn⟩ := ho.shape2
  rw [List.length_map] at e5
  subst e5
  have HX1 := Lib.hid hb
  have HC1 := Lib.hid (HAd.out ao cp w1 (HA.out.below hb) hr hn)
  clear ho hb hr hn HNg HAd
  go_wp2_with fail
  refine HC1.out.mono ?_
  rintro e w2 ⟨v2, rfl, ho, hb⟩
  have HO2 := Lib.hid (ho.lower HX1.out.size)
  have HX2 := Lib.hid (HX1.out.trans (hb.mono HX1.out.size))
  clear ho hb
  go_wp2
  go_ret2
  exact ⟨_, rfl, HO2.out, HX2.out⟩
set_option maxRecDepth 100000 in
set_option maxHeartbeats 1000000 in
theorem rSub_any (A : Option Addr) (ca : Nat) (L : List Cl) (B : Option Addr) (cb : Nat) (M : List Cl) (w : World) (hA : RowS w A L) (hB : RowS w B M) (nA : A = none → ca = 0) (nB : B = none → cb = 0) (bA : BdS L) (bB : BdS M) (hl : L.length ≤ 1000) (hm : M.length ≤ 1000) :
    Calls Try.prog 26 #[.slice A L.length ca, .slice B M.length cb] w fun e w' => ∃ v, e = .returned (.tuple #[v, .int .i64 (sbE L M)]) ∧ OwnS w' w.heap.size v (sbL L M) ∧ Below w.heap.size w w' := by
  have HA := Lib.hid hA
  have HB := Lib.hid hB
  have HR1 := Lib.hid (rRight_any A ca L w hA bA (by omega))
  have HR2 := Lib.hid (fun W (hr : RowS W B M) => rRight_any B cb M W hr bB (by omega))
  have HN := Lib.hid (fun W => OwnS.nil W w.heap.size)
  cases r1 : rightB L
  · have HV := Lib.hid (show sbE L M = 2 ∧ sbL L M = [] from by unfold sbE sbL adB; rw [r1]; exact ⟨rfl, rfl⟩)
    rw [r1] at HR1
    clear r1 hA hB
    rw [HV.out.1, HV.out.2]
    clear HV
    go_enter Try.func26, Try.ntmps26
    go_wp2_with fail
    refine HR1.out.mono ?_
    rintro e w1 ⟨rfl, hb⟩
    have HX1 := Lib.hid hb
    clear hb
    go_wp2
    go_ret2
    exact ⟨_, rfl, HN.out _, HX1.out⟩
  rw [r1] at HR1
  cases r2 : rightB M
  · have HV := Lib.hid (show sbE L M = 2 ∧ sbL L M = [] from by unfold sbE sbL adB; rw [r1, r2]; exact ⟨rfl, rfl⟩)
    rw [r2] at HR2
    clear r1 r2 hA hB
    rw [HV.out.1, HV.out.2]
    clear HV
    go_enter Try.func26, Try.ntmps26
    go_wp2_with fail
    refine HR1.out.mono ?_
    rintro e w1 ⟨rfl, hb⟩
    have HX1 := Lib.hid hb
    have HB1 := Lib.hid (HB.out.below hb)
    clear hb
    go_wp2_with fail
    refine (HR2.out _ HB1.out).mono ?_
    rintro e w2 ⟨rfl, hb⟩
    have HX2 := Lib.hid (HX1.out.trans (hb.mono HX1.out.size))
    clear hb
    go_wp2
    go_ret2
    exact ⟨_, rfl, HN.out _, HX2.out⟩
  rw [r2] at HR2
  have hMb := sht_bd (right_neg r2)
  have hBd : BdS (L ++ M.map negC) := fun c hc => (List.mem_append.1 hc).elim (bA c) (hMb c)
  have HV := Lib.hid (show sbE L M = ofE (L ++ M.map negC) ∧ sbL L M = ofL (L ++ M.map negC) from by unfold sbE sbL adB; rw [r1, r2]; exact ⟨rfl, rfl⟩)
  rw [HV.out.1, HV.out.2]
  have HMi := Lib.hid (fun W (h : RowS W B M) => rMinus_any B cb M W h r2 hm)
  have HOf := Lib.hid (fun ao cp W (h : RowS W ao (L ++ M.map negC)) => rOf_any ao cp (L ++ M.map negC) W h hBd (by rw [List.length_append, List.length_map]; omega))
  simp only [List.length_append, List.length_map] at HOf
  clear HV r1 r2 hA hB
  obtain ⟨oE, hoE⟩ : ∃ x, ofE (L ++ M.map negC) = x := ⟨_, rfl⟩
  obtain ⟨oL, hoL⟩ : ∃ x, ofL (L ++ M.map negC) = x := ⟨_, rfl⟩
  rw [hoE, hoL] at HOf
  rw [hoE, hoL]
  clear hoE hoL hBd hMb
  go_enter Try.func26, Try.ntmps26
  go_wp2_with fail
  refine HR1.out.mono ?_
  rintro e w1 ⟨rfl, hb⟩
  have HX1 := Lib.hid hb
  have HA1 := Lib.hid (HA.out.below hb)
  have HB1 := Lib.hid (HB.out.below hb)
  clear hb HA HB HR1
  go_wp2_with fail
  refine (HR2.out _ HB1.out).mono ?_
  rintro e w2 ⟨rfl, hb⟩
  have HX2 := Lib.hid (HX1.out.trans (hb.mono HX1.out.size))
  have HA2 := Lib.hid (HA1.out.below hb)
  have HB2 := Lib.hid (HB1.out.below hb)
  clear hb HA1 HB1 HX1 HR2
  have HQ := Lib.hid (show Below w2.heap.size w2 (w2.alloc (Obj.cells #[] 37)) from (Below.refl _ _).alloc (Nat.le_refl _) _)
  have HA3 := Lib.hid (HA2.out.below HQ.out)
  have HO3 := Lib.hid (own_empty w2 w2.heap.size (Nat.le_refl _))
  go_wp2_with (at_builtin; (refine wpList_cells rfl (.tmp 14) (.tmp 15) rfl w2.heap.size _ [] L rfl HO3.out A ca rfl nA HA3.out (by simp; omega) HQ.out.size ?_; intro v4 w4 o4 hb4; have HO4 := Lib.hid (show OwnS w4 w2.heap.size v4 L from o4); have HZ4 := Lib.hid (HQ.out.trans hb4); have HM4 := Lib.hid (HMi.out w4 (HB2.out.below HZ4.out)); clear o4 hb4))
  refine HM4.out.mono ?_
  rintro e w5 ⟨v5, rfl, ho, hb⟩
  obtain ⟨ab, cq, e5, hr, hn⟩ := ho.shape2
  rw [List.length_map] at e5
  subst e5
  have HO5 := Lib.hid (HO4.out.below hb)
  have HZ5 := Lib.hid (HZ4.out.trans (hb.mono HZ4.out.size))
  have HR5 := Lib.hid hr
  clear ho hb hr HO4 HZ4 HM4
  go_wp2_with (at_builtin; (refine wpList_cells rfl (.tmp 16) (.tmp 18) rfl w2.heap.size v4 L (M.map negC) rfl HO5.out ab cq (by rw [List.length_map]; rfl) hn HR5.out (by rw [List.length_map]; omega) HZ5.out.size ?_; intro v6 w6 o6 hb6; obtain ⟨ao, cp, e6, hr, _⟩ := OwnS.shape2 o6; rw [List.length_append, List.length_map] at e6; subst e6; have HRo := Lib.hid hr; have HZ6 := Lib.hid (HZ5.out.trans hb6); have HX6 := Lib.hid (HX2.out.trans (HZ6.out.mono HX2.out.size)); clear o6 hb6 hr))
  refine (HOf.out ao cp _ HRo.out).mono ?_
  rintro e w9 ⟨v9, rfl, ho, hb⟩
  have HO9 := Lib.hid (ho.lower HX6.out.size)
  have HX9 := Lib.hid (HX6.out.trans (hb.mono HX6.out.size))
  clear ho hb
  go_wp2
  go_ret2
  exact ⟨v9, rfl, HO9.out, HX9.out⟩
end Go.Proofs.Ytenhnnfemehbcaa
