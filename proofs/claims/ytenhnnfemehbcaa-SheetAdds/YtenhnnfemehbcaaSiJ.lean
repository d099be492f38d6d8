/- Add of both packages. Written by wip/mk_sii.py. -/
import Derived.Test.YtenhnnfemehbcaaSiI
namespace Go.Proofs.Ytenhnnfemehbcaa
open Go.RowKit Go.Sort
set_option linter.unusedVariables false
set_option linter.unusedSimpArgs false

def adB (L M : List Cl) : Bool := rightB L && rightB M
def adE (L M : List Cl) : Int := if adB L M = true then ofE (L ++ M) else 2
def adL (L M : List Cl) : List Cl := if adB L M = true then ofL (L ++ M) else []
set_option maxRecDepth 100000 in
set_option maxHeartbeats 1000000 in
theorem add_any (A : Option Addr) (ca : Nat) (L : List Cl) (B : Option Addr) (cb : Nat) (M : List Cl) (w : World) (hA : RowS w A L) (hB : RowS w B M) (nA : A = none → ca = 0) (nB : B = none → cb = 0) (bA : BdS L) (bB : BdS M) (hl : L.length ≤ 1000) (hm : M.length ≤ 1000) :
    Calls Try.prog 23 #[.slice A L.length ca, .slice B M.length cb] w fun e w' => ∃ v, e = .returned (.tuple #[v, .int .i64 (adE L M)]) ∧ OwnS w' w.heap.size v (adL L M) ∧ Below w.heap.size w w' := by
  have HA := Lib.hid hA
  have HB := Lib.hid hB
  have HR1 := Lib.hid (right_any A ca L w hA bA (by omega))
  have HR2 := Lib.hid (fun W (hr : RowS W B M) => right_any B cb M W hr bB (by omega))
  have HN := Lib.hid (fun W => OwnS.nil W w.heap.size)
  have hBd : BdS (L ++ M) := fun c hc => (List.mem_append.1 hc).elim (bA c) (bB c)
  cases r1 : rightB L
  · have HV := Lib.hid (show adE L M = 2 ∧ adL L M = [] from by unfold adE adL adB; rw [r1]; exact ⟨rfl, rfl⟩)
    rw [r1] at HR1
    clear r1 hA hB
    rw [HV.out.1, HV.out.2]
    clear HV
    go_enter Try.func23, Try.ntmps23
    go_wp2_with fail
    refine HR1.out.mono ?_
    rintro e w1 ⟨rfl, hb⟩
    have HX1 := Lib.hid hb
    clear hb
    go_wp2
    go_ret2
    exact ⟨_, rfl, HN.out _, HX1.out⟩
  rw [r1] at HR1
  cases r2 : rightB M
  · have HV := Lib.hid (show adE L M = 2 ∧ adL L M = [] from by unfold adE adL adB; rw [r1, r2]; exact ⟨rfl, rfl⟩)
    rw [r2] at HR2
    clear r1 r2 hA hB
    rw [HV.out.1, HV.out.2]
    clear HV
    go_enter Try.func23, Try.ntmps23
    go_wp2_with fail
    refine HR1.out.mono ?_
    rintro e w1 ⟨rfl, hb⟩
    have HX1 := Lib.hid hb
    have HB1 := Lib.hid (HB.out.below hb)
    clear hb
    go_wp2_with fail
    refine (HR2.out _ HB1.out).mono ?_
    rintro e w2 ⟨rfl, hb⟩
    have HX2 := Lib.hid (HX1.out.trans (hb.mono HX1.out.size))
    clear hb
    go_wp2
    go_ret2
    exact ⟨_, rfl, HN.out _, HX2.out⟩
  rw [r2] at HR2
  have HV := Lib.hid (show adE L M = ofE (L ++ M) ∧ adL L M = ofL (L ++ M) from by unfold adE adL adB; rw [r1, r2]; exact ⟨rfl, rfl⟩)
  rw [HV.out.1, HV.out.2]
  clear HV r1 r2 hA hB
  have HOf := Lib.hid (fun ao cp W (h : RowS W ao (L ++ M)) => of_any ao cp (L ++ M) W h hBd (by rw [List.length_append]; omega))
  simp only [List.length_append] at HOf
  obtain ⟨oE, hoE⟩ : ∃ x, ofE (L ++ M) = x := ⟨_, rfl⟩
  obtain ⟨oL, hoL⟩ : ∃ x, ofL (L ++ M) = x := ⟨_, rfl⟩
  rw [hoE, hoL] at HOf
  rw [hoE, hoL]
  clear hoE hoL
  have HCo := Lib.hid (fun P cp W hA hB hP => concat_any P cp A ca L B cb M W hA hB nA nB hP hl hm)
  go_enter Try.func23, Try.ntmps23
  go_wp2_with fail
  refine HR1.out.mono ?_
  rintro e w1 ⟨rfl, hb⟩
  have HX1 := Lib.hid hb
  have HA1 := Lib.hid (HA.out.below hb)
  have HB1 := Lib.hid (HB.out.below hb)
  clear hb HA HB HR1
  go_wp2_with fail
  refine (HR2.out _ HB1.out).mono ?_
  rintro e w2 ⟨rfl, hb⟩
  have HX2 := Lib.hid (HX1.out.trans (hb.mono HX1.out.size))
  have HA2 := Lib.hid (HA1.out.below hb)
  have HB2 := Lib.hid (HB1.out.below hb)
  clear hb HA1 HB1 HX1 HR2
  have ha : Below w2.heap.size w2 (w2.alloc (Obj.cells #[.slice A L.length ca, .slice B M.length cb] 28)) := (Below.refl _ _).alloc (Nat.le_refl _) _
  have HX3 := Lib.hid (HX2.out.trans (ha.mono HX2.out.size))
  have HC3 := Lib.hid (HCo.out w2.heap.size 2 _ (HA2.out.below ha) (HB2.out.below ha) (Q2.alloc w2 (.slice A L.length ca) (.slice B M.length cb) 28))
  clear ha HX2 HA2 HB2 HCo
  go_wp2_with fail
  refine HC3.out.mono ?_
  rintro e w4 ⟨v4, rfl, ho, hb⟩
  obtain ⟨ao, cp, rfl, hr, _⟩ := ho.shape2
  have HX4 := Lib.hid (HX3.out.trans (hb.mono HX3.out.size))
  have HRo := Lib.hid hr
  clear ho hb hr HX3 HC3
  go_wp2_with fail
  refine (HOf.out ao cp _ HRo.out).mono ?_
  rintro e w9 ⟨v9, rfl, ho, hb⟩
  have HO9 := Lib.hid (ho.lower HX4.out.size)
  have HX9 := Lib.hid (HX4.out.trans (hb.mono HX4.out.size))
  clear ho hb
  go_wp2
  go_ret2
  exact ⟨v9, rfl, HO9.out, HX9.out⟩
theorem own_empty (w : World) (base : Nat) (hb : base ≤ w.heap.size) : OwnS (w.alloc (Obj.cells #[] 37)) base (.slice (some ⟨w.heap.size, 0, none⟩) 0 0) [] := own_room w 0 #[] base hb (by decide) rfl
set_option maxRecDepth 100000 in
set_option maxHeartbeats 1000000 in
theorem rAdd_any (A : Option Addr) (ca : Nat) (L : List Cl) (B : Option Addr) (cb : Nat) (M : List Cl) (w : World) (hA : RowS w A L) (hB : RowS w B M) (nA : A = none → ca = 0) (nB : B = none → cb = 0) (bA : BdS L) (bB : BdS M) (hl : L.length ≤ 1000) (hm : M.length ≤ 1000) :
    Calls Try.prog 24 #[.slice A L.length ca, .slice B M.length cb] w fun e w' => ∃ v, e = .returned (.tuple #[v, .int .i64 (adE L M)]) ∧ OwnS w' w.heap.size v (adL L M) ∧ Below w.heap.size w w' := by
  have HA := Lib.hid hA
  have HB := Lib.hid hB
  have HR1 := Lib.hid (rRight_any A ca L w hA bA (by omega))
  have HR2 := Lib.hid (fun W (hr : RowS W B M) => rRight_any B cb M W hr bB (by omega))
  have HN := Lib.hid (fun W => OwnS.nil W w.heap.size)
  have hBd : BdS (L ++ M) := fun c hc => (List.mem_append.1 hc).elim (bA c) (bB c)
  cases r1 : rightB L
  · have HV := Lib.hid (show adE L M = 2 ∧ adL L M = [] from by unfold adE adL adB; rw [r1]; exact ⟨rfl, rfl⟩)
    rw [r1] at HR1
    clear r1 hA hB
    rw [HV.out.1, HV.out.2]
    clear HV
    go_enter Try.func24, Try.ntmps24
    go_wp2_with fail
    refine HR1.out.mono ?_
    rintro e w1 ⟨rfl, hb⟩
    have HX1 := Lib.hid hb
    clear hb
    go_wp2
    go_ret2
    exact ⟨_, rfl, HN.out _, HX1.out⟩
  rw [r1] at HR1
  cases r2 : rightB M
  · have HV := Lib.hid (show adE L M = 2 ∧ adL L M = [] from by unfold adE adL adB; rw [r1, r2]; exact ⟨rfl, rfl⟩)
    rw [r2] at HR2
    clear r1 r2 hA hB
    rw [HV.out.1, HV.out.2]
    clear HV
    go_enter Try.func24, Try.ntmps24
    go_wp2_with fail
    refine HR1.out.mono ?_
    rintro e w1 ⟨rfl, hb⟩
    have HX1 := Lib.hid hb
    have HB1 := Lib.hid (HB.out.below hb)
    clear hb
    go_wp2_with fail
    refine (HR2.out _ HB1.out).mono ?_
    rintro e w2 ⟨rfl, hb⟩
    have HX2 := Lib.hid (HX1.out.trans (hb.mono HX1.out.size))
    clear hb
    go_wp2
    go_ret2
    exact ⟨_, rfl, HN.out _, HX2.out⟩
  rw [r2] at HR2
  have HV := Lib.hid (show adE L M = ofE (L ++ M) ∧ adL L M = ofL (L ++ M) from by unfold adE adL adB; rw [r1, r2]; exact ⟨rfl, rfl⟩)
  rw [HV.out.1, HV.out.2]
  clear HV r1 r2 hA hB
  have HOf := Lib.hid (fun ao cp W (h : RowS W ao (L ++ M)) => rOf_any ao cp (L ++ M) W h hBd (by rw [List.length_append]; omega))
  simp only [List.length_append] at HOf
  obtain ⟨oE, hoE⟩ : ∃ x, ofE (L ++ M) = x := ⟨_, rfl⟩
  obtain ⟨oL, hoL⟩ : ∃ x, ofL (L ++ M) = x := ⟨_, rfl⟩
  rw [hoE, hoL] at HOf
  rw [hoE, hoL]
  clear hoE hoL
  go_enter Try.func24, Try.ntmps24
  go_wp2_with fail
  refine HR1.out.mono ?_
  rintro e w1 ⟨rfl, hb⟩
  have HX1 := Lib.hid hb
  have HA1 := Lib.hid (HA.out.below hb)
  have HB1 := Lib.hid (HB.out.below hb)
  clear hb HA HB HR1
  go_wp2_with fail
  refine (HR2.out _ HB1.out).mono ?_
  rintro e w2 ⟨rfl, hb⟩
  have HX2 := Lib.hid (HX1.out.trans (hb.mono HX1.out.size))
  have HA2 := Lib.hid (HA1.out.below hb)
  have HB2 := Lib.hid (HB1.out.below hb)
  clear hb HA1 HB1 HX1 HR2
  have HQ := Lib.hid (show Below w2.heap.size w2 (w2.alloc (Obj.cells #[] 37)) from (Below.refl _ _).alloc (Nat.le_refl _) _)
  have HA3 := Lib.hid (HA2.out.below HQ.out)
  have HO3 := Lib.hid (own_empty w2 w2.heap.size (Nat.le_refl _))
  go_wp2_with (at_builtin; (first
    | (refine wpList_cells rfl (.tmp 14) (.tmp 15) rfl w2.heap.size _ [] L rfl HO3.out A ca rfl nA HA3.out (by simp; omega) HQ.out.size ?_; intro v4 w4 o4 hb4; have HO4 := Lib.hid (show OwnS w4 w2.heap.size v4 L from o4); have HZ4 := Lib.hid (HQ.out.trans hb4); have HB4 := Lib.hid (HB2.out.below HZ4.out); clear o4 hb4)
    | (refine wpList_cells rfl (.tmp 16) (.tmp 17) rfl w2.heap.size v4 L M rfl HO4.out B cb rfl nB HB4.out (by omega) HZ4.out.size ?_; intro v5 w5 o5 hb5; obtain ⟨ao, cp, e5, hr, _⟩ := OwnS.shape2 o5; subst e5; have HRo := Lib.hid hr; have HZ5 := Lib.hid (HZ4.out.trans hb5); have HX5 := Lib.hid (HX2.out.trans (HZ5.out.mono HX2.out.size)); clear o5 hb5 hr)))
  go_wp2_with fail
  refine (HOf.out ao cp _ HRo.out).mono ?_
  rintro e w9 ⟨v9, rfl, ho, hb⟩
  have HO9 := Lib.hid (ho.lower HX5.out.size)
  have HX9 := Lib.hid (HX5.out.trans (hb.mono HX5.out.size))
  clear ho hb
  go_wp2
  go_ret2
  exact ⟨v9, rfl, HO9.out, HX9.out⟩
end Go.Proofs.Ytenhnnfemehbcaa
