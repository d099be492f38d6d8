/- What Match of packages dims and accountingref09 and Same of package accountingref09 return. Written by wip/mk_dic.py. -/
import Derived.Test.YtjoinifjkpaapaaDoorDiB
namespace Go.Proofs.YtjoinifjkpaapaaDoor
open Go.RowKit Go.Sort
set_option linter.unusedVariables false
set_option linter.unusedSimpArgs false

theorem beq_sw (a b : List UInt8) : (a == b) = (b == a) := by
  by_cases e : a = b
  · subst e; rfl
  · have h1 : (a == b) = false := by simpa using e
    have h2 : (b == a) = false := by simpa using fun q : b = a => e q.symm
    rw [h1, h2]
/-- a tag of a pattern is matched. -/
def okM (L : List Tg) (p : Tg) : Bool := (getV L p.1).2 && ((p.2.toList == [42]) || (p.2.toList == (getV L p.1).1.toList))
def matchT (P L : List Tg) : Bool := P.all (okM L)
theorem match_bad {P L : List Tg} {k : Nat} (hk : k < P.length) (h : okM L P[k] = false) : matchT P L = false := by
  unfold matchT
  rw [List.all_eq_false]
  exact ⟨P[k], List.getElem_mem hk, by rw [h]; simp⟩
theorem match_good {P L : List Tg} (h : ∀ i, (hi : i < P.length) → okM L P[i] = true) : matchT P L = true := by
  unfold matchT
  rw [List.all_eq_true]
  intro x hx
  obtain ⟨i, hi, rfl⟩ := List.getElem_of_mem hx
  exact h i hi
set_option maxRecDepth 100000 in
set_option maxHeartbeats 4000000 in
theorem match_any (A B : Option Addr) (c d : Nat) (P L : List Tg) (w : World) (hA : RowT w A P) (hB : RowT w B L) (hp : P.length ≤ 100) (hn : L.length ≤ 100) :
    Calls Tryd.prog 17 #[.slice A P.length c, .slice B L.length d] w fun e w' => e = .returned (.bool (matchT P L)) ∧ Below w.heap.size w w' := by
  have HA := Lib.hid hA
  have HBr := Lib.hid hB
  clear hA hB
  go_enter Tryd.func17, Tryd.ntmps17
  go_wp2
  go_loopw [11] (fun x wr => ∃ k : Nat, k ≤ P.length ∧ x = .int .i64 k ∧ Hid (∀ i, i < k → (hi : i < P.length) → okM L P[i] = true) ∧ Hid (Below w.heap.size w wr)) (fun x _ => P.length - (intOf x).toNat)
  case atStart => exact ⟨0, Nat.zero_le _, rfl, Lib.hid (fun i hi => by omega), Lib.hid (Below.refl _ _)⟩
  case round =>
    obtain ⟨k, hk, rfl, HK, HB⟩ := hrel
    by_cases h : k < P.length
    · have h' : (k : Int) < (P.length : Int) := by omega
      obtain ⟨b, off, rfl, hl, hc⟩ := (HA.out.below HB.out).1 (by omega)
      obtain ⟨c0, c1⟩ := hc k h
      have HK2 := Lib.hid (show okM L P[k] = true → ∀ i, i < k + 1 → (hi : i < P.length) → okM L P[i] = true from fun q i hi hl => by
        by_cases e : i = k
        · subst e; exact q
        · exact HK.out i (by omega) hl)
      have HBad := Lib.hid (fun q => match_bad (P := P) (L := L) h q)
      have HOk := Lib.hid (show okM L P[k] = ((getV L P[k].1).2 && ((P[k].2.toList == [42]) || (P[k].2.toList == (getV L P[k].1).1.toList))) from rfl)
      obtain ⟨S, hS⟩ : ∃ S, P[k].1 = S := ⟨_, rfl⟩
      obtain ⟨T, hT⟩ : ∃ T, P[k].2 = T := ⟨_, rfl⟩
      rw [hS] at c0 HOk
      rw [hT] at c1 HOk
      have HG := Lib.hid (fun W (hb : Below w.heap.size w W) => get_any B d L S W (HBr.out.below hb) hn)
      have hp2 := Pr2.alloc wr (.string S) (.string T) 32
      have l0 := hp2.c0
      have HP2 := Lib.hid hp2
      have HB2 := Lib.hid (HB.out.alloc (by have := HB.out.size; omega) (Obj.cells #[.string S, .string T] 32))
      clear hp2
      generalize (getV L S).1 = v at *
      clear hS hT hc
      cases fo : (getV L S).2
      · rw [fo] at HG HOk
        have HF := Lib.hid (HBad.out (by rw [HOk.out]; rfl))
        clear HOk HK2 HBad HK fo
        go_wp2_with fail
        refine (HG.out _ HB2.out).mono ?_
        rintro e w5 ⟨rfl, hb5⟩
        have HP5 := Lib.hid (HP2.out.below hb5)
        have r0 := HP5.out.c0
        have r1 := HP5.out.c1
        have HB3 := Lib.hid (HB2.out.trans (hb5.mono HB2.out.size))
        clear hb5
        go_wp2
        go_ret
        exact ⟨ret_bool (by rw [HF.out]), HB3.out⟩
      · rw [fo] at HG HOk
        clear fo
        cases st : (T.toList == [42])
        · rw [st] at HOk
          have hcm : (v.toList == T.toList) = (T.toList == v.toList) := beq_sw _ _
          cases eq : (T.toList == v.toList)
          · rw [eq] at HOk hcm
            have HF := Lib.hid (HBad.out (by rw [HOk.out]; rfl))
            clear HOk HK2 HBad HK
            go_wp2_with fail
            refine (HG.out _ HB2.out).mono ?_
            rintro e w5 ⟨rfl, hb5⟩
            have HP5 := Lib.hid (HP2.out.below hb5)
            have r0 := HP5.out.c0
            have r1 := HP5.out.c1
            have HB3 := Lib.hid (HB2.out.trans (hb5.mono HB2.out.size))
            clear hb5
            go_wp2
            go_ret
            exact ⟨ret_bool (by rw [HF.out]), HB3.out⟩
          · rw [eq] at HOk hcm
            have HGd := Lib.hid (HK2.out (by rw [HOk.out]; rfl))
            clear HOk HK2 HBad HK
            go_wp2_with fail
            refine (HG.out _ HB2.out).mono ?_
            rintro e w5 ⟨rfl, hb5⟩
            have HP5 := Lib.hid (HP2.out.below hb5)
            have r0 := HP5.out.c0
            have r1 := HP5.out.c1
            have HB3 := Lib.hid (HB2.out.trans (hb5.mono HB2.out.size))
            clear hb5
            go_wp2
            go_roundw
            case rel => exact ⟨k + 1, by omega, by go_num, HGd, HB3⟩
            case measure => simp [intOf]; omega
        · rw [st] at HOk
          have HGd := Lib.hid (HK2.out (by rw [HOk.out]; rfl))
          clear HOk HK2 HBad HK
          go_wp2_with fail
          refine (HG.out _ HB2.out).mono ?_
          rintro e w5 ⟨rfl, hb5⟩
          have HP5 := Lib.hid (HP2.out.below hb5)
          have r0 := HP5.out.c0
          have r1 := HP5.out.c1
          have HB3 := Lib.hid (HB2.out.trans (hb5.mono HB2.out.size))
          clear hb5
          go_wp2
          go_roundw
          case rel => exact ⟨k + 1, by omega, by go_num, HGd, HB3⟩
          case measure => simp [intOf]; omega
    · have h' : ¬ (k : Int) < (P.length : Int) := by omega
      have HE := Lib.hid (match_good (P := P) (L := L) (fun i hi => HK.out i (by omega) hi))
      go_wp2
      go_ret
      exact ⟨ret_bool (by rw [HE.out]), HB.out⟩
set_option maxRecDepth 100000 in
set_option maxHeartbeats 4000000 in
theorem rMatch_any (A B : Option Addr) (c d : Nat) (P L : List Tg) (w : World) (hA : RowT w A P) (hB : RowT w B L) (hp : P.length ≤ 100) (hn : L.length ≤ 100) :
    Calls Tryd.prog 18 #[.slice A P.length c, .slice B L.length d] w fun e w' => e = .returned (.bool (matchT P L)) ∧ Below w.heap.size w w' := by
  have HA := Lib.hid hA
  have HBr := Lib.hid hB
  clear hA hB
  go_enter Tryd.func18, Tryd.ntmps18
  go_wp2
  go_loopw [5] (fun x wr => ∃ k : Nat, k ≤ P.length ∧ x = .int .i64 k ∧ Hid (∀ i, i < k → (hi : i < P.length) → okM L P[i] = true) ∧ Hid (Below w.heap.size w wr)) (fun x _ => P.length - (intOf x).toNat)
  case atStart => exact ⟨0, Nat.zero_le _, rfl, Lib.hid (fun i hi => by omega), Lib.hid (Below.refl _ _)⟩
  case round =>
    obtain ⟨k, hk, rfl, HK, HB⟩ := hrel
    by_cases h : k < P.length
    · have h' : (k : Int) < (P.length : Int) := by omega
      obtain ⟨b, off, rfl, hl, hc⟩ := (HA.out.below HB.out).1 (by omega)
      obtain ⟨c0, c1⟩ := hc k h
      have HK2 := Lib.hid (show okM L P[k] = true → ∀ i, i < k + 1 → (hi : i < P.length) → okM L P[i] = true from fun q i hi hl => by
        by_cases e : i = k
        · subst e; exact q
        · exact HK.out i (by omega) hl)
      have HBad := Lib.hid (fun q => match_bad (P := P) (L := L) h q)
      have HOk := Lib.hid (show okM L P[k] = ((getV L P[k].1).2 && ((P[k].2.toList == [42]) || (P[k].2.toList == (getV L P[k].1).1.toList))) from rfl)
      obtain ⟨S, hS⟩ : ∃ S, P[k].1 = S := ⟨_, rfl⟩
      obtain ⟨T, hT⟩ : ∃ T, P[k].2 = T := ⟨_, rfl⟩
      rw [hS] at c0 HOk
      rw [hT] at c1 HOk
      have HG := Lib.hid (fun W (hb : Below w.heap.size w W) => (rGet_any B d L S W (HBr.out.below hb) hn).mono fun e w' h => (show _ ∧ Below W.heap.size W w' from ⟨h.1, h.2 ▸ Below.refl _ _⟩))
      have HB2 := HB
      generalize (getV L S).1 = v at *
      clear hS hT hc
      cases fo : (getV L S).2
      · rw [fo] at HG HOk
        have HF := Lib.hid (HBad.out (by rw [HOk.out]; rfl))
        clear HOk HK2 HBad HK fo
        go_wp2_with fail
        refine (HG.out _ HB2.out).mono ?_
        rintro e w5 ⟨rfl, hb5⟩
        have r1 : w5.cell? ⟨b, off + k * 2 + 1, none⟩ = some (.string T) := by rw [hb5.cell hl]; exact c1
        have HB3 := Lib.hid (HB2.out.trans (hb5.mono HB2.out.size))
        clear hb5
        go_wp2
        go_ret
        exact ⟨ret_bool (by rw [HF.out]), HB3.out⟩
      · rw [fo] at HG HOk
        clear fo
        cases st : (T.toList == [42])
        · rw [st] at HOk
          have hcm : (v.toList == T.toList) = (T.toList == v.toList) := beq_sw _ _
          cases eq : (T.toList == v.toList)
          · rw [eq] at HOk hcm
            have HF := Lib.hid (HBad.out (by rw [HOk.out]; rfl))
            clear HOk HK2 HBad HK
            go_wp2_with fail
            refine (HG.out _ HB2.out).mono ?_
            rintro e w5 ⟨rfl, hb5⟩
            have r1 : w5.cell? ⟨b, off + k * 2 + 1, none⟩ = some (.string T) := by rw [hb5.cell hl]; exact c1
            have HB3 := Lib.hid (HB2.out.trans (hb5.mono HB2.out.size))
            clear hb5
            go_wp2
            go_ret
            exact ⟨ret_bool (by rw [HF.out]), HB3.out⟩
          · rw [eq] at HOk hcm
            have HGd := Lib.hid (HK2.out (by rw [HOk.out]; rfl))
            clear HOk HK2 HBad HK
            go_wp2_with fail
            refine (HG.out _ HB2.out).mono ?_
            rintro e w5 ⟨rfl, hb5⟩
            have r1 : w5.cell? ⟨b, off + k * 2 + 1, none⟩ = some (.string T) := by rw [hb5.cell hl]; exact c1
            have HB3 := Lib.hid (HB2.out.trans (hb5.mono HB2.out.size))
            clear hb5
            go_wp2
            go_roundw
            case rel => exact ⟨k + 1, by omega, by go_num, HGd, HB3⟩
            case measure => simp [intOf]; omega
        · rw [st] at HOk
          have HGd := Lib.hid (HK2.out (by rw [HOk.out]; rfl))
          clear HOk HK2 HBad HK
          go_wp2_with fail
          refine (HG.out _ HB2.out).mono ?_
          rintro e w5 ⟨rfl, hb5⟩
          have r1 : w5.cell? ⟨b, off + k * 2 + 1, none⟩ = some (.string T) := by rw [hb5.cell hl]; exact c1
          have HB3 := Lib.hid (HB2.out.trans (hb5.mono HB2.out.size))
          clear hb5
          go_wp2
          go_roundw
          case rel => exact ⟨k + 1, by omega, by go_num, HGd, HB3⟩
          case measure => simp [intOf]; omega
    · have h' : ¬ (k : Int) < (P.length : Int) := by omega
      have HE := Lib.hid (match_good (P := P) (L := L) (fun i hi => HK.out i (by omega) hi))
      go_wp2
      go_ret
      exact ⟨ret_bool (by rw [HE.out]), HB.out⟩
theorem tg_ne {a b : List Tg} {k : Nat} (h1 : k < a.length) (h2 : k < b.length) (h : (a[k].1.toList == b[k].1.toList && a[k].2.toList == b[k].2.toList) = false) : decide (a = b) = false := by
  refine decide_eq_false fun e => ?_
  subst e
  simp at h
theorem tg_eq {a b : Tg} (h : (a.1.toList == b.1.toList && a.2.toList == b.2.toList) = true) : a = b := by
  simp only [Bool.and_eq_true, beq_iff_eq] at h
  exact Prod.ext (ba_ext h.1) (ba_ext h.2)
set_option maxRecDepth 100000 in
set_option maxHeartbeats 2000000 in
theorem same_any (A B : Option Addr) (c d : Nat) (P L : List Tg) (w : World) (hA : RowT w A P) (hB : RowT w B L) (hp : P.length ≤ 100) (hn : L.length ≤ 100) :
    Calls Tryd.prog 14 #[.slice A P.length c, .slice B L.length d] w fun e w' => e = .returned (.bool (decide (P = L))) ∧ Below w.heap.size w w' := by
  have HA := Lib.hid hA
  have HBr := Lib.hid hB
  clear hA hB
  by_cases hl : P.length = L.length
  · have hl' : ((P.length : Int) != (L.length : Int)) = false := by simp; omega
    go_enter Tryd.func14, Tryd.ntmps14
    go_wp2
    go_loopw [5] (fun x wr => ∃ k : Nat, k ≤ P.length ∧ x = .int .i64 k ∧ Hid (P.take k = L.take k) ∧ Hid (Below w.heap.size w wr)) (fun x _ => P.length - (intOf x).toNat)
    case atStart => exact ⟨0, Nat.zero_le _, rfl, Lib.hid (by simp), Lib.hid (Below.refl _ _)⟩
    case round =>
      obtain ⟨k, hk, rfl, HT, HW⟩ := hrel
      by_cases h : k < P.length
      · have h' : (k : Int) < (P.length : Int) := by omega
        have hy2 : k < L.length := by omega
        have hy' : (k : Int) < (L.length : Int) := by omega
        obtain ⟨b, off, e1, b1, hc⟩ := (HA.out.below HW.out).1 (by omega)
        obtain ⟨b2, off2, e2, b3, hc2⟩ := (HBr.out.below HW.out).1 (by omega)
        subst e1 e2
        obtain ⟨c0, c1⟩ := hc k h
        obtain ⟨d0, d1⟩ := hc2 k hy2
        have HNe := Lib.hid (tg_ne (a := P) (b := L) h hy2)
        have HEq := Lib.hid (show (P[k].1.toList == L[k].1.toList && P[k].2.toList == L[k].2.toList) = true → P.take (k + 1) = L.take (k + 1) from fun q => by rw [List.take_succ_eq_append_getElem h, List.take_succ_eq_append_getElem hy2, HT.out, tg_eq q])
        clear hc hc2
        generalize P[k].1 = S1 at *
        generalize P[k].2 = S2 at *
        generalize L[k].1 = T1 at *
        generalize L[k].2 = T2 at *
        cases q1 : (S1.toList == T1.toList)
        · rw [q1, Bool.false_and] at HNe HEq
          have HF := Lib.hid (HNe.out rfl)
          clear HNe HEq
          go_wp2_with fail
          go_quiet (fail)
          have HW2 := Lib.hid (below_drewN HW.out nq)
          generalize wr.drewN nq = w2 at *
          go_wp2
          go_ret
          exact ⟨ret_bool (by rw [HF.out]), HW2.out⟩
        · rw [q1, Bool.true_and] at HNe HEq
          cases q2 : (S2.toList == T2.toList)
          · rw [q2] at HNe HEq
            have HF := Lib.hid (HNe.out rfl)
            clear HNe HEq
            go_wp2_with fail
            go_quiet (fail)
            have HW2 := Lib.hid (below_drewN HW.out nq)
            generalize wr.drewN nq = w2 at *
            go_wp2
            go_ret
            exact ⟨ret_bool (by rw [HF.out]), HW2.out⟩
          · rw [q2] at HNe HEq
            have HT2 := Lib.hid (HEq.out rfl)
            clear HNe HEq
            go_wp2_with fail
            go_quiet (fail)
            have HW2 := Lib.hid (below_drewN HW.out nq)
            generalize wr.drewN nq = w2 at *
            go_wp2
            go_roundw
            case rel => exact ⟨k + 1, by omega, by go_num, HT2, HW2⟩
            case measure => simp [intOf]; omega
      · have h' : ¬ (k : Int) < (P.length : Int) := by omega
        have HY := Lib.hid (show decide (P = L) = true from decide_eq_true (by have := HT.out; rwa [List.take_of_length_le (by omega), List.take_of_length_le (by omega)] at this))
        go_wp2
        go_ret
        exact ⟨ret_bool (by rw [HY.out]), HW.out⟩
  · have hl' : ((P.length : Int) != (L.length : Int)) = true := by simp; omega
    have HN := Lib.hid (show decide (P = L) = false from decide_eq_false (fun e => hl (by rw [e])))
    go_enter Tryd.func14, Tryd.ntmps14
    go_wp2
    go_ret
    exact ⟨ret_bool (by rw [HN.out]), Below.refl _ _⟩
end Go.Proofs.YtjoinifjkpaapaaDoor
