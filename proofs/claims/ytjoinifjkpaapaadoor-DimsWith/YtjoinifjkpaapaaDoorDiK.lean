/- What Parse of package accountingref09 returns. -/
import Derived.Test.YtjoinifjkpaapaaDoorDiJ
namespace Go.Proofs.YtjoinifjkpaapaaDoor
open Go.RowKit Go.Sort
set_option linter.unusedVariables false
set_option linter.unusedSimpArgs false

/-- the parts of l between the bytes c. -/
def splA (c : UInt8) : List UInt8 → List (List UInt8)
  | [] => [[]]
  | x :: l => if x = c then [] :: splA c l else match splA c l with
    | [] => [[x]]
    | p :: ps => (x :: p) :: ps
theorem splA_ne (c : UInt8) (l : List UInt8) : splA c l ≠ [] := by
  cases l with
  | nil => simp [splA]
  | cons x l =>
    unfold splA
    split
    · simp
    · split <;> simp
theorem cutI_cons (x : UInt8) (l : List UInt8) (c : UInt8) : cutI (x :: l) c = if x = c then 0 else cutI l c + 1 := by
  unfold cutI
  rw [List.findIdx_cons]
  by_cases h : x = c
  · subst h; simp
  · have : (x == c) = false := by simpa using h
    simp [this, h]
theorem spl_cut (c : UInt8) : ∀ l, splA c l = l.take (cutI l c) :: (if cutI l c < l.length then splA c (l.drop (cutI l c + 1)) else [])
  | [] => by simp [splA]
  | x :: l => by
    rw [cutI_cons]
    by_cases h : x = c
    · rw [if_pos h]
      simp [splA, h]
    · rw [if_neg h]
      have ih := spl_cut c l
      conv => lhs; unfold splA
      rw [if_neg h, ih]
      simp
/-- the tag that a part denotes. -/
def tgO (p : List UInt8) : Tg := (bs (p.take (cutI p 61)), bs (p.drop (cutI p 61 + 1)))
def tgsO (s : List UInt8) : List Tg := (splA 44 s).map tgO
theorem tgsO_cut (s : List UInt8) : tgsO s = tgO (s.take (cutI s 44)) :: (if cutI s 44 < s.length then tgsO (s.drop (cutI s 44 + 1)) else []) := by
  unfold tgsO
  rw [spl_cut 44 s]
  split <;> simp
def paR (s : List UInt8) : List Tg × Int := if s = [] then ([], 0) else if rightT (tgsO s) = true then (tgsO s, 0) else ([], 5)
theorem tgO_bd (p : List UInt8) (h : p.length ≤ 400) : (tgO p).1.size ≤ 400 ∧ (tgO p).2.size ≤ 400 := by
  unfold tgO
  simp only [bs_size, List.length_take, List.length_drop]
  omega
theorem tag_bad {L : List Tg} {t : Tg} (h : t ∈ L) (h2 : t.2 = ⟨#[]⟩) : rightT L = false := by
  obtain ⟨i, hi, rfl⟩ := List.getElem_of_mem h
  refine right_bad hi ?_
  unfold okI
  rw [getD_at hi, h2]
  have : tagB L[i].1 ⟨#[]⟩ = false := by
    unfold tagB
    rw [show codB (⟨#[]⟩ : ByteArray) = false from by decide +kernel, Bool.and_false]
  rw [this, Bool.false_and]
theorem tgO_none {p : List UInt8} (h : ¬ cutI p 61 < p.length) : (tgO p).2 = ⟨#[]⟩ := by
  unfold tgO
  rw [List.drop_of_length_le (by omega)]; rfl
set_option maxRecDepth 100000 in
set_option maxHeartbeats 3000000 in
theorem rParse_any (s : ByteArray) (w : World) (hs : s.size ≤ 400) :
    Calls Tryd.prog 22 #[.string s] w fun e w' => ∃ v, e = .returned (.tuple #[v, .int .i64 (paR s.toList).2]) ∧ OwnT w' w.heap.size v (paR s.toList).1 ∧ Below w.heap.size w w' := by
  by_cases h0 : s.toList = []
  · have hs0 : s = ⟨#[]⟩ := by rw [← bs_of s, h0]; rfl
    have HE := Lib.hid (show paR s.toList = ([], 0) from if_pos h0)
    clear h0
    subst hs0
    go_enter Tryd.func22, Tryd.ntmps22
    go_wp2
    go_ret2
    exact ⟨_, by rw [HE.out]; rfl, by rw [HE.out]; exact OwnT.nil _ _, Below.refl _ _⟩
  · have hne : s.toList.isEmpty = false := by simpa using h0
    have HE := Lib.hid (show paR s.toList = if rightT (tgsO s.toList) = true then (tgsO s.toList, 0) else ([], 5) from if_neg h0)
    obtain ⟨R, hR⟩ : ∃ R, paR s.toList = R := ⟨_, rfl⟩
    obtain ⟨T, hT⟩ : ∃ T, tgsO s.toList = T := ⟨_, rfl⟩
    rw [hR, hT] at HE
    rw [hR]
    have HT := Lib.hid hT.symm
    clear hR hT h0
    go_enter Tryd.func22, Tryd.ntmps22
    go_wp2
    go_loopw [0, 4, 5] (fun x y z wr => ∃ (S : ByteArray) (v : Value) (M : List Tg) (m : Bool), x = .string S ∧ y = v ∧ z = .bool m ∧ Hid (T = M ++ (if m = true then tgsO S.toList else [])) ∧ S.size ≤ 400 ∧ Hid (M.length ≤ 7 ∧ ∀ t ∈ M, t.1.size ≤ 400 ∧ t.2.size ≤ 400) ∧ Hid (OwnT wr w.heap.size v M) ∧ Hid (Below w.heap.size w wr)) (fun x _ z _ => match x, z with | .string S, .bool true => S.size + 1 | _, _ => 0)
    case atStart => exact ⟨s, _, [], true, rfl, rfl, rfl, Lib.hid (by rw [HT.out]; rfl), hs, Lib.hid ⟨by simp, by simp⟩, Lib.hid (OwnT.nil _ _), Lib.hid (Below.refl _ _)⟩
    case round =>
      clear HT hne hs
      obtain ⟨S, v, M, m, rfl, rfl, rfl, HF, hS, HM, HO, HB⟩ := hrel
      cases m
      · have HF2 := Lib.hid (show T = M by rw [HF.out]; simp)
        clear HF
        obtain ⟨ao, cap, rfl, hv1, hv2⟩ := HO.out.shape
        have HRt := Lib.hid (rRight_any ao cap M wr (HO.out.row HM.out.2) (by have := HM.out.1; omega))
        clear hv1 hv2
        have HE2 := Lib.hid (show R = if rightT M = true then (M, 0) else ([], 5) by rw [HE.out, HF2.out])
        cases hr : rightT M
        · rw [hr] at HRt HE2
          go_wp2_with fail
          refine HRt.out.mono ?_
          rintro e w2 ⟨rfl, hb⟩
          have HB2 := Lib.hid (HB.out.trans (hb.mono HB.out.size))
          clear hb
          go_wp2
          go_ret2
          exact ⟨_, by rw [HE2.out]; rfl, by rw [HE2.out]; exact OwnT.nil _ _, HB2.out⟩
        · rw [hr] at HRt HE2
          go_wp2_with fail
          refine HRt.out.mono ?_
          rintro e w2 ⟨rfl, hb⟩
          have HB2 := Lib.hid (HB.out.trans (hb.mono HB.out.size))
          have HO2 := Lib.hid (HO.out.below hb)
          clear hb
          go_wp2
          go_ret2
          exact ⟨_, by rw [HE2.out]; rfl, by rw [HE2.out]; exact HO2.out, HB2.out⟩
      · have HF2 := Lib.hid (show T = M ++ tgsO S.toList by rw [HF.out, if_pos rfl])
        rw [tgsO_cut] at HF2
        clear HF
        have hL : S.toList.length = S.size := bytes_len S
        obtain ⟨P, hP⟩ : ∃ P, S.toList.take (cutI S.toList 44) = P := ⟨_, rfl⟩
        obtain ⟨D, hD⟩ : ∃ D, S.toList.drop (cutI S.toList 44 + 1) = D := ⟨_, rfl⟩
        have hPl : P.length ≤ 400 := by rw [← hP, List.length_take]; omega
        have hDl : D.length ≤ 400 := by rw [← hD, List.length_drop]; omega
        have hDl2 : cutI S.toList 44 < S.size → D.length < S.size := by intro q; rw [← hD, List.length_drop]; omega
        have HP1 := Lib.hid (fun W => rPart_any S 44 W (by unfold maxLen; omega))
        rw [hP, hD] at HP1 HF2
        rw [hL] at HF2
        have hin : decide (cutI S.toList 44 < S.size) = decide (cutI S.toList 44 < S.size) := rfl
        have HP2 := Lib.hid (fun W => rPart_any (bs P) 61 W (by rw [bs_size]; unfold maxLen; omega))
        rw [bs_list, bs_size] at HP2
        have HBd := Lib.hid (tgO_bd P hPl)
        have HTo := Lib.hid (show tgO P = (bs (P.take (cutI P 61)), bs (P.drop (cutI P 61 + 1))) from rfl)
        have HNo := Lib.hid (fun q => tgO_none (p := P) q)
        generalize hA : bs (P.take (cutI P 61)) = NA at *
        generalize hV : bs (P.drop (cutI P 61 + 1)) = VA at *
        clear hA hV
        have hDb : (bs D).size ≤ 400 := by rw [bs_size]; exact hDl
        have HDm := Lib.hid (show cutI S.toList 44 < S.size → (bs D).size < S.size from fun q => by rw [bs_size]; exact hDl2 q)
        have HDs := Lib.hid (bs_list D)
        generalize bs D = DB at *
        generalize bs P = PB at *
        clear hP hD hPl hDl hDl2 hL hin
        obtain ⟨ao, cap, rfl, hv1, hv2⟩ := HO.out.shape
        clear hv1 hv2
        by_cases hc : cutI P 61 < P.length
        · rw [decide_eq_true hc] at HP2
          by_cases h6 : 6 < M.length
          · have h6' : (6 : Int) < (M.length : Int) := by omega
            have HE2 := Lib.hid (show R = ([], 5) by
              rw [HE.out, right_long (by rw [HF2.out, List.length_append, List.length_cons]; omega)]; rfl)
            generalize decide (cutI S.toList 44 < S.size) = more at *
            go_wp2_with fail
            refine (HP1.out _).mono ?_
            rintro e w2 ⟨rfl, hb⟩
            have HB2 := Lib.hid (HB.out.trans (hb.mono HB.out.size))
            clear hb
            go_wp2_with fail
            refine (HP2.out _).mono ?_
            rintro e w3 ⟨rfl, hb⟩
            have HB3 := Lib.hid (HB2.out.trans (hb.mono HB2.out.size))
            clear hb
            go_wp2
            go_ret2
            exact ⟨_, by rw [HE2.out]; rfl, by rw [HE2.out]; exact OwnT.nil _ _, HB3.out⟩
          · have h6' : ¬ (6 : Int) < (M.length : Int) := by omega
            have HF3 := Lib.hid (show T = (M ++ [(NA, VA)]) ++ (if decide (cutI S.toList 44 < S.size) = true then tgsO DB.toList else []) by
              rw [HF2.out, HTo.out, HDs.out, List.append_assoc, List.singleton_append]; simp)
            have HDm2 := Lib.hid (show decide (cutI S.toList 44 < S.size) = true → DB.size < S.size from fun q => HDm.out (by simpa using q))
            clear HF2 HDm
            generalize decide (cutI S.toList 44 < S.size) = more at *
            have s0 : NA.size ≤ 400 := by have := HBd.out.1; rw [HTo.out] at this; exact this
            have s1 : VA.size ≤ 400 := by have := HBd.out.2; rw [HTo.out] at this; exact this
            go_wp2_with fail
            refine (HP1.out _).mono ?_
            rintro e w2 ⟨rfl, hb⟩
            have HB2 := Lib.hid (HB.out.trans (hb.mono HB.out.size))
            have HO2 := Lib.hid (HO.out.below hb)
            clear hb
            go_wp2_with fail
            refine (HP2.out _).mono ?_
            rintro e w3 ⟨rfl, hb⟩
            have HB3 := Lib.hid (HB2.out.trans (hb.mono HB2.out.size))
            have HO3 := Lib.hid (HO2.out.below hb)
            have HW := Lib.hid (row_one w3 NA VA 32 s0 s1)
            clear hb
            go_wp2_with (at_builtin; refine wpList_tags rfl (.tmp 32) (.tmp 36) rfl w.heap.size _ M [(NA, VA)] rfl (HO3.out.below ((Below.refl _ _).alloc (Nat.le_refl _) _)) (some ⟨w3.heap.size, 0, none⟩) 1 rfl (fun e => by cases e) HW.out (by have := HM.out.1; simp; omega) (by have := HB3.out.size; simp; omega) ?_; intro v' w4 hown hbel; have HO4 := Lib.hid hown; have HB4 := Lib.hid (HB3.out.trans (((Below.refl _ _).alloc HB3.out.size _).trans hbel)); clear hown hbel)
            go_roundw
            case rel => exact ⟨DB, _, M ++ [(NA, VA)], more, rfl, rfl, rfl, HF3, hDb, Lib.hid ⟨by simp; omega, by intro t ht; rw [List.mem_append, List.mem_singleton] at ht; rcases ht with q | rfl; exact HM.out.2 t q; exact ⟨s0, s1⟩⟩, HO4, HB4⟩
            case measure =>
              cases more
              · simp
              · have := HDm2.out rfl
                simp; omega
        · rw [decide_eq_false hc] at HP2
          have HE2 := Lib.hid (show R = ([], 5) by
            rw [HE.out, tag_bad (L := T) (t := tgO P) (by rw [HF2.out]; simp) (HNo.out hc)]; rfl)
          generalize decide (cutI S.toList 44 < S.size) = more at *
          go_wp2_with fail
          refine (HP1.out _).mono ?_
          rintro e w2 ⟨rfl, hb⟩
          have HB2 := Lib.hid (HB.out.trans (hb.mono HB.out.size))
          clear hb
          go_wp2_with fail
          refine (HP2.out _).mono ?_
          rintro e w3 ⟨rfl, hb⟩
          have HB3 := Lib.hid (HB2.out.trans (hb.mono HB2.out.size))
          clear hb
          go_wp2
          go_ret2
          exact ⟨_, by rw [HE2.out]; rfl, by rw [HE2.out]; exact OwnT.nil _ _, HB3.out⟩
end Go.Proofs.YtjoinifjkpaapaaDoor
