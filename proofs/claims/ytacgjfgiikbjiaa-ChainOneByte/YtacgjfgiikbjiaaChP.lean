/- The statement ChainOneByte of package accountinglaw14. -/
import Derived.Test.YtacgjfgiikbjiaaChO
namespace Go.Proofs.Ytacgjfgiikbjiaa
open Go.RowKit Go.Sort
set_option linter.unusedVariables false
set_option linter.unusedSimpArgs false

theorem OwnR.made' (w : World) (base B : Nat) (h : base ≤ w.heap.size) (hB : B = w.heap.size) : OwnR (w.alloc (.cells #[] 23)) base (.slice (some ⟨B, 0, none⟩) 0 0) [] := by
  subst hB; exact OwnR.made w base h
theorem RecV.single {w : World} {ao : Option Addr} {l : List UInt8} {c : Nat} (h : RowB w ao l) : RecV w [.slice ao l.length c] [l] :=
  ⟨rfl, fun i v m hv hm => by
    match i, hv, hm with
    | 0, hv, hm => simp at hv hm; subst hv hm; exact ⟨ao, c, rfl, h⟩⟩
theorem RowV.drop {w : World} {b off n : Nat} {V : List Value} (h : RowV w (some ⟨b, off, none⟩) V) : RowV w (some ⟨b, off + n, none⟩) (V.drop n) := by
  intro i x hx
  rw [List.getElem?_drop] at hx
  obtain ⟨b1, off1, e, hlt, hc⟩ := h (n + i) x hx
  injection e with e
  injection e with e1 e2
  subst e1 e2
  exact ⟨b, off + n, rfl, hlt, by rw [show off + n + i = off + (n + i) by omega]; exact hc⟩
theorem recs_each {R : List (List UInt8)} {i : Nat} {l : List UInt8} (h : ∀ m ∈ R, m.length ≤ 10000) (hl : l.length ≤ 10000) : ∀ m ∈ chR R i l, m.length ≤ 10000 := by
  intro m hm
  unfold chR at hm
  rcases List.mem_append.1 hm with k | k
  · exact h m (List.mem_of_mem_take k)
  · rcases List.mem_append.1 k with k | k
    · simp at k; subst k; exact hl
    · exact h m (List.mem_of_mem_drop k)
set_option maxHeartbeats 4000000 in
theorem chainOneByte_walk (a : Option Addr) (len cap : Nat) (R : List (List UInt8)) (at_ k_ x_ : Int) (w : World) (w0 : IsR w a len cap R) (w1 : (Lit.int .i64 at_).wf = true) (w2 : (Lit.int .i64 k_).wf = true) (w3 : (Lit.int .u8 x_).wf = true) :
    Calls Try.prog 9 #[.agg #[.slice a len cap, .int .i64 at_, .int .i64 k_, .int .u8 x_]] w fun e w' => e = .returned (.bool true) ∧ Below w.heap.size w w' := by
  obtain rfl := w0.hlen
  obtain ⟨x0, x1⟩ := u8_bd w3
  obtain ⟨x, rfl⟩ : ∃ x : UInt8, x_ = (x.toNat : Int) := ⟨byI x_, (byI_val x0 x1).symm⟩
  have hcap := w0.hcap
  unfold maxLen at hcap
  have H0 := Lib.hid (fun w => large_any a cap R w)
  have HM := Lib.hid (w0.hmax)
  have HE := Lib.hid (w0.heach)
  have HR := Lib.hid w0.hrow
  clear w0 w1 w2 w3 x0 x1
  go_enter Try.func9, Try.ntmps9
  go_wp2_with fail
  go_quiet (fail)
  have HBq := Lib.hid (below_drewN ((Below.refl w.heap.size w).alloc (Nat.le_refl _) (Obj.cells #[.slice a R.length cap, .int .i64 at_, .int .i64 k_, .int .u8 (x.toNat : Int)] 47)) nq)
  generalize (w.alloc (Obj.cells #[.slice a R.length cap, .int .i64 at_, .int .i64 k_, .int .u8 (x.toNat : Int)] 47)).drewN nq = W0 at *
  go_wp2_with fail
  refine (H0.out _ (HR.out.below HBq.out) HM.out HE.out).mono ?_
  rintro e w_ ⟨⟨c0, rfl, hc0⟩, rfl⟩
  cases c0 with
  | true =>
    clear hc0
    go_wp2_with fail
    refine (live_end HBq.out).mono ?_
    rintro e W1 ⟨rfl, hb⟩
    go_wp2
    go_ret
    exact ⟨rfl, hb⟩
  | false =>
  obtain ⟨hn, hl⟩ := hc0 rfl
  have HL4 := Lib.hid hl
  have HL := Lib.hid (show ∀ l ∈ R, l.length ≤ 10000 from fun l h => Nat.le_trans (hl l h) (by omega))
  clear hl hc0
  by_cases h1 : at_ < 0
  · go_wp2_with fail
    refine (live_end HBq.out).mono ?_
    rintro e W5 ⟨rfl, hb⟩
    go_wp2
    go_ret
    exact ⟨rfl, hb⟩
  by_cases h2 : (R.length : Int) ≤ at_
  · go_wp2_with fail
    refine (live_end HBq.out).mono ?_
    rintro e W5 ⟨rfl, hb⟩
    go_wp2
    go_ret
    exact ⟨rfl, hb⟩
  obtain ⟨i, rfl⟩ : ∃ k : Nat, at_ = (k : Int) := ⟨at_.toNat, by omega⟩
  have hik : i < R.length := by omega
  have hiki : (i : Int) < (R.length : Int) := by omega
  have g1 : decide ((i : Int) < 0) = false := by simp
  have g2 : ¬ R.length ≤ i := by omega
  clear h1
  by_cases h3 : k_ < 0
  · go_wp2_with fail
    refine (live_end HBq.out).mono ?_
    rintro e W5 ⟨rfl, hb⟩
    go_wp2
    go_ret
    exact ⟨rfl, hb⟩
  obtain ⟨k, rfl⟩ : ∃ k : Nat, k_ = (k : Int) := ⟨k_.toNat, by omega⟩
  have g3 : decide ((k : Int) < 0) = false := by simp
  clear h3
  obtain ⟨b1, off1, ao', c', e1, hb1, hc1, hr1⟩ := (HR.out.below HBq.out).at i hik
  subst e1
  have hl4 := HL4.out R[i] (List.getElem_mem hik)
  by_cases h4 : (R[i].length : Int) ≤ (k : Int)
  · clear hr1
    generalize R[i] = l at *
    go_wp2_with fail
    refine (live_end HBq.out).mono ?_
    rintro e W5 ⟨rfl, hb⟩
    go_wp2
    go_ret
    exact ⟨rfl, hb⟩
  have hkl : k < R[i].length := by omega
  have hkli : (k : Int) < (R[i].length : Int) := by omega
  have g4 : ¬ R[i].length ≤ k := by omega
  obtain ⟨b2, off2, e2, hb2, hc2⟩ := hr1.at k hkl
  subst e2
  by_cases h5 : R[i][k] = x
  · have q : ((R[i][k].toNat : Int) == (x.toNat : Int)) = true := by rw [h5]; simp
    clear h5 hr1
    generalize R[i][k] = z at *
    generalize R[i] = l at *
    go_wp2_with fail
    refine (live_end HBq.out).mono ?_
    rintro e W5 ⟨rfl, hb⟩
    go_wp2
    go_ret
    exact ⟨rfl, hb⟩
  have q : ((R[i][k].toNat : Int) == (x.toNat : Int)) = false := by
    simp only [beq_eq_false_iff_ne, ne_eq]
    intro e; exact h5 (UInt8.toNat.inj (by omega))
  have HP1 := Lib.hid (fun j hj => al_before (k := k) (x := x) (j := j) hik hj)
  have HP2 := Lib.hid (fun j hj => al_behind (j := j) hik hkl h5 hj)
  have HP3 := Lib.hid (chV_chR hik hkl h5)
  have HRl := Lib.hid hr1
  obtain ⟨V, hV, hv⟩ := (HR.out.below HBq.out).vals
  have HV := Lib.hid hV
  have Hv := Lib.hid hv
  have HX := Lib.hid (show (R[i].map byV)[k]? = some (.int .u8 (R[i][k].toNat : Int)) by rw [List.getElem?_map, List.getElem?_eq_getElem hkl]; rfl)
  clear hV hv h5 hr1
  generalize R[i][k] = z at *
  have hVl : V.length ≤ 40 := by have := HV.out.1; omega
  have HCl := Lib.hid (chR_len (l := R[i].set k x) hik)
  have HCe := Lib.hid (recs_each (i := i) (l := R[i].set k x) HL.out (by rw [List.length_set]; omega))
  have HCV := Lib.hid (show chR R i (R[i].set k x) = R.take i ++ ([R[i].set k x] ++ R.drop (i + 1)) from rfl)
  generalize chR R i (R[i].set k x) = M at *
  generalize R[i] = l at *
  have HTl := Lib.hid (show (V.take i).length = i by have := HV.out.1; rw [List.length_take]; omega)
  have HDl := Lib.hid (show (V.drop (i + 1)).length = R.length - (i + 1) by rw [List.length_drop, HV.out.1])
  have HLv := Lib.hid (show ∀ v : Value, (V.take i ++ [v] ++ V.drop (i + 1)).length = R.length from fun v => by rw [List.length_append, List.length_append, HTl.out, HDl.out]; simp; omega)
  by_cases hce : cap = i + 1
  · have HDn := Lib.hid (show V.drop (i + 1) = [] from List.drop_of_length_le (by have := HV.out.1; omega))
    subst hce
    go_wp2_with (at_builtin; first
      | (refine wpList_bytes rfl (.tmp 57) (.tmp 61) rfl W0.heap.size _ [] l rfl (OwnB.made W0 _ (Nat.le_refl _)) (some ⟨b2, off2, none⟩) c' rfl (fun e => by cases e) (HRl.out.below ((Below.refl _ _).alloc (Nat.le_refl _) _)) (by simp; omega) (by simp) ?_; intro v' w1 hown hbel; rw [List.nil_append] at hown; have HO := Lib.hid hown; have HB := Lib.hid (((Below.refl W0.heap.size W0).alloc (Nat.le_refl _) _).trans hbel); clear hown hbel; obtain ⟨av, cv, hva⟩ := HO.out.shape; subst hva; have HG := Lib.hid (OwnV.place HO.out (by rw [List.length_map]; omega)); obtain ⟨g, rfl, hg1, hg2, hgf⟩ := HG.out; have hgk := hgf k (by rw [List.length_map]; exact hkl); clear hgf HG; obtain ⟨b6, off6, e6, _, hc6⟩ := (OwnV.row HO.out) k _ HX.out; injection e6 with e6; injection e6 with e7 e8; subst e7; subst e8; rw [Nat.zero_add] at hc6; have HSet := Lib.hid (RowV.set (OwnV.row HO.out) (by rw [List.length_map]; exact hkl) (byV x)); rw [Nat.zero_add, ← List.map_set] at HSet; unfold byV at HSet; have HBs := Lib.hid (HB.out.setCell (p := ⟨g, k, none⟩) hg1 (.int .u8 (x.toNat : Int))); have HBS := Lib.hid ((Below.refl w1.heap.size (w1.setCell ⟨g, k, none⟩ (.int .u8 (x.toNat : Int)))).size))
      | (refine wpList_recs rfl (.tmp 67) (.tmp 70) rfl w1.heap.size _ [] (V.take i) rfl (OwnR.made' (w1.setCell ⟨g, k, none⟩ (.int .u8 (x.toNat : Int))) w1.heap.size w1.heap.size (by simp) (by simp)) (some ⟨b1, off1, none⟩) (i + 1) (show _ = Value.slice (some ⟨b1, off1, none⟩) (V.take i).length (i + 1) by rw [HTl.out]; rfl) (fun e => by cases e) (((Hv.out.below HBs.out).below ((Below.refl _ _).alloc (Nat.le_refl _) _)).take i) (HV.out.take i).one (by have := HTl.out; simp; omega) (by simp) ?_; intro v' w6 hown hbel; rw [List.nil_append] at hown; have HO6 := Lib.hid hown; have HB6 := Lib.hid (((Below.refl w1.heap.size (w1.setCell ⟨g, k, none⟩ (.int .u8 (x.toNat : Int)))).alloc (by simp) (Obj.cells #[] 23)).trans hbel); clear hown hbel; obtain ⟨av6, cv6, hv6⟩ := HO6.out.shape; rw [HTl.out] at hv6; subst hv6; have hs6 : w1.heap.size ≤ w6.heap.size := (by have h6 := HB6.out.size; simp at h6; exact h6))
      | (refine wpList_recs rfl (.tmp 71) (.tmp 73) rfl w1.heap.size _ (V.take i) [.slice (some ⟨g, 0, none⟩) l.length cv] rfl (OwnV.below HO6.out ((Below.refl _ _).alloc (Nat.le_refl _) _)) (some ⟨_, 0, none⟩) 1 rfl (fun e => by cases e) row_one (by intro y hy; simp at hy; subst hy; rfl) (by have := HTl.out; simp; omega) (by simp; omega) ?_; intro v' w7 hown hbel; have HO7 := Lib.hid hown; have HB7 := Lib.hid ((HB6.out.alloc hs6 _).trans hbel); clear hown hbel; obtain ⟨av7, cv7, hv7⟩ := HO7.out.shape; rw [List.length_append, HTl.out, List.length_singleton] at hv7; subst hv7; have hs7 : w1.heap.size ≤ w7.heap.size := (by have h7 := HB7.out.size; simp at h7; exact h7))
      | (refine wpList_recs rfl (.tmp 75) (.tmp 79) rfl w1.heap.size _ (V.take i ++ [Value.slice (some ⟨g, 0, none⟩) l.length cv]) (V.drop (i + 1)) rfl HO7.out (some ⟨b1, off1, none⟩) 0 (show _ = Value.slice (some ⟨b1, off1, none⟩) (V.drop (i + 1)).length 0 by rw [HDl.out]; go_simp) (fun e => by cases e) (by rw [HDn.out]; exact RowV.nil _ _) (HV.out.drop (i + 1)).one (by have := HLv.out (Value.slice (some ⟨g, 0, none⟩) l.length cv); rw [List.length_append] at this; omega) hs7 ?_; intro v' w8 hown hbel; have HO8 := Lib.hid hown; have HB8 := Lib.hid (HB7.out.trans hbel); clear hown hbel; obtain ⟨av8, cv8, hv8⟩ := HO8.out.shape; rw [HLv.out] at hv8; subst hv8))
    have HBW5 := Lib.hid (HBs.out.trans (HB8.out.mono (by have := HB.out.size; exact this)))
    have HBW := Lib.hid (HBq.out.trans (HBW5.out.mono HBq.out.size))
    have HRM := Lib.hid (show Recs w8 av8 M by
      rw [HCV.out]
      have ho := HO8.out
      rw [List.append_assoc] at ho
      have h1 : RecV w8 [.slice (some ⟨g, 0, none⟩) l.length cv] [l.set k x] := by
        have := RecV.single (c := cv) (RowB.below (l := l.set k x) HSet.out (HB8.out.mono (by simp)))
        rw [List.length_set] at this; exact this
      exact ((HV.out.below HBW5.out).take i |>.app (h1.app ((HV.out.below HBW5.out).drop (i + 1)))).recs (OwnV.row ho))
    have HRR := Lib.hid (HR.out.below HBW.out)
    clear HO HSet HBs HO6 HB6 HO7 HB7 HO8 HB8 HB HBW5 HX HRl
    clear hc6 hgk hc2 hc1
    refine (all_any (some ⟨b1, off1, none⟩) (i + 1) R _ HRR.out (by omega) HL.out).mono ?_
    rintro e W9 ⟨v, rfl, ho, hb9⟩
    obtain ⟨av9, cv9, hv9⟩ := ho.shape
    rw [alV_len] at hv9
    subst hv9
    have HU9 := Lib.hid ho.row
    have HB9 := Lib.hid (HBW.out.trans (hb9.mono HBW.out.size))
    have HRM9 := Lib.hid (HRM.out.below hb9)
    clear ho hb9 HRM HRR
    go_wp2_with fail
    refine (all_n av8 cv8 R.length M _ HRM9.out HCl.out (by omega) HCe.out).mono ?_
    rintro e W10 ⟨v, rfl, ho, hb10⟩
    obtain ⟨av10, cv10, hv10⟩ := ho.shape
    rw [alV_len, HCl.out] at hv10
    subst hv10
    have HU10 := Lib.hid ho.row
    have HU910 := Lib.hid (HU9.out.below hb10)
    have HB10 := Lib.hid (HB9.out.trans (hb10.mono HB9.out.size))
    have HRM10 := Lib.hid (HRM9.out.below hb10)
    clear ho hb10 HRM9 HU9
    have HAL := Lib.hid (alV_len R st0)
    have HAM := Lib.hid (show (alV st0 M).length = R.length by rw [alV_len, HCl.out])
    go_wp2
    go_loopw [11] (fun ii wr => ∃ j : Nat, j ≤ R.length ∧ ii = .int .i64 (j : Int) ∧ Hid (Below w.heap.size w wr) ∧ Hid (RowU wr av9 (alV st0 R)) ∧ Hid (RowU wr av10 (alV st0 M)) ∧ Hid (Recs wr av8 M)) (fun ii _ => R.length - (intOf ii).toNat)
    case atStart => exact ⟨0, by omega, by go_num, HB10, HU910, HU10, HRM10⟩
    case round =>
      obtain ⟨j, hj, rfl, HBr, HUa, HUb, HRr⟩ := hrel
      by_cases kk : j < R.length
      · have hij : (j : Int) < (R.length : Int) := by omega
        have ka : j < (alV st0 R).length := by rw [HAL.out]; exact kk
        have kb : j < (alV st0 M).length := by rw [HAM.out]; exact kk
        obtain ⟨b3, off3, e3, hb3, hc3⟩ := HUa.out.at j ka
        obtain ⟨b4, off4, e4, hb4, hc4⟩ := HUb.out.at j kb
        subst e3 e4
        by_cases hlt : j < i
        · have q1 : ((alV st0 R)[j] == (alV st0 M)[j]) = true := by
            have := HP1.out j hlt
            rw [List.getElem?_eq_getElem ka, List.getElem?_eq_getElem kb] at this
            injection this with this
            rw [this]; simp
          have q2 : (j : Int) < (i : Int) := by omega
          generalize (alV st0 R)[j] = y1 at *
          generalize (alV st0 M)[j] = y2 at *
          go_wp2_with fail
          go_quiet (fail)
          go_wp2
          go_roundw
          case rel => exact ⟨j + 1, by omega, by go_num, Lib.hid (below_drewN HBr.out _), HUa, HUb, HRr⟩
          case measure => simp [intOf]; omega
        · have q1 : ((alV st0 R)[j] == (alV st0 M)[j]) = false := by
            have := HP2.out j (by omega) _ _ (List.getElem?_eq_getElem ka) (List.getElem?_eq_getElem kb)
            simpa using this
          have q2 : ¬ (j : Int) < (i : Int) := by omega
          generalize (alV st0 R)[j] = y1 at *
          generalize (alV st0 M)[j] = y2 at *
          go_wp2_with fail
          go_quiet (fail)
          go_wp2
          go_roundw
          case rel => exact ⟨j + 1, by omega, by go_num, Lib.hid (below_drewN HBr.out _), HUa, HUb, HRr⟩
          case measure => simp [intOf]; omega
      · have hij : ¬ (j : Int) < (R.length : Int) := by omega
        go_wp2_with fail
        refine (check_n av8 av9 cv8 cv9 R.length R.length M (alV st0 R) _ HRr.out HUa.out HCl.out HAL.out (by omega) (by omega) HCe.out).mono ?_
        rintro e W11 ⟨rfl, hb11⟩
        rw [HP3.out]
        have HB11 := Lib.hid (HBr.out.trans (hb11.mono HBr.out.size))
        clear hb11
        go_wp2_with fail
        refine (live_end HB11.out).mono ?_
        rintro e W12 ⟨rfl, hb⟩
        go_wp2
        go_ret
        exact ⟨rfl, hb⟩
  · skip
    go_wp2_with (at_builtin; first
      | (refine wpList_bytes rfl (.tmp 57) (.tmp 61) rfl W0.heap.size _ [] l rfl (OwnB.made W0 _ (Nat.le_refl _)) (some ⟨b2, off2, none⟩) c' rfl (fun e => by cases e) (HRl.out.below ((Below.refl _ _).alloc (Nat.le_refl _) _)) (by simp; omega) (by simp) ?_; intro v' w1 hown hbel; rw [List.nil_append] at hown; have HO := Lib.hid hown; have HB := Lib.hid (((Below.refl W0.heap.size W0).alloc (Nat.le_refl _) _).trans hbel); clear hown hbel; obtain ⟨av, cv, hva⟩ := HO.out.shape; subst hva; have HG := Lib.hid (OwnV.place HO.out (by rw [List.length_map]; omega)); obtain ⟨g, rfl, hg1, hg2, hgf⟩ := HG.out; have hgk := hgf k (by rw [List.length_map]; exact hkl); clear hgf HG; obtain ⟨b6, off6, e6, _, hc6⟩ := (OwnV.row HO.out) k _ HX.out; injection e6 with e6; injection e6 with e7 e8; subst e7; subst e8; rw [Nat.zero_add] at hc6; have HSet := Lib.hid (RowV.set (OwnV.row HO.out) (by rw [List.length_map]; exact hkl) (byV x)); rw [Nat.zero_add, ← List.map_set] at HSet; unfold byV at HSet; have HBs := Lib.hid (HB.out.setCell (p := ⟨g, k, none⟩) hg1 (.int .u8 (x.toNat : Int))); have HBS := Lib.hid ((Below.refl w1.heap.size (w1.setCell ⟨g, k, none⟩ (.int .u8 (x.toNat : Int)))).size))
      | (refine wpList_recs rfl (.tmp 67) (.tmp 70) rfl w1.heap.size _ [] (V.take i) rfl (OwnR.made' (w1.setCell ⟨g, k, none⟩ (.int .u8 (x.toNat : Int))) w1.heap.size w1.heap.size (by simp) (by simp)) (some ⟨b1, off1, none⟩) cap (show _ = Value.slice (some ⟨b1, off1, none⟩) (V.take i).length cap by rw [HTl.out]; rfl) (fun e => by cases e) (((Hv.out.below HBs.out).below ((Below.refl _ _).alloc (Nat.le_refl _) _)).take i) (HV.out.take i).one (by have := HTl.out; simp; omega) (by simp) ?_; intro v' w6 hown hbel; rw [List.nil_append] at hown; have HO6 := Lib.hid hown; have HB6 := Lib.hid (((Below.refl w1.heap.size (w1.setCell ⟨g, k, none⟩ (.int .u8 (x.toNat : Int)))).alloc (by simp) (Obj.cells #[] 23)).trans hbel); clear hown hbel; obtain ⟨av6, cv6, hv6⟩ := HO6.out.shape; rw [HTl.out] at hv6; subst hv6; have hs6 : w1.heap.size ≤ w6.heap.size := (by have h6 := HB6.out.size; simp at h6; exact h6))
      | (refine wpList_recs rfl (.tmp 71) (.tmp 73) rfl w1.heap.size _ (V.take i) [.slice (some ⟨g, 0, none⟩) l.length cv] rfl (OwnV.below HO6.out ((Below.refl _ _).alloc (Nat.le_refl _) _)) (some ⟨_, 0, none⟩) 1 rfl (fun e => by cases e) row_one (by intro y hy; simp at hy; subst hy; rfl) (by have := HTl.out; simp; omega) (by simp; omega) ?_; intro v' w7 hown hbel; have HO7 := Lib.hid hown; have HB7 := Lib.hid ((HB6.out.alloc hs6 _).trans hbel); clear hown hbel; obtain ⟨av7, cv7, hv7⟩ := HO7.out.shape; rw [List.length_append, HTl.out, List.length_singleton] at hv7; subst hv7; have hs7 : w1.heap.size ≤ w7.heap.size := (by have h7 := HB7.out.size; simp at h7; exact h7))
      | (refine wpList_recs rfl (.tmp 75) (.tmp 79) rfl w1.heap.size _ (V.take i ++ [Value.slice (some ⟨g, 0, none⟩) l.length cv]) (V.drop (i + 1)) rfl HO7.out (some ⟨b1, off1 + (i + 1), none⟩) (cap - (i + 1)) (show _ = Value.slice (some ⟨b1, off1 + (i + 1), none⟩) (V.drop (i + 1)).length (cap - (i + 1)) by rw [HDl.out]; rfl) (fun e => by cases e) (((Hv.out.below HBs.out).below (HB7.out.mono (by simp))).drop) (HV.out.drop (i + 1)).one (by have := HLv.out (Value.slice (some ⟨g, 0, none⟩) l.length cv); rw [List.length_append] at this; omega) hs7 ?_; intro v' w8 hown hbel; have HO8 := Lib.hid hown; have HB8 := Lib.hid (HB7.out.trans hbel); clear hown hbel; obtain ⟨av8, cv8, hv8⟩ := HO8.out.shape; rw [HLv.out] at hv8; subst hv8))
    have HBW5 := Lib.hid (HBs.out.trans (HB8.out.mono (by have := HB.out.size; exact this)))
    have HBW := Lib.hid (HBq.out.trans (HBW5.out.mono HBq.out.size))
    have HRM := Lib.hid (show Recs w8 av8 M by
      rw [HCV.out]
      have ho := HO8.out
      rw [List.append_assoc] at ho
      have h1 : RecV w8 [.slice (some ⟨g, 0, none⟩) l.length cv] [l.set k x] := by
        have := RecV.single (c := cv) (RowB.below (l := l.set k x) HSet.out (HB8.out.mono (by simp)))
        rw [List.length_set] at this; exact this
      exact ((HV.out.below HBW5.out).take i |>.app (h1.app ((HV.out.below HBW5.out).drop (i + 1)))).recs (OwnV.row ho))
    have HRR := Lib.hid (HR.out.below HBW.out)
    clear HO HSet HBs HO6 HB6 HO7 HB7 HO8 HB8 HB HBW5 HX HRl
    clear hc6 hgk hc2 hc1
    refine (all_any (some ⟨b1, off1, none⟩) cap R _ HRR.out (by omega) HL.out).mono ?_
    rintro e W9 ⟨v, rfl, ho, hb9⟩
    obtain ⟨av9, cv9, hv9⟩ := ho.shape
    rw [alV_len] at hv9
    subst hv9
    have HU9 := Lib.hid ho.row
    have HB9 := Lib.hid (HBW.out.trans (hb9.mono HBW.out.size))
    have HRM9 := Lib.hid (HRM.out.below hb9)
    clear ho hb9 HRM HRR
    go_wp2_with fail
    refine (all_n av8 cv8 R.length M _ HRM9.out HCl.out (by omega) HCe.out).mono ?_
    rintro e W10 ⟨v, rfl, ho, hb10⟩
    obtain ⟨av10, cv10, hv10⟩ := ho.shape
    rw [alV_len, HCl.out] at hv10
    subst hv10
    have HU10 := Lib.hid ho.row
    have HU910 := Lib.hid (HU9.out.below hb10)
    have HB10 := Lib.hid (HB9.out.trans (hb10.mono HB9.out.size))
    have HRM10 := Lib.hid (HRM9.out.below hb10)
    clear ho hb10 HRM9 HU9
    have HAL := Lib.hid (alV_len R st0)
    have HAM := Lib.hid (show (alV st0 M).length = R.length by rw [alV_len, HCl.out])
    go_wp2
    go_loopw [11] (fun ii wr => ∃ j : Nat, j ≤ R.length ∧ ii = .int .i64 (j : Int) ∧ Hid (Below w.heap.size w wr) ∧ Hid (RowU wr av9 (alV st0 R)) ∧ Hid (RowU wr av10 (alV st0 M)) ∧ Hid (Recs wr av8 M)) (fun ii _ => R.length - (intOf ii).toNat)
    case atStart => exact ⟨0, by omega, by go_num, HB10, HU910, HU10, HRM10⟩
    case round =>
      obtain ⟨j, hj, rfl, HBr, HUa, HUb, HRr⟩ := hrel
      by_cases kk : j < R.length
      · have hij : (j : Int) < (R.length : Int) := by omega
        have ka : j < (alV st0 R).length := by rw [HAL.out]; exact kk
        have kb : j < (alV st0 M).length := by rw [HAM.out]; exact kk
        obtain ⟨b3, off3, e3, hb3, hc3⟩ := HUa.out.at j ka
        obtain ⟨b4, off4, e4, hb4, hc4⟩ := HUb.out.at j kb
        subst e3 e4
        by_cases hlt : j < i
        · have q1 : ((alV st0 R)[j] == (alV st0 M)[j]) = true := by
            have := HP1.out j hlt
            rw [List.getElem?_eq_getElem ka, List.getElem?_eq_getElem kb] at this
            injection this with this
            rw [this]; simp
          have q2 : (j : Int) < (i : Int) := by omega
          generalize (alV st0 R)[j] = y1 at *
          generalize (alV st0 M)[j] = y2 at *
          go_wp2_with fail
          go_quiet (fail)
          go_wp2
          go_roundw
          case rel => exact ⟨j + 1, by omega, by go_num, Lib.hid (below_drewN HBr.out _), HUa, HUb, HRr⟩
          case measure => simp [intOf]; omega
        · have q1 : ((alV st0 R)[j] == (alV st0 M)[j]) = false := by
            have := HP2.out j (by omega) _ _ (List.getElem?_eq_getElem ka) (List.getElem?_eq_getElem kb)
            simpa using this
          have q2 : ¬ (j : Int) < (i : Int) := by omega
          generalize (alV st0 R)[j] = y1 at *
          generalize (alV st0 M)[j] = y2 at *
          go_wp2_with fail
          go_quiet (fail)
          go_wp2
          go_roundw
          case rel => exact ⟨j + 1, by omega, by go_num, Lib.hid (below_drewN HBr.out _), HUa, HUb, HRr⟩
          case measure => simp [intOf]; omega
      · have hij : ¬ (j : Int) < (R.length : Int) := by omega
        go_wp2_with fail
        refine (check_n av8 av9 cv8 cv9 R.length R.length M (alV st0 R) _ HRr.out HUa.out HCl.out HAL.out (by omega) (by omega) HCe.out).mono ?_
        rintro e W11 ⟨rfl, hb11⟩
        rw [HP3.out]
        have HB11 := Lib.hid (HBr.out.trans (hb11.mono HBr.out.size))
        clear hb11
        go_wp2_with fail
        refine (live_end HB11.out).mono ?_
        rintro e W12 ⟨rfl, hb⟩
        go_wp2
        go_ret
        exact ⟨rfl, hb⟩
end Go.Proofs.Ytacgjfgiikbjiaa
