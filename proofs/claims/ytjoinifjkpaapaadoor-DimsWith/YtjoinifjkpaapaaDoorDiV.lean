/- The laws DimsWith, DimsBack: their walks; the split of a join. Written by wip/mk_dit.py. -/
import Derived.Test.YtjoinifjkpaapaaDoorDiT
namespace Go.Proofs.YtjoinifjkpaapaaDoor
open Go.RowKit Go.Sort
set_option linter.unusedVariables false
set_option linter.unusedSimpArgs false

theorem wi_bd {L : List Tg} {t : Tg} (hL : ∀ x ∈ L, x.1.size ≤ 400 ∧ x.2.size ≤ 400) (ht : t.1.size ≤ 400 ∧ t.2.size ≤ 400) : (∀ x ∈ wiL L t, x.1.size ≤ 400 ∧ x.2.size ≤ 400) ∧ (wiL L t).length ≤ L.length + 1 := by
  unfold wiL
  split
  · exact ⟨putT_bd hL ht, putT_len L t⟩
  · exact ⟨by simp, by simp⟩
theorem rowG_one (w : World) (S T : ByteArray) (ty : TypeId) : RowG (w.alloc (Obj.cells #[.string S, .string T] ty)) (some ⟨w.heap.size, 0, none⟩) [(S, T)] := by
  have hp := Pr2.alloc w (.string S) (.string T) ty
  refine fun _ => ⟨_, 0, rfl, hp.lt, fun i hi => ?_⟩
  have : i = 0 := by simpa using hi
  subst this
  exact ⟨hp.c0, hp.c1⟩
set_option maxRecDepth 100000 in
set_option maxHeartbeats 3000000 in
theorem dimsWith_walk (A : Option Addr) (c : Nat) (L : List Tg) (x y : ByteArray) (w : World) (hA : ArgT w A c L) (hx0 : x.size ≤ maxLen) (hy0 : y.size ≤ maxLen) :
    Calls Tryd.prog 4 #[.slice A L.length c, .agg #[.string x, .string y]] w fun e w' => e = .returned (.bool true) ∧ Below w.heap.size w w' := by
  have HL := Lib.hid (fun W (h : RowG W A L) => light_any A c L W h)
  have HK := Lib.hid (fun W B (h : RowG W B [(x, y)]) => light_any B 1 [(x, y)] W h)
  have HLv := Lib.hid (fun W => lives_any W)
  have hb0 : Below w.heap.size w (w.alloc (Obj.cells #[.string x, .string y] 32)) := (Below.refl _ _).alloc (Nat.le_refl _) _
  have HB0 := Lib.hid hb0
  have G_0 := Lib.hid (hA.1.below hb0)
  have hP := Pr2.alloc w (.string x) (.string y) 32
  have P_0 := Lib.hid hP
  have l0 := hP.c0
  have l1 := hP.c1
  clear hb0 hP
  cases hl : ligT L
  · rw [hl] at HL
    clear hA
    go_enter Tryd.func4, Tryd.ntmps4
    go_wp2_with fail
    refine (HL.out _ G_0.out).mono ?_
    rintro e w_ ⟨rfl, rfl⟩
    go_wp2_with fail
    refine (HLv.out _).mono ?_
    rintro e W1 ⟨rfl, hb⟩
    have HB1 := Lib.hid (HB0.out.trans (hb.mono HB0.out.size))
    clear hb
    go_wp2
    go_ret
    exact ⟨rfl, HB1.out⟩
  · rw [hl] at HL
    have hb1 : Below (w.alloc (Obj.cells #[.string x, .string y] 32)).heap.size (w.alloc (Obj.cells #[.string x, .string y] 32)) ((w.alloc (Obj.cells #[.string x, .string y] 32)).alloc (Obj.cells #[.string x, .string y] 32)) := (Below.refl _ _).alloc (Nat.le_refl _) _
    have HB1 := Lib.hid (HB0.out.trans (hb1.mono HB0.out.size))
    have G_1 := Lib.hid (G_0.out.below hb1)
    have hP := P_0.out.below hb1
    have P_1 := Lib.hid hP
    have hK := rowG_one (w.alloc (Obj.cells #[.string x, .string y] 32)) x y 32
    rw [World.size_alloc] at hK
    have K_1 := Lib.hid hK
    have m0 := hP.c0
    have m1 := hP.c1
    clear hP hb1 hK
    cases hk : ligT [(x, y)]
    · rw [hk] at HK
      clear hA
      go_enter Tryd.func4, Tryd.ntmps4
      go_wp2_with fail
      refine (HL.out _ G_0.out).mono ?_
      rintro e w_ ⟨rfl, rfl⟩
      go_wp2_with fail
      refine (HK.out _ _ K_1.out).mono ?_
      rintro e w_ ⟨rfl, rfl⟩
      go_wp2_with fail
      refine (HLv.out _).mono ?_
      rintro e W2 ⟨rfl, hb⟩
      have HB2 := Lib.hid (HB1.out.trans (hb.mono HB1.out.size))
      clear hb
      go_wp2
      go_ret
      exact ⟨rfl, HB2.out⟩
    · rw [hk] at HK
      obtain ⟨hr, h20⟩ := ligT_row G_1.out hl
      obtain ⟨hs, _⟩ := ligT_row K_1.out hk
      have hxy := hs.2 (x, y) (by simp)
      have hx1 : x.size ≤ 400 := hxy.1
      have hy1 : y.size ≤ 400 := hxy.2
      have R_1 := Lib.hid hr
      obtain ⟨hb1, hb2⟩ := wi_bd (t := (x, y)) hr.2 hxy
      have HBd := Lib.hid hb1
      have HM := Lib.hid (fun W (h : RowT W A L) => with_any A c L (x, y) W h (by omega) hA.2.1 hA.2.2.1 hx1 hy1)
      have HN := Lib.hid (fun W (h : RowT W A L) => rWith_any A c L (x, y) W h (by omega) hA.2.1 hA.2.2.1 hx1 hy1)
      generalize wiL L (x, y) = M at *
      generalize wiE L (x, y) = er at *
      have HQ := Lib.hid (fun W B D c d (h : RowT W B M) (k : RowT W D M) => same_any B D c d M M W h k (by omega) (by omega))
      rw [decide_eq_true (rfl : M = M)] at HQ
      clear hA hr hs hb1 hb2 hl hk hxy
      go_enter Tryd.func4, Tryd.ntmps4
      go_wp2_with fail
      refine (HL.out _ G_0.out).mono ?_
      rintro e w_ ⟨rfl, rfl⟩
      go_wp2_with fail
      refine (HK.out _ _ K_1.out).mono ?_
      rintro e w_ ⟨rfl, rfl⟩
      go_wp2_with fail
      refine (HM.out _ R_1.out).mono ?_
      rintro e W2 ⟨v2, rfl, ho, hb⟩
      have HB2 := Lib.hid (HB1.out.trans (hb.mono HB1.out.size))
      have R_2 := Lib.hid (R_1.out.below hb)
      have P_2 := Lib.hid (P_1.out.below hb)
      obtain ⟨a2, c2, rfl, _, _⟩ := ho.shape
      have X_2 := Lib.hid (ho.row HBd.out)
      clear ho
      clear hb
      have n0 := P_2.out.c0
      have n1 := P_2.out.c1
      go_wp2_with fail
      refine (HN.out _ R_2.out).mono ?_
      rintro e W3 ⟨v3, rfl, ho, hb⟩
      have HB3 := Lib.hid (HB2.out.trans (hb.mono HB2.out.size))
      have R_3 := Lib.hid (R_2.out.below hb)
      have P_3 := Lib.hid (P_2.out.below hb)
      have X_3 := Lib.hid (X_2.out.below hb)
      obtain ⟨a3, c3, rfl, _, _⟩ := ho.shape
      have Y_3 := Lib.hid (ho.row HBd.out)
      clear ho
      clear hb
      clear n0 n1 m0 m1 l0 l1
      go_wp2_with fail
      refine (HQ.out _ _ _ _ _ X_3.out Y_3.out).mono ?_
      rintro e W4 ⟨rfl, hb⟩
      have HB4 := Lib.hid (HB3.out.trans (hb.mono HB3.out.size))
      have R_4 := Lib.hid (R_3.out.below hb)
      have P_4 := Lib.hid (P_3.out.below hb)
      have X_4 := Lib.hid (X_3.out.below hb)
      have Y_4 := Lib.hid (Y_3.out.below hb)
      clear hb
      go_wp2_with fail
      refine (HLv.out _).mono ?_
      rintro e W5 ⟨rfl, hb⟩
      have HB5 := Lib.hid (HB4.out.trans (hb.mono HB4.out.size))
      have R_5 := Lib.hid (R_4.out.below hb)
      have P_5 := Lib.hid (P_4.out.below hb)
      have X_5 := Lib.hid (X_4.out.below hb)
      have Y_5 := Lib.hid (Y_4.out.below hb)
      clear hb
      go_wp2
      go_ret
      exact ⟨rfl, HB5.out⟩
theorem nam_no {c : UInt8} (h : nam c = true) : c ≠ 44 ∧ c ≠ 61 := by
  constructor <;> (rintro rfl; revert h; decide)
theorem cod_no {s : ByteArray} (h : codB s = true) : (∀ b ∈ s.toList, b ≠ 44 ∧ b ≠ 61) ∧ 1 ≤ s.size ∧ s.size ≤ 12 := by
  unfold codB at h
  rw [Bool.and_eq_true, Bool.and_eq_true, List.all_eq_true] at h
  exact ⟨fun b hb => nam_no (h.1.1 b hb), by simpa using h.1.2, by simpa using h.2⟩
theorem right_tag {L : List Tg} (h : rightT L = true) {t : Tg} (ht : t ∈ L) : codB t.1 = true ∧ codB t.2 = true := by
  obtain ⟨i, hi, rfl⟩ := List.getElem_of_mem ht
  unfold rightT at h
  rw [Bool.and_eq_true, List.all_eq_true] at h
  have := h.2 i (List.mem_range.2 hi)
  unfold okI at this
  rw [Bool.and_eq_true, getD_at hi] at this
  have q := this.1
  unfold tagB at q
  rwa [Bool.and_eq_true] at q
theorem spl_none (c : UInt8) : ∀ x : List UInt8, (∀ b ∈ x, b ≠ c) → splA c x = [x]
  | [], _ => rfl
  | a :: x, h => by
    unfold splA
    rw [if_neg (h a (by simp)), spl_none c x (fun b hb => h b (by simp [hb]))]
theorem spl_app (c : UInt8) (l : List UInt8) : ∀ x : List UInt8, (∀ b ∈ x, b ≠ c) → splA c (x ++ c :: l) = x :: splA c l
  | [], _ => by
    rw [List.nil_append]
    conv => lhs; unfold splA
    rw [if_pos rfl]
  | a :: x, h => by
    rw [List.cons_append]
    conv => lhs; unfold splA
    rw [if_neg (h a (by simp)), spl_app c l x (fun b hb => h b (by simp [hb]))]
theorem join_two (c : UInt8) (p q : List UInt8) (r : List (List UInt8)) : Lib.join (p :: q :: r) [c] = p ++ c :: Lib.join (q :: r) [c] := by
  rw [Lib.join_cons, Lib.join_cons]; simp [Lib.joinTail]
theorem spl_join (c : UInt8) : ∀ P : List (List UInt8), P ≠ [] → (∀ p ∈ P, ∀ b ∈ p, b ≠ c) → splA c (Lib.join P [c]) = P
  | [], h, _ => absurd rfl h
  | [p], _, h => by rw [Lib.join_one, spl_none c p (h p (by simp))]
  | p :: q :: r, _, h => by
    rw [join_two, spl_app c _ p (h p (by simp)), spl_join c (q :: r) (by simp) (fun x hx => h x (by simp at hx ⊢; right; exact hx))]
theorem join_spl (c : UInt8) : ∀ l, Lib.join (splA c l) [c] = l
  | [] => by rw [splA, Lib.join_one]
  | x :: l => by
    have ih := join_spl c l
    have hne := splA_ne c l
    conv => lhs; unfold splA
    by_cases h : x = c
    · rw [if_pos h]
      cases e : splA c l with
      | nil => exact absurd e hne
      | cons q r => rw [join_two, ← e, ih, h]; rfl
    · rw [if_neg h]
      cases e : splA c l with
      | nil => exact absurd e hne
      | cons p ps =>
        rw [e, Lib.join_cons] at ih
        show Lib.join ((x :: p) :: ps) [c] = x :: l
        rw [Lib.join_cons, List.cons_append, ih]
theorem cut_app (c : UInt8) (l : List UInt8) : ∀ x : List UInt8, (∀ b ∈ x, b ≠ c) → cutI (x ++ c :: l) c = x.length
  | [], _ => by rw [List.nil_append, cutI_cons, if_pos rfl]; rfl
  | a :: x, h => by
    rw [List.cons_append, cutI_cons, if_neg (h a (by simp)), cut_app c l x (fun b hb => h b (by simp [hb])), List.length_cons]
theorem tgO_mk (a b : ByteArray) (h : ∀ x ∈ a.toList, x ≠ 61) : tgO ((a.toList ++ [61]) ++ b.toList) = (a, b) := by
  have e : (a.toList ++ [61]) ++ b.toList = a.toList ++ 61 :: b.toList := by simp
  unfold tgO
  rw [e, cut_app 61 _ _ h, List.take_left, show a.toList.length + 1 = (a.toList ++ [61]).length by simp, ← e, List.drop_left, bs_of, bs_of]
theorem prt_tgO {p : List UInt8} (h : cutI p 61 < p.length) : ((tgO p).1.toList ++ [61]) ++ (tgO p).2.toList = p := by
  have e : p[cutI p 61] = 61 := by
    have q : (p[cutI p 61] == (61 : UInt8)) = true := List.findIdx_getElem (p := (· == (61 : UInt8))) (xs := p) (w := h)
    exact eq_of_beq q
  unfold tgO
  have e2 : List.take (cutI p 61) p ++ [61] = List.take (cutI p 61 + 1) p := by rw [List.take_succ_eq_append_getElem h, e]
  rw [bs_list, bs_list, e2, List.take_append_drop]
theorem tx_prt (L : List Tg) : txT L = Lib.join (prt L) [44] := by rw [← tx_join, ptX_list]
theorem prt_no {L : List Tg} (h : rightT L = true) : ∀ p ∈ prt L, ∀ b ∈ p, b ≠ 44 := by
  intro p hp b hb
  obtain ⟨t, ht, rfl⟩ := List.mem_map.1 hp
  obtain ⟨h1, h2⟩ := right_tag h ht
  simp only [List.mem_append, List.mem_singleton] at hb
  rcases hb with (q | q) | q
  · exact ((cod_no h1).1 b q).1
  · subst q; decide
  · exact ((cod_no h2).1 b q).1
theorem back1 {L : List Tg} (h : rightT L = true) : paR (txT L) = (L, 0) := by
  cases L with
  | nil => rfl
  | cons t r =>
    have hne : prt (t :: r) ≠ [] := by unfold prt; simp
    have hs : splA 44 (txT (t :: r)) = prt (t :: r) := by rw [tx_prt, spl_join 44 _ hne (prt_no h)]
    have hg : tgsO (txT (t :: r)) = t :: r := by
      unfold tgsO
      rw [hs]
      unfold prt
      rw [List.map_map]
      have : ∀ x ∈ t :: r, (tgO ∘ fun t : Tg => (t.1.toList ++ [61]) ++ t.2.toList) x = id x := fun x hx => by
        show tgO ((x.1.toList ++ [61]) ++ x.2.toList) = x
        rw [tgO_mk _ _ (fun b hb => ((cod_no (right_tag h hx).1).1 b hb).2)]
      rw [List.map_congr_left this, List.map_id]
    have hn : ¬ txT (t :: r) = [] := by
      intro e
      rw [e] at hs
      have : prt (t :: r) = [[]] := hs.symm
      unfold prt at this
      simp at this
    unfold paR
    rw [if_neg hn, hg, if_pos h]
theorem back2 {s : List UInt8} (h : (paR s).2 = 0) : rightT (paR s).1 = true ∧ txT (paR s).1 = s := by
  unfold paR at h ⊢
  by_cases h0 : s = []
  · subst h0; exact ⟨by decide +kernel, rfl⟩
  · rw [if_neg h0] at h ⊢
    by_cases hr : rightT (tgsO s) = true
    · rw [if_pos hr]
      refine ⟨hr, ?_⟩
      show txT (tgsO s) = s
      have e : prt (tgsO s) = splA 44 s := by
        unfold prt tgsO
        rw [List.map_map]
        have : ∀ p ∈ splA 44 s, ((fun t : Tg => (t.1.toList ++ [61]) ++ t.2.toList) ∘ tgO) p = id p := fun p hp => by
          refine prt_tgO (Decidable.byContradiction fun q => ?_)
          have hm : tgO p ∈ tgsO s := List.mem_map.2 ⟨p, hp, rfl⟩
          have := (cod_no (right_tag hr hm).2).2.1
          rw [tgO_none q] at this
          exact absurd this (by decide)
        rw [List.map_congr_left this, List.map_id]
      rw [tx_prt, e, join_spl]
    · rw [if_neg hr] at h
      exact absurd h (by decide)
theorem paR_err (s : List UInt8) : (paR s).2 = 0 ∨ (paR s).2 = 5 := by
  unfold paR
  split
  · exact .inl rfl
  · split
    · exact .inl rfl
    · exact .inr rfl
theorem tgU_len2 {L : List Tg} (h : rightT L = true) : ∀ k, k ≤ L.length → (tgU L k).length ≤ k * 26
  | 0, _ => by simp [tgU]
  | k + 1, hk => by
    have ih := tgU_len2 h k (by omega)
    obtain ⟨h1, h2⟩ := right_tag h (List.getElem_mem (show k < L.length by omega))
    have q1 := (cod_no h1).2
    have q2 := (cod_no h2).2
    have e : L.getD k nT = L[k] := getD_at (by omega)
    simp only [tgU, e]
    have s1 : L[k].1.toList.length = L[k].1.size := bytes_len _
    have s2 : L[k].2.toList.length = L[k].2.size := bytes_len _
    split <;> simp only [List.length_append, List.length_cons, List.length_nil] <;> omega
theorem tx_len {L : List Tg} (h : rightT L = true) : (txT L).length ≤ 400 ∧ L.length ≤ 6 := by
  have h6 : L.length ≤ 6 := by
    apply Classical.byContradiction
    intro q
    rw [right_long (by omega)] at h; cases h
  have := tgU_len2 h L.length (Nat.le_refl _)
  unfold txT
  exact ⟨by omega, h6⟩
set_option maxRecDepth 100000 in
set_option maxHeartbeats 4000000 in
theorem dimsBack_walk (A : Option Addr) (c : Nat) (L : List Tg) (s : ByteArray) (w : World) (hA : ArgT w A c L) (hs0 : s.size ≤ maxLen) :
    Calls Tryd.prog 7 #[.slice A L.length c, .string s] w fun e w' => e = .returned (.bool true) ∧ Below w.heap.size w w' := by
  have HL := Lib.hid (fun W (h : RowG W A L) => light_any A c L W h)
  have HLv := Lib.hid (fun W => lives_any W)
  have HG := Lib.hid hA.1
  have HB0 := Lib.hid (Below.refl w.heap.size w)
  cases hl : ligT L
  · rw [hl] at HL
    clear hA
    go_enter Tryd.func7, Tryd.ntmps7
    go_wp2_with fail
    refine (HL.out _ HG.out).mono ?_
    rintro e w_ ⟨rfl, rfl⟩
    go_wp2_with fail
    refine (HLv.out _).mono ?_
    rintro e W1 ⟨rfl, hb⟩
    have HB1 := Lib.hid (HB0.out.trans (hb.mono HB0.out.size))
    clear hb
    go_wp2
    go_ret
    exact ⟨rfl, HB1.out⟩
  · rw [hl] at HL
    by_cases hs : 400 < s.size
    · have hs' : (400 : Int) < (s.size : Int) := by omega
      clear hA
      go_enter Tryd.func7, Tryd.ntmps7
      go_wp2_with fail
      refine (HL.out _ HG.out).mono ?_
      rintro e w_ ⟨rfl, rfl⟩
      go_wp2_with fail
      refine (HLv.out _).mono ?_
      rintro e W1 ⟨rfl, hb⟩
      have HB1 := Lib.hid (HB0.out.trans (hb.mono HB0.out.size))
      clear hb
      go_wp2
      go_ret
      exact ⟨rfl, HB1.out⟩
    · have hs' : ¬ (400 : Int) < (s.size : Int) := by omega
      obtain ⟨hr, h20⟩ := ligT_row hA.1 hl
      have R_0 := Lib.hid hr
      have HM := Lib.hid (fun W (h : RowT W A L) => text_any A c L W h (by omega))
      have HRt := Lib.hid (fun W (h : RowT W A L) => right_any A c L W h (by omega))
      have HP := Lib.hid (fun W => parse_any s W (by omega))
      obtain ⟨hb1, hb2⟩ := paR_bd (s := s) (by omega)
      have HBd := Lib.hid hb1
      have hbk := back2 (s := s.toList)
      have her := paR_err s.toList
      generalize paR s.toList = R at *
      obtain ⟨M, er⟩ := R
      have HT := Lib.hid (fun W B d (h : RowT W B M) => text_any B d M W h (by simp at hb2; omega))
      have hbk : er = 0 → rightT M = true ∧ txT M = s.toList := hbk
      have her : er = 0 ∨ er = 5 := her
      have HSx := Lib.hid (fun W B d (h : RowT W B L) (k : RowT W A L) => same_any B A d c L L W h k (by omega) (by omega))
      rw [decide_eq_true (rfl : L = L)] at HSx
      have HLb := Lib.hid hr.2
      clear hA hb1 hb2
      cases hrt : rightT L
      · rw [hrt] at HM HRt
        rw [if_neg (by decide), if_neg (by decide)] at HM
        clear hl hr
        rcases her with rfl | rfl
        · obtain ⟨hq1, hq2⟩ := hbk rfl
          rw [hq1, if_pos rfl, if_pos rfl, hq2, bs_of] at HT
          clear hq1 hq2
          go_enter Tryd.func7, Tryd.ntmps7
          go_wp2_with fail
          refine (HL.out _ HG.out).mono ?_
          rintro e w_ ⟨rfl, rfl⟩
          go_wp2_with fail
          refine (HM.out _ R_0.out).mono ?_
          rintro e W1 ⟨rfl, hb⟩
          have HB1 := Lib.hid (HB0.out.trans (hb.mono HB0.out.size))
          have R_1 := Lib.hid (R_0.out.below hb)
          clear hb
          go_wp2_with fail
          refine (HRt.out _ R_1.out).mono ?_
          rintro e W2 ⟨rfl, hb⟩
          have HB2 := Lib.hid (HB1.out.trans (hb.mono HB1.out.size))
          have R_2 := Lib.hid (R_1.out.below hb)
          clear hb
          go_wp2_with fail
          refine (HP.out _).mono ?_
          rintro e W3 ⟨v3, rfl, ho, hb⟩
          have HB3 := Lib.hid (HB2.out.trans (hb.mono HB2.out.size))
          have R_3 := Lib.hid (R_2.out.below hb)
          obtain ⟨a3, c3, rfl, _, _⟩ := ho.shape
          have Y_3 := Lib.hid (ho.row HBd.out)
          clear ho
          clear hb
          go_wp2_with fail
          refine (HT.out _ _ _ Y_3.out).mono ?_
          rintro e W4 ⟨rfl, hb⟩
          have HB4 := Lib.hid (HB3.out.trans (hb.mono HB3.out.size))
          have R_4 := Lib.hid (R_3.out.below hb)
          have Y_4 := Lib.hid (Y_3.out.below hb)
          clear hb
          go_wp2_with fail
          refine (HLv.out _).mono ?_
          rintro e W5 ⟨rfl, hb⟩
          have HB5 := Lib.hid (HB4.out.trans (hb.mono HB4.out.size))
          have R_5 := Lib.hid (R_4.out.below hb)
          have Y_5 := Lib.hid (Y_4.out.below hb)
          clear hb
          go_wp2
          go_ret
          exact ⟨rfl, HB5.out⟩
        · clear hbk
          go_enter Tryd.func7, Tryd.ntmps7
          go_wp2_with fail
          refine (HL.out _ HG.out).mono ?_
          rintro e w_ ⟨rfl, rfl⟩
          go_wp2_with fail
          refine (HM.out _ R_0.out).mono ?_
          rintro e W1 ⟨rfl, hb⟩
          have HB1 := Lib.hid (HB0.out.trans (hb.mono HB0.out.size))
          have R_1 := Lib.hid (R_0.out.below hb)
          clear hb
          go_wp2_with fail
          refine (HRt.out _ R_1.out).mono ?_
          rintro e W2 ⟨rfl, hb⟩
          have HB2 := Lib.hid (HB1.out.trans (hb.mono HB1.out.size))
          have R_2 := Lib.hid (R_1.out.below hb)
          clear hb
          go_wp2_with fail
          refine (HP.out _).mono ?_
          rintro e W3 ⟨v3, rfl, ho, hb⟩
          have HB3 := Lib.hid (HB2.out.trans (hb.mono HB2.out.size))
          have R_3 := Lib.hid (R_2.out.below hb)
          obtain ⟨a3, c3, rfl, _, _⟩ := ho.shape
          have Y_3 := Lib.hid (ho.row HBd.out)
          clear ho
          clear hb
          go_wp2_with fail
          refine (HLv.out _).mono ?_
          rintro e W4 ⟨rfl, hb⟩
          have HB4 := Lib.hid (HB3.out.trans (hb.mono HB3.out.size))
          have R_4 := Lib.hid (R_3.out.below hb)
          have Y_4 := Lib.hid (Y_3.out.below hb)
          clear hb
          go_wp2
          go_ret
          exact ⟨rfl, HB4.out⟩
      · rw [hrt] at HM HRt
        rw [if_pos rfl, if_pos rfl] at HM
        obtain ⟨ht1, ht2⟩ := tx_len hrt
        have HPt := Lib.hid (fun W => parse_any (bs (txT L)) W (by rw [bs_size]; omega))
        rw [bs_list, back1 hrt] at HPt
        generalize bs (txT L) = T at *
        clear hl hr ht1
        rcases her with rfl | rfl
        · obtain ⟨hq1, hq2⟩ := hbk rfl
          rw [hq1, if_pos rfl, if_pos rfl, hq2, bs_of] at HT
          clear hq1 hq2
          go_enter Tryd.func7, Tryd.ntmps7
          go_wp2_with fail
          refine (HL.out _ HG.out).mono ?_
          rintro e w_ ⟨rfl, rfl⟩
          go_wp2_with fail
          refine (HM.out _ R_0.out).mono ?_
          rintro e W1 ⟨rfl, hb⟩
          have HB1 := Lib.hid (HB0.out.trans (hb.mono HB0.out.size))
          have R_1 := Lib.hid (R_0.out.below hb)
          clear hb
          go_wp2_with fail
          refine (HRt.out _ R_1.out).mono ?_
          rintro e W2 ⟨rfl, hb⟩
          have HB2 := Lib.hid (HB1.out.trans (hb.mono HB1.out.size))
          have R_2 := Lib.hid (R_1.out.below hb)
          clear hb
          go_wp2_with fail
          refine (HPt.out _).mono ?_
          rintro e W3 ⟨v3, rfl, ho, hb⟩
          have HB3 := Lib.hid (HB2.out.trans (hb.mono HB2.out.size))
          have R_3 := Lib.hid (R_2.out.below hb)
          obtain ⟨a3, c3, rfl, _, _⟩ := ho.shape
          have X_3 := Lib.hid (ho.row HLb.out)
          clear ho
          clear hb
          go_wp2_with fail
          refine (HSx.out _ _ _ X_3.out R_3.out).mono ?_
          rintro e W4 ⟨rfl, hb⟩
          have HB4 := Lib.hid (HB3.out.trans (hb.mono HB3.out.size))
          have R_4 := Lib.hid (R_3.out.below hb)
          have X_4 := Lib.hid (X_3.out.below hb)
          clear hb
          go_wp2_with fail
          refine (HP.out _).mono ?_
          rintro e W5 ⟨v5, rfl, ho, hb⟩
          have HB5 := Lib.hid (HB4.out.trans (hb.mono HB4.out.size))
          have R_5 := Lib.hid (R_4.out.below hb)
          have X_5 := Lib.hid (X_4.out.below hb)
          obtain ⟨a5, c5, rfl, _, _⟩ := ho.shape
          have Y_5 := Lib.hid (ho.row HBd.out)
          clear ho
          clear hb
          go_wp2_with fail
          refine (HT.out _ _ _ Y_5.out).mono ?_
          rintro e W6 ⟨rfl, hb⟩
          have HB6 := Lib.hid (HB5.out.trans (hb.mono HB5.out.size))
          have R_6 := Lib.hid (R_5.out.below hb)
          have X_6 := Lib.hid (X_5.out.below hb)
          have Y_6 := Lib.hid (Y_5.out.below hb)
          clear hb
          go_wp2_with fail
          refine (HLv.out _).mono ?_
          rintro e W7 ⟨rfl, hb⟩
          have HB7 := Lib.hid (HB6.out.trans (hb.mono HB6.out.size))
          have R_7 := Lib.hid (R_6.out.below hb)
          have X_7 := Lib.hid (X_6.out.below hb)
          have Y_7 := Lib.hid (Y_6.out.below hb)
          clear hb
          go_wp2
          go_ret
          exact ⟨rfl, HB7.out⟩
        · clear hbk
          go_enter Tryd.func7, Tryd.ntmps7
          go_wp2_with fail
          refine (HL.out _ HG.out).mono ?_
          rintro e w_ ⟨rfl, rfl⟩
          go_wp2_with fail
          refine (HM.out _ R_0.out).mono ?_
          rintro e W1 ⟨rfl, hb⟩
          have HB1 := Lib.hid (HB0.out.trans (hb.mono HB0.out.size))
          have R_1 := Lib.hid (R_0.out.below hb)
          clear hb
          go_wp2_with fail
          refine (HRt.out _ R_1.out).mono ?_
          rintro e W2 ⟨rfl, hb⟩
          have HB2 := Lib.hid (HB1.out.trans (hb.mono HB1.out.size))
          have R_2 := Lib.hid (R_1.out.below hb)
          clear hb
          go_wp2_with fail
          refine (HPt.out _).mono ?_
          rintro e W3 ⟨v3, rfl, ho, hb⟩
          have HB3 := Lib.hid (HB2.out.trans (hb.mono HB2.out.size))
          have R_3 := Lib.hid (R_2.out.below hb)
          obtain ⟨a3, c3, rfl, _, _⟩ := ho.shape
          have X_3 := Lib.hid (ho.row HLb.out)
          clear ho
          clear hb
          go_wp2_with fail
          refine (HSx.out _ _ _ X_3.out R_3.out).mono ?_
          rintro e W4 ⟨rfl, hb⟩
          have HB4 := Lib.hid (HB3.out.trans (hb.mono HB3.out.size))
          have R_4 := Lib.hid (R_3.out.below hb)
          have X_4 := Lib.hid (X_3.out.below hb)
          clear hb
          go_wp2_with fail
          refine (HP.out _).mono ?_
          rintro e W5 ⟨v5, rfl, ho, hb⟩
          have HB5 := Lib.hid (HB4.out.trans (hb.mono HB4.out.size))
          have R_5 := Lib.hid (R_4.out.below hb)
          have X_5 := Lib.hid (X_4.out.below hb)
          obtain ⟨a5, c5, rfl, _, _⟩ := ho.shape
          have Y_5 := Lib.hid (ho.row HBd.out)
          clear ho
          clear hb
          go_wp2_with fail
          refine (HLv.out _).mono ?_
          rintro e W6 ⟨rfl, hb⟩
          have HB6 := Lib.hid (HB5.out.trans (hb.mono HB5.out.size))
          have R_6 := Lib.hid (R_5.out.below hb)
          have X_6 := Lib.hid (X_5.out.below hb)
          have Y_6 := Lib.hid (Y_5.out.below hb)
          clear hb
          go_wp2
          go_ret
          exact ⟨rfl, HB6.out⟩
end Go.Proofs.YtjoinifjkpaapaaDoor
