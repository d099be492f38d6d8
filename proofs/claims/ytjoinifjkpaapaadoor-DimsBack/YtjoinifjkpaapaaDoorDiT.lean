/- The laws DimsMake, DimsMatch, DimsText: their walks. Written by wip/mk_dit.py. -/
import Derived.Test.YtjoinifjkpaapaaDoorDiS
import Derived.Deep.SlicePairs
import Derived.OpenShut
namespace Go.Proofs.YtjoinifjkpaapaaDoor
open Go.RowKit Go.Sort
set_option linter.unusedVariables false
set_option linter.unusedSimpArgs false

theorem rowG_of {H : Type} {enc : TypeId × Value → H} {w : World} {base : Nat} {spare : Nat → Bool} {held : Bool} {A : Option Addr} {len cap : Nat} {d : DataW H} {p : List MemPlace}
    (h : DataW.Trod enc Tryd.prog w base spare held 22 (.slice A len cap) d p) : ∃ L : List Tg, L.length = len ∧ RowG w A L ∧ L.length ≤ cap ∧ (A = none → cap = 0) ∧ L.length ≤ maxLen ∧ ∀ t ∈ L, t.1.size ≤ maxLen ∧ t.2.size ≤ maxLen := by
  obtain ⟨fuel, hf⟩ := h
  rcases Go.Deep.open_slice_pairs Tryd.underlying22 Tryd.underlying32 (by kernel_rfl) rfl rfl (by kernel_rfl) (by kernel_rfl) hf with ⟨hcs, _⟩ | ⟨a, l, c, m, n, V0, V1, D0, D1, P0, P1, hcs, hb, hl, hm, hmm, _, hcell⟩
  · simp [Value.cells] at hcs
    obtain ⟨rfl, rfl, rfl⟩ := hcs
    exact ⟨[], rfl, fun h => absurd h (by simp), by simp, fun _ => rfl, by simp, by simp⟩
  · simp [Value.cells] at hcs
    obtain ⟨rfl, rfl, rfl⟩ := hcs
    have hlm : len ≤ m := by rw [hmm]; split <;> omega
    have each : ∀ i, i < len → ∃ q : ByteArray × ByteArray, V0 i = .string q.1 ∧ V1 i = .string q.2 ∧ q.1.size ≤ maxLen ∧ q.2.size ≤ maxLen := by
      intro i hi
      obtain ⟨_, _, t0, t1⟩ := hcell i (by omega)
      obtain ⟨s, e0, _, hs⟩ := DataW.trod_string Tryd.underlying9 t0
      obtain ⟨z, e1, _, hz⟩ := DataW.trod_string Tryd.underlying9 t1
      simp at e0 e1
      exact ⟨(s, z), e0, e1, hs, hz⟩
    obtain ⟨q, hq⟩ := Go.Deep.choose_lt each
    refine ⟨(List.range len).map q, by simp, fun h0 => ?_, by simpa using hl, (fun e => by cases e), by simp; omega, fun t ht => ?_⟩
    · have h0 : 0 < len := by simpa using h0
      obtain ⟨b, off, spot⟩ := a
      have hspot : spot = none := by simpa [Addr.add] using World.cell?_spot (hcell 0 (by omega)).1
      subst hspot
      have hlt : b < w.heap.size := by
        have := (hcell 0 (by omega)).1
        rw [addr_is] at this
        rcases Nat.lt_or_ge b w.heap.size with k | k
        · exact k
        · exact absurd this (by simp [World.cell?, Array.getElem?_eq_none k])
      refine ⟨b, off, rfl, hlt, fun i hi => ?_⟩
      have hi : i < len := by simpa using hi
      obtain ⟨c0, c1, _, _⟩ := hcell i (by omega)
      obtain ⟨g0, g1, _, _⟩ := hq i hi
      rw [addr_is] at c0 c1
      rw [g0] at c0
      rw [g1] at c1
      simp only [List.getElem_map, List.getElem_range]
      exact ⟨c0, by rw [Nat.add_assoc]; exact c1⟩
    · obtain ⟨i, hi, rfl⟩ := List.mem_map.1 ht
      have hi : i < len := by simpa using hi
      exact ⟨(hq i hi).2.2.1, (hq i hi).2.2.2⟩
abbrev ArgT (w : World) (A : Option Addr) (c : Nat) (L : List Tg) : Prop := RowG w A L ∧ L.length ≤ c ∧ (A = none → c = 0) ∧ L.length ≤ maxLen ∧ ∀ t ∈ L, t.1.size ≤ maxLen ∧ t.2.size ≤ maxLen
theorem putT_bd2 (L : List Tg) (t : Tg) (h : ∀ x ∈ L, x.1.size ≤ 400 ∧ x.2.size ≤ 400) (ht : t.1.size ≤ 400 ∧ t.2.size ≤ 400) : ∀ x ∈ putT L t, x.1.size ≤ 400 ∧ x.2.size ≤ 400 := putT_bd h ht
theorem mkF_bd : ∀ (L M : List Tg), (∀ x ∈ L, x.1.size ≤ 400 ∧ x.2.size ≤ 400) → (∀ x ∈ M, x.1.size ≤ 400 ∧ x.2.size ≤ 400) → (∀ x ∈ (mkF M L).1, x.1.size ≤ 400 ∧ x.2.size ≤ 400) ∧ (mkF M L).1.length ≤ M.length + L.length
  | [], M, _, hM => ⟨hM, by simp [mkF]⟩
  | t :: r, M, hL, hM => by
    unfold mkF
    split
    · exact ⟨by simp, by simp⟩
    · split
      · exact ⟨by simp, by simp⟩
      · obtain ⟨q1, q2⟩ := mkF_bd r (putT M t) (fun x hx => hL x (List.mem_cons_of_mem _ hx)) (putT_bd hM (hL t (List.mem_cons_self ..)))
        refine ⟨q1, ?_⟩
        have := putT_len M t
        rw [List.length_cons]; omega
theorem mkR_bd {L : List Tg} (hL : ∀ x ∈ L, x.1.size ≤ 400 ∧ x.2.size ≤ 400) : (∀ x ∈ (mkR L).1, x.1.size ≤ 400 ∧ x.2.size ≤ 400) ∧ (mkR L).1.length ≤ L.length := by
  unfold mkR
  split
  · exact ⟨by simp, by simp⟩
  · obtain ⟨q1, q2⟩ := mkF_bd L [] hL (by simp)
    exact ⟨q1, by simpa using q2⟩
set_option maxRecDepth 100000 in
set_option maxHeartbeats 3000000 in
theorem dimsMake_walk (A : Option Addr) (c : Nat) (L : List Tg) (w : World) (hA : ArgT w A c L) :
    Calls Tryd.prog 3 #[.slice A L.length c] w fun e w' => e = .returned (.bool true) ∧ Below w.heap.size w w' := by
  have HL := Lib.hid (fun W (h : RowG W A L) => light_any A c L W h)
  have HLv := Lib.hid (fun W => lives_any W)
  have HG := Lib.hid hA.1
  have HB0 := Lib.hid (Below.refl w.heap.size w)
  cases hl : ligT L
  · rw [hl] at HL
    clear hA
    go_enter Tryd.func3, Tryd.ntmps3
    go_wp2_with fail
    refine (HL.out _ HG.out).mono ?_
    rintro e w_ ⟨rfl, rfl⟩
    go_wp2_with fail
    refine (HLv.out _).mono ?_
    rintro e W1 ⟨rfl, hb⟩
    have HB1 := Lib.hid (HB0.out.trans (hb.mono HB0.out.size))
    clear hb
    go_wp2
    go_ret
    exact ⟨rfl, HB1.out⟩
  · rw [hl] at HL
    obtain ⟨hr, h20⟩ := ligT_row hA.1 hl
    have R_0 := Lib.hid hr
    obtain ⟨hb1, hb2⟩ := mkR_bd hr.2
    have HBd := Lib.hid hb1
    have HM := Lib.hid (fun W (h : RowT W A L) => make_any A c L W h (by omega))
    have HN := Lib.hid (fun W (h : RowT W A L) => rMake_any A c L W h (by omega))
    have HR := Lib.hid (fun W (h : RowT W A L) => right_any A c L W h (by omega))
    have HS := Lib.hid (fun W (h : RowT W A L) => rRight_any A c L W h (by omega))
    generalize mkR L = R at *
    obtain ⟨M, er⟩ := R
    have HQ := Lib.hid (fun W B D c d (h : RowT W B M) (k : RowT W D M) => same_any B D c d M M W h k (by simp at hb2; omega) (by simp at hb2; omega))
    rw [decide_eq_true (rfl : M = M)] at HQ
    generalize rightT L = rb at *
    clear hA hr hb1 hb2 hl
    go_enter Tryd.func3, Tryd.ntmps3
    go_wp2_with fail
    refine (HL.out _ HG.out).mono ?_
    rintro e w_ ⟨rfl, rfl⟩
    go_wp2_with fail
    refine (HM.out _ R_0.out).mono ?_
    rintro e W1 ⟨v1, rfl, ho, hb⟩
    have HB1 := Lib.hid (HB0.out.trans (hb.mono HB0.out.size))
    have R_1 := Lib.hid (R_0.out.below hb)
    obtain ⟨a1, c1, rfl, _, _⟩ := ho.shape
    have X_1 := Lib.hid (ho.row HBd.out)
    clear ho
    clear hb
    go_wp2_with fail
    refine (HN.out _ R_1.out).mono ?_
    rintro e W2 ⟨v2, rfl, ho, hb⟩
    have HB2 := Lib.hid (HB1.out.trans (hb.mono HB1.out.size))
    have R_2 := Lib.hid (R_1.out.below hb)
    have X_2 := Lib.hid (X_1.out.below hb)
    obtain ⟨a2, c2, rfl, _, _⟩ := ho.shape
    have Y_2 := Lib.hid (ho.row HBd.out)
    clear ho
    clear hb
    go_wp2_with fail
    refine (HR.out _ R_2.out).mono ?_
    rintro e W3 ⟨rfl, hb⟩
    have HB3 := Lib.hid (HB2.out.trans (hb.mono HB2.out.size))
    have R_3 := Lib.hid (R_2.out.below hb)
    have X_3 := Lib.hid (X_2.out.below hb)
    have Y_3 := Lib.hid (Y_2.out.below hb)
    clear hb
    go_wp2_with fail
    refine (HS.out _ R_3.out).mono ?_
    rintro e W4 ⟨rfl, hb⟩
    have HB4 := Lib.hid (HB3.out.trans (hb.mono HB3.out.size))
    have R_4 := Lib.hid (R_3.out.below hb)
    have X_4 := Lib.hid (X_3.out.below hb)
    have Y_4 := Lib.hid (Y_3.out.below hb)
    clear hb
    go_wp2_with fail
    refine (HQ.out _ _ _ _ _ X_4.out Y_4.out).mono ?_
    rintro e W5 ⟨rfl, hb⟩
    have HB5 := Lib.hid (HB4.out.trans (hb.mono HB4.out.size))
    have R_5 := Lib.hid (R_4.out.below hb)
    have X_5 := Lib.hid (X_4.out.below hb)
    have Y_5 := Lib.hid (Y_4.out.below hb)
    clear hb
    go_wp2_with fail
    refine (HLv.out _).mono ?_
    rintro e W6 ⟨rfl, hb⟩
    have HB6 := Lib.hid (HB5.out.trans (hb.mono HB5.out.size))
    have R_6 := Lib.hid (R_5.out.below hb)
    have X_6 := Lib.hid (X_5.out.below hb)
    have Y_6 := Lib.hid (Y_5.out.below hb)
    clear hb
    go_wp2
    go_ret
    exact ⟨rfl, HB6.out⟩
set_option maxRecDepth 100000 in
set_option maxHeartbeats 3000000 in
theorem dimsMatch_walk (A : Option Addr) (c : Nat) (L : List Tg) (B : Option Addr) (d : Nat) (M : List Tg) (w : World) (hA : ArgT w A c L) (hB : ArgT w B d M) :
    Calls Tryd.prog 5 #[.slice A L.length c, .slice B M.length d] w fun e w' => e = .returned (.bool true) ∧ Below w.heap.size w w' := by
  have HL := Lib.hid (fun W (h : RowG W A L) => light_any A c L W h)
  have HK := Lib.hid (fun W (h : RowG W B M) => light_any B d M W h)
  have HLv := Lib.hid (fun W => lives_any W)
  have HG := Lib.hid hA.1
  have HH := Lib.hid hB.1
  have HB0 := Lib.hid (Below.refl w.heap.size w)
  cases hl : ligT L
  · rw [hl] at HL
    clear hA hB
    go_enter Tryd.func5, Tryd.ntmps5
    go_wp2_with fail
    refine (HL.out _ HG.out).mono ?_
    rintro e w_ ⟨rfl, rfl⟩
    go_wp2_with fail
    refine (HLv.out _).mono ?_
    rintro e W1 ⟨rfl, hb⟩
    have HB1 := Lib.hid (HB0.out.trans (hb.mono HB0.out.size))
    clear hb
    go_wp2
    go_ret
    exact ⟨rfl, HB1.out⟩
  · rw [hl] at HL
    cases hk : ligT M
    · rw [hk] at HK
      clear hA hB
      go_enter Tryd.func5, Tryd.ntmps5
      go_wp2_with fail
      refine (HL.out _ HG.out).mono ?_
      rintro e w_ ⟨rfl, rfl⟩
      go_wp2_with fail
      refine (HK.out _ HH.out).mono ?_
      rintro e w_ ⟨rfl, rfl⟩
      go_wp2_with fail
      refine (HLv.out _).mono ?_
      rintro e W1 ⟨rfl, hb⟩
      have HB1 := Lib.hid (HB0.out.trans (hb.mono HB0.out.size))
      clear hb
      go_wp2
      go_ret
      exact ⟨rfl, HB1.out⟩
    · rw [hk] at HK
      obtain ⟨hr, h20⟩ := ligT_row hA.1 hl
      obtain ⟨hs, h21⟩ := ligT_row hB.1 hk
      have R_0 := Lib.hid hr
      have S_0 := Lib.hid hs
      have HM := Lib.hid (fun W (h : RowT W A L) (k : RowT W B M) => match_any A B c d L M W h k (by omega) (by omega))
      have HN := Lib.hid (fun W (h : RowT W A L) (k : RowT W B M) => rMatch_any A B c d L M W h k (by omega) (by omega))
      generalize matchT L M = mb at *
      clear hA hB hr hs hl hk
      go_enter Tryd.func5, Tryd.ntmps5
      go_wp2_with fail
      refine (HL.out _ HG.out).mono ?_
      rintro e w_ ⟨rfl, rfl⟩
      go_wp2_with fail
      refine (HK.out _ HH.out).mono ?_
      rintro e w_ ⟨rfl, rfl⟩
      go_wp2_with fail
      refine (HM.out _ R_0.out S_0.out).mono ?_
      rintro e W1 ⟨rfl, hb⟩
      have HB1 := Lib.hid (HB0.out.trans (hb.mono HB0.out.size))
      have R_1 := Lib.hid (R_0.out.below hb)
      have S_1 := Lib.hid (S_0.out.below hb)
      clear hb
      go_wp2_with fail
      refine (HN.out _ R_1.out S_1.out).mono ?_
      rintro e W2 ⟨rfl, hb⟩
      have HB2 := Lib.hid (HB1.out.trans (hb.mono HB1.out.size))
      have R_2 := Lib.hid (R_1.out.below hb)
      have S_2 := Lib.hid (S_1.out.below hb)
      clear hb
      go_wp2_with fail
      refine (HLv.out _).mono ?_
      rintro e W3 ⟨rfl, hb⟩
      have HB3 := Lib.hid (HB2.out.trans (hb.mono HB2.out.size))
      have R_3 := Lib.hid (R_2.out.below hb)
      have S_3 := Lib.hid (S_2.out.below hb)
      clear hb
      go_wp2
      go_ret
      exact ⟨rfl, HB3.out⟩
theorem paR_bd {s : ByteArray} (hs : s.size ≤ 400) : (∀ t ∈ (paR s.toList).1, t.1.size ≤ 400 ∧ t.2.size ≤ 400) ∧ (paR s.toList).1.length ≤ 6 := by
  unfold paR
  split
  · exact ⟨by simp, by simp⟩
  · split
    · rename_i hr
      refine ⟨fun t ht => ?_, ?_⟩
      · obtain ⟨p, hp, rfl⟩ := List.mem_map.1 ht
        have := spl_part 44 s.toList p hp
        rw [bytes_len] at this
        exact tgO_bd p (by omega)
      · apply Classical.byContradiction
        intro q
        rw [right_long (by simpa using q)] at hr
        cases hr
    · exact ⟨by simp, by simp⟩
set_option maxRecDepth 100000 in
set_option maxHeartbeats 3000000 in
theorem dimsText_walk (A : Option Addr) (c : Nat) (L : List Tg) (s : ByteArray) (w : World) (hA : ArgT w A c L) (hs0 : s.size ≤ maxLen) :
    Calls Tryd.prog 6 #[.slice A L.length c, .string s] w fun e w' => e = .returned (.bool true) ∧ Below w.heap.size w w' := by
  have HL := Lib.hid (fun W (h : RowG W A L) => light_any A c L W h)
  have HLv := Lib.hid (fun W => lives_any W)
  have HG := Lib.hid hA.1
  have HB0 := Lib.hid (Below.refl w.heap.size w)
  cases hl : ligT L
  · rw [hl] at HL
    clear hA
    go_enter Tryd.func6, Tryd.ntmps6
    go_wp2_with fail
    refine (HL.out _ HG.out).mono ?_
    rintro e w_ ⟨rfl, rfl⟩
    go_wp2_with fail
    refine (HLv.out _).mono ?_
    rintro e W1 ⟨rfl, hb⟩
    have HB1 := Lib.hid (HB0.out.trans (hb.mono HB0.out.size))
    clear hb
    go_wp2
    go_ret
    exact ⟨rfl, HB1.out⟩
  · rw [hl] at HL
    by_cases hs : 400 < s.size
    · have hs' : (400 : Int) < (s.size : Int) := by omega
      clear hA
      go_enter Tryd.func6, Tryd.ntmps6
      go_wp2_with fail
      refine (HL.out _ HG.out).mono ?_
      rintro e w_ ⟨rfl, rfl⟩
      go_wp2_with fail
      refine (HLv.out _).mono ?_
      rintro e W1 ⟨rfl, hb⟩
      have HB1 := Lib.hid (HB0.out.trans (hb.mono HB0.out.size))
      clear hb
      go_wp2
      go_ret
      exact ⟨rfl, HB1.out⟩
    · have hs' : ¬ (400 : Int) < (s.size : Int) := by omega
      obtain ⟨hr, h20⟩ := ligT_row hA.1 hl
      have R_0 := Lib.hid hr
      have HM := Lib.hid (fun W (h : RowT W A L) => text_any A c L W h (by omega))
      have HN := Lib.hid (fun W (h : RowT W A L) => rText_any A c L W h (by omega))
      generalize bs (if rightT L = true then txT L else []) = T at *
      generalize (if rightT L = true then (0 : Int) else 14) = te at *
      have HP := Lib.hid (fun W => parse_any s W (by omega))
      have HO := Lib.hid (fun W => rParse_any s W (by omega))
      obtain ⟨hb1, hb2⟩ := paR_bd (s := s) (by omega)
      have HBd := Lib.hid hb1
      generalize paR s.toList = R at *
      obtain ⟨M, er⟩ := R
      have HQ := Lib.hid (fun W B D c d (h : RowT W B M) (k : RowT W D M) => same_any B D c d M M W h k (by simp at hb2; omega) (by simp at hb2; omega))
      rw [decide_eq_true (rfl : M = M)] at HQ
      clear hA hr hb1 hb2 hl
      go_enter Tryd.func6, Tryd.ntmps6
      go_wp2_with fail
      refine (HL.out _ HG.out).mono ?_
      rintro e w_ ⟨rfl, rfl⟩
      go_wp2_with fail
      refine (HM.out _ R_0.out).mono ?_
      rintro e W1 ⟨rfl, hb⟩
      have HB1 := Lib.hid (HB0.out.trans (hb.mono HB0.out.size))
      have R_1 := Lib.hid (R_0.out.below hb)
      clear hb
      go_wp2_with fail
      refine (HN.out _ R_1.out).mono ?_
      rintro e W2 ⟨rfl, hb⟩
      have HB2 := Lib.hid (HB1.out.trans (hb.mono HB1.out.size))
      have R_2 := Lib.hid (R_1.out.below hb)
      clear hb
      go_wp2_with fail
      refine (HP.out _).mono ?_
      rintro e W3 ⟨v3, rfl, ho, hb⟩
      have HB3 := Lib.hid (HB2.out.trans (hb.mono HB2.out.size))
      have R_3 := Lib.hid (R_2.out.below hb)
      obtain ⟨a3, c3, rfl, _, _⟩ := ho.shape
      have X_3 := Lib.hid (ho.row HBd.out)
      clear ho
      clear hb
      go_wp2_with fail
      refine (HO.out _).mono ?_
      rintro e W4 ⟨v4, rfl, ho, hb⟩
      have HB4 := Lib.hid (HB3.out.trans (hb.mono HB3.out.size))
      have R_4 := Lib.hid (R_3.out.below hb)
      have X_4 := Lib.hid (X_3.out.below hb)
      obtain ⟨a4, c4, rfl, _, _⟩ := ho.shape
      have Y_4 := Lib.hid (ho.row HBd.out)
      clear ho
      clear hb
      go_wp2_with fail
      refine (HQ.out _ _ _ _ _ X_4.out Y_4.out).mono ?_
      rintro e W5 ⟨rfl, hb⟩
      have HB5 := Lib.hid (HB4.out.trans (hb.mono HB4.out.size))
      have R_5 := Lib.hid (R_4.out.below hb)
      have X_5 := Lib.hid (X_4.out.below hb)
      have Y_5 := Lib.hid (Y_4.out.below hb)
      clear hb
      go_wp2_with fail
      refine (HLv.out _).mono ?_
      rintro e W6 ⟨rfl, hb⟩
      have HB6 := Lib.hid (HB5.out.trans (hb.mono HB5.out.size))
      have R_6 := Lib.hid (R_5.out.below hb)
      have X_6 := Lib.hid (X_5.out.below hb)
      have Y_6 := Lib.hid (Y_5.out.below hb)
      clear hb
      go_wp2
      go_ret
      exact ⟨rfl, HB6.out⟩
end Go.Proofs.YtjoinifjkpaapaaDoor
