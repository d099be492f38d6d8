/- The walk of SheetAny. Written by wip/mk_sht.py. -/
import Derived.Test.YtenhnnfemehbcaaShS
namespace Go.Proofs.Ytenhnnfemehbcaa
open Go.RowKit Go.Sort
set_option linter.unusedVariables false
set_option linter.unusedSimpArgs false

theorem insK_len (k : Ky) : ∀ K : List Ky, (insK k K).length ≤ K.length + 1
  | [] => by simp [insK]
  | a :: x => by
    unfold insK
    split
    · simp
    · split
      · simp
      · have := insK_len k x
        simp only [List.length_cons]
        omega
theorem keysK_len : ∀ L : List Cl, (keysK L).length ≤ L.length
  | [] => Nat.le_refl _
  | c :: r => by
    have h1 := insK_len c.1 (keysK r)
    have h2 := keysK_len r
    show (insK c.1 (keysK r)).length ≤ _
    simp only [List.length_cons]
    omega
theorem ofL_len (L : List Cl) : (ofL L).length ≤ L.length := by
  unfold ofL
  split
  · simp
  · refine Nat.le_trans (List.length_filter_le _ _) ?_
    rw [List.length_map]
    exact keysK_len L
theorem rev_step {L : List Cl} {j : Nat} (hj : j < L.length) : (L.drop j).reverse = (L.drop (j + 1)).reverse ++ [L[j]] := by
  rw [List.drop_eq_getElem_cons hj, List.reverse_cons]
theorem rev_len (L : List Cl) (j : Nat) : (L.drop j).reverse.length ≤ L.length := by rw [List.length_reverse, List.length_drop]; omega
set_option maxRecDepth 100000 in
set_option maxHeartbeats 1000000 in
theorem sheetAny_walk (A : Option Addr) (len cap : Nat) (L : List Cl) (w : World) (h : OkS w A len L) :
    Calls Try.prog 5 #[.slice A len cap] w fun e w' => e = .returned (.bool true) ∧ Below w.heap.size w w' := by
  obtain ⟨rfl, hR, hBd, hm⟩ := h
  have HLg := Lib.hid (large_any A L.length cap w hm)
  by_cases h5 : 300 < L.length
  · rw [decide_eq_true (by omega)] at HLg
    clear hR
    go_enter Try.func5, Try.ntmps5
    go_wp2_with fail
    refine HLg.out.mono ?_
    rintro e w_ ⟨rfl, rfl⟩
    go_wp2
    go_ret
    exact ⟨rfl, Below.refl _ _⟩
  · rw [decide_eq_false (by omega)] at HLg
    have HO1 := Lib.hid (fun W hr => of_any A cap L W hr hBd (by omega))
    have HO2 := Lib.hid (show ∀ ao cp (W : World), RowS W ao L.reverse → Calls Try.prog 18 #[.slice ao L.length cp] W fun e w' => ∃ v, e = .returned (.tuple #[v, .int .i64 (ofE L)]) ∧ OwnS w' W.heap.size v (ofL L) ∧ Below W.heap.size W w' from fun ao cp W hr => by
      have q := of_any ao cp L.reverse W hr (fun c hc => hBd c (List.mem_reverse.1 hc)) (by rw [List.length_reverse]; omega)
      obtain ⟨p1, p2⟩ := of_perm (List.reverse_perm L)
      rw [p1, p2, List.length_reverse] at q
      exact q)
    have hX := ofL_len L
    have HR := Lib.hid hR
    have HLi := Lib.hid lives_any
    clear hR hBd
    generalize ofL L = X at *
    generalize ofE L = E at *
    have HSm := Lib.hid (show ∀ ao co bo cp (W : World), RowS W ao X → RowS W bo X → Calls Try.prog 20 #[.slice ao X.length co, .slice bo X.length cp] W fun e w' => e = .returned (.bool true) ∧ Below W.heap.size W w' from fun ao co bo cp W h1 h2 => by
      have q := rSame_any ao bo co cp X X W h1 h2 (by omega) (by omega)
      rw [show smB X X = true from decide_eq_true rfl] at q
      exact q)
    go_enter Try.func5, Try.ntmps5
    go_wp2_with fail
    refine HLg.out.mono ?_
    rintro e w_ ⟨rfl, hw⟩
    have hw2 := hw.symm
    subst hw2
    clear hw
    go_wp2
    go_loopw [3, 4] (fun v x wr => ∃ (vo : Value) (k : Nat) (y : Int), vo = v ∧ k ≤ L.length ∧ x = .int .i64 y ∧ y = (k : Int) - 1 ∧ Hid (OwnS wr w.heap.size vo (L.drop k).reverse) ∧ Hid (Below w.heap.size w wr)) (fun _ x _ => (intOf x + 1).toNat)
    case atStart => exact ⟨_, L.length, _, rfl, Nat.le_refl _, rfl, rfl, Lib.hid (by rw [List.drop_length]; exact OwnS.nil _ _), Lib.hid (Below.refl _ _)⟩
    case round =>
      obtain ⟨vo, k, y, rfl, hk, rfl, hy, HO, HB⟩ := hrel
      have hsz := HB.out.size
      cases k with
      | zero =>
        have g1 : ¬ (0 : Int) ≤ y := by omega
        clear hy
        have ho := HO.out
        rw [List.drop_zero] at ho
        obtain ⟨ao, cp, rfl, _, _, hr, _⟩ := ho.shape
        rw [List.length_reverse]
        have HRo := Lib.hid hr
        have H1 := Lib.hid (HO1.out wr (HR.out.below HB.out))
        clear ho hr HO HO1
        go_wp2_with fail
        refine H1.out.mono ?_
        rintro e w1 ⟨v1, rfl, ho1, hb⟩
        have H2 := Lib.hid (HO2.out ao cp w1 (HRo.out.below hb))
        have HB1 := Lib.hid (HB.out.trans (hb.mono hsz))
        have HV1 := Lib.hid ho1
        clear ho1 hb HB H1 HRo HO2
        go_wp2_with fail
        refine H2.out.mono ?_
        rintro e w2 ⟨v2, rfl, ho2, hb⟩
        obtain ⟨a1, c1, rfl, _, _, r1, _⟩ := (HV1.out.below hb).shape
        obtain ⟨a2, c2, rfl, _, _, r2, _⟩ := ho2.shape
        have HS := Lib.hid (HSm.out a1 c1 a2 c2 w2 r1 r2)
        have HB2 := Lib.hid (HB1.out.trans (hb.mono HB1.out.size))
        clear ho2 hb HB1 HV1 r1 r2 H2 HSm
        go_wp2_with fail
        refine HS.out.mono ?_
        rintro e w3 ⟨rfl, hb⟩
        have HB3 := Lib.hid (HB2.out.trans (hb.mono HB2.out.size))
        clear hb HB2
        go_wp2_with fail
        refine (HLi.out _).mono ?_
        rintro e w4 ⟨rfl, hb⟩
        have HB4 := Lib.hid (HB3.out.trans (hb.mono HB3.out.size))
        clear hb HB3
        go_wp2
        go_ret
        exact ⟨rfl, HB4.out⟩
      | succ j =>
        obtain rfl : y = (j : Int) := by omega
        have hj : j < L.length := by omega
        have h1 : (0 : Int) ≤ (j : Int) := by omega
        have h2 : (j : Int) < (L.length : Int) := by omega
        obtain ⟨b, off, rfl, hbl, c0, c1, c2, c3, c4, c5, c6⟩ := (HR.out.below HB.out).at hj
        have HSt := Lib.hid (rev_step hj)
        have hrl := rev_len L (j + 1)
        obtain ⟨x, hx⟩ : ∃ x, L[j] = x := ⟨_, rfl⟩
        rw [hx] at c0 c1 c2 c3 c4 c5 c6 HSt
        clear hx
        obtain ⟨⟨a1, a2, a3, a4, a5⟩, m, n⟩ := x
        dsimp only at c0 c1 c2 c3 c4 c5 c6
        have ha : Below wr.heap.size wr (wr.alloc (Obj.cells #[.string a1, .string a2, .string a3, .string a4, .string a5, .int .i64 m, .int .i64 n] 37)) := (Below.refl _ _).alloc (Nat.le_refl _) _
        have HO5 := Lib.hid (HO.out.below ha)
        have HB5 := Lib.hid (HB.out.trans (ha.mono hsz))
        have hs5 : w.heap.size ≤ (wr.alloc (Obj.cells #[.string a1, .string a2, .string a3, .string a4, .string a5, .int .i64 m, .int .i64 n] 37)).heap.size := HB5.out.size
        have HRc := Lib.hid (row_cell wr ((a1, a2, a3, a4, a5), m, n) 37)
        clear ha HO HB hy
        go_wp2_with (at_builtin; (refine wpList_cell rfl (.tmp 18) (.tmp 23) rfl w.heap.size vo (L.drop (j + 1)).reverse ((a1, a2, a3, a4, a5), m, n) rfl HO5.out ⟨wr.heap.size, 0, none⟩ 1 rfl HRc.out (by omega) hs5 ?_; intro v6 w6 o6 hb6))
        have HO6 := Lib.hid (show OwnS w6 w.heap.size v6 (L.drop j).reverse from by rw [HSt.out]; exact o6)
        have HB6 := Lib.hid (HB5.out.trans hb6)
        clear o6 hb6
        go_wp2
        go_roundw
        case rel => exact ⟨_, j, _, rfl, by omega, rfl, rfl, HO6, HB6⟩
        case measure => simp [intOf]
end Go.Proofs.Ytenhnnfemehbcaa
