/- The walk of FxOrder. Written by wip/mk_fxq.py. -/
import Derived.Test.YtdeoplbdgbgimaaFxP
namespace Go.Proofs.Ytdeoplbdgbgimaa
open Go.RowKit Go.Sort
set_option linter.unusedVariables false
set_option linter.unusedSimpArgs false

theorem own_rowR {w : World} {base : Nat} {T : TypeId} {v : Value} {l : List Rt} (h : w.ownsRow base T 5 v l.length (l.flatMap rtC)) : ∃ ao cap, v = .slice ao l.length cap ∧ RowR w ao l := by
  rcases h.2 with ⟨e, n⟩ | ⟨g, cap, cur, e, _, hg, _⟩
  · have : l = [] := List.length_eq_zero_iff.1 n
    subst this
    exact ⟨none, 0, e, fun h => absurd h (by simp)⟩
  · subst e
    refine ⟨some ⟨g, 0, none⟩, cap, rfl, fun _ => ⟨g, 0, rfl, lt_of_block hg, fun i hi => ?_⟩⟩
    have q := fun c (hc : c < 5) => h.cells (g := g) rfl (i * 5 + c) _ ((flatMap_at rtC_len l i c hi hc).trans (by rw [List.getElem?_eq_getElem (by rw [rtC_len]; exact hc)]))
    have q0 := q 0 (by decide)
    have q1 := q 1 (by decide)
    have q2 := q 2 (by decide)
    have q3 := q 3 (by decide)
    have q4 := q 4 (by decide)
    rw [addr_is] at q0 q1 q2 q3 q4
    exact ⟨q0, q1, q2, q3, q4⟩
theorem own_low {w : World} {base base' : Nat} {T : TypeId} {K n : Nat} {v : Value} {xs : List Value} (h : w.ownsRow base T K v n xs) (hb : base' ≤ base) : w.ownsRow base' T K v n xs := by
  refine ⟨h.1, ?_⟩
  rcases h.2 with q | ⟨g, cap, cur, e1, e2, e3⟩
  · exact .inl q
  · exact .inr ⟨g, cap, cur, e1, Nat.le_trans hb e2, e3⟩
theorem own_below {w w' : World} {base : Nat} {T : TypeId} {K n : Nat} {v : Value} {xs : List Value} (h : w.ownsRow base T K v n xs) (hb : Below w.heap.size w w') : w'.ownsRow base T K v n xs :=
  h.kept (below_grownBy hb) (by cases v.ownBlock <;> simp)
theorem Q8.grown {w w' : World} {B : Nat} {a b c d p q r s : Value} {row : Option Nat} (h : Q8 w B a b c d p q r s) (g : w.grownBy w' row) (hne : some B ≠ row) : Q8 w' B a b c d p q r s := by
  have hb := g.block B h.lt hne
  exact ⟨Nat.lt_of_lt_of_le h.lt g.size, (World.cell?_of_block hb).trans h.c0, (World.frozen?_of_block hb).trans h.f0, (World.cell?_of_block hb).trans h.c1, (World.frozen?_of_block hb).trans h.f1, (World.cell?_of_block hb).trans h.c2, (World.frozen?_of_block hb).trans h.f2, (World.cell?_of_block hb).trans h.c3, (World.frozen?_of_block hb).trans h.f3, (World.cell?_of_block hb).trans h.c4, (World.frozen?_of_block hb).trans h.f4, (World.cell?_of_block hb).trans h.c5, (World.frozen?_of_block hb).trans h.f5, (World.cell?_of_block hb).trans h.c6, (World.frozen?_of_block hb).trans h.f6, (World.cell?_of_block hb).trans h.c7, (World.frozen?_of_block hb).trans h.f7⟩
theorem rev_more {L : List Rt} {k j : Nat} (hk : k < L.length) (hj : j + k + 1 = L.length) : L.reverse.take (k + 1) = L.reverse.take k ++ [L[j]'(by omega)] := by
  rw [List.take_succ_eq_append_getElem (by simpa using hk)]
  congr 1
  rw [List.getElem_reverse]
  congr 2
  omega
theorem fnd_rev {base : ByteArray} {L : List Rt} (h : OkR base L) (c : ByteArray) (k d : Int) : fnd base L.reverse c k d = fnd base L c k d := by
  unfold fnd; rw [bst_rev h.2.2.2]
set_option maxRecDepth 100000 in
set_option maxHeartbeats 6000000 in
theorem fxOrder_walk (bs : ByteArray) (A : Option Addr) (len cap : Nat) (L : List Rt) (fr to_ : ByteArray) (kd dy am md : Int) (w : World) (h : AskF w bs A len L fr to_ kd dy am md) :
    Calls Try.prog 6 #[.agg #[.string bs, .slice A len cap, .string fr, .string to_, .int .i64 kd, .int .i64 dy, .int .i64 am, .int .i64 md]] w fun e w' => e = .returned (.bool true) ∧ Below w.heap.size w w' := by
  obtain ⟨hbs, ⟨rfl, hR, hBd, hm⟩, hfr, hto, hkd, hdy, ham, hmd⟩ := h
  have hm' := hm
  unfold maxLen at hm'
  have HLg := Lib.hid (fun W => large_any A L.length cap W hm)
  have HLi := Lib.hid lives_any
  have HP := Lib.hid (Q8.alloc w (.string bs) (.slice A L.length cap) (.string fr) (.string to_) (.int .i64 kd) (.int .i64 dy) (.int .i64 am) (.int .i64 md) 35)
  have HB0 := Lib.hid ((Below.refl w.heap.size w).alloc (Nat.le_refl _) (Obj.cells #[.string bs, .slice A L.length cap, .string fr, .string to_, .int .i64 kd, .int .i64 dy, .int .i64 am, .int .i64 md] 35))
  have HR := Lib.hid (hR.below ((Below.refl w.heap.size w).alloc (Nat.le_refl _) (Obj.cells #[.string bs, .slice A L.length cap, .string fr, .string to_, .int .i64 kd, .int .i64 dy, .int .i64 am, .int .i64 md] 35)))
  by_cases g1 : 60 < L.length
  · rw [decide_eq_true g1] at HLg
    go_enter Try.func6, Try.ntmps6
    have xP0 := HP.out.c0
    have xP1 := HP.out.c1
    have xP2 := HP.out.c2
    have xP3 := HP.out.c3
    have xP4 := HP.out.c4
    have xP5 := HP.out.c5
    have xP6 := HP.out.c6
    have xP7 := HP.out.c7
    go_wp2_with fail
    refine (HLg.out _).mono ?_
    rintro e w_ ⟨rfl, rfl⟩
    go_wp2_with fail
    refine (HLi.out _).mono ?_
    rintro e w1 ⟨rfl, hb⟩
    clear xP0 xP1 xP2 xP3 xP4 xP5 xP6 xP7
    have HB1 := Lib.hid (HB0.out.trans ((hb).mono HB0.out.size))
    have P_1 := Lib.hid (HP.out.below hb)
    have R_1 := Lib.hid (HR.out.below hb)
    clear hb HP HR
    have xP0 := P_1.out.c0
    have xP1 := P_1.out.c1
    have xP2 := P_1.out.c2
    have xP3 := P_1.out.c3
    have xP4 := P_1.out.c4
    have xP5 := P_1.out.c5
    have xP6 := P_1.out.c6
    have xP7 := P_1.out.c7
    go_wp2
    go_ret
    exact ⟨rfl, HB1.out⟩
  rw [decide_eq_false g1] at HLg
  have hBr : BdR L.reverse := fun r hr => hBd r (by simpa using hr)
  have HRv := Lib.hid (chk_rev bs L)
  have H1o := Lib.hid (fun W hr hc => new_ok bs A cap L W hbs hr hBd hm hc)
  have H1b := Lib.hid (fun W hr hc => new_bad bs A cap L W hbs hr hBd hm hc)
  have H2o := Lib.hid (fun A' c' W hr hc => new_ok bs A' c' L.reverse W hbs hr hBr (by simpa using hm) hc)
  have H2b := Lib.hid (fun A' c' W hr hc => new_bad bs A' c' L.reverse W hbs hr hBr (by simpa using hm) hc)
  have H3 := Lib.hid (fun N B W hT hO => find_any N B bs L fr kd dy W hT hO hfr hkd hdy)
  have H4 := Lib.hid (fun N B W hT hO => find_any N B bs L.reverse fr kd dy W hT hO hfr hkd hdy)
  have H3b := Lib.hid (fun W => find_nil fr kd dy W)
  have HBd := Lib.hid hBd
  have HRw := Lib.hid hR
  obtain ⟨i0, hi, hz0, hz1, hz2⟩ := info_parts inf_rate
  clear hBd hR hBr
  go_enter Try.func6, Try.ntmps6
  have xP0 := HP.out.c0
  have xP1 := HP.out.c1
  have xP2 := HP.out.c2
  have xP3 := HP.out.c3
  have xP4 := HP.out.c4
  have xP5 := HP.out.c5
  have xP6 := HP.out.c6
  have xP7 := HP.out.c7
  go_wp2_with fail
  refine (HLg.out _).mono ?_
  rintro e w_ ⟨rfl, rfl⟩
  have HO0 := Lib.hid (World.ownsRow_made (e := 51) (size := 5) (base := w.heap.size) (w.alloc (Obj.cells #[.string bs, .slice A L.length cap, .string fr, .string to_, .int .i64 kd, .int .i64 dy, .int .i64 am, .int .i64 md] 35)) #[] 0 (by simp) (by decide) (by decide))
  have ha : Below (w.alloc (Obj.cells #[.string bs, .slice A L.length cap, .string fr, .string to_, .int .i64 kd, .int .i64 dy, .int .i64 am, .int .i64 md] 35)).heap.size (w.alloc (Obj.cells #[.string bs, .slice A L.length cap, .string fr, .string to_, .int .i64 kd, .int .i64 dy, .int .i64 am, .int .i64 md] 35)) ((w.alloc (Obj.cells #[.string bs, .slice A L.length cap, .string fr, .string to_, .int .i64 kd, .int .i64 dy, .int .i64 am, .int .i64 md] 35)).alloc (Obj.cells #[] 51)) := (Below.refl _ _).alloc (Nat.le_refl _) _
  have HP1 := Lib.hid (HP.out.below ha)
  have HB1 := Lib.hid (HB0.out.trans (ha.mono (by simp)))
  clear ha
  clear xP0 xP1 xP2 xP3 xP4 xP5 xP6 xP7
  have xP0 := HP1.out.c0
  have xP1 := HP1.out.c1
  have xP2 := HP1.out.c2
  have xP3 := HP1.out.c3
  have xP4 := HP1.out.c4
  have xP5 := HP1.out.c5
  have xP6 := HP1.out.c6
  have xP7 := HP1.out.c7
  go_wp2
  clear xP0 xP1 xP2 xP3 xP4 xP5 xP6 xP7
  go_loopw [3, 4] (fun y x wr => ∃ (k : Nat) (v : Value), k ≤ L.length ∧ x = .int .i64 ((L.length : Int) - 1 - k) ∧ v = y ∧ Hid (wr.ownsRow w.heap.size 51 5 v k ((L.reverse.take k).flatMap rtC)) ∧ Hid (Q8 wr w.heap.size (.string bs) (.slice A L.length cap) (.string fr) (.string to_) (.int .i64 kd) (.int .i64 dy) (.int .i64 am) (.int .i64 md)) ∧ (∀ b, v.ownBlock = some b → w.heap.size < b) ∧ Hid (Below w.heap.size w wr)) (fun _ x _ => (intOf x + 1).toNat)
  case atStart => exact ⟨0, _, Nat.zero_le _, by simp, rfl, Lib.hid (by simpa using HO0.out), HP1, fun b hb => by cases hb; simp, HB1⟩
  case round =>
    clear HO0 HP1 HB1 HP HR HB0
    obtain ⟨k, v, hk, rfl, rfl, HO, HP, hvl, HB⟩ := hrel
    by_cases h : k < L.length
    · obtain ⟨j, hj⟩ : ∃ j, j + k + 1 = L.length := ⟨L.length - 1 - k, by omega⟩
      have hjx : (L.length : Int) - 1 - (k : Int) = (j : Int) := by omega
      have hjL : j < L.length := by omega
      have hj0 : ¬ (j : Int) < 0 := by omega
      have hj1 : (0 : Int) ≤ (j : Int) := by omega
      have hj' : (j : Int) < (L.length : Int) := by omega
      rw [hjx]
      obtain ⟨b, off, rfl, hl, hcl⟩ := (HRw.out.below HB.out) (by omega)
      obtain ⟨c0, c1, c2, c3, c4⟩ := hcl j hjL
      have HT := Lib.hid (rev_more h hj)
      obtain ⟨r, hr⟩ : ∃ r, L[j] = r := ⟨_, rfl⟩
      rw [hr] at c0 c1 c2 c3 c4 HT
      obtain ⟨rc, rk, rd, rn, rm⟩ := r
      dsimp only at c0 c1 c2 c3 c4
      have x1 := HP.out.c1
      have ha : Below wr.heap.size wr (wr.alloc (Obj.cells #[.string rc, .int .i64 rk, .int .i64 rd, .int .i64 rn, .int .i64 rm] 51)) := (Below.refl _ _).alloc (Nat.le_refl _) _
      have HQ := Lib.hid (Q5.alloc wr (.string rc) (.int .i64 rk) (.int .i64 rd) (.int .i64 rn) (.int .i64 rm) 51)
      have HOa := Lib.hid (own_below HO.out ha)
      have HPa := Lib.hid (HP.out.below ha)
      have HBa := Lib.hid (HB.out.trans (ha.mono HB.out.size))
      have hPl := HP.out.lt
      have hsz1 : (wr.alloc (Obj.cells #[.string rc, .int .i64 rk, .int .i64 rd, .int .i64 rn, .int .i64 rm] 51)).heap.size = wr.heap.size + 1 := by simp
      have hjd : (j : Int) - 1 = (L.length : Int) - 1 - ((k + 1 : Nat) : Int) := by omega
      have HJd := Lib.hid hjd
      clear hcl ha HO hr hjx hjd
      go_wp2_with (at_builtin
                   go_loud (refine wpList_append_own_at _ rfl (.tmp 28) (.tmp 34) _ rfl w.heap.size 51 i0 _ 5 48 und_rates hi hz0 hz1 hz2 rfl (by decide) v _ _ rfl HOa.out _ 1 1 (rtC (rc, rk, rd, rn, rm)) rfl rfl (row5 HQ.out) (rtC_one _) (by unfold maxLen; omega) (by omega) (by omega) ?_)
                   intro v' w5 o5 g5 _ loc
                   have HO5 := Lib.hid o5
                   have HG5 := Lib.hid g5
                   have HL5 := Lib.hid loc
                   clear o5 g5 loc)
      have hg5 := HG5.out
      have hsz5 := hg5.size
      have HB5 := Lib.hid (HBa.out.grown hg5 (by omega) (fun b hb => by have := hvl b hb; omega))
      have hvl5 : ∀ b, v'.ownBlock = some b → w.heap.size < b := fun b hb => by
        rcases HL5.out with q | q
        · rw [q] at hb; exact hvl b hb
        · rw [q] at hb; cases hb; omega
      have HP5 := Lib.hid (show Q8 w5 w.heap.size (.string bs) (.slice (some ⟨b, off, none⟩) L.length cap) (.string fr) (.string to_) (.int .i64 kd) (.int .i64 dy) (.int .i64 am) (.int .i64 md) from HPa.out.grown hg5 (fun e => by have := hvl _ e.symm; omega))
      refine ⟨⟨k + 1, v', by omega, by rw [HJd.out], rfl, by rw [HT.out, List.flatMap_append]; simpa using HO5, HP5, hvl5, HB5⟩, ?_⟩
      simp [intOf] <;> omega
    · obtain rfl : k = L.length := by omega
      have hx1 : ¬ (0 : Int) ≤ (L.length : Int) - 1 - (L.length : Int) := by omega
      have hx2 : (L.length : Int) - 1 - (L.length : Int) = -1 := by omega
      rw [hx2]
      have hO := HO.out
      rw [show L.reverse.take L.length = L.reverse by rw [List.take_of_length_le (by simp)]] at hO
      obtain ⟨ao, cv, rfl, hrr⟩ := own_rowR (l := L.reverse) (by simpa using hO)
      have HRR := Lib.hid hrr
      have HRL := Lib.hid (HRw.out.below HB.out)
      clear hO HO hrr hx2 hx1 hvl
      by_cases hc : (chk bs L).2 = 0
      · have hO := chk_ok.1 hc
        have hc2 := HRv.out.2 hc
        have hO2 := chk_ok.1 hc2
        have H1o' := Lib.hid (fun W hr => H1o.out W hr hc)
        have H2o' := Lib.hid (fun A' c' W hr => H2o.out A' c' W hr hc2)
        have H3' := Lib.hid (fun N B W hT => H3.out N B W hT hO)
        have H4' := Lib.hid (fun N B W hT => H4.out N B W hT hO2)
        rw [fnd_rev hO] at H4'
        have hE := eqFrYes
        clear H1o H1b H2o H2b H3 H4 H3b hc hc2 hO hO2 HRv
        rw [List.length_reverse] at H2o' ⊢
        generalize fnd bs L fr kd dy = f at *
        obtain ⟨f1, f2, f3⟩ := f
        dsimp only at H3' H4'
        have xP0 := HP.out.c0
        have xP1 := HP.out.c1
        have xP2 := HP.out.c2
        have xP3 := HP.out.c3
        have xP4 := HP.out.c4
        have xP5 := HP.out.c5
        have xP6 := HP.out.c6
        have xP7 := HP.out.c7
        go_wp2_with fail
        refine (H1o'.out _ HRL.out).mono ?_
        rintro e w1 ⟨B, rfl, hT, hb⟩
        clear xP0 xP1 xP2 xP3 xP4 xP5 xP6 xP7
        have HB1 := Lib.hid (HB.out.trans ((hb).mono HB.out.size))
        have P_1 := Lib.hid (HP.out.below hb)
        have RL_1 := Lib.hid (HRL.out.below hb)
        have RR_1 := Lib.hid (HRR.out.below hb)
        have T_1 := Lib.hid hT
        clear hb HB HP HRL HRR hT
        have xP0 := P_1.out.c0
        have xP1 := P_1.out.c1
        have xP2 := P_1.out.c2
        have xP3 := P_1.out.c3
        have xP4 := P_1.out.c4
        have xP5 := P_1.out.c5
        have xP6 := P_1.out.c6
        have xP7 := P_1.out.c7
        go_wp2_with fail
        refine (H2o'.out _ _ _ RR_1.out).mono ?_
        rintro e w2 ⟨B2, rfl, hT, hb⟩
        clear xP0 xP1 xP2 xP3 xP4 xP5 xP6 xP7
        have HB2 := Lib.hid (HB1.out.trans ((hb).mono HB1.out.size))
        have P_2 := Lib.hid (P_1.out.below hb)
        have RL_2 := Lib.hid (RL_1.out.below hb)
        have RR_2 := Lib.hid (RR_1.out.below hb)
        have T_2 := Lib.hid (T_1.out.below hb)
        have U_2 := Lib.hid hT
        clear hb HB1 P_1 RL_1 RR_1 T_1 hT
        have xP0 := P_2.out.c0
        have xP1 := P_2.out.c1
        have xP2 := P_2.out.c2
        have xP3 := P_2.out.c3
        have xP4 := P_2.out.c4
        have xP5 := P_2.out.c5
        have xP6 := P_2.out.c6
        have xP7 := P_2.out.c7
        go_wp2_with fail
        refine (H3'.out _ _ _ T_2.out).mono ?_
        rintro e w3 ⟨rfl, hb⟩
        clear xP0 xP1 xP2 xP3 xP4 xP5 xP6 xP7
        have HB3 := Lib.hid (HB2.out.trans ((hb).mono HB2.out.size))
        have P_3 := Lib.hid (P_2.out.below hb)
        have RL_3 := Lib.hid (RL_2.out.below hb)
        have RR_3 := Lib.hid (RR_2.out.below hb)
        have T_3 := Lib.hid (T_2.out.below hb)
        have U_3 := Lib.hid (U_2.out.below hb)
        clear hb HB2 P_2 RL_2 RR_2 T_2 U_2
        have ha : Below w3.heap.size w3 (w3.alloc (Obj.cells #[.int .i64 f1, .int .i64 f2] 37)) := (Below.refl _ _).alloc (Nat.le_refl _) _
        have HB4 := Lib.hid (HB3.out.trans ((ha).mono HB3.out.size))
        have P_4 := Lib.hid (P_3.out.below ha)
        have RL_4 := Lib.hid (RL_3.out.below ha)
        have RR_4 := Lib.hid (RR_3.out.below ha)
        have T_4 := Lib.hid (T_3.out.below ha)
        have U_4 := Lib.hid (U_3.out.below ha)
        have F_4 := Lib.hid (Q2.alloc w3 (.int .i64 f1) (.int .i64 f2) 37)
        clear ha HB3 P_3 RL_3 RR_3 T_3 U_3
        have xP0 := P_4.out.c0
        have xP1 := P_4.out.c1
        have xP2 := P_4.out.c2
        have xP3 := P_4.out.c3
        have xP4 := P_4.out.c4
        have xP5 := P_4.out.c5
        have xP6 := P_4.out.c6
        have xP7 := P_4.out.c7
        have xF0 := F_4.out.c0
        have xF1 := F_4.out.c1
        go_wp2_with fail
        refine (H4'.out _ _ _ U_4.out).mono ?_
        rintro e w5 ⟨rfl, hb⟩
        clear xP0 xP1 xP2 xP3 xP4 xP5 xP6 xP7 xF0 xF1
        have HB5 := Lib.hid (HB4.out.trans ((hb).mono HB4.out.size))
        have P_5 := Lib.hid (P_4.out.below hb)
        have RL_5 := Lib.hid (RL_4.out.below hb)
        have RR_5 := Lib.hid (RR_4.out.below hb)
        have T_5 := Lib.hid (T_4.out.below hb)
        have U_5 := Lib.hid (U_4.out.below hb)
        have F_5 := Lib.hid (F_4.out.below hb)
        clear hb HB4 P_4 RL_4 RR_4 T_4 U_4 F_4
        have ha : Below w5.heap.size w5 (w5.alloc (Obj.cells #[.int .i64 f1, .int .i64 f2] 37)) := (Below.refl _ _).alloc (Nat.le_refl _) _
        have HB6 := Lib.hid (HB5.out.trans ((ha).mono HB5.out.size))
        have P_6 := Lib.hid (P_5.out.below ha)
        have RL_6 := Lib.hid (RL_5.out.below ha)
        have RR_6 := Lib.hid (RR_5.out.below ha)
        have T_6 := Lib.hid (T_5.out.below ha)
        have U_6 := Lib.hid (U_5.out.below ha)
        have F_6 := Lib.hid (F_5.out.below ha)
        have G_6 := Lib.hid (Q2.alloc w5 (.int .i64 f1) (.int .i64 f2) 37)
        clear ha HB5 P_5 RL_5 RR_5 T_5 U_5 F_5
        have xP0 := P_6.out.c0
        have xP1 := P_6.out.c1
        have xP2 := P_6.out.c2
        have xP3 := P_6.out.c3
        have xP4 := P_6.out.c4
        have xP5 := P_6.out.c5
        have xP6 := P_6.out.c6
        have xP7 := P_6.out.c7
        have xF0 := F_6.out.c0
        have xF1 := F_6.out.c1
        have xG0 := G_6.out.c0
        have xG1 := G_6.out.c1
        go_wp2_with fail
        refine (HLi.out _).mono ?_
        rintro e w7 ⟨rfl, hb⟩
        clear xP0 xP1 xP2 xP3 xP4 xP5 xP6 xP7 xF0 xF1 xG0 xG1
        have HB7 := Lib.hid (HB6.out.trans ((hb).mono HB6.out.size))
        have P_7 := Lib.hid (P_6.out.below hb)
        have RL_7 := Lib.hid (RL_6.out.below hb)
        have RR_7 := Lib.hid (RR_6.out.below hb)
        have T_7 := Lib.hid (T_6.out.below hb)
        have U_7 := Lib.hid (U_6.out.below hb)
        have F_7 := Lib.hid (F_6.out.below hb)
        have G_7 := Lib.hid (G_6.out.below hb)
        clear hb HB6 P_6 RL_6 RR_6 T_6 U_6 F_6 G_6
        have xP0 := P_7.out.c0
        have xP1 := P_7.out.c1
        have xP2 := P_7.out.c2
        have xP3 := P_7.out.c3
        have xP4 := P_7.out.c4
        have xP5 := P_7.out.c5
        have xP6 := P_7.out.c6
        have xP7 := P_7.out.c7
        have xF0 := F_7.out.c0
        have xF1 := F_7.out.c1
        have xG0 := G_7.out.c0
        have xG1 := G_7.out.c1
        go_wp2
        go_ret
        exact ⟨rfl, HB7.out⟩
      · have hc2 : (chk bs L.reverse).2 ≠ 0 := fun q => hc (HRv.out.1 q)
        have H1b' := Lib.hid (fun W hr => H1b.out W hr hc)
        have H2b' := Lib.hid (fun A' c' W hr => H2b.out A' c' W hr hc2)
        have hn1 : ((chk bs L).2 == 0) = false := by simpa using hc
        have hn2 : ((chk bs L.reverse).2 == 0) = false := by simpa using hc2
        have hE := eqFrYes
        clear H1o H1b H2o H2b H3 H4 hc hc2 HRv
        rw [List.length_reverse] at H2b' ⊢
        generalize chk bs L = k1 at *
        generalize chk bs L.reverse = k2 at *
        obtain ⟨k11, k12⟩ := k1
        obtain ⟨k21, k22⟩ := k2
        dsimp only at H1b' H2b' hn1 hn2
        have xP0 := HP.out.c0
        have xP1 := HP.out.c1
        have xP2 := HP.out.c2
        have xP3 := HP.out.c3
        have xP4 := HP.out.c4
        have xP5 := HP.out.c5
        have xP6 := HP.out.c6
        have xP7 := HP.out.c7
        go_wp2_with fail
        refine (H1b'.out _ HRL.out).mono ?_
        rintro e w1 ⟨rfl, hb⟩
        clear xP0 xP1 xP2 xP3 xP4 xP5 xP6 xP7
        have HB1 := Lib.hid (HB.out.trans ((hb).mono HB.out.size))
        have P_1 := Lib.hid (HP.out.below hb)
        have RL_1 := Lib.hid (HRL.out.below hb)
        have RR_1 := Lib.hid (HRR.out.below hb)
        clear hb HB HP HRL HRR
        have xP0 := P_1.out.c0
        have xP1 := P_1.out.c1
        have xP2 := P_1.out.c2
        have xP3 := P_1.out.c3
        have xP4 := P_1.out.c4
        have xP5 := P_1.out.c5
        have xP6 := P_1.out.c6
        have xP7 := P_1.out.c7
        go_wp2_with fail
        refine (H2b'.out _ _ _ RR_1.out).mono ?_
        rintro e w2 ⟨rfl, hb⟩
        clear xP0 xP1 xP2 xP3 xP4 xP5 xP6 xP7
        have HB2 := Lib.hid (HB1.out.trans ((hb).mono HB1.out.size))
        have P_2 := Lib.hid (P_1.out.below hb)
        have RL_2 := Lib.hid (RL_1.out.below hb)
        have RR_2 := Lib.hid (RR_1.out.below hb)
        clear hb HB1 P_1 RL_1 RR_1
        have xP0 := P_2.out.c0
        have xP1 := P_2.out.c1
        have xP2 := P_2.out.c2
        have xP3 := P_2.out.c3
        have xP4 := P_2.out.c4
        have xP5 := P_2.out.c5
        have xP6 := P_2.out.c6
        have xP7 := P_2.out.c7
        go_wp2_with fail
        refine (H3b.out _).mono ?_
        rintro e w3 ⟨rfl, hb⟩
        clear xP0 xP1 xP2 xP3 xP4 xP5 xP6 xP7
        have HB3 := Lib.hid (HB2.out.trans ((hb).mono HB2.out.size))
        have P_3 := Lib.hid (P_2.out.below hb)
        have RL_3 := Lib.hid (RL_2.out.below hb)
        have RR_3 := Lib.hid (RR_2.out.below hb)
        clear hb HB2 P_2 RL_2 RR_2
        have ha : Below w3.heap.size w3 (w3.alloc (Obj.cells #[.int .i64 0, .int .i64 0] 37)) := (Below.refl _ _).alloc (Nat.le_refl _) _
        have HB4 := Lib.hid (HB3.out.trans ((ha).mono HB3.out.size))
        have P_4 := Lib.hid (P_3.out.below ha)
        have RL_4 := Lib.hid (RL_3.out.below ha)
        have RR_4 := Lib.hid (RR_3.out.below ha)
        have F_4 := Lib.hid (Q2.alloc w3 (.int .i64 0) (.int .i64 0) 37)
        clear ha HB3 P_3 RL_3 RR_3
        have xP0 := P_4.out.c0
        have xP1 := P_4.out.c1
        have xP2 := P_4.out.c2
        have xP3 := P_4.out.c3
        have xP4 := P_4.out.c4
        have xP5 := P_4.out.c5
        have xP6 := P_4.out.c6
        have xP7 := P_4.out.c7
        have xF0 := F_4.out.c0
        have xF1 := F_4.out.c1
        go_wp2_with fail
        refine (H3b.out _).mono ?_
        rintro e w5 ⟨rfl, hb⟩
        clear xP0 xP1 xP2 xP3 xP4 xP5 xP6 xP7 xF0 xF1
        have HB5 := Lib.hid (HB4.out.trans ((hb).mono HB4.out.size))
        have P_5 := Lib.hid (P_4.out.below hb)
        have RL_5 := Lib.hid (RL_4.out.below hb)
        have RR_5 := Lib.hid (RR_4.out.below hb)
        have F_5 := Lib.hid (F_4.out.below hb)
        clear hb HB4 P_4 RL_4 RR_4 F_4
        have ha : Below w5.heap.size w5 (w5.alloc (Obj.cells #[.int .i64 0, .int .i64 0] 37)) := (Below.refl _ _).alloc (Nat.le_refl _) _
        have HB6 := Lib.hid (HB5.out.trans ((ha).mono HB5.out.size))
        have P_6 := Lib.hid (P_5.out.below ha)
        have RL_6 := Lib.hid (RL_5.out.below ha)
        have RR_6 := Lib.hid (RR_5.out.below ha)
        have F_6 := Lib.hid (F_5.out.below ha)
        have G_6 := Lib.hid (Q2.alloc w5 (.int .i64 0) (.int .i64 0) 37)
        clear ha HB5 P_5 RL_5 RR_5 F_5
        have xP0 := P_6.out.c0
        have xP1 := P_6.out.c1
        have xP2 := P_6.out.c2
        have xP3 := P_6.out.c3
        have xP4 := P_6.out.c4
        have xP5 := P_6.out.c5
        have xP6 := P_6.out.c6
        have xP7 := P_6.out.c7
        have xF0 := F_6.out.c0
        have xF1 := F_6.out.c1
        have xG0 := G_6.out.c0
        have xG1 := G_6.out.c1
        go_wp2_with fail
        refine (HLi.out _).mono ?_
        rintro e w7 ⟨rfl, hb⟩
        clear xP0 xP1 xP2 xP3 xP4 xP5 xP6 xP7 xF0 xF1 xG0 xG1
        have HB7 := Lib.hid (HB6.out.trans ((hb).mono HB6.out.size))
        have P_7 := Lib.hid (P_6.out.below hb)
        have RL_7 := Lib.hid (RL_6.out.below hb)
        have RR_7 := Lib.hid (RR_6.out.below hb)
        have F_7 := Lib.hid (F_6.out.below hb)
        have G_7 := Lib.hid (G_6.out.below hb)
        clear hb HB6 P_6 RL_6 RR_6 F_6 G_6
        have xP0 := P_7.out.c0
        have xP1 := P_7.out.c1
        have xP2 := P_7.out.c2
        have xP3 := P_7.out.c3
        have xP4 := P_7.out.c4
        have xP5 := P_7.out.c5
        have xP6 := P_7.out.c6
        have xP7 := P_7.out.c7
        have xF0 := F_7.out.c0
        have xF1 := F_7.out.c1
        have xG0 := G_7.out.c0
        have xG1 := G_7.out.c1
        go_wp2
        go_ret
        exact ⟨rfl, HB7.out⟩
end Go.Proofs.Ytdeoplbdgbgimaa
