/- Of of package sheet. Written by wip/mk_shk.py. -/
import Derived.Test.YtenhnnfemehbcaaShJ
namespace Go.Proofs.Ytenhnnfemehbcaa
open Go.RowKit Go.Sort
set_option linter.unusedVariables false
set_option linter.unusedSimpArgs false

theorem OwnS.lower {w : World} {base base' : Nat} {v : Value} {L : List Cl} (h : OwnS w base v L) (hb : base' ≤ base) : OwnS w base' v L := by
  refine ⟨h.1, ?_⟩
  rcases h.2 with x | ⟨g, cap, cur, e1, e2, e3, e4⟩
  · exact .inl x
  · exact .inr ⟨g, cap, cur, e1, Nat.le_trans hb e2, e3, e4⟩
/-- the cells of the first k groups. -/
def accL (X : List (List Cl)) (k : Nat) : List Cl := ((X.take k).map celG).filter (fun c => !emp c)
def noB (X : List (List Cl)) (k : Nat) : Prop := (X.take k).any badG = false
theorem acc_skip {X : List (List Cl)} {k : Nat} (hk : k < X.length) (h : emp (celG X[k]) = true) : accL X (k + 1) = accL X k := by
  unfold accL
  rw [List.take_succ_eq_append_getElem hk, List.map_append, List.filter_append]
  simp [h]
theorem acc_more {X : List (List Cl)} {k : Nat} (hk : k < X.length) (h : emp (celG X[k]) = false) : accL X (k + 1) = accL X k ++ [celG X[k]] := by
  unfold accL
  rw [List.take_succ_eq_append_getElem hk, List.map_append, List.filter_append]
  simp [h]
theorem acc_len (X : List (List Cl)) (k : Nat) : (accL X k).length ≤ k := by
  unfold accL
  refine Nat.le_trans (List.length_filter_le _ _) ?_
  rw [List.length_map, List.length_take]
  omega
theorem noB_more {X : List (List Cl)} {k : Nat} (hk : k < X.length) (h : noB X k) (hb : badG X[k] = false) : noB X (k + 1) := by
  unfold noB at *
  rw [List.take_succ_eq_append_getElem hk, List.any_append, h]
  simp [hb]
theorem of_badG {X : List (List Cl)} {k : Nat} (hk : k < X.length) (hb : badG X[k] = true) : X.any badG = true := List.any_eq_true.2 ⟨_, List.getElem_mem hk, hb⟩
theorem runs_bd {S : List Cl} {g : Nat × Nat} (h : BdS S) : BdS (grpS S g) := fun c hc => h c (List.mem_of_mem_drop (List.mem_of_mem_take hc))
theorem grp_len {S : List Cl} {g : Nat × Nat} (h : g.1 + g.2 ≤ S.length) : (grpS S g).length = g.2 := by
  unfold grpS
  rw [List.length_take, List.length_drop]
  omega
/-- what the walk needs of the groups. -/
structure OfG (L S : List Cl) (G : List (Nat × Nat)) (X : List (List Cl)) : Prop where
  len : X.length = G.length
  at_ : ∀ k, ∀ h : k < G.length, ∀ h2 : k < X.length, X[k] = grpS S G[k] ∧ 0 < G[k].2 ∧ G[k].1 + G[k].2 ≤ S.length
  bad : X.any badG = true → ofE L = 4 ∧ ofL L = []
  ok : noB X X.length → ofE L = 0 ∧ ofL L = accL X X.length
  num : G.length ≤ S.length
theorem ofG_of {L S : List Cl} {G : List (Nat × Nat)} (hp : S.Perm L) (hr : Runs S G S.length) : OfG L S G (G.map (grpS S)) := by
  have h1 := hr.grps.of
  rw [hr.full] at h1
  have h2 := of_perm hp
  refine ⟨List.length_map .., ?_, ?_, ?_, ?_⟩
  · intro k h h2
    refine ⟨by rw [List.getElem_map], hr.bnd _ (List.getElem_mem h)⟩
  · intro hb
    rw [← h2.1, ← h2.2, h1.1, h1.2, if_pos hb, if_pos hb]
    exact ⟨rfl, rfl⟩
  · intro hb
    unfold noB at hb
    rw [List.take_length] at hb
    rw [← h2.1, ← h2.2, h1.1, h1.2, hb]
    unfold accL
    rw [List.take_length]
    exact ⟨rfl, rfl⟩
  · have e := congrArg List.length hr.full
    rw [List.length_flatten] at e
    have hg : ∀ (Y : List (List Cl)), (∀ y ∈ Y, y ≠ []) → Y.length ≤ (Y.map List.length).sum := by
      intro Y
      induction Y with
      | nil => intro _; simp
      | cons y r ih =>
        intro h
        have := ih fun z hz => h z (List.mem_cons_of_mem _ hz)
        have h3 : 0 < y.length := List.length_pos_iff.2 (h y List.mem_cons_self)
        simp only [List.length_cons, List.map_cons, List.sum_cons]
        omega
    have := hg _ hr.grps.ne
    rw [List.length_map] at this
    omega
set_option maxRecDepth 100000 in
set_option maxHeartbeats 1000000 in
theorem of_any (A : Option Addr) (c : Nat) (L : List Cl) (w : World) (hR : RowS w A L) (hBd : BdS L) (hl : L.length ≤ 2000) :
    Calls Try.prog 18 #[.slice A L.length c] w fun e w' => ∃ v, e = .returned (.tuple #[v, .int .i64 (ofE L)]) ∧ OwnS w' w.heap.size v (ofL L) ∧ Below w.heap.size w w' := by
  have HG := Lib.hid (groups_any A c L w hR hl)
  have HBd := Lib.hid hBd
  have HT := Lib.hid total_any
  have HE := Lib.hid isEmpty_any
  have HN := Lib.hid (fun W => OwnS.nil W w.heap.size)
  obtain ⟨oE, hoE⟩ : ∃ x, ofE L = x := ⟨_, rfl⟩
  obtain ⟨oL, hoL⟩ : ∃ x, ofL L = x := ⟨_, rfl⟩
  rw [hoE, hoL]
  have HoE := Lib.hid hoE
  have HoL := Lib.hid hoL
  clear hR hBd hoE hoL
  go_enter Try.func18, Try.ntmps18
  go_wp2_with fail
  refine HG.out.mono ?_
  rintro e w1 ⟨S, G, b, cB, Ag, cg, rfl, hperm, hruns, hrow, hS, hcap, hb⟩
  have hSl : S.length ≤ 2000 := by rw [hperm.length_eq]; exact hl
  have HBS := Lib.hid (show BdS S from fun c hc => HBd.out c (hperm.mem_iff.1 hc))
  have hof := ofG_of hperm hruns
  obtain ⟨X, hX⟩ : ∃ X, G.map (grpS S) = X := ⟨_, rfl⟩
  rw [hX] at hof
  have HX := Lib.hid hof
  have HXb := Lib.hid (show X.any badG = true → oE = 4 ∧ oL = [] from by rw [← HoE.out, ← HoL.out]; exact hof.bad)
  have HXo := Lib.hid (show noB X X.length → oE = 0 ∧ oL = accL X X.length from by rw [← HoE.out, ← HoL.out]; exact hof.ok)
  have HXl := Lib.hid hof.len
  have hGl := hof.num
  have HRow := Lib.hid hrow
  have HS := Lib.hid hS
  have HB := Lib.hid hb
  have hb1 := hb.size
  clear HG HBd hperm hruns hrow hS hb hof hX HoE HoL
  go_wp2
  go_loopw [2, 11] (fun v x wr => ∃ (vo : Value) (k : Nat), vo = v ∧ x = .int .i64 k ∧ k ≤ G.length ∧ Hid (noB X k) ∧ Hid (OwnS wr w1.heap.size vo (accL X k)) ∧ Hid (Below w1.heap.size w1 wr)) (fun _ x _ => G.length - (intOf x).toNat)
  case atStart => exact ⟨_, 0, rfl, rfl, Nat.zero_le _, Lib.hid rfl, Lib.hid (OwnS.nil _ _), Lib.hid (Below.refl _ _)⟩
  case round =>
    obtain ⟨vo, k, rfl, rfl, hk, HNo, HO, HBr⟩ := hrel
    have hsz := HBr.out.size
    by_cases h : k < G.length
    · have h' : (k : Int) < (G.length : Int) := by omega
      have h2 : k < X.length := by rw [HXl.out]; exact h
      obtain ⟨hx1, hx2, hx3⟩ := HX.out.at_ k h h2
      have hlen := grp_len hx3
      have hrow := (HRow.out.below HBr.out) k (hdrS b cB G[k]) (by rw [List.getElem?_map, List.getElem?_eq_getElem h]; rfl)
      obtain ⟨bg, og, rfl, hbg, hcg0⟩ := hrow
      have hpart := (HS.out.below HBr.out).part rfl G[k].1 G[k].2 hx3
      have ht := HT.out _ (cB - G[k].1) (grpS S G[k]) wr hpart (runs_bd HBS.out) (by rw [hlen]; omega) (by rw [hlen]; exact hx2)
      rw [hlen, Nat.zero_add, ← hx1] at ht
      have hcg : wr.cell? ⟨bg, og + k, none⟩ = some (.slice (some ⟨b, G[k].1 * 7, none⟩) G[k].2 (cB - G[k].1)) := hcg0
      clear hcg0
      obtain ⟨g, hg⟩ : ∃ g, G[k] = g := ⟨_, rfl⟩
      rw [hg] at ht hcg
      obtain ⟨g1, g2⟩ := g
      dsimp only at ht hcg
      have HT1 := Lib.hid ht
      have HSk := Lib.hid (@acc_skip X k h2)
      have HMo := Lib.hid (@acc_more X k h2)
      have HNm := Lib.hid (fun z => noB_more (X := X) h2 HNo.out z)
      have HOb := Lib.hid (fun z => of_badG (X := X) h2 z)
      have hal := acc_len X k
      obtain ⟨x, hx⟩ : ∃ x, X[k] = x := ⟨_, rfl⟩
      rw [hx] at HT1 HSk HMo HNm HOb
      clear ht hg hpart hx1 hx2 hx3 hlen hx
      cases hbad : badG x
      · rw [(to_ok hbad).1, (to_ok hbad).2] at HT1
        have HNk := Lib.hid (HNm.out hbad)
        obtain ⟨k1, k2, k3, k4, k5, sa, sb, hcel⟩ : ∃ k1 k2 k3 k4 k5 sa sb, celG x = ((k1, k2, k3, k4, k5), sa, sb) := ⟨_, _, _, _, _, _, _, rfl⟩
        rw [hcel] at HT1 HSk HMo
        rw [show (clC ((k1, k2, k3, k4, k5), sa, sb)).toArray = #[.string k1, .string k2, .string k3, .string k4, .string k5, .int .i64 sa, .int .i64 sb] from rfl] at HT1
        clear hbad hcel HNm HOb
        go_wp2_with fail
        refine HT1.out.mono ?_
        rintro e w2 ⟨rfl, hb⟩
        have ha : Below w2.heap.size w2 (w2.alloc (Obj.cells #[.string k1, .string k2, .string k3, .string k4, .string k5, .int .i64 sa, .int .i64 sb] 37)) := (Below.refl _ _).alloc (Nat.le_refl _) _
        have HQ := Lib.hid (Q7.alloc w2 (.string k1) (.string k2) (.string k3) (.string k4) (.string k5) (.int .i64 sa) (.int .i64 sb) 37)
        have HO3 := Lib.hid ((HO.out.below hb).below ha)
        have HB3 := Lib.hid ((HBr.out.trans (hb.mono hsz)).trans (ha.mono (Nat.le_trans hsz hb.size)))
        have hs3 : w1.heap.size ≤ (w2.alloc (Obj.cells #[.string k1, .string k2, .string k3, .string k4, .string k5, .int .i64 sa, .int .i64 sb] 37)).heap.size := HB3.out.size
        have HE1 := Lib.hid (fun W => HE.out k1 k2 k3 k4 k5 sa sb W)
        clear hb ha HO HBr
        have c0 := HQ.out.c0
        have c1 := HQ.out.c1
        have c2 := HQ.out.c2
        have c3 := HQ.out.c3
        have c4 := HQ.out.c4
        have c5 := HQ.out.c5
        have c6 := HQ.out.c6
        cases hem : emp ((k1, k2, k3, k4, k5), sa, sb)
        · rw [hem] at HE1
          have HM := Lib.hid (HMo.out hem)
          clear hem HSk HMo
          go_wp2_with fail
          refine (HE1.out _).mono ?_
          rintro e w4 ⟨rfl, hb⟩
          have hQ4 := HQ.out.below hb
          have ha : Below w4.heap.size w4 (w4.alloc (Obj.cells #[.string k1, .string k2, .string k3, .string k4, .string k5, .int .i64 sa, .int .i64 sb] 37)) := (Below.refl _ _).alloc (Nat.le_refl _) _
          have HO5 := Lib.hid ((HO3.out.below hb).below ha)
          have HB5 := Lib.hid ((HB3.out.trans (hb.mono hs3)).trans (ha.mono (Nat.le_trans hs3 hb.size)))
          have hs5 : w1.heap.size ≤ (w4.alloc (Obj.cells #[.string k1, .string k2, .string k3, .string k4, .string k5, .int .i64 sa, .int .i64 sb] 37)).heap.size := HB5.out.size
          have HRc := Lib.hid (row_cell w4 ((k1, k2, k3, k4, k5), sa, sb) 37)
          clear hb ha HO3 HB3 c0 c1 c2 c3 c4 c5 c6
          have d0 := hQ4.c0
          have d1 := hQ4.c1
          have d2 := hQ4.c2
          have d3 := hQ4.c3
          have d4 := hQ4.c4
          have d5 := hQ4.c5
          have d6 := hQ4.c6
          clear hQ4
          go_wp2_with (at_builtin; (refine wpList_cell rfl (.tmp 26) (.tmp 28) rfl w1.heap.size vo (accL X k) ((k1, k2, k3, k4, k5), sa, sb) rfl HO5.out ⟨w4.heap.size, 0, none⟩ 1 rfl HRc.out (by omega) hs5 ?_; intro v6 w6 o6 hb6))
          have HO6 := Lib.hid (show OwnS w6 w1.heap.size v6 (accL X (k + 1)) from by rw [HM.out]; exact o6)
          have HB6 := Lib.hid (HB5.out.trans hb6)
          clear o6 hb6
          go_wp2
          go_roundw
          case rel => exact ⟨_, k + 1, rfl, by go_num, by omega, HNk, HO6, HB6⟩
          case measure => simp [intOf]; omega
        · rw [hem] at HE1
          have HM := Lib.hid (HSk.out hem)
          clear hem HSk HMo
          go_wp2_with fail
          refine (HE1.out _).mono ?_
          rintro e w4 ⟨rfl, hb⟩
          have HO5 := Lib.hid (show OwnS w4 w1.heap.size vo (accL X (k + 1)) from by rw [HM.out]; exact HO3.out.below hb)
          have HB5 := Lib.hid (HB3.out.trans (hb.mono hs3))
          clear hb HO3 HB3
          go_wp2
          go_roundw
          case rel => exact ⟨_, k + 1, rfl, by go_num, by omega, HNk, HO5, HB5⟩
          case measure => simp [intOf]; omega
      · rw [(to_bad hbad).1, (to_bad hbad).2] at HT1
        obtain ⟨e1, e2⟩ := HXb.out (HOb.out hbad)
        rw [show (clC zCl).toArray = #[.string ⟨#[]⟩, .string ⟨#[]⟩, .string ⟨#[]⟩, .string ⟨#[]⟩, .string ⟨#[]⟩, .int .i64 0, .int .i64 0] from rfl] at HT1
        subst e1
        subst e2
        clear hbad HNm HOb HSk HMo
        go_wp2_with fail
        refine HT1.out.mono ?_
        rintro e w2 ⟨rfl, hb⟩
        have ha : Below w2.heap.size w2 (w2.alloc (Obj.cells #[.string ⟨#[]⟩, .string ⟨#[]⟩, .string ⟨#[]⟩, .string ⟨#[]⟩, .string ⟨#[]⟩, .int .i64 0, .int .i64 0] 37)) := (Below.refl _ _).alloc (Nat.le_refl _) _
        have HB3 := Lib.hid (HB.out.trans (((HBr.out.trans (hb.mono hsz)).trans (ha.mono (Nat.le_trans hsz hb.size))).mono hb1))
        clear hb ha
        go_wp2
        go_ret2
        exact ⟨_, rfl, HN.out _, HB3.out⟩
    · have h' : ¬ (k : Int) < (G.length : Int) := by omega
      obtain rfl : k = X.length := by have := HXl.out; omega
      obtain ⟨e1, e2⟩ := HXo.out HNo.out
      subst e1
      subst e2
      have HO2 := Lib.hid (HO.out.lower hb1)
      have HB2 := Lib.hid (HB.out.trans (HBr.out.mono hb1))
      clear HO HBr
      go_wp2
      go_ret2
      exact ⟨_, rfl, HO2.out, HB2.out⟩
end Go.Proofs.Ytenhnnfemehbcaa
