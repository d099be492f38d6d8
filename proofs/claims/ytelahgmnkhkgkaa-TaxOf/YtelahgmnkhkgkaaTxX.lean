/- What Of of package accountingref25 returns. Written by wip/mk_txx.py. -/
import Derived.Test.YtelahgmnkhkgkaaTxW
import Derived.OwnWalk
import Derived.Lib.QuietBelow
import Derived.BigQuiet
import Derived.Deep.RegionHeld3
import Derived.Laws.OwnMore
namespace Go.Proofs.Ytelahgmnkhkgkaa
open Go.RowKit Go.Sort
set_option linter.unusedVariables false
set_option linter.unusedSimpArgs false

theorem OwnI.belowAt {w w' : World} {base N : Nat} {v : Value} {l : List Int} (h : OwnI w base v l) (hN : ∀ k, v.ownBlock = some k → k < N) (hb : Below N w w') : OwnI w' base v l := by
  refine ⟨h.1, ?_⟩
  rcases h.2 with q | ⟨g, cap, cur, e1, e2, e3, e4⟩
  · exact .inl q
  · exact .inr ⟨g, cap, cur, e1, e2, (hb.block g (hN g (by rw [e1]; rfl))).trans e3, e4⟩
theorem OwnI.far {w : World} {base : Nat} {v x : Value} {l : List Int} {p : Addr} (h : OwnI w base v l) (hN : ∀ k, v.ownBlock = some k → k ≠ p.block) : OwnI (w.setCell p x) base v l := by
  refine ⟨h.1, ?_⟩
  rcases h.2 with q | ⟨g, cap, cur, e1, e2, e3, e4⟩
  · exact .inl q
  · exact .inr ⟨g, cap, cur, e1, e2, (Below.heap_setCell w p x g (hN g (by rw [e1]; rfl))).trans e3, e4⟩
theorem OwnS.far {w : World} {base : Nat} {v x : Value} {l : List Sm} {p : Addr} (h : OwnS w base v l) (hN : ∀ k, v.ownBlock = some k → k ≠ p.block) : OwnS (w.setCell p x) base v l := by
  refine ⟨h.1, ?_⟩
  rcases h.2 with q | ⟨g, cap, cur, e1, e2, e3, e4⟩
  · exact .inl q
  · exact .inr ⟨g, cap, cur, e1, e2, (Below.heap_setCell w p x g (hN g (by rw [e1]; rfl))).trans e3, e4⟩
theorem OwnS.lt {w : World} {base : Nat} {v : Value} {L : List Sm} (h : OwnS w base v L) : ∀ k, v.ownBlock = some k → base ≤ k ∧ k < w.heap.size := World.ownsRow.lt h
structure Q3W (w : World) (B : Nat) (a b c : Value) : Prop where
  lt : B < w.heap.size
  c0 : w.cell? ⟨B, 0, none⟩ = some a
  c1 : w.cell? ⟨B, 1, none⟩ = some b
  c2 : w.cell? ⟨B, 2, none⟩ = some c
  f1 : w.frozen? ⟨B, 1, none⟩ = false
  f2 : w.frozen? ⟨B, 2, none⟩ = false
theorem Q3W.alloc (w : World) (a b c : Value) (t : TypeId) : Q3W (w.alloc (Obj.cells #[a, b, c] t)) w.heap.size a b c :=
  ⟨by simp, by rw [World.cell?_alloc_at _ _ _ _ rfl]; rfl, by rw [World.cell?_alloc_at _ _ _ _ rfl]; rfl, by rw [World.cell?_alloc_at _ _ _ _ rfl]; rfl, by rw [World.frozen?_alloc_at _ _ _ _ rfl], by rw [World.frozen?_alloc_at _ _ _ _ rfl]⟩
theorem Q3W.below {w w' : World} {B : Nat} {a b c : Value} (h : Q3W w B a b c) (hb : Below w.heap.size w w') : Q3W w' B a b c :=
  ⟨Nat.lt_of_lt_of_le h.lt hb.size, by rw [hb.cell h.lt]; exact h.c0, by rw [hb.cell h.lt]; exact h.c1, by rw [hb.cell h.lt]; exact h.c2, by rw [hb.frozen h.lt]; exact h.f1, by rw [hb.frozen h.lt]; exact h.f2⟩
theorem sz_set (w : World) (p : Addr) (v : Value) : (w.setCell p v).heap.size = w.heap.size := by show (w.heap.modify _ _).size = _; rw [Array.size_modify]
theorem Q3W.set1 {w : World} {B : Nat} {a b c : Value} (h : Q3W w B a b c) (v : Value) : Q3W (w.setCell ⟨B, 1, none⟩ v) B a v c :=
  ⟨by rw [sz_set]; exact h.lt, by rw [World.cell?_setCell_other _ _ _ _ (by simp)]; exact h.c0, World.cell?_setCell_same _ _ _ h.c1, by rw [World.cell?_setCell_other _ _ _ _ (by simp)]; exact h.c2, by rw [World.frozen?_setCell]; exact h.f1, by rw [World.frozen?_setCell]; exact h.f2⟩
theorem Q3W.set2 {w : World} {B : Nat} {a b c : Value} (h : Q3W w B a b c) (v : Value) : Q3W (w.setCell ⟨B, 2, none⟩ v) B a b v :=
  ⟨by rw [sz_set]; exact h.lt, by rw [World.cell?_setCell_other _ _ _ _ (by simp)]; exact h.c0, by rw [World.cell?_setCell_other _ _ _ _ (by simp)]; exact h.c1, World.cell?_setCell_same _ _ _ h.c2, by rw [World.frozen?_setCell]; exact h.f1, by rw [World.frozen?_setCell]; exact h.f2⟩
theorem Q3W.far {w : World} {B g j : Nat} {a b c : Value} (h : Q3W w B a b c) (v : Value) (hg : B ≠ g) : Q3W (w.setCell ⟨g, j, none⟩ v) B a b c :=
  ⟨by rw [sz_set]; exact h.lt, by rw [World.cell?_setCell_other _ _ _ _ (by simp [hg])]; exact h.c0, by rw [World.cell?_setCell_other _ _ _ _ (by simp [hg])]; exact h.c1, by rw [World.cell?_setCell_other _ _ _ _ (by simp [hg])]; exact h.c2, by rw [World.frozen?_setCell]; exact h.f1, by rw [World.frozen?_setCell]; exact h.f2⟩
theorem OwnI.stored {w : World} {base g n cap : Nat} {l : List Int} (h : OwnI w base (.slice (some ⟨g, 0, none⟩) n cap) l) (hn : n = l.length) (j : Nat) (u : Int) : OwnI (w.setCell ⟨g, j, none⟩ (.int .i64 u)) base (.slice (some ⟨g, 0, none⟩) n cap) (l.set j u) := by
  have h' : w.ownsRow base 3 1 (.slice (some ⟨g, 0, none⟩) n cap) n (l.map inV1) := by
    have := h; unfold OwnI OwnV at this; rw [List.length_map, ← hn] at this; exact this
  have := (World.ownsRow.stored h' j (.int .i64 u)).1
  unfold OwnI OwnV
  rw [List.length_map, List.length_set, ← hn, List.map_set]
  exact this
theorem OwnI.at {w : World} {base g n cap : Nat} {l : List Int} (h : OwnI w base (.slice (some ⟨g, 0, none⟩) n cap) l) (hn : n = l.length) {j : Nat} (hj : j < n) : w.cell? ⟨g, j, none⟩ = some (.int .i64 (l[j]'(by omega))) ∧ w.frozen? ⟨g, j, none⟩ = false := by
  have h' : w.ownsRow base 3 1 (.slice (some ⟨g, 0, none⟩) n cap) n (l.map inV1) := by
    have := h; unfold OwnI OwnV at this; rw [List.length_map, ← hn] at this; exact this
  refine ⟨?_, World.ownsRow.frozenAt h' j⟩
  have := World.ownsRow.cells h' (g := g) rfl j (inV1 (l[j]'(by omega))) (by rw [List.getElem?_map, List.getElem?_eq_getElem (by omega)]; rfl)
  rw [addr_is, Nat.zero_add] at this
  exact this
theorem OwnI.some {w : World} {base n cap : Nat} {ao : Option Addr} {l : List Int} (h : OwnI w base (.slice ao n cap) l) (hn : 0 < n) : ∃ g, ao = Option.some ⟨g, 0, none⟩ := by
  rcases h.2 with ⟨q, _⟩ | ⟨g, cap, cur, e1, _⟩
  · injection q with _ q2 _; omega
  · injection e1 with e1 _ _; exact ⟨g, e1⟩
def MX (way m : Int) (C : List Cd) (L : List Ln) (k i : Nat) : List Int := (L.take i).map (fun x => nK way m C x (k + 1)) ++ (L.drop i).map (fun x => nK way m C x k)
theorem MX_len (way m : Int) (C : List Cd) (L : List Ln) (k i : Nat) : (MX way m C L k i).length = L.length := by unfold MX; simp; omega
theorem MX_set (way m : Int) (C : List Cd) {L : List Ln} (k : Nat) {i : Nat} (h : i < L.length) : (MX way m C L k i).set i (nK way m C L[i] (k + 1)) = MX way m C L k (i + 1) := by
  unfold MX
  rw [List.drop_eq_getElem_cons h, List.map_cons, List.set_append_right _ _ (by simp; omega), List.take_succ_eq_append_getElem h, List.map_append]
  have : i - ((L.take i).map (fun x => nK way m C x (k + 1))).length = 0 := by simp; omega
  rw [this]
  simp
theorem MX_same (way m : Int) (C : List Cd) {L : List Ln} (k : Nat) {i : Nat} (h : i < L.length) (e : nK way m C L[i] (k + 1) = nK way m C L[i] k) : MX way m C L k (i + 1) = MX way m C L k i := by
  unfold MX
  rw [List.drop_eq_getElem_cons h, List.map_cons, List.take_succ_eq_append_getElem h, List.map_append, ← e]
  simp
theorem MX_zero (way m : Int) (C : List Cd) (L : List Ln) : MX way m C L 0 0 = L.map (·.1) := by unfold MX; simp [nK]
theorem MX_end (way m : Int) (C : List Cd) (L : List Ln) (k : Nat) : MX way m C L k L.length = MX way m C L (k + 1) 0 := by unfold MX; simp
theorem rO_more (way m : Int) (L : List Ln) {C : List Cd} {k : Nat} (h : k < C.length) : rO way m L (C.take (k + 1)) = if oc C[k] L L.length = true then rO way m L (C.take k) ++ [rS way m L C[k]] else rO way m L (C.take k) := by
  unfold rO
  rw [List.take_succ_eq_append_getElem h, List.filterMap_append]
  split
  · rename_i q; simp [q]
  · rename_i q; simp [q]
theorem o_bd {way m : Int} {C : List Cd} {c : Cd} {x : Ln} (hm : modeB m = true) (hr : rateB c.2.2.1 c.2.2.2 = true) (hx : lnE C x = 0) :
    (-2000000000000000 ≤ oN way m c x ∧ oN way m c x ≤ 2000000000000000) ∧ (-2000000000000000 ≤ oT way m c x ∧ oT way m c x ≤ 2000000000000000) := by
  obtain ⟨⟨h1, h2⟩, _⟩ := line_ok hx
  have hz := arg_zero (x := x.1) hm hr h1 h2
  obtain ⟨⟨_, p1, p2⟩, _⟩ := arg_bd hz
  have hs := in_sum (x := x.1) (n := c.2.2.1) (d := c.2.2.2) (m := m) (by unfold inV; rw [if_pos hz])
  have ho : onV x.1 c.2.2.1 c.2.2.2 m = mdV x.1 c.2.2.1 c.2.2.2 m := if_pos hz
  unfold oN oT oneV
  rw [ho]
  split
  · exact ⟨hs.2.1, hs.2.2⟩
  · simp only []; omega
set_option maxRecDepth 100000 in
set_option maxHeartbeats 6000000 in
theorem rOf_ok (A B : Option Addr) (c d : Nat) (L : List Ln) (C : List Cd) (way m : Int) (w : World) (hL : RowL w A L) (hBl : BdL L) (hR : RowC w B C) (hBc : BdC C) (w1 : r64 way) (w2 : r64 m) (hE : errO C L way m = 0) :
    Calls Try.prog 19 #[.slice A L.length c, .slice B C.length d, .int .i64 way, .int .i64 m] w fun e w' => ∃ v u, e = .returned (.tuple #[v, u, .int .i64 0]) ∧ OwnI w' w.heap.size v (ntK way m C L) ∧ OwnS w' w.heap.size u (rO way m L C) ∧ Below w.heap.size w w' := by
  obtain ⟨hw, hmo, hco, hl200, hli⟩ := errO_ok hE
  have hc200 := codes_len hco
  have H1 := Lib.hid (fun W hl hr => rcheck_any A B c d L C way m W hl hBl hr hBc (by omega) w1 w2)
  rw [hE] at H1
  have HBl := Lib.hid hBl
  have HBc := Lib.hid hBc
  have HL0 := Lib.hid hL
  have HR0 := Lib.hid hR
  have HCo := Lib.hid hco
  have HMo := Lib.hid hmo
  have HLn := Lib.hid (linesE_all hli)
  obtain ⟨y1, y2⟩ := w1
  clear hE hmo hco hli hBl hBc hL hR
  go_enter Try.func19, Try.ntmps19
  go_wp2_with fail
  refine (H1.out _ HL0.out HR0.out).mono ?_
  rintro e w3 ⟨rfl, hb⟩
  have HB1 := Lib.hid hb
  clear hb H1
  go_wp2_with fail
  go_loopw [12, 13] (fun y x wr => ∃ (k : Nat) (v : Value), k ≤ L.length ∧ x = .int .i64 k ∧ y = v ∧ Hid (OwnI wr w.heap.size v ((L.take k).map (·.1))) ∧ Hid (Below w.heap.size w wr)) (fun _ x _ => L.length - (intOf x).toNat)
  case atStart => exact ⟨0, _, Nat.zero_le _, rfl, rfl, Lib.hid (OwnI.nil _ _), HB1⟩
  case round =>
    obtain ⟨k, v, hk, rfl, rfl, HO, HB⟩ := hrel
    have hlen : ((L.take k).map (·.1)).length = k := by rw [List.length_map, List.length_take]; omega
    obtain ⟨ao, cap, hv⟩ := HO.out.shape
    rw [hlen] at hv
    subst hv
    by_cases h : k < L.length
    · have h' : (k : Int) < (L.length : Int) := by omega
      obtain ⟨b, off, rfl, hl, hcl⟩ := (HL0.out.below HB.out) (by omega)
      obtain ⟨c0, _⟩ := hcl k h
      have HN := Lib.hid (show (L.take (k + 1)).map (·.1) = (L.take k).map (·.1) ++ [L[k].1] by rw [List.take_succ_eq_append_getElem h, List.map_append]; rfl)
      generalize L[k].1 = am at *
      generalize (L.take k).map (·.1) = nl at *
      clear hcl
      go_wp2_with (at_builtin; refine wpList_int rfl _ _ rfl w.heap.size _ nl am rfl (HO.out.below ((Below.refl _ _).alloc (Nat.le_refl _) _)) ⟨wr.heap.size, 0, none⟩ 1 rfl (row_int wr am _) (by omega) (by have := HB.out.size; simp; omega) ?_; intro v' w6 hown hbel; have HO6 := Lib.hid hown; have HB6 := Lib.hid (HB.out.trans (((Below.refl _ _).alloc (by exact HB.out.size) _).trans hbel)); clear hown hbel)
      go_roundw
      case rel => exact ⟨k + 1, _, by omega, by go_num, rfl, by rw [HN.out]; exact HO6, HB6⟩
      case measure => simp [intOf]; omega
    · have h' : ¬ (k : Int) < (L.length : Int) := by omega
      obtain rfl : k = L.length := by omega
      rw [List.take_length] at HO
      have HLt := Lib.hid HO.out.lt
      obtain ⟨N0, hN0⟩ : ∃ N0, wr.heap.size = N0 := ⟨_, rfl⟩
      have hN1 : w.heap.size ≤ N0 := by rw [← hN0]; exact HB.out.size
      rw [hN0] at HLt
      have HM0 := Lib.hid (MX_zero way m C L)
      rw [← HM0.out] at HO
      have HN0 := Lib.hid hN0
      clear hN0 HM0
      go_wp2_with fail
      go_loopw [14, 15] (fun y x wo => ∃ (k : Nat) (v : Value), k ≤ C.length ∧ x = .int .i64 k ∧ y = v ∧ Hid (OwnI wo w.heap.size (.slice ao L.length cap) (MX way m C L k 0)) ∧ Hid (OwnS wo N0 v (rO way m L (C.take k))) ∧ Hid (Below w.heap.size w wo) ∧ Hid (N0 ≤ wo.heap.size)) (fun _ x _ => C.length - (intOf x).toNat)
      case atStart => exact ⟨0, _, Nat.zero_le _, rfl, rfl, HO, Lib.hid (OwnS.nil _ _), HB, Lib.hid (Nat.le_of_eq HN0.out.symm)⟩
      case round =>
        clear HO HB HN0
        obtain ⟨k, v, hk, rfl, rfl, HO, HS, HB, HZ⟩ := hrel
        generalize wr = wo at *
        by_cases h : k < C.length
        · have h' : (k : Int) < (C.length : Int) := by omega
          obtain ⟨b2, off2, rfl, hl2, hcl2⟩ := (HR0.out.below HB.out) (by omega)
          obtain ⟨c0, _, c2, c3⟩ := hcl2 k h
          obtain ⟨_, ⟨n1, n2⟩, d1, d2⟩ := HBc.out C[k] (List.getElem_mem h)
          have hrate := (codes_one HCo.out h).2
          have HRo := Lib.hid (rO_more way m L h)
          have hW : Below wo.heap.size wo (wo.alloc (Obj.cells #[.string C[k].1, .int .i64 0, .int .i64 0] 51)) := (Below.refl _ _).alloc (Nat.le_refl _) _
          have HQ1 := Lib.hid (Q3W.alloc wo (.string C[k].1) (.int .i64 0) (.int .i64 0) 51)
          have HO1 := Lib.hid (HO.out.below hW)
          have HS1 := Lib.hid (HS.out.below hW)
          have HB1 := Lib.hid (HB.out.trans (hW.mono HB.out.size))
          have HSlt := Lib.hid HS.out.lt
          clear hW
          obtain ⟨Bs, hBs⟩ : ∃ Bs, wo.heap.size = Bs := ⟨_, rfl⟩
          obtain ⟨CK, hCK⟩ : ∃ CK, C[k] = CK := ⟨_, rfl⟩
          rw [hCK] at c0 c2 c3 n1 n2 d1 d2 hrate HRo HQ1
          rw [hBs] at HQ1 HSlt HZ
          have HNk := Lib.hid (show ∀ x : Ln, nK way m C x (k + 1) = if mt CK x = true then oN way m CK x else nK way m C x k from fun x => by rw [← hCK, ← getC h]; rfl)
          have HBs := Lib.hid hBs
          have hz0 : (0 : Int) = pS (fN way m CK) L 0 := rfl
          have hz1 : (0 : Int) = pS (fT way m CK) L 0 := rfl
          have HQ2 := Lib.hid (show Q3W (wo.alloc (Obj.cells #[.string CK.1, .int .i64 0, .int .i64 0] 51)) Bs (.string CK.1) (.int .i64 (pS (fN way m CK) L 0)) (.int .i64 (pS (fT way m CK) L 0)) from HQ1.out)
          have HC2 := Lib.hid (show ∀ W, Below w.heap.size w W → W.cell? ⟨b2, off2 + k * 4, none⟩ = some (.string CK.1) ∧ W.cell? ⟨b2, off2 + k * 4 + 1, none⟩ = some (.string CK.2.1) ∧ W.cell? ⟨b2, off2 + k * 4 + 2, none⟩ = some (.int .i64 CK.2.2.1) ∧ W.cell? ⟨b2, off2 + k * 4 + 3, none⟩ = some (.int .i64 CK.2.2.2) from fun W hb => by
            obtain ⟨b5, off5, e, _, hc⟩ := (HR0.out.below hb) (by omega)
            cases e
            rw [← hCK]
            exact hc k h)
          have HOb := Lib.hid (fun x (hx : x ∈ L) => o_bd (way := way) (m := m) (c := CK) (x := x) HMo.out hrate (HLn.out x hx))
          have HBn := Lib.hid (show ∀ i, i ≤ L.length → -1000000000000000000 ≤ pS (fN way m CK) L i ∧ pS (fN way m CK) L i ≤ 1000000000000000000 from fun i hi => by
            have := pS_bd (fN way m CK) (S := L) (M := 2000000000000000) (fun x hx => by have := (HOb.out x hx).1; unfold fN; split <;> omega) i hi
            omega)
          have HBt := Lib.hid (show ∀ i, i ≤ L.length → -1000000000000000000 ≤ pS (fT way m CK) L i ∧ pS (fT way m CK) L i ≤ 1000000000000000000 from fun i hi => by
            have := pS_bd (fT way m CK) (S := L) (M := 2000000000000000) (fun x hx => by have := (HOb.out x hx).2; unfold fT; split <;> omega) i hi
            omega)
          rw [hCK] at HO1 HS1 HB1
          clear hz0 hz1 hCK hBs HQ1 c2 c3 hcl2
          go_wp2_with fail
          clear c0
          rw [HBs.out]
          go_loopw [17, 18] (fun y x wi => ∃ i : Nat, i ≤ L.length ∧ x = .int .i64 i ∧ y = .bool (oc CK L i) ∧ Hid (OwnI wi w.heap.size (.slice ao L.length cap) (MX way m C L k i)) ∧ Hid (OwnS wi N0 u14 (rO way m L (C.take k))) ∧ Hid (Q3W wi Bs (.string CK.1) (.int .i64 (pS (fN way m CK) L i)) (.int .i64 (pS (fT way m CK) L i))) ∧ Hid (Below w.heap.size w wi)) (fun _ x _ => L.length - (intOf x).toNat)
          case atStart => exact ⟨0, Nat.zero_le _, rfl, rfl, HO1, HS1, HQ2, HB1⟩
          case round =>
            obtain ⟨i, hi, rfl, rfl, HOi, HSi, HQi, HBi⟩ := hrel
            generalize wr = wi at *
            clear HO HS HB HO1 HS1 HQ2 HB1
            by_cases g : i < L.length
            · have g' : (i : Int) < (L.length : Int) := by omega
              obtain ⟨b1, off1, rfl, hl1, hcl1⟩ := (HL0.out.below HBi.out) (by omega)
              obtain ⟨a0, a1⟩ := hcl1 i g
              obtain ⟨⟨x1, x2⟩, _⟩ := HBl.out L[i] (List.getElem_mem g)
              obtain ⟨q0, q1, q2, q3⟩ := HC2.out _ HBi.out
              obtain ⟨o1, o2⟩ := HOb.out L[i] (List.getElem_mem g)
              have HX := Lib.hid (MX_set way m C k g)
              have HXs := Lib.hid (MX_same way m C k g)
              have HPn := Lib.hid (pS_more (fN way m CK) g)
              have HPt := Lib.hid (pS_more (fT way m CK) g)
              have HOc := Lib.hid (oc_more (c := CK) g)
              have HNi := Lib.hid (HNk.out L[i])
              have HFn := Lib.hid (show fN way m CK L[i] = if mt CK L[i] = true then oN way m CK L[i] else 0 from rfl)
              have HFt := Lib.hid (show fT way m CK L[i] = if mt CK L[i] = true then oT way m CK L[i] else 0 from rfl)
              have HOv := Lib.hid (show oneV way L[i].1 CK.2.2.1 CK.2.2.2 m = (oN way m CK L[i], oT way m CK L[i]) from rfl)
              have hmt : mt CK L[i] = (L[i].2.toList == CK.1.toList) := rfl
              clear hcl1
              cases q : (L[i].2.toList == CK.1.toList)
              · rw [q] at hmt
                rw [hmt] at HOc HNi HFn HFt
                have e1 : MX way m C L k (i + 1) = MX way m C L k i := HXs.out HNi.out
                have e2 : pS (fN way m CK) L (i + 1) = pS (fN way m CK) L i := by rw [HPn.out, HFn.out]; simp
                have e3 : pS (fT way m CK) L (i + 1) = pS (fT way m CK) L i := by rw [HPt.out, HFt.out]; simp
                have e4 : oc CK L (i + 1) = oc CK L i := by rw [HOc.out, Bool.or_false]
                have HE := Lib.hid (And.intro e1 (And.intro e2 (And.intro e3 e4)))
                clear e1 e2 e3 e4 HX HXs HPn HPt HOc HNi HFn HFt HOv hmt
                go_wp2_with fail
                go_quiet (fail)
                have hbD := below_drewN (Below.refl wi.heap.size wi) nq
                have HO4 := Lib.hid (HOi.out.below hbD)
                have HS4 := Lib.hid (HSi.out.below hbD)
                have HQ4 := Lib.hid (HQi.out.below hbD)
                have HB4 := Lib.hid (HBi.out.trans (hbD.mono HBi.out.size))
                clear hbD
                go_wp2
                go_roundw
                case rel => exact ⟨i + 1, by omega, by go_num, by rw [HE.out.2.2.2], by rw [HE.out.1]; exact HO4, HS4, by rw [HE.out.2.1, HE.out.2.2.1]; exact HQ4, HB4⟩
                case measure => simp [intOf]; omega
              · rw [q] at hmt
                rw [hmt] at HOc HNi HFn HFt
                rw [HNi.out] at HX
                have e2 : pS (fN way m CK) L (i + 1) = pS (fN way m CK) L i + oN way m CK L[i] := by rw [HPn.out, HFn.out]; simp
                have e3 : pS (fT way m CK) L (i + 1) = pS (fT way m CK) L i + oT way m CK L[i] := by rw [HPt.out, HFt.out]; simp
                have e4 : oc CK L (i + 1) = true := by rw [HOc.out, Bool.or_true]
                have HX2 := Lib.hid (show (MX way m C L k i).set i (oN way m CK L[i]) = MX way m C L k (i + 1) from HX.out)
                have HE := Lib.hid (And.intro e2 (And.intro e3 e4))
                obtain ⟨b3, b4⟩ := HBn.out i hi
                obtain ⟨b5, b6⟩ := HBt.out i hi
                have H1 := Lib.hid (fun W => one_any L[i].1 L[i].2 CK.1 CK.2.1 CK.2.2.1 CK.2.2.2 way m W x1 x2 n1 n2 d1 d2)
                rw [HOv.out] at H1
                clear e2 e3 e4 HX HXs HPn HPt HOc HNi HFn HFt HOv hmt
                generalize oN way m CK L[i] = on at *
                generalize oT way m CK L[i] = ot at *
                generalize pS (fN way m CK) L i = pn at *
                generalize pS (fT way m CK) L i = pt at *
                have hml : (MX way m C L k i).length = L.length := MX_len way m C L k i
                generalize MX way m C L k i = ml at *
                generalize L[i].1 = am at *
                generalize L[i].2 = T at *
                obtain ⟨S0, hS0⟩ : ∃ S0, CK.1 = S0 := ⟨_, rfl⟩
                obtain ⟨S1, hS1⟩ : ∃ S1, CK.2.1 = S1 := ⟨_, rfl⟩
                obtain ⟨fn, hfn⟩ : ∃ fn, CK.2.2.1 = fn := ⟨_, rfl⟩
                obtain ⟨fd, hfd⟩ : ∃ fd, CK.2.2.2 = fd := ⟨_, rfl⟩
                rw [hS0] at q0 q H1 HQi
                rw [hS1] at q1 H1
                rw [hfn] at q2 H1
                rw [hfd] at q3 H1
                have HS0 := Lib.hid hS0
                clear hS0 hS1 hfn hfd
                obtain ⟨g0, rfl⟩ := HOi.out.some (by omega)
                have HGlt := Lib.hid (HLt.out g0 rfl)
                go_wp2_with fail
                go_quiet (fail)
                have hbD := below_drewN (Below.refl wi.heap.size wi) nq
                have HO4 := Lib.hid (HOi.out.below hbD)
                have HS4 := Lib.hid (HSi.out.below hbD)
                have HQ4 := Lib.hid (HQi.out.below hbD)
                have HB4 := Lib.hid (HBi.out.trans (hbD.mono HBi.out.size))
                have j0 := (hbD.cell hl1).trans a0
                have j1 := (hbD.cell hl1).trans a1
                have j2 := (hbD.cell (lt_cell q0)).trans q0
                have j3 := (hbD.cell (lt_cell q1)).trans q1
                have j4 := (hbD.cell (lt_cell q2)).trans q2
                have j5 := (hbD.cell (lt_cell q3)).trans q3
                generalize wi.drewN nq = wd at *
                clear hbD a0 a1 q0 q1 q2 q3
                have m0 := cell_regrown j0
                have m1 := cell_regrown j1
                have m2 := cell_regrown j2
                have m3 := cell_regrown j3
                have m4 := cell_regrown j4
                have m5 := cell_regrown j5
                have K1 : ∀ dd os, Calls Try.prog 38 #[.agg #[.int .i64 am, .string T], .agg #[.string S0, .string S1, .int .i64 fn, .int .i64 fd], .int .i64 way, .int .i64 m] (grow (redrawn wd dd) os) fun e w'' => e = .returned (.tuple #[.int .i64 on, .int .i64 ot]) ∧ ∃ p : Regrown, w'' = grow (redrawn wd p.d) p.os := fun dd os => Calls.regrown_of (H1.out _)
                go_wp2_with fail
                refine wp_region_quiet_below (l := _) (by kernel_rfl) (by kernel_rfl) ?_
                repeat (first | go_big_quiet_step (first | (go_at_call 38; with_reducible exact K1 _ _)))
                refine wpQuiet_nil ?_
                intro w6 hw'
                obtain ⟨⟨dq2, osq2⟩, hw''⟩ := hw'
                have hb := below_regrown wd dq2 osq2
                rw [← hw''] at hb
                have hz := HZ.out
                have hg := HGlt.out
                have hO6 := HO4.out.below hb
                have hS6 := HS4.out.below hb
                have hQ6 := HQ4.out.below hb
                have hB6 := HB4.out.trans (hb.mono HB4.out.size)
                clear hw'' hb K1 m0 m1 m2 m3 m4 m5 j0 j1 j2 j3 j4 j5 HO4 HS4 HQ4 HB4 HOi HSi HQi HBi
                obtain ⟨r0, r1⟩ := hO6.at (hml.symm) g
                have hQ7 := hQ6.far (g := g0) (j := i) (.int .i64 on) (by omega)
                have hQ8 := hQ7.set1 (.int .i64 (pn + on))
                have HQ9 := Lib.hid (hQ8.set2 (.int .i64 (pt + ot)))
                have t1 := hQ7.c1
                have t2 := hQ7.f1
                have t3 := hQ8.c2
                have t4 := hQ8.f2
                have HO9 := Lib.hid (((hO6.stored hml.symm i on).far (p := ⟨Bs, 1, none⟩) (x := .int .i64 (pn + on)) (fun kk e => by cases e; dsimp only; omega)).far (p := ⟨Bs, 2, none⟩) (x := .int .i64 (pt + ot)) (fun kk e => by cases e; dsimp only; omega))
                have HS9 := Lib.hid (((hS6.far (p := ⟨g0, i, none⟩) (x := .int .i64 on) (fun kk e => by have := HSlt.out kk e; dsimp only; omega)).far (p := ⟨Bs, 1, none⟩) (x := .int .i64 (pn + on)) (fun kk e => by have := HSlt.out kk e; dsimp only; omega)).far (p := ⟨Bs, 2, none⟩) (x := .int .i64 (pt + ot)) (fun kk e => by have := HSlt.out kk e; dsimp only; omega))
                have HB9 := Lib.hid (((hB6.setCell (p := ⟨g0, i, none⟩) (by dsimp only; omega) (.int .i64 on)).setCell (p := ⟨Bs, 1, none⟩) (by dsimp only; omega) (.int .i64 (pn + on))).setCell (p := ⟨Bs, 2, none⟩) (by dsimp only; omega) (.int .i64 (pt + ot)))
                rw [HX2.out] at HO9
                have HE2 := Lib.hid HE.out.1
                have HE3 := Lib.hid HE.out.2.1
                have HE4 := Lib.hid HE.out.2.2
                clear hO6 hS6 hQ6 hB6 hQ7 hQ8 HE
                go_wp2
                go_roundw
                case rel => exact ⟨i + 1, by omega, by go_num, by rw [HE4.out], HO9, HS9, by rw [HE2.out, HE3.out, HS0.out]; exact HQ9, HB9⟩
                case measure => simp [intOf]; omega
            · have g' : ¬ (i : Int) < (L.length : Int) := by omega
              obtain rfl : i = L.length := by omega
              rw [MX_end] at HOi
              obtain ⟨q0, q1, q2, q3⟩ := HC2.out _ HBi.out
              obtain ⟨b3, b4⟩ := HBn.out L.length (Nat.le_refl _)
              have HRs := Lib.hid (show rS way m L CK = (CK.1, pS (fN way m CK) L L.length, if way = 2 then (onV (pS (fN way m CK) L L.length) CK.2.2.1 CK.2.2.2 m).1 else pS (fT way m CK) L L.length) from rfl)
              have HCn := Lib.hid (fun W => rOn_any (pS (fN way m CK) L L.length) CK.2.2.1 CK.2.2.2 m W (by omega) (by omega) n1 n2 d1 d2)
              have hSl : (rO way m L (C.take k)).length ≤ 200 := by
                refine Nat.le_trans (List.length_filterMap_le _ _) ?_
                rw [List.length_take]; omega
              generalize pS (fN way m CK) L L.length = pn at *
              generalize pS (fT way m CK) L L.length = pt at *
              generalize oc CK L L.length = oo at *
              generalize rO way m L (C.take k) = SL at *
              generalize rS way m L CK = rs at *
              obtain ⟨S0, hS0⟩ : ∃ S0, CK.1 = S0 := ⟨_, rfl⟩
              obtain ⟨fn, hfn⟩ : ∃ fn, CK.2.2.1 = fn := ⟨_, rfl⟩
              obtain ⟨fd, hfd⟩ : ∃ fd, CK.2.2.2 = fd := ⟨_, rfl⟩
              rw [hS0] at HQi HRs
              rw [hfn] at q2 HRs HCn
              rw [hfd] at q3 HRs HCn
              have hz := HZ.out
              have hQ := HQi.out
              have HNi := Lib.hid (Nat.le_trans hz (Nat.le_of_lt hQ.lt))
              have t0 := hQ.c0
              have t1 := hQ.c1
              have t2 := hQ.c2
              have t3 := hQ.f2
              obtain ⟨sa, scap, hsv⟩ := HSi.out.shape
              subst hsv
              clear hS0 hfn hfd q0 q1 HOb HBn HBt HNk HC2 hQ
              by_cases h2 : way = 2
              · have h2' : (way == 2) = true := by simpa using h2
                have HR1 := Lib.hid (show rO way m L (C.take (k + 1)) = if oo = true then SL ++ [(S0, pn, (onV pn fn fd m).1)] else SL by rw [HRo.out, HRs.out, if_pos h2])
                generalize onV pn fn fd m = ov at *
                obtain ⟨o1, o2⟩ := ov
                clear HRo HRs h2
                obtain ⟨_, _, eb, hlw, _⟩ := HR0.out (by omega)
                cases eb
                have HQw := Lib.hid HQi.out
                go_wp2_with fail
                go_region_held3 (fun w' => w'.cell? ⟨Bs, 1, none⟩ = some (.int .i64 pn) ∧ w'.cell? ⟨b2, off2 + k * 4 + 2, none⟩ = some (.int .i64 fn) ∧ w'.cell? ⟨b2, off2 + k * 4 + 3, none⟩ = some (.int .i64 fd)) (first | go_keep | exact ⟨t1, q2, q3⟩ | exact ⟨k1, k2, k3⟩ | exact ⟨k4, k5, k6⟩) (first | (go_at_call 11; refine (HCn.out _).mono ?_; rintro e w6 ⟨rfl, hb⟩; have hb : Below wi.heap.size wi w6 := (show Below wi.heap.size wi wi.drew from below_drewN (Below.refl wi.heap.size wi) 1).trans hb; have hQ6 := HQw.out.below hb; have k1 := hQ6.c1; have k7 := hQ6.c2; have k8 := hQ6.f2; have k2 := (hb.cell (lt_cell q2)).trans q2; have k3 := (hb.cell (lt_cell q3)).trans q3; have HQ7 := Lib.hid (hQ6.set2 (.int .i64 o1)); have k4 := HQ7.out.c1; have k5 := (World.cell?_setCell_other w6 ⟨Bs, 2, none⟩ ⟨b2, off2 + k * 4 + 2, none⟩ (.int .i64 o1) (by first | (simp; done) | (simp; omega))).trans k2; have k6 := (World.cell?_setCell_other w6 ⟨Bs, 2, none⟩ ⟨b2, off2 + k * 4 + 3, none⟩ (.int .i64 o1) (by first | (simp; done) | (simp; omega))).trans k3; have HO6 := Lib.hid (HOi.out.below hb); have HS6 := Lib.hid (HSi.out.below hb); have HB6 := Lib.hid (HBi.out.trans (hb.mono HBi.out.size)); clear hb hQ6))
                clear t0 t1 t2 t3 q2 q3 k2 k3 k5 k6 k1 k7 k8 k4
                have HOz := Lib.hid (HO6.out.far (p := ⟨Bs, 2, none⟩) (x := .int .i64 o1) (fun kk e => by have := HLt.out kk e; dsimp only; omega))
                have HSz := Lib.hid (HS6.out.far (p := ⟨Bs, 2, none⟩) (x := .int .i64 o1) (fun kk e => by have := HSlt.out kk e; dsimp only; omega))
                have HBz := Lib.hid (HB6.out.setCell (p := ⟨Bs, 2, none⟩) (by dsimp only; omega) (.int .i64 o1))
                have HNz := Lib.hid (Nat.le_trans hz (Nat.le_of_lt HQ7.out.lt))
                generalize w6.setCell ⟨Bs, 2, none⟩ (.int .i64 o1) = wz at *
                have t0 := HQ7.out.c0
                have t1 := HQ7.out.c1
                have t2 := HQ7.out.c2
                clear HO6 HS6 HB6 HOi HSi HBi HNi
                cases oo
                · rw [if_neg (by decide)] at HR1
                  go_wp2
                  go_roundw
                  case rel => exact ⟨k + 1, _, by omega, by go_num, rfl, HOz, by rw [HR1.out]; exact HSz, HBz, HNz⟩
                  case measure => simp [intOf]; omega
                · rw [if_pos rfl] at HR1
                  go_wp2_with (at_builtin; refine wpList_sum rfl _ _ rfl N0 _ SL (S0, pn, o1) rfl (HSz.out.below ((Below.refl _ _).alloc (Nat.le_refl _) _)) ⟨wz.heap.size, 0, none⟩ 1 rfl (cells_sum wz (S0, pn, o1) _) (by omega) (by have := HNz.out; simp; omega) ?_; intro v' w9 hown hbel; have hbA := (Below.refl N0 wz).alloc HNz.out (Obj.cells #[.string S0, .int .i64 pn, .int .i64 o1] 51); have HS9 := Lib.hid hown; have HO9 := Lib.hid (HOz.out.belowAt (fun kk e => (HLt.out kk e).2) (hbA.trans hbel)); have HB9 := Lib.hid (HBz.out.trans ((hbA.trans hbel).mono hN1)); have HN9 := Lib.hid (Nat.le_trans HNz.out (hbA.trans hbel).size); clear hown hbel hbA)
                  go_roundw
                  case rel => exact ⟨k + 1, _, by omega, by go_num, rfl, HO9, by rw [HR1.out]; exact HS9, HB9, HN9⟩
                  case measure => simp [intOf]; omega
              · have h2' : (way == 2) = false := by simpa using h2
                have HR1 := Lib.hid (show rO way m L (C.take (k + 1)) = if oo = true then SL ++ [(S0, pn, pt)] else SL by rw [HRo.out, HRs.out, if_neg h2])
                clear HRo HRs h2 HCn q2 q3
                have HOz := HOi
                have HSz := HSi
                have HBz := HBi
                have HNz := HNi
                clear HOi HSi HBi HNi
                cases oo
                · rw [if_neg (by decide)] at HR1
                  go_wp2
                  go_roundw
                  case rel => exact ⟨k + 1, _, by omega, by go_num, rfl, HOz, by rw [HR1.out]; exact HSz, HBz, HNz⟩
                  case measure => simp [intOf]; omega
                · rw [if_pos rfl] at HR1
                  go_wp2_with (at_builtin; refine wpList_sum rfl _ _ rfl N0 _ SL (S0, pn, pt) rfl (HSz.out.below ((Below.refl _ _).alloc (Nat.le_refl _) _)) ⟨wi.heap.size, 0, none⟩ 1 rfl (cells_sum wi (S0, pn, pt) _) (by omega) (by have := HNz.out; simp; omega) ?_; intro v' w9 hown hbel; have hbA := (Below.refl N0 wi).alloc HNz.out (Obj.cells #[.string S0, .int .i64 pn, .int .i64 pt] 51); have HS9 := Lib.hid hown; have HO9 := Lib.hid (HOz.out.belowAt (fun kk e => (HLt.out kk e).2) (hbA.trans hbel)); have HB9 := Lib.hid (HBz.out.trans ((hbA.trans hbel).mono hN1)); have HN9 := Lib.hid (Nat.le_trans HNz.out (hbA.trans hbel).size); clear hown hbel hbA)
                  go_roundw
                  case rel => exact ⟨k + 1, _, by omega, by go_num, rfl, HO9, by rw [HR1.out]; exact HS9, HB9, HN9⟩
                  case measure => simp [intOf]; omega
        · have h' : ¬ (k : Int) < (C.length : Int) := by omega
          have e1 : rO way m L (C.take k) = rO way m L C := by rw [List.take_of_length_le (by omega)]
          have e2 : MX way m C L k 0 = ntK way m C L := by
            obtain rfl : k = C.length := by omega
            unfold MX ntK
            rw [List.take_zero, List.map_nil, List.nil_append, List.drop_zero]
            exact List.map_congr_left (fun x hx => nK_is HCo.out hw (HLn.out x hx))
          rw [e1] at HS
          rw [e2] at HO
          go_wp2
          go_ret3
          exact ⟨_, _, rfl, HO.out, HS.out.lower hN1, HB.out⟩
end Go.Proofs.Ytelahgmnkhkgkaa
