/- Negated cells. Written by wip/mk_sik.py. -/
import Derived.Test.YtenhnnfemehbcaaSiJ
import Derived.Test.YtenhnnfemehbcaaSiP
namespace Go.Proofs.Ytenhnnfemehbcaa
open Go.RowKit Go.Sort
set_option linter.unusedVariables false
set_option linter.unusedSimpArgs false

theorem neg_take {L : List Cl} {k : Nat} (h : k < L.length) : (L.take (k + 1)).map negC = (L.take k).map negC ++ [negC L[k]] := by
  rw [List.take_succ_eq_append_getElem h, List.map_append]; rfl
theorem ng_len (L : List Cl) (k : Nat) : ((L.take k).map negC).length ≤ k := by rw [List.length_map, List.length_take]; omega
theorem right_in {L : List Cl} (h : rightB L = true) {k : Nat} (hk : k < L.length) : (-1000000000000000 ≤ L[k].2.1 ∧ L[k].2.1 ≤ 1000000000000000) ∧ (-1000000000000000 ≤ L[k].2.2 ∧ L[k].2.2 ≤ 1000000000000000) := by
  obtain ⟨_, h2, h3⟩ := (right_sht h).ok L[k] (List.getElem_mem hk)
  unfold okSum at h2 h3
  simp at h2 h3
  exact ⟨h2, h3⟩
def ngE (L : List Cl) : Int := if rightB L = true then 0 else 2
def ngL (L : List Cl) : List Cl := if rightB L = true then L.map negC else []
set_option maxRecDepth 100000 in
set_option maxHeartbeats 1000000 in
theorem rMinus_any (A : Option Addr) (c : Nat) (L : List Cl) (w : World) (hR : RowS w A L) (hS : rightB L = true) (hl : L.length ≤ 1000) :
    Calls Try.prog 50 #[.slice A L.length c] w fun e w' => ∃ v, e = .returned v ∧ OwnS w' w.heap.size v (L.map negC) ∧ Below w.heap.size w w' := by
  have HR := Lib.hid hR
  have HS := Lib.hid hS
  clear hR hS
  go_enter Try.func50, Try.ntmps50
  go_wp2
  go_loopw [3, 4] (fun v x wr => ∃ (vo : Value) (k : Nat), vo = v ∧ k ≤ L.length ∧ x = .int .i64 k ∧ Hid (OwnS wr w.heap.size vo ((L.take k).map negC)) ∧ Hid (Below w.heap.size w wr)) (fun _ x _ => L.length - (intOf x).toNat)
  case atStart => exact ⟨_, 0, rfl, Nat.zero_le _, rfl, Lib.hid (OwnS.nil _ _), Lib.hid (Below.refl _ _)⟩
  case round =>
    obtain ⟨vo, k, rfl, hk, rfl, HO, HB⟩ := hrel
    by_cases h : k < L.length
    · have h' : (k : Int) < (L.length : Int) := by omega
      have h'' : (0 : Int) ≤ (k : Int) := by omega
      obtain ⟨b, off, rfl, hbl, c0, c1, c2, c3, c4, c5, c6⟩ := HR.out.at h
      obtain ⟨⟨r1, r2⟩, r3, r4⟩ := right_in HS.out h
      have HSt := Lib.hid (neg_take h)
      have hml := ng_len L k
      obtain ⟨x, hx⟩ : ∃ x, L[k] = x := ⟨_, rfl⟩
      rw [hx] at c0 c1 c2 c3 c4 c5 c6 r1 r2 r3 r4 HSt
      clear hx
      obtain ⟨⟨a1, a2, a3, a4, a5⟩, m, n⟩ := x
      dsimp only at c0 c1 c2 c3 c4 c5 c6 r1 r2 r3 r4
      have HSt2 := Lib.hid (show (L.take (k + 1)).map negC = (L.take k).map negC ++ [((a1, a2, a3, a4, a5), -m, -n)] from HSt.out)
      have hw1 : IntKind.i64.wrap (-m) = -m := by rw [IntKind.wrap_i64]; omega
      have hw2 : IntKind.i64.wrap (-n) = -n := by rw [IntKind.wrap_i64]; omega
      clear HSt
      have HS0 := Lib.hid (show Below w.heap.size w (wr.drewN 1) from below_drewN HB.out 1)
      have HO0 := Lib.hid (HO.out.below (below_drewN (Below.refl _ _) 1))
      clear HO HB
      go_wp2_with fail
      refine gk_region (fun x => Below w.heap.size w x) (fun _ => false) (by kernel_rfl) ?_
      change Hid (Below w.heap.size w wr.drew) at HS0
      change Hid (OwnS wr.drew w.heap.size vo ((L.take k).map negC)) at HO0
      generalize wr.drew = y1 at *
      -- take 0
      refine gk_take (i := 0) (v := ?_) rfl (by kernel_rfl) (by kernel_rfl) (by kernel_rfl) (by kernel_rfl) (fun _ _ _ h => h) (Or.inl ⟨by kernel_rfl, ?_⟩) HS0.out ?_
      rotate_left
      · ((intro x hx; clear hx; go_simp) <;> with_reducible rfl)
      try simp only [Act.put, List.setIfInBounds_toArray, List.set_cons_zero, List.set_cons_succ]
      -- take 1
      refine gk_take (i := 1) (v := ?_) rfl (by kernel_rfl) (by kernel_rfl) (by kernel_rfl) (by kernel_rfl) (fun _ _ _ h => h) (Or.inl ⟨by kernel_rfl, ?_⟩) HS0.out ?_
      rotate_left
      · ((intro x hx; clear hx; go_simp) <;> with_reducible rfl)
      try simp only [Act.put, List.setIfInBounds_toArray, List.set_cons_zero, List.set_cons_succ]
      -- take 2
      refine gk_take (i := 2) (v := ?_) rfl (by kernel_rfl) (by kernel_rfl) (by kernel_rfl) (by kernel_rfl) (fun _ _ _ h => h) (Or.inl ⟨by kernel_rfl, ?_⟩) HS0.out ?_
      rotate_left
      · ((intro x hx; clear hx; go_simp) <;> with_reducible rfl)
      try simp only [Act.put, List.setIfInBounds_toArray, List.set_cons_zero, List.set_cons_succ]
      -- take 3
      refine gk_take (i := 3) (v := ?_) rfl (by kernel_rfl) (by kernel_rfl) (by kernel_rfl) (by kernel_rfl) (fun _ _ _ h => h) (Or.inl ⟨by kernel_rfl, ?_⟩) HS0.out ?_
      rotate_left
      · ((intro x hx; clear hx; go_simp) <;> with_reducible rfl)
      try simp only [Act.put, List.setIfInBounds_toArray, List.set_cons_zero, List.set_cons_succ]
      -- take 4
      refine gk_take (i := 4) (v := ?_) rfl (by kernel_rfl) (by kernel_rfl) (by kernel_rfl) (by kernel_rfl) (fun _ _ _ h => h) (Or.inl ⟨by kernel_rfl, ?_⟩) HS0.out ?_
      rotate_left
      · ((intro x hx; clear hx; go_simp) <;> with_reducible rfl)
      try simp only [Act.put, List.setIfInBounds_toArray, List.set_cons_zero, List.set_cons_succ]
      -- take 5
      refine gk_take (i := 5) (v := ?_) rfl (by kernel_rfl) (by kernel_rfl) (by kernel_rfl) (by kernel_rfl) (fun _ _ _ h => h) (Or.inl ⟨by kernel_rfl, ?_⟩) HS0.out ?_
      rotate_left
      · ((intro x hx; have p0 := (hx.cell hbl).trans c0; have p1 := (hx.cell hbl).trans c1; have p2 := (hx.cell hbl).trans c2; have p3 := (hx.cell hbl).trans c3; have p4 := (hx.cell hbl).trans c4; clear hx; go_simp) <;> with_reducible rfl)
      try simp only [Act.put, List.setIfInBounds_toArray, List.set_cons_zero, List.set_cons_succ]
      -- take 6
      refine gk_take (i := 6) (v := ?_) rfl (by kernel_rfl) (by kernel_rfl) (by kernel_rfl) (by kernel_rfl) (fun _ _ _ h => h) (Or.inl ⟨by kernel_rfl, ?_⟩) HS0.out ?_
      rotate_left
      · ((intro x hx; clear hx; go_simp) <;> with_reducible rfl)
      try simp only [Act.put, List.setIfInBounds_toArray, List.set_cons_zero, List.set_cons_succ]
      -- take 7
      refine gk_take (i := 7) (v := ?_) rfl (by kernel_rfl) (by kernel_rfl) (by kernel_rfl) (by kernel_rfl) (fun _ _ _ h => h) (Or.inl ⟨by kernel_rfl, ?_⟩) HS0.out ?_
      rotate_left
      · ((intro x hx; clear hx; go_simp) <;> with_reducible rfl)
      try simp only [Act.put, List.setIfInBounds_toArray, List.set_cons_zero, List.set_cons_succ]
      -- take 8
      refine gk_take (i := 8) (v := ?_) rfl (by kernel_rfl) (by kernel_rfl) (by kernel_rfl) (by kernel_rfl) (fun _ _ _ h => h) (Or.inl ⟨by kernel_rfl, ?_⟩) HS0.out ?_
      rotate_left
      · ((intro x hx; clear hx; go_simp) <;> with_reducible rfl)
      try simp only [Act.put, List.setIfInBounds_toArray, List.set_cons_zero, List.set_cons_succ]
      -- take 9
      refine gk_take (i := 9) (v := ?_) rfl (by kernel_rfl) (by kernel_rfl) (by kernel_rfl) (by kernel_rfl) (fun _ _ _ h => h) (Or.inl ⟨by kernel_rfl, ?_⟩) HS0.out ?_
      rotate_left
      · ((intro x hx; clear hx; go_simp) <;> with_reducible rfl)
      try simp only [Act.put, List.setIfInBounds_toArray, List.set_cons_zero, List.set_cons_succ]
      -- take 10
      refine gk_take (i := 10) (v := ?_) rfl (by kernel_rfl) (by kernel_rfl) (by kernel_rfl) (by kernel_rfl) (fun _ _ _ h => h) (Or.inl ⟨by kernel_rfl, ?_⟩) HS0.out ?_
      rotate_left
      · ((intro x hx; have p0 := (hx.cell hbl).trans c5; clear hx; go_simp) <;> with_reducible rfl)
      try simp only [Act.put, List.setIfInBounds_toArray, List.set_cons_zero, List.set_cons_succ]
      -- take 11
      refine gk_take (i := 11) (v := .int .i64 (-m)) rfl (by kernel_rfl) (by kernel_rfl) (by kernel_rfl) (by kernel_rfl) (fun _ _ _ h => h) (Or.inl ⟨by kernel_rfl, ?_⟩) HS0.out ?_
      · intro x hx; clear hx; go_simp; try simp [hw1]
      try simp only [Act.put, List.setIfInBounds_toArray, List.set_cons_zero, List.set_cons_succ]
      -- take 12
      refine gk_take (i := 12) (v := ?_) rfl (by kernel_rfl) (by kernel_rfl) (by kernel_rfl) (by kernel_rfl) (fun _ _ _ h => h) (Or.inl ⟨by kernel_rfl, ?_⟩) HS0.out ?_
      rotate_left
      · ((intro x hx; clear hx; go_simp) <;> with_reducible rfl)
      try simp only [Act.put, List.setIfInBounds_toArray, List.set_cons_zero, List.set_cons_succ]
      -- take 13
      refine gk_take (i := 13) (v := ?_) rfl (by kernel_rfl) (by kernel_rfl) (by kernel_rfl) (by kernel_rfl) (fun _ _ _ h => h) (Or.inl ⟨by kernel_rfl, ?_⟩) HS0.out ?_
      rotate_left
      · ((intro x hx; clear hx; go_simp) <;> with_reducible rfl)
      try simp only [Act.put, List.setIfInBounds_toArray, List.set_cons_zero, List.set_cons_succ]
      -- take 14
      refine gk_take (i := 14) (v := ?_) rfl (by kernel_rfl) (by kernel_rfl) (by kernel_rfl) (by kernel_rfl) (fun _ _ _ h => h) (Or.inl ⟨by kernel_rfl, ?_⟩) HS0.out ?_
      rotate_left
      · ((intro x hx; clear hx; go_simp) <;> with_reducible rfl)
      try simp only [Act.put, List.setIfInBounds_toArray, List.set_cons_zero, List.set_cons_succ]
      -- take 15
      refine gk_take (i := 15) (v := ?_) rfl (by kernel_rfl) (by kernel_rfl) (by kernel_rfl) (by kernel_rfl) (fun _ _ _ h => h) (Or.inl ⟨by kernel_rfl, ?_⟩) HS0.out ?_
      rotate_left
      · ((intro x hx; clear hx; go_simp) <;> with_reducible rfl)
      try simp only [Act.put, List.setIfInBounds_toArray, List.set_cons_zero, List.set_cons_succ]
      -- take 16
      refine gk_take (i := 16) (v := ?_) rfl (by kernel_rfl) (by kernel_rfl) (by kernel_rfl) (by kernel_rfl) (fun _ _ _ h => h) (Or.inl ⟨by kernel_rfl, ?_⟩) HS0.out ?_
      rotate_left
      · ((intro x hx; have p0 := (hx.cell hbl).trans c6; clear hx; go_simp) <;> with_reducible rfl)
      try simp only [Act.put, List.setIfInBounds_toArray, List.set_cons_zero, List.set_cons_succ]
      -- take 17
      refine gk_take (i := 17) (v := .int .i64 (-n)) rfl (by kernel_rfl) (by kernel_rfl) (by kernel_rfl) (by kernel_rfl) (fun _ _ _ h => h) (Or.inl ⟨by kernel_rfl, ?_⟩) HS0.out ?_
      · intro x hx; clear hx; go_simp; try simp [hw2]
      try simp only [Act.put, List.setIfInBounds_toArray, List.set_cons_zero, List.set_cons_succ]
      -- take 18
      refine gk_take (i := 18) (v := ?_) rfl (by kernel_rfl) (by kernel_rfl) (by kernel_rfl) (by kernel_rfl) (fun _ _ _ h => h) (Or.inl ⟨by kernel_rfl, ?_⟩) HS0.out ?_
      rotate_left
      · ((intro x hx; clear hx; go_simp) <;> with_reducible rfl)
      try simp only [Act.put, List.setIfInBounds_toArray, List.set_cons_zero, List.set_cons_succ]
      have ha : Below y1.heap.size y1 (y1.alloc (Obj.cells #[.string a1, .string a2, .string a3, .string a4, .string a5, .int .i64 (-m), .int .i64 (-n)] 37)) := (Below.refl _ _).alloc (Nat.le_refl _) _
      have HS2 := Lib.hid (HS0.out.trans (ha.mono HS0.out.size))
      have HO2 := Lib.hid (HO0.out.below ha)
      have HRc := Lib.hid (row_one y1 ((a1, a2, a3, a4, a5), -m, -n) 37)
      clear ha
      refine gk_one (i := 19) rfl (by kernel_rfl) (fun K hK => ?_)
      go_simp
      refine hK _ _ (fun _ => HS2.out) ?_
      clear hK K
      try simp only [Act.put, List.setIfInBounds_toArray, List.set_cons_zero, List.set_cons_succ]
      refine gk_one (i := 20) rfl (by kernel_rfl) (fun K hK => ?_)
      refine step_cells rfl (.tmp 11) (.tmp 30) rfl w.heap.size vo ((L.take k).map negC) [((a1, a2, a3, a4, a5), -m, -n)] rfl HO2.out (some ⟨y1.heap.size, 0, none⟩) 1 rfl (fun e => by cases e) HRc.out (by simp; omega) HS2.out.size ?_
      intro v7 w7 o7 hb7
      have HS7 := Lib.hid (HS2.out.trans hb7)
      have HO7 := Lib.hid (show OwnS w7 w.heap.size v7 ((L.take (k + 1)).map negC) from by rw [HSt2.out]; exact o7)
      clear o7 hb7 HS2 HO2 HRc HS0 HO0
      refine hK _ _ (fun _ => HS7.out) ?_
      clear hK K
      try simp only [Act.put, List.setIfInBounds_toArray, List.set_cons_zero, List.set_cons_succ]
      -- take 21
      refine gk_take (i := 21) (v := ?_) rfl (by kernel_rfl) (by kernel_rfl) (by kernel_rfl) (by kernel_rfl) (fun _ _ _ h => h) (Or.inl ⟨by kernel_rfl, ?_⟩) HS7.out ?_
      rotate_left
      · ((intro x hx; clear hx; go_simp) <;> with_reducible rfl)
      try simp only [Act.put, List.setIfInBounds_toArray, List.set_cons_zero, List.set_cons_succ]
      refine gk_done (by kernel_rfl) ?_ _
      try simp only [Act.put, List.setIfInBounds_toArray, List.set_cons_zero, List.set_cons_succ]
      try go_simp
      go_wp2
      go_roundw
      case rel => exact ⟨_, k + 1, rfl, by omega, by go_num, HO7, HS7⟩
      case measure => simp [intOf]; omega
    · have h' : ¬ (k : Int) < (L.length : Int) := by omega
      obtain rfl : k = L.length := by omega
      have ho := HO.out
      rw [List.take_length] at ho
      have HO1 := Lib.hid ho
      clear ho HO
      go_wp2
      go_ret
      exact ⟨_, rfl, HO1.out, HB.out⟩
set_option maxRecDepth 100000 in
set_option maxHeartbeats 1000000 in
theorem rNeg_any (A : Option Addr) (c : Nat) (L : List Cl) (w : World) (hR : RowS w A L) (bA : BdS L) (hl : L.length ≤ 1000) :
    Calls Try.prog 28 #[.slice A L.length c] w fun e w' => ∃ v, e = .returned (.tuple #[v, .int .i64 (ngE L)]) ∧ OwnS w' w.heap.size v (ngL L) ∧ Below w.heap.size w w' := by
  have HR := Lib.hid hR
  have HR1 := Lib.hid (rRight_any A c L w hR bA (by omega))
  have HN := Lib.hid (fun W => OwnS.nil W w.heap.size)
  clear hR
  cases r1 : rightB L
  · have HV := Lib.hid (show ngE L = 2 ∧ ngL L = [] from by unfold ngE ngL; rw [r1]; exact ⟨rfl, rfl⟩)
    rw [r1] at HR1
    clear r1
    rw [HV.out.1, HV.out.2]
    clear HV
    go_enter Try.func28, Try.ntmps28
    go_wp2_with fail
    refine HR1.out.mono ?_
    rintro e w1 ⟨rfl, hb⟩
    have HX1 := Lib.hid hb
    clear hb
    go_wp2
    go_ret2
    exact ⟨_, rfl, HN.out _, HX1.out⟩
  have HV := Lib.hid (show ngE L = 0 ∧ ngL L = L.map negC from by unfold ngE ngL; rw [r1]; exact ⟨rfl, rfl⟩)
  rw [HV.out.1, HV.out.2]
  rw [r1] at HR1
  have HS := Lib.hid r1
  clear r1 HV
  go_enter Try.func28, Try.ntmps28
  go_wp2_with fail
  refine HR1.out.mono ?_
  rintro e w1 ⟨rfl, hb⟩
  have HX1 := Lib.hid hb
  have HR2 := Lib.hid (HR.out.below hb)
  clear hb HR1
  have HM := Lib.hid (rMinus_any A c L w1 HR2.out HS.out hl)
  go_wp2_with fail
  refine HM.out.mono ?_
  rintro e w2 ⟨v, rfl, ho, hb⟩
  have HO2 := Lib.hid (ho.lower HX1.out.size)
  have HX2 := Lib.hid (HX1.out.trans (hb.mono HX1.out.size))
  clear ho hb
  go_wp2
  go_ret2
  exact ⟨v, rfl, HO2.out, HX2.out⟩
set_option maxRecDepth 100000 in
set_option maxHeartbeats 1000000 in
theorem neg_any (A : Option Addr) (c : Nat) (L : List Cl) (w : World) (hR : RowS w A L) (bA : BdS L) (hl : L.length ≤ 1000) :
    Calls Try.prog 27 #[.slice A L.length c] w fun e w' => ∃ v, e = .returned (.tuple #[v, .int .i64 (ngE L)]) ∧ OwnS w' w.heap.size v (ngL L) ∧ Below w.heap.size w w' := by
  have HR := Lib.hid hR
  have HR1 := Lib.hid (right_any A c L w hR bA (by omega))
  have HN := Lib.hid (fun W => OwnS.nil W w.heap.size)
  clear hR
  cases r1 : rightB L
  · have HV := Lib.hid (show ngE L = 2 ∧ ngL L = [] from by unfold ngE ngL; rw [r1]; exact ⟨rfl, rfl⟩)
    rw [r1] at HR1
    clear r1
    rw [HV.out.1, HV.out.2]
    clear HV
    go_enter Try.func27, Try.ntmps27
    go_wp2_with fail
    refine HR1.out.mono ?_
    rintro e w1 ⟨rfl, hb⟩
    have HX1 := Lib.hid hb
    clear hb
    go_wp2
    go_ret2
    exact ⟨_, rfl, HN.out _, HX1.out⟩
  have HV := Lib.hid (show ngE L = 0 ∧ ngL L = L.map negC from by unfold ngE ngL; rw [r1]; exact ⟨rfl, rfl⟩)
  rw [HV.out.1, HV.out.2]
  rw [r1] at HR1
  have HS := Lib.hid r1
  clear r1 HV
  go_enter Try.func27, Try.ntmps27
  go_wp2_with fail
  refine HR1.out.mono ?_
  rintro e w1 ⟨rfl, hb⟩
  have HX1 := Lib.hid hb
  have HR2 := Lib.hid (HR.out.below hb)
  clear hb HR1
  go_wp2
  go_loopw [2, 11] (fun v x wr => ∃ (vo : Value) (k : Nat), vo = v ∧ k ≤ L.length ∧ x = .int .i64 k ∧ Hid (OwnS wr w.heap.size vo ((L.take k).map negC)) ∧ Hid (Below w.heap.size w wr)) (fun _ x _ => L.length - (intOf x).toNat)
  case atStart => exact ⟨_, 0, rfl, Nat.zero_le _, rfl, Lib.hid (OwnS.nil _ _), HX1⟩
  case round =>
    clear HX1
    obtain ⟨vo, k, rfl, hk, rfl, HO, HB⟩ := hrel
    by_cases h : k < L.length
    · have h' : (k : Int) < (L.length : Int) := by omega
      have h'' : (0 : Int) ≤ (k : Int) := by omega
      obtain ⟨b, off, rfl, hbl, c0, c1, c2, c3, c4, c5, c6⟩ := HR.out.at h
      obtain ⟨⟨r1, r2⟩, r3, r4⟩ := right_in HS.out h
      have HSt := Lib.hid (neg_take h)
      have hml := ng_len L k
      obtain ⟨x, hx⟩ : ∃ x, L[k] = x := ⟨_, rfl⟩
      rw [hx] at c0 c1 c2 c3 c4 c5 c6 r1 r2 r3 r4 HSt
      clear hx
      obtain ⟨⟨a1, a2, a3, a4, a5⟩, m, n⟩ := x
      dsimp only at c0 c1 c2 c3 c4 c5 c6 r1 r2 r3 r4
      have HSt2 := Lib.hid (show (L.take (k + 1)).map negC = (L.take k).map negC ++ [((a1, a2, a3, a4, a5), -m, -n)] from HSt.out)
      have hw1 : IntKind.i64.wrap (-m) = -m := by rw [IntKind.wrap_i64]; omega
      have hw2 : IntKind.i64.wrap (-n) = -n := by rw [IntKind.wrap_i64]; omega
      clear HSt
      have hsz := HB.out.size
      have l0 := (HB.out.cell hbl).trans c0
      have l1 := (HB.out.cell hbl).trans c1
      have l2 := (HB.out.cell hbl).trans c2
      have l3 := (HB.out.cell hbl).trans c3
      have l4 := (HB.out.cell hbl).trans c4
      have l5 := (HB.out.cell hbl).trans c5
      have l6 := (HB.out.cell hbl).trans c6
      have g1 : Below wr.heap.size wr (wr.alloc (Obj.cells #[.string a1, .string a2, .string a3, .string a4, .string a5, .int .i64 m, .int .i64 n] 37)) := (Below.refl _ _).alloc (Nat.le_refl _) _
      have g2 : Below (wr.alloc (Obj.cells #[.string a1, .string a2, .string a3, .string a4, .string a5, .int .i64 m, .int .i64 n] 37)).heap.size (wr.alloc (Obj.cells #[.string a1, .string a2, .string a3, .string a4, .string a5, .int .i64 m, .int .i64 n] 37)) ((wr.alloc (Obj.cells #[.string a1, .string a2, .string a3, .string a4, .string a5, .int .i64 m, .int .i64 n] 37)).alloc (Obj.cells #[.string a1, .string a2, .string a3, .string a4, .string a5, .int .i64 (-m), .int .i64 (-n)] 37)) := (Below.refl _ _).alloc (Nat.le_refl _) _
      have HO6 := Lib.hid ((HO.out.below g1).below g2)
      have HB6 := Lib.hid ((HB.out.trans (g1.mono hsz)).trans (g2.mono (HB.out.trans (g1.mono hsz)).size))
      have hs6 : w.heap.size ≤ ((wr.alloc (Obj.cells #[.string a1, .string a2, .string a3, .string a4, .string a5, .int .i64 m, .int .i64 n] 37)).alloc (Obj.cells #[.string a1, .string a2, .string a3, .string a4, .string a5, .int .i64 (-m), .int .i64 (-n)] 37)).heap.size := HB6.out.size
      have HRc := Lib.hid (row_cell (wr.alloc (Obj.cells #[.string a1, .string a2, .string a3, .string a4, .string a5, .int .i64 m, .int .i64 n] 37)) ((a1, a2, a3, a4, a5), -m, -n) 37)
      rw [World.size_alloc] at HRc
      clear g1 g2 HO HB c0 c1 c2 c3 c4 c5 c6
      go_wp2_with (at_builtin; (refine wpList_cell rfl (.tmp 15) (.tmp 25) rfl w.heap.size vo ((L.take k).map negC) ((a1, a2, a3, a4, a5), -m, -n) rfl HO6.out ⟨wr.heap.size + 1, 0, none⟩ 1 rfl HRc.out (by omega) hs6 ?_; intro v7 w7 o7 hb7))
      have HO7 := Lib.hid (show OwnS w7 w.heap.size v7 ((L.take (k + 1)).map negC) from by rw [HSt2.out]; exact o7)
      have HB7 := Lib.hid (HB6.out.trans hb7)
      clear o7 hb7 HO6 HB6 HRc
      go_wp2
      go_roundw
      case rel => exact ⟨_, k + 1, rfl, by omega, by go_num, HO7, HB7⟩
      case measure => simp [intOf]; omega
    · have h' : ¬ (k : Int) < (L.length : Int) := by omega
      obtain rfl : k = L.length := by omega
      have ho := HO.out
      rw [List.take_length] at ho
      have HO1 := Lib.hid ho
      clear ho HO
      go_wp2
      go_ret2
      exact ⟨_, rfl, HO1.out, HB.out⟩
end Go.Proofs.Ytenhnnfemehbcaa
