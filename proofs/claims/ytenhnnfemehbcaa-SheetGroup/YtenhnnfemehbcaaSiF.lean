/- Cells appended; cells with the fields of a mask, by the reference. Written by wip/mk_sif.py. -/
import Derived.Test.YtenhnnfemehbcaaSiC
import Derived.Test.YtenhnnfemehbcaaSiD
import Derived.Test.YtenhnnfemehbcaaSiM
namespace Go.Proofs.Ytenhnnfemehbcaa
open Go.RowKit Go.Sort
set_option linter.unusedVariables false
set_option linter.unusedSimpArgs false

/-- cells appended. -/
theorem wp_cells {w : World} {o : Oper} {a : Act} {K : Act → World → Prop} {Q : Exit → Act → World → Prop} (s x : Operand)
    (ho : o.op = .call { callee := .builtin .append, args := #[s, x], argTypes := #[28, 28] })
    (base : Nat) (v : Value) (L M : List Cl) (hs : a.eval s = v) (hown : OwnS w base v L) (ao : Option Addr) (c : Nat) (hx : a.eval x = .slice ao M.length c) (hn : ao = none → c = 0)
    (hc : RowS w ao M) (hl : L.length + M.length < 10000) (hbase : base ≤ w.heap.size)
    (h : ∀ v' w', OwnS w' base v' (L ++ M) → Below base w w' → K (a.put o.dst v') w') : o.wp Try.prog a w K Q := by
  obtain ⟨i0, hi, hz0, hz1, hz2⟩ := info_parts inf_cell
  cases ao with
  | none =>
    have hM0 : M = [] := by
      cases M with
      | nil => rfl
      | cons y M => obtain ⟨b, off, e, _⟩ := hc (by simp); cases e
    subst hM0
    obtain rfl := hn rfl
    have hrun := run_append_owned_none (P := Try.prog) (w := w) base 28 o.type 37 i0 7 und_cells hi v _ _ hown
    have hx0 : a.eval x = .slice none 0 0 := hx
    unfold Oper.wp
    simp [execOp, ho, resolve, invoke, builtin, hs, hx0, hrun, Result.andThen]
    exact h v w (by rw [List.append_nil]; exact hown) (Below.refl _ _)
  | some ad =>
    refine wp_append_own w s x _ ho base _ i0 _ 7 96 und_cells hi hz0 hz1 hz2 rfl (by decide) v _ _ hs hown ad M.length c (M.flatMap clC) hx (flatS_len M) (RowS.cells hc) cells_one ?_ ?_ hbase ?_
    · unfold maxLen; omega
    · omega
    · intro v' w' h1 h2 _
      refine h v' w' (by unfold OwnS; rw [List.length_append, List.flatMap_append]; exact h1) ((Below.refl base w).grown h2 hbase fun k hk => (hown.lt k hk).1)
theorem wpList_cells {w : World} {ops : Array Oper} {rest : List Oper} {o : Oper} {a : Act} {Q : Exit → Act → World → Prop} (hgd : o.guard = none) (s x : Operand)
    (ho : o.op = .call { callee := .builtin .append, args := #[s, x], argTypes := #[28, 28] })
    (base : Nat) (v : Value) (L M : List Cl) (hs : a.eval s = v) (hown : OwnS w base v L) (ao : Option Addr) (c : Nat) (hx : a.eval x = .slice ao M.length c) (hn : ao = none → c = 0)
    (hc : RowS w ao M) (hl : L.length + M.length < 10000) (hbase : base ≤ w.heap.size)
    (h : ∀ v' w', OwnS w' base v' (L ++ M) → Below base w w' → wpList Try.prog ops Q rest (a.put o.dst v') w') : wpList Try.prog ops Q (o :: rest) a w :=
  wpList_plain hgd fun _ hK => wp_cells s x ho base v L M hs hown ao c hx hn hc hl hbase fun v' w' h2 h3 => hK _ _ (h v' w' h2 h3)
theorem step_cells {w : World} {ops : Array Oper} {o : Oper} {a : Act} {K : Act → World → Prop} {Q : Exit → Act → World → Prop} {E : Prop} (hgd : o.guard = none) (s x : Operand)
    (ho : o.op = .call { callee := .builtin .append, args := #[s, x], argTypes := #[28, 28] })
    (base : Nat) (v : Value) (L M : List Cl) (hs : a.eval s = v) (hown : OwnS w base v L) (ao : Option Addr) (c : Nat) (hx : a.eval x = .slice ao M.length c) (hn : ao = none → c = 0)
    (hc : RowS w ao M) (hl : L.length + M.length < 10000) (hbase : base ≤ w.heap.size)
    (h : ∀ v' w', OwnS w' base v' (L ++ M) → Below base w w' → K (a.put o.dst v') w') : if Region.wanted o (yielded ops a.tmps) = true then Oper.wp Try.prog o a w K Q else E := by
  rw [if_pos (show Region.wanted o (yielded ops a.tmps) = true by simp [Region.wanted, hgd])]
  exact wp_cells s x ho base v L M hs hown ao c hx hn hc hl hbase h
theorem row_one (w : World) (x : Cl) (t : TypeId) : RowS (w.alloc (Obj.cells (clC x).toArray t)) (some ⟨w.heap.size, 0, none⟩) [x] := by
  refine fun _ => ⟨w.heap.size, 0, rfl, by simp, fun i hi j v hv => ?_⟩
  have hi : i = 0 := by simpa using hi
  subst hi
  rw [World.cell?_alloc_at _ _ _ _ rfl]
  simpa using hv
theorem msk_take {L : List Cl} {k : Nat} (h : k < L.length) (mask : Int) : (L.take (k + 1)).map (mskC mask) = (L.take k).map (mskC mask) ++ [mskC mask L[k]] := by
  rw [List.take_succ_eq_append_getElem h, List.map_append]; rfl
theorem msk_len (L : List Cl) (k : Nat) (mask : Int) : ((L.take k).map (mskC mask)).length ≤ k := by rw [List.length_map, List.length_take]; omega
set_option maxRecDepth 100000 in
set_option maxHeartbeats 4000000 in
theorem rFold_any (A : Option Addr) (c : Nat) (L : List Cl) (mask : Int) (w : World) (hR : RowS w A L) (hBd : BdS L) (hl : L.length ≤ 2000) (hm : r64 mask) :
    Calls Try.prog 34 #[.slice A L.length c, .int .i64 mask] w fun e w' => ∃ v, e = .returned (.tuple #[v, .int .i64 (foE L mask)]) ∧ OwnS w' w.heap.size v (foL L mask) ∧ Below w.heap.size w w' := by
  obtain ⟨r1, r2⟩ := hm
  have HR := Lib.hid hR
  have HBd := Lib.hid hBd
  have HRi := Lib.hid (rRight_any A c L w hR hBd hl)
  have HN := Lib.hid (fun W => OwnS.nil W w.heap.size)
  have HMk := Lib.hid (fun a1 a2 a3 a4 a5 W m0 m1 => rMasked_any a1 a2 a3 a4 a5 mask m0 m1 W)
  clear hR hBd
  cases hr : rightB L
  · have HV := Lib.hid (show foE L mask = 2 ∧ foL L mask = [] from by unfold foE foL foB; rw [hr]; exact ⟨rfl, rfl⟩)
    rw [hr] at HRi
    clear hr
    rw [HV.out.1, HV.out.2]
    clear HV
    go_enter Try.func34, Try.ntmps34
    go_wp2_with fail
    refine HRi.out.mono ?_
    rintro e w1 ⟨rfl, hb⟩
    have HB := Lib.hid hb
    clear hb
    go_wp2
    go_ret2
    exact ⟨_, rfl, HN.out _, HB.out⟩
  rw [hr] at HRi
  by_cases g1 : mask < 0
  · have HV := Lib.hid (show foE L mask = 2 ∧ foL L mask = [] from by unfold foE foL foB; rw [decide_eq_false (show ¬ 0 ≤ mask by omega)]; simp)
    clear hr
    have d1 : decide (mask < 0) = true := decide_eq_true g1
    rw [HV.out.1, HV.out.2]
    clear HV
    go_enter Try.func34, Try.ntmps34
    go_wp2_with fail
    refine HRi.out.mono ?_
    rintro e w1 ⟨rfl, hb⟩
    have HB := Lib.hid hb
    clear hb
    go_wp2
    go_ret2
    exact ⟨_, rfl, HN.out _, HB.out⟩
  have d1 : decide (mask < 0) = false := decide_eq_false g1
  by_cases g2 : 31 < mask
  · have HV := Lib.hid (show foE L mask = 2 ∧ foL L mask = [] from by unfold foE foL foB; rw [decide_eq_false (show ¬ mask ≤ 31 by omega)]; simp)
    clear hr
    have d2 : decide (31 < mask) = true := decide_eq_true g2
    rw [HV.out.1, HV.out.2]
    clear HV
    go_enter Try.func34, Try.ntmps34
    go_wp2_with fail
    refine HRi.out.mono ?_
    rintro e w1 ⟨rfl, hb⟩
    have HB := Lib.hid hb
    clear hb
    go_wp2
    go_ret2
    exact ⟨_, rfl, HN.out _, HB.out⟩
  have d2 : decide (31 < mask) = false := decide_eq_false g2
  have m0 : 0 ≤ mask := by omega
  have m1 : mask ≤ 31 := by omega
  have HV := Lib.hid (show foE L mask = ofE (L.map (mskC mask)) ∧ foL L mask = ofL (L.map (mskC mask)) from by unfold foE foL foB; rw [hr, decide_eq_true m0, decide_eq_true m1]; exact ⟨rfl, rfl⟩)
  rw [HV.out.1, HV.out.2]
  clear hr HV
  have HBM := Lib.hid (show BdS (L.map (mskC mask)) from fun x hx => by
    obtain ⟨y, hy, rfl⟩ := List.mem_map.1 hx
    exact HBd.out y hy)
  have HOf := Lib.hid (fun ao cap W h => rOf_any ao cap (L.map (mskC mask)) W h HBM.out (by simpa using hl))
  rw [List.length_map] at HOf
  obtain ⟨oE, hoE⟩ : ∃ x, ofE (L.map (mskC mask)) = x := ⟨_, rfl⟩
  obtain ⟨oL, hoL⟩ : ∃ x, ofL (L.map (mskC mask)) = x := ⟨_, rfl⟩
  rw [hoE, hoL] at HOf
  rw [hoE, hoL]
  clear hoE hoL HN
  go_enter Try.func34, Try.ntmps34
  go_wp2_with fail
  refine HRi.out.mono ?_
  rintro e w1 ⟨rfl, hb⟩
  have HB1 := Lib.hid hb
  clear hb HRi
  go_wp2
  go_loopw [6, 7] (fun v x wr => ∃ (vo : Value) (k : Nat), vo = v ∧ k ≤ L.length ∧ x = .int .i64 k ∧ Hid (OwnS wr w.heap.size vo ((L.take k).map (mskC mask))) ∧ Hid (Below w.heap.size w wr)) (fun _ x _ => L.length - (intOf x).toNat)
  case atStart => exact ⟨_, 0, rfl, Nat.zero_le _, rfl, Lib.hid (OwnS.nil _ _), HB1⟩
  case round =>
    clear HB1
    obtain ⟨vo, k, rfl, hk, rfl, HO, HB⟩ := hrel
    by_cases h : k < L.length
    · have h' : (k : Int) < (L.length : Int) := by omega
      have h'' : (0 : Int) ≤ (k : Int) := by omega
      obtain ⟨b, off, rfl, hbl, c0, c1, c2, c3, c4, c5, c6⟩ := HR.out.at h
      have HSt := Lib.hid (msk_take h mask)
      have hml := msk_len L k mask
      obtain ⟨x, hx⟩ : ∃ x, L[k] = x := ⟨_, rfl⟩
      rw [hx] at c0 c1 c2 c3 c4 c5 c6 HSt
      clear hx
      obtain ⟨⟨a1, a2, a3, a4, a5⟩, m, n⟩ := x
      dsimp only at c0 c1 c2 c3 c4 c5 c6
      have HM1 := Lib.hid (fun W => HMk.out a1 a2 a3 a4 a5 W m0 m1)
      have HSt2 := Lib.hid (show (L.take (k + 1)).map (mskC mask) = (L.take k).map (mskC mask) ++ [((mb mask 0 a1, mb mask 1 a2, mb mask 2 a3, mb mask 3 a4, mb mask 4 a5), m, n)] from HSt.out)
      clear HSt
      generalize mb mask 0 a1 = d1 at *
      generalize mb mask 1 a2 = d2 at *
      generalize mb mask 2 a3 = d3 at *
      generalize mb mask 3 a4 = d4 at *
      generalize mb mask 4 a5 = d5 at *
      have HS0 := Lib.hid (show Below w.heap.size w (wr.drewN 1) from below_drewN HB.out 1)
      have HO0 := Lib.hid (HO.out.below (below_drewN (Below.refl _ _) 1))
      clear HO HB
      go_wp2_with fail
      refine gk_region (fun x => Below w.heap.size w x) (fun _ => false) (by kernel_rfl) ?_
      change Hid (Below w.heap.size w wr.drew) at HS0
      change Hid (OwnS wr.drew w.heap.size vo ((L.take k).map (mskC mask))) at HO0
      generalize wr.drew = x0 at *
      -- take 0
      refine gk_take (i := 0) (v := ?_) rfl (by kernel_rfl) (by kernel_rfl) (by kernel_rfl) (by kernel_rfl) (fun _ _ _ h => h) (Or.inl ⟨by kernel_rfl, ?_⟩) HS0.out ?_
      rotate_left
      · ((intro x hx; clear hx; go_simp) <;> with_reducible rfl)
      try simp only [Act.put, List.setIfInBounds_toArray, List.set_cons_zero, List.set_cons_succ]
      -- take 1
      refine gk_take (i := 1) (v := ?_) rfl (by kernel_rfl) (by kernel_rfl) (by kernel_rfl) (by kernel_rfl) (fun _ _ _ h => h) (Or.inl ⟨by kernel_rfl, ?_⟩) HS0.out ?_
      rotate_left
      · ((intro x hx; clear hx; go_simp) <;> with_reducible rfl)
      try simp only [Act.put, List.setIfInBounds_toArray, List.set_cons_zero, List.set_cons_succ]
      -- take 2
      refine gk_take (i := 2) (v := ?_) rfl (by kernel_rfl) (by kernel_rfl) (by kernel_rfl) (by kernel_rfl) (fun _ _ _ h => h) (Or.inl ⟨by kernel_rfl, ?_⟩) HS0.out ?_
      rotate_left
      · ((intro x hx; clear hx; go_simp) <;> with_reducible rfl)
      try simp only [Act.put, List.setIfInBounds_toArray, List.set_cons_zero, List.set_cons_succ]
      -- take 3
      refine gk_take (i := 3) (v := ?_) rfl (by kernel_rfl) (by kernel_rfl) (by kernel_rfl) (by kernel_rfl) (fun _ _ _ h => h) (Or.inl ⟨by kernel_rfl, ?_⟩) HS0.out ?_
      rotate_left
      · ((intro x hx; clear hx; go_simp) <;> with_reducible rfl)
      try simp only [Act.put, List.setIfInBounds_toArray, List.set_cons_zero, List.set_cons_succ]
      -- take 4
      refine gk_take (i := 4) (v := ?_) rfl (by kernel_rfl) (by kernel_rfl) (by kernel_rfl) (by kernel_rfl) (fun _ _ _ h => h) (Or.inl ⟨by kernel_rfl, ?_⟩) HS0.out ?_
      rotate_left
      · ((intro x hx; clear hx; go_simp) <;> with_reducible rfl)
      try simp only [Act.put, List.setIfInBounds_toArray, List.set_cons_zero, List.set_cons_succ]
      -- take 5
      refine gk_take (i := 5) (v := ?_) rfl (by kernel_rfl) (by kernel_rfl) (by kernel_rfl) (by kernel_rfl) (fun _ _ _ h => h) (Or.inl ⟨by kernel_rfl, ?_⟩) HS0.out ?_
      rotate_left
      · ((intro x hx; have p0 := (hx.cell hbl).trans c0; have p1 := (hx.cell hbl).trans c1; have p2 := (hx.cell hbl).trans c2; have p3 := (hx.cell hbl).trans c3; have p4 := (hx.cell hbl).trans c4; clear hx; go_simp) <;> with_reducible rfl)
      try simp only [Act.put, List.setIfInBounds_toArray, List.set_cons_zero, List.set_cons_succ]
      -- take 6
      refine gk_take (i := 6) (v := ?_) rfl (by kernel_rfl) (by kernel_rfl) (by kernel_rfl) (by kernel_rfl) (fun _ _ _ h => h) (Or.inl ⟨by kernel_rfl, ?_⟩) HS0.out ?_
      rotate_left
      · ((intro x hx; clear hx; go_simp) <;> with_reducible rfl)
      try simp only [Act.put, List.setIfInBounds_toArray, List.set_cons_zero, List.set_cons_succ]
      -- take 8
      refine gk_take (i := 8) (v := ?_) rfl (by kernel_rfl) (by kernel_rfl) (by kernel_rfl) (by kernel_rfl) (fun _ _ _ h => h) (Or.inl ⟨by kernel_rfl, ?_⟩) HS0.out ?_
      rotate_left
      · ((intro x hx; clear hx; go_simp) <;> with_reducible rfl)
      try simp only [Act.put, List.setIfInBounds_toArray, List.set_cons_zero, List.set_cons_succ]
      -- take 9
      refine gk_take (i := 9) (v := ?_) rfl (by kernel_rfl) (by kernel_rfl) (by kernel_rfl) (by kernel_rfl) (fun _ _ _ h => h) (Or.inl ⟨by kernel_rfl, ?_⟩) HS0.out ?_
      rotate_left
      · ((intro x hx; clear hx; go_simp) <;> with_reducible rfl)
      try simp only [Act.put, List.setIfInBounds_toArray, List.set_cons_zero, List.set_cons_succ]
      -- take 10
      refine gk_take (i := 10) (v := ?_) rfl (by kernel_rfl) (by kernel_rfl) (by kernel_rfl) (by kernel_rfl) (fun _ _ _ h => h) (Or.inl ⟨by kernel_rfl, ?_⟩) HS0.out ?_
      rotate_left
      · ((intro x hx; clear hx; go_simp) <;> with_reducible rfl)
      try simp only [Act.put, List.setIfInBounds_toArray, List.set_cons_zero, List.set_cons_succ]
      -- take 11
      refine gk_take (i := 11) (v := ?_) rfl (by kernel_rfl) (by kernel_rfl) (by kernel_rfl) (by kernel_rfl) (fun _ _ _ h => h) (Or.inl ⟨by kernel_rfl, ?_⟩) HS0.out ?_
      rotate_left
      · ((intro x hx; clear hx; go_simp) <;> with_reducible rfl)
      try simp only [Act.put, List.setIfInBounds_toArray, List.set_cons_zero, List.set_cons_succ]
      -- take 12
      refine gk_take (i := 12) (v := ?_) rfl (by kernel_rfl) (by kernel_rfl) (by kernel_rfl) (by kernel_rfl) (fun _ _ _ h => h) (Or.inl ⟨by kernel_rfl, ?_⟩) HS0.out ?_
      rotate_left
      · ((intro x hx; have p0 := (hx.cell hbl).trans c5; clear hx; go_simp) <;> with_reducible rfl)
      try simp only [Act.put, List.setIfInBounds_toArray, List.set_cons_zero, List.set_cons_succ]
      -- take 13
      refine gk_take (i := 13) (v := ?_) rfl (by kernel_rfl) (by kernel_rfl) (by kernel_rfl) (by kernel_rfl) (fun _ _ _ h => h) (Or.inl ⟨by kernel_rfl, ?_⟩) HS0.out ?_
      rotate_left
      · ((intro x hx; clear hx; go_simp) <;> with_reducible rfl)
      try simp only [Act.put, List.setIfInBounds_toArray, List.set_cons_zero, List.set_cons_succ]
      -- take 14
      refine gk_take (i := 14) (v := ?_) rfl (by kernel_rfl) (by kernel_rfl) (by kernel_rfl) (by kernel_rfl) (fun _ _ _ h => h) (Or.inl ⟨by kernel_rfl, ?_⟩) HS0.out ?_
      rotate_left
      · ((intro x hx; clear hx; go_simp) <;> with_reducible rfl)
      try simp only [Act.put, List.setIfInBounds_toArray, List.set_cons_zero, List.set_cons_succ]
      -- take 15
      refine gk_take (i := 15) (v := ?_) rfl (by kernel_rfl) (by kernel_rfl) (by kernel_rfl) (by kernel_rfl) (fun _ _ _ h => h) (Or.inl ⟨by kernel_rfl, ?_⟩) HS0.out ?_
      rotate_left
      · ((intro x hx; clear hx; go_simp) <;> with_reducible rfl)
      try simp only [Act.put, List.setIfInBounds_toArray, List.set_cons_zero, List.set_cons_succ]
      -- take 16
      refine gk_take (i := 16) (v := ?_) rfl (by kernel_rfl) (by kernel_rfl) (by kernel_rfl) (by kernel_rfl) (fun _ _ _ h => h) (Or.inl ⟨by kernel_rfl, ?_⟩) HS0.out ?_
      rotate_left
      · ((intro x hx; clear hx; go_simp) <;> with_reducible rfl)
      try simp only [Act.put, List.setIfInBounds_toArray, List.set_cons_zero, List.set_cons_succ]
      -- take 17
      refine gk_take (i := 17) (v := ?_) rfl (by kernel_rfl) (by kernel_rfl) (by kernel_rfl) (by kernel_rfl) (fun _ _ _ h => h) (Or.inl ⟨by kernel_rfl, ?_⟩) HS0.out ?_
      rotate_left
      · ((intro x hx; have p0 := (hx.cell hbl).trans c6; clear hx; go_simp) <;> with_reducible rfl)
      try simp only [Act.put, List.setIfInBounds_toArray, List.set_cons_zero, List.set_cons_succ]
      refine gk_one (i := 7) rfl (by kernel_rfl) (fun K hK => ?_)
      go_simp
      go_at_call 53
      refine (HM1.out _).mono ?_
      rintro e y1 ⟨rfl, hb⟩
      have HS1 := Lib.hid (HS0.out.trans (hb.mono HS0.out.size))
      have HO1 := Lib.hid (HO0.out.below hb)
      clear hb HS0 HO0
      refine hK _ _ (fun _ => HS1.out) ?_
      clear hK K
      try simp only [Act.put, List.setIfInBounds_toArray, List.set_cons_zero, List.set_cons_succ]
      -- take 18
      refine gk_take (i := 18) (v := ?_) rfl (by kernel_rfl) (by kernel_rfl) (by kernel_rfl) (by kernel_rfl) (fun _ _ _ h => h) (Or.inl ⟨by kernel_rfl, ?_⟩) HS1.out ?_
      rotate_left
      · ((intro x hx; clear hx; go_simp) <;> with_reducible rfl)
      try simp only [Act.put, List.setIfInBounds_toArray, List.set_cons_zero, List.set_cons_succ]
      have ha : Below y1.heap.size y1 (y1.alloc (Obj.cells #[.string d1, .string d2, .string d3, .string d4, .string d5, .int .i64 m, .int .i64 n] 37)) := (Below.refl _ _).alloc (Nat.le_refl _) _
      have HS2 := Lib.hid (HS1.out.trans (ha.mono HS1.out.size))
      have HO2 := Lib.hid (HO1.out.below ha)
      have HRc := Lib.hid (row_one y1 ((d1, d2, d3, d4, d5), m, n) 37)
      clear ha
      refine gk_one (i := 19) rfl (by kernel_rfl) (fun K hK => ?_)
      go_simp
      refine hK _ _ (fun _ => HS2.out) ?_
      clear hK K
      try simp only [Act.put, List.setIfInBounds_toArray, List.set_cons_zero, List.set_cons_succ]
      refine gk_one (i := 20) rfl (by kernel_rfl) (fun K hK => ?_)
      refine step_cells rfl (.tmp 25) (.tmp 44) rfl w.heap.size vo ((L.take k).map (mskC mask)) [((d1, d2, d3, d4, d5), m, n)] rfl HO2.out (some ⟨y1.heap.size, 0, none⟩) 1 rfl (fun e => by cases e) HRc.out (by simp; omega) HS2.out.size ?_
      intro v7 w7 o7 hb7
      have HS7 := Lib.hid (HS2.out.trans hb7)
      have HO7 := Lib.hid (show OwnS w7 w.heap.size v7 ((L.take (k + 1)).map (mskC mask)) from by rw [HSt2.out]; exact o7)
      clear o7 hb7 HS1 HO1 HS2 HO2 HRc
      refine hK _ _ (fun _ => HS7.out) ?_
      clear hK K
      try simp only [Act.put, List.setIfInBounds_toArray, List.set_cons_zero, List.set_cons_succ]
      -- take 21
      refine gk_take (i := 21) (v := ?_) rfl (by kernel_rfl) (by kernel_rfl) (by kernel_rfl) (by kernel_rfl) (fun _ _ _ h => h) (Or.inl ⟨by kernel_rfl, ?_⟩) HS7.out ?_
      rotate_left
      · ((intro x hx; clear hx; go_simp) <;> with_reducible rfl)
      try simp only [Act.put, List.setIfInBounds_toArray, List.set_cons_zero, List.set_cons_succ]
      refine gk_done (by kernel_rfl) ?_ _
      try simp only [Act.put, List.setIfInBounds_toArray, List.set_cons_zero, List.set_cons_succ]
      try go_simp
      go_wp2
      go_roundw
      case rel => exact ⟨_, k + 1, rfl, by omega, by go_num, HO7, HS7⟩
      case measure => simp [intOf]; omega
    · have h' : ¬ (k : Int) < (L.length : Int) := by omega
      obtain rfl : k = L.length := by omega
      have ho := HO.out
      rw [List.take_length] at ho
      obtain ⟨ao, cp, rfl, _, _, hrow, _⟩ := ho.shape
      rw [List.length_map]
      have HO1 := Lib.hid (HOf.out ao cp wr hrow)
      clear ho hrow HO HOf
      go_wp2_with fail
      refine HO1.out.mono ?_
      rintro e w4 ⟨v, rfl, ho, hb⟩
      have HO2 := Lib.hid (ho.lower HB.out.size)
      have HB4 := Lib.hid (HB.out.trans (hb.mono HB.out.size))
      clear ho hb
      go_wp2
      go_ret2
      exact ⟨v, rfl, HO2.out, HB4.out⟩
end Go.Proofs.Ytenhnnfemehbcaa
