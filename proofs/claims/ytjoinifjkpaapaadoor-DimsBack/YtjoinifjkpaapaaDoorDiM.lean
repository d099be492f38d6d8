/- What placed of package dims returns. Written by wip/mk_dim.py. -/
import Derived.Test.YtjoinifjkpaapaaDoorDiL
import Derived.ArgAppend
namespace Go.Proofs.YtjoinifjkpaapaaDoor
open Go.RowKit Go.Sort
set_option linter.unusedVariables false
set_option linter.unusedSimpArgs false

theorem RowT.take {w : World} {A : Option Addr} {L : List Tg} (h : RowT w A L) (k : Nat) : RowT w A (L.take k) := by
  refine ⟨fun h0 => ?_, fun t ht => h.2 t (List.mem_of_mem_take ht)⟩
  rw [List.length_take] at h0
  obtain ⟨b, off, e, hl, hc⟩ := h.1 (by omega)
  refine ⟨b, off, e, hl, fun i hi => ?_⟩
  rw [List.length_take] at hi
  rw [List.getElem_take]
  exact hc i (by omega)
theorem RowT.cells {w : World} {ad : Addr} {L : List Tg} (h : RowT w (some ad) L) : ∀ j u, (tgCs L)[j]? = some u → w.cell? (ad.add j) = some u := by
  intro j u hj
  obtain ⟨i, hi', q⟩ := tgCs_of hj
  obtain ⟨b, off, e, _, hcell⟩ := h.1 (by omega)
  have e := Option.some.inj e
  subst e
  rw [addr_is]
  rcases q with ⟨rfl, rfl⟩ | ⟨rfl, rfl⟩
  · exact (hcell i hi').1
  · rw [← Nat.add_assoc]; exact (hcell i hi').2
theorem tgCs_one {L : List Tg} : ∀ u ∈ tgCs L, u.oneCell' = true := by
  intro u hu
  obtain ⟨j, hj⟩ := List.getElem?_of_mem hu
  obtain ⟨i, hi', q⟩ := tgCs_of hj
  rcases q with ⟨_, rfl⟩ | ⟨_, rfl⟩ <;> rfl
/-- tags appended to tags that the call owns. -/
theorem wp_tags {w : World} {o : Oper} {a : Act} {K : Act → World → Prop} {Q : Exit → Act → World → Prop} (s x : Operand)
    (ho : o.op = .call { callee := .builtin .append, args := #[s, x], argTypes := #[22, 22] })
    (base : Nat) (v : Value) (L M : List Tg) (hs : a.eval s = v) (hown : OwnT w base v L) (ao : Option Addr) (c m : Nat) (hx : a.eval x = .slice ao m c) (hm : M.length = m) (hn : ao = none → c = 0)
    (hc : RowT w ao M) (hl : L.length + M.length < 1000) (hbase : base ≤ w.heap.size)
    (h : ∀ v' w', OwnT w' base v' (L ++ M) → Below base w w' → K (a.put o.dst v') w') : o.wp Tryd.prog a w K Q := by
  obtain ⟨i0, hi, hz0, hz1, hz2⟩ := info_parts inf_tag
  subst hm
  cases ao with
  | none =>
    have hM0 : M = [] := by
      cases M with
      | nil => rfl
      | cons y M => obtain ⟨b, off, e, _⟩ := hc.1 (by simp); cases e
    subst hM0
    obtain rfl := hn rfl
    have hrun := run_append_owned_none (P := Tryd.prog) (w := w) base 22 o.type 32 i0 2 und_tags hi v _ _ hown
    have hx0 : a.eval x = .slice none 0 0 := hx
    unfold Oper.wp
    simp [execOp, ho, resolve, invoke, builtin, hs, hx0, hrun, Result.andThen]
    exact h v w (by rw [List.append_nil]; exact hown) (Below.refl _ _)
  | some ad =>
    refine wp_append_own w s x _ ho base _ i0 (.agg #[.string ⟨#[]⟩, .string ⟨#[]⟩]) 2 32 und_tags hi hz0 hz1 hz2 (by kernel_rfl) (by decide) v _ _ hs hown ad M.length c (tgCs M) hx (by rw [tgCs_len]) hc.cells tgCs_one ?_ ?_ hbase ?_
    · unfold maxLen; omega
    · omega
    · intro v' w' h1 h2 _
      refine h v' w' (by unfold OwnT tgCs; rw [List.length_append, List.flatMap_append]; exact h1) ((Below.refl base w).grown h2 hbase fun k hk => (hown.lt k hk).1)
/-- tags appended to a slice without room. -/
theorem wp_tags_grow {w : World} {o : Oper} {a : Act} {K : Act → World → Prop} {Q : Exit → Act → World → Prop} (s x : Operand)
    (ho : o.op = .call { callee := .builtin .append, args := #[s, x], argTypes := #[22, 22] })
    (L M : List Tg) (A : Option Addr) (n : Nat) (hs : a.eval s = .slice A n n) (hLn : L.length = n) (hA : RowT w A L) (ad : Addr) (c m : Nat) (hx : a.eval x = .slice (some ad) m c) (hm : M.length = m)
    (hc : RowT w (some ad) M) (h0 : 0 < M.length) (hl : L.length + M.length < 1000)
    (h : ∀ v' w', OwnT w' w.heap.size v' (L ++ M) → Below w.heap.size w w' → K (a.put o.dst v') w') : o.wp Tryd.prog a w K Q := by
  obtain ⟨i0, hi, hz0, hz1, hz2⟩ := info_parts inf_tag
  subst hm
  subst hLn
  cases A with
  | none =>
    have hL0 : L = [] := by
      cases L with
      | nil => rfl
      | cons y L => obtain ⟨b, off, e, _⟩ := hA.1 (by simp); cases e
    subst hL0
    exact wp_tags s x ho w.heap.size (.slice none 0 0) [] M hs (OwnT.nil _ _) (some ad) c _ hx rfl (fun e => by cases e) hc hl (Nat.le_refl _) h
  | some b =>
    obtain ⟨v', w', hrun, r1, r2⟩ := run_append_arg_grows (P := Tryd.prog) w 22 o.type 32 i0 (.agg #[.string ⟨#[]⟩, .string ⟨#[]⟩]) 2 32 und_tags hi hz0 hz1 hz2 (by kernel_rfl) (by decide) b L.length L.length (tgCs L) (by rw [tgCs_len]) hA.cells ad M.length c (tgCs M) (by rw [tgCs_len]) hc.cells (by omega) (by unfold maxLen; omega) (by omega)
    unfold Oper.wp
    simp [execOp, ho, resolve, invoke, builtin, hs, hx, hrun, Result.andThen]
    exact h v' w' (by unfold OwnT tgCs; rw [List.length_append, List.flatMap_append]; exact r1) ((Below.refl _ w).grown r2 (Nat.le_refl _) fun k hk => by cases hk)
theorem wanted_if {o : Oper} {a : Act} {ops : Array Oper} {X E : Prop} (hgd : o.guard = none) (h : X) : if Region.wanted o (yielded ops a.tmps) = true then X else E := by
  rw [if_pos (show Region.wanted o (yielded ops a.tmps) = true by simp [Region.wanted, hgd])]; exact h
set_option maxRecDepth 100000 in
set_option maxHeartbeats 3000000 in
theorem placed_any (A : Option Addr) (c : Nat) (L : List Tg) (t : Tg) (w : World) (hR : RowT w A L) (hn : L.length ≤ 100) (hcap : L.length ≤ c) (hnil : A = none → c = 0) (hS : SrtT L) (h1 : t.1.size ≤ 400) (h2 : t.2.size ≤ 400) :
    Calls Tryd.prog 25 #[.slice A L.length c, .agg #[.string t.1, .string t.2]] w fun e w' => ∃ v, e = .returned v ∧ OwnT w' w.heap.size v (putT L t) ∧ Below w.heap.size w w' := by
  obtain ⟨nm, va⟩ := t
  have HB0 := Lib.hid ((Below.refl w.heap.size w).alloc (Nat.le_refl _) (Obj.cells #[.string nm, .string va] 32))
  have HR := Lib.hid (hR.below HB0.out)
  have HP := Lib.hid (Pr2.alloc w (.string nm) (.string va) 32)
  have hq := HP.out
  have q0 := hq.c0
  have q1 := hq.c1
  have HZ := Lib.hid (show (w.alloc (Obj.cells #[.string nm, .string va] 32)).heap.size = w.heap.size + 1 by simp)
  have HN0 := Lib.hid hnil
  have HBs := Lib.hid (fun W (hr : RowT W A L) => bsf_any A c L nm W hr hn hS)
  have hle := lowI_le L nm
  have HUp := Lib.hid (upI_at L nm)
  have HPut := Lib.hid (fun k i (q1 : lowI L nm = k) (q2 : upI L nm = i) => put_is (L := L) (nm := nm) (va := va) q1 q2)
  have hat0 : atI L nm = true → lowI L nm < L.length := by
    intro q
    unfold atI at q
    rw [Bool.and_eq_true] at q
    simpa using q.1
  have HF := Lib.hid (HPut.out _ _ rfl rfl)
  rw [HUp.out] at HF
  clear hR hnil hS hq HUp HPut
  obtain ⟨k, hk⟩ : ∃ k, lowI L nm = k := ⟨_, rfl⟩
  obtain ⟨f, hf⟩ : ∃ f, atI L nm = f := ⟨_, rfl⟩
  rw [hk] at hle HBs hat0 HF
  rw [hf] at hat0 HBs HF
  clear hk hf
  have hkc : k ≤ c := by omega
  have HTk := Lib.hid (show (L.take k).length = k by rw [List.length_take]; omega)
  cases f
  · have HF2 := Lib.hid (show putT L (nm, va) = L.take k ++ [(nm, va)] ++ L.drop k from HF.out)
    clear HF hat0
    cases A with
    | none =>
      have hc0 : c = 0 := HN0.out rfl
      subst hc0
      have hL : L = [] := List.length_eq_zero_iff.1 (by omega)
      subst hL
      have hk0 : k = 0 := by simpa using hle
      subst hk0
      clear hcap hn hle
      go_enter Tryd.func25, Tryd.ntmps25
      go_wp2_with fail
      refine (HBs.out _ HR.out).mono ?_
      rintro e w2 ⟨rfl, hb⟩
      have HB1 := Lib.hid hb
      have hp := HP.out.below hb
      have d0 := hp.c0
      have d1 := hp.c1
      have hsz2 : w.heap.size + 1 ≤ w2.heap.size := by have q := hb.size; rw [HZ.out] at q; exact q
      clear hb hp q0 q1
      go_wp2_with fail
      have HB2 := Lib.hid (show Below (w.alloc (Obj.cells #[.string nm, .string va] 32)).heap.size (w.alloc (Obj.cells #[.string nm, .string va] 32)) w2.drew from HB1.out.drew)
      have HRW := Lib.hid (HR.out.below HB2.out)
      have HBa := Lib.hid ((Below.refl w2.drew.heap.size w2.drew).alloc (Nat.le_refl _) (Obj.cells #[.string nm, .string va] 32))
      have HOne := Lib.hid (row_one w2.drew nm va 32 h1 h2)
      go_region_law (refine wanted_if rfl ?_; first | (refine wp_tags_grow (.tmp 24) (.tmp 26) rfl (List.take 0 []) [(nm, va)] (none) 0 rfl HTk.out ((HRW.out.below HBa.out).take 0) ⟨w2.heap.size, 0, none⟩ 1 _ rfl rfl HOne.out (by simp) (by have := HTk.out; simp only [List.length_cons, List.length_nil]; omega) ?_; intro v1 w3 hown hbel; have HO3 := Lib.hid hown; have HB3 := Lib.hid (HB2.out.trans ((HBa.out.trans (hbel.mono HBa.out.size)).mono HB2.out.size)); have HRW3 := Lib.hid (HR.out.below HB3.out); have HSz := Lib.hid hbel.size; clear hown hbel) | (refine wp_tags (.tmp 27) (.tmp 28) rfl _ _ (List.take 0 [] ++ [(nm, va)]) (([] : List Tg).drop 0) rfl HO3.out (none) _ _ rfl (rfl) (fun _ => rfl) (row_none _ _ (by simp)) (by simp <;> omega) HSz.out ?_; intro v2 w4 hown hbel; rw [← HF2.out] at hown; have HO4 := Lib.hid hown; have HB4 := Lib.hid (HB3.out.trans (hbel.mono (by simp <;> omega))); clear hown hbel))
      all_goals
        go_wp2
        go_ret
        exact ⟨_, rfl, HO4.out.lower (by simp <;> omega), HB0.out.trans (HB4.out.mono (by have := HZ.out; omega))⟩
    | some ad =>
      by_cases hkl : k < L.length
      · obtain ⟨b, off, e, _, _⟩ := HR.out.1 (by omega)
        injection e with e
        subst e
        have hne : ¬ c = k := by omega
        go_enter Tryd.func25, Tryd.ntmps25
        go_wp2_with fail
        refine (HBs.out _ HR.out).mono ?_
        rintro e w2 ⟨rfl, hb⟩
        have HB1 := Lib.hid hb
        have hp := HP.out.below hb
        have d0 := hp.c0
        have d1 := hp.c1
        have hsz2 : w.heap.size + 1 ≤ w2.heap.size := by have q := hb.size; rw [HZ.out] at q; exact q
        clear hb hp q0 q1
        go_wp2_with fail
        have HB2 := Lib.hid (show Below (w.alloc (Obj.cells #[.string nm, .string va] 32)).heap.size (w.alloc (Obj.cells #[.string nm, .string va] 32)) w2.drew from HB1.out.drew)
        have HRW := Lib.hid (HR.out.below HB2.out)
        have HBa := Lib.hid ((Below.refl w2.drew.heap.size w2.drew).alloc (Nat.le_refl _) (Obj.cells #[.string nm, .string va] 32))
        have HOne := Lib.hid (row_one w2.drew nm va 32 h1 h2)
        go_region_law (refine wanted_if rfl ?_; first | (refine wp_tags_grow (.tmp 24) (.tmp 26) rfl (L.take k) [(nm, va)] (some ⟨b, off, none⟩) k rfl HTk.out ((HRW.out.below HBa.out).take k) ⟨w2.heap.size, 0, none⟩ 1 _ rfl rfl HOne.out (by simp) (by have := HTk.out; simp only [List.length_cons, List.length_nil]; omega) ?_; intro v1 w3 hown hbel; have HO3 := Lib.hid hown; have HB3 := Lib.hid (HB2.out.trans ((HBa.out.trans (hbel.mono HBa.out.size)).mono HB2.out.size)); have HRW3 := Lib.hid (HR.out.below HB3.out); have HSz := Lib.hid hbel.size; clear hown hbel) | (refine wp_tags (.tmp 27) (.tmp 28) rfl _ _ (L.take k ++ [(nm, va)]) (L.drop k) rfl HO3.out (some ⟨b, off + k * 2, none⟩) _ _ rfl (by rw [List.length_drop] <;> omega) (fun e => by cases e) (HRW3.out.drop k) (by simp <;> omega) HSz.out ?_; intro v2 w4 hown hbel; rw [← HF2.out] at hown; have HO4 := Lib.hid hown; have HB4 := Lib.hid (HB3.out.trans (hbel.mono (by simp <;> omega))); clear hown hbel))
        all_goals
          go_wp2
          go_ret
          exact ⟨_, rfl, HO4.out.lower (by simp <;> omega), HB0.out.trans (HB4.out.mono (by have := HZ.out; omega))⟩
      · have HDr := Lib.hid (show L.drop k = [] from List.drop_eq_nil_of_le (by omega))
        by_cases hce : c = k
        · obtain rfl : k = c := hce.symm
          go_enter Tryd.func25, Tryd.ntmps25
          go_wp2_with fail
          refine (HBs.out _ HR.out).mono ?_
          rintro e w2 ⟨rfl, hb⟩
          have HB1 := Lib.hid hb
          have hp := HP.out.below hb
          have d0 := hp.c0
          have d1 := hp.c1
          have hsz2 : w.heap.size + 1 ≤ w2.heap.size := by have q := hb.size; rw [HZ.out] at q; exact q
          clear hb hp q0 q1
          go_wp2_with fail
          have HB2 := Lib.hid (show Below (w.alloc (Obj.cells #[.string nm, .string va] 32)).heap.size (w.alloc (Obj.cells #[.string nm, .string va] 32)) w2.drew from HB1.out.drew)
          have HRW := Lib.hid (HR.out.below HB2.out)
          have HBa := Lib.hid ((Below.refl w2.drew.heap.size w2.drew).alloc (Nat.le_refl _) (Obj.cells #[.string nm, .string va] 32))
          have HOne := Lib.hid (row_one w2.drew nm va 32 h1 h2)
          go_region_law (refine wanted_if rfl ?_; first | (refine wp_tags_grow (.tmp 24) (.tmp 26) rfl (L.take k) [(nm, va)] (some ad) k rfl HTk.out ((HRW.out.below HBa.out).take k) ⟨w2.heap.size, 0, none⟩ 1 _ rfl rfl HOne.out (by simp) (by have := HTk.out; simp only [List.length_cons, List.length_nil]; omega) ?_; intro v1 w3 hown hbel; have HO3 := Lib.hid hown; have HB3 := Lib.hid (HB2.out.trans ((HBa.out.trans (hbel.mono HBa.out.size)).mono HB2.out.size)); have HRW3 := Lib.hid (HR.out.below HB3.out); have HSz := Lib.hid hbel.size; clear hown hbel) | (refine wp_tags (.tmp 27) (.tmp 28) rfl _ _ (L.take k ++ [(nm, va)]) (L.drop k) rfl HO3.out (some ad) _ _ rfl (by rw [List.length_drop] <;> omega) (fun e => by cases e) (row_none _ _ HDr.out) (by simp <;> omega) HSz.out ?_; intro v2 w4 hown hbel; rw [← HF2.out] at hown; have HO4 := Lib.hid hown; have HB4 := Lib.hid (HB3.out.trans (hbel.mono (by simp <;> omega))); clear hown hbel))
          all_goals
            go_wp2
            go_ret
            exact ⟨_, rfl, HO4.out.lower (by simp <;> omega), HB0.out.trans (HB4.out.mono (by have := HZ.out; omega))⟩
        · go_enter Tryd.func25, Tryd.ntmps25
          go_wp2_with fail
          refine (HBs.out _ HR.out).mono ?_
          rintro e w2 ⟨rfl, hb⟩
          have HB1 := Lib.hid hb
          have hp := HP.out.below hb
          have d0 := hp.c0
          have d1 := hp.c1
          have hsz2 : w.heap.size + 1 ≤ w2.heap.size := by have q := hb.size; rw [HZ.out] at q; exact q
          clear hb hp q0 q1
          go_wp2_with fail
          have HB2 := Lib.hid (show Below (w.alloc (Obj.cells #[.string nm, .string va] 32)).heap.size (w.alloc (Obj.cells #[.string nm, .string va] 32)) w2.drew from HB1.out.drew)
          have HRW := Lib.hid (HR.out.below HB2.out)
          have HBa := Lib.hid ((Below.refl w2.drew.heap.size w2.drew).alloc (Nat.le_refl _) (Obj.cells #[.string nm, .string va] 32))
          have HOne := Lib.hid (row_one w2.drew nm va 32 h1 h2)
          go_region_law (refine wanted_if rfl ?_; first | (refine wp_tags_grow (.tmp 24) (.tmp 26) rfl (L.take k) [(nm, va)] (some ad) k rfl HTk.out ((HRW.out.below HBa.out).take k) ⟨w2.heap.size, 0, none⟩ 1 _ rfl rfl HOne.out (by simp) (by have := HTk.out; simp only [List.length_cons, List.length_nil]; omega) ?_; intro v1 w3 hown hbel; have HO3 := Lib.hid hown; have HB3 := Lib.hid (HB2.out.trans ((HBa.out.trans (hbel.mono HBa.out.size)).mono HB2.out.size)); have HRW3 := Lib.hid (HR.out.below HB3.out); have HSz := Lib.hid hbel.size; clear hown hbel) | (refine wp_tags (.tmp 27) (.tmp 28) rfl _ _ (L.take k ++ [(nm, va)]) (L.drop k) rfl HO3.out (some _) _ _ rfl (by rw [List.length_drop] <;> omega) (fun e => by cases e) (row_none _ _ HDr.out) (by simp <;> omega) HSz.out ?_; intro v2 w4 hown hbel; rw [← HF2.out] at hown; have HO4 := Lib.hid hown; have HB4 := Lib.hid (HB3.out.trans (hbel.mono (by simp <;> omega))); clear hown hbel))
          all_goals
            go_wp2
            go_ret
            exact ⟨_, rfl, HO4.out.lower (by simp <;> omega), HB0.out.trans (HB4.out.mono (by have := HZ.out; omega))⟩
  · have hkl : k < L.length := hat0 rfl
    have HF2 := Lib.hid (show putT L (nm, va) = L.take k ++ [(nm, va)] ++ (L.drop k).drop 1 by rw [List.drop_drop]; exact HF.out)
    clear HF hat0
    cases A with
    | none =>
      exact absurd (HN0.out rfl) (by omega)
    | some ad =>
      obtain ⟨b, off, e, _, _⟩ := HR.out.1 (by omega)
      injection e with e
      subst e
      by_cases hce : c = k + 1
      · subst hce
        have hkc1 : (k : Int) ≤ (k : Int) + 1 := by omega
        go_enter Tryd.func25, Tryd.ntmps25
        go_wp2_with fail
        refine (HBs.out _ HR.out).mono ?_
        rintro e w2 ⟨rfl, hb⟩
        have HB1 := Lib.hid hb
        have hp := HP.out.below hb
        have d0 := hp.c0
        have d1 := hp.c1
        have hsz2 : w.heap.size + 1 ≤ w2.heap.size := by have q := hb.size; rw [HZ.out] at q; exact q
        clear hb hp q0 q1
        go_wp2_with fail
        have HB2 := Lib.hid (show Below (w.alloc (Obj.cells #[.string nm, .string va] 32)).heap.size (w.alloc (Obj.cells #[.string nm, .string va] 32)) w2.drew from HB1.out.drew)
        have HRW := Lib.hid (HR.out.below HB2.out)
        have HBa := Lib.hid ((Below.refl w2.drew.heap.size w2.drew).alloc (Nat.le_refl _) (Obj.cells #[.string nm, .string va] 32))
        have HOne := Lib.hid (row_one w2.drew nm va 32 h1 h2)
        go_region_law (refine wanted_if rfl ?_; first | (refine wp_tags_grow (.tmp 24) (.tmp 26) rfl (L.take k) [(nm, va)] (some ⟨b, off, none⟩) k rfl HTk.out ((HRW.out.below HBa.out).take k) ⟨w2.heap.size, 0, none⟩ 1 _ rfl rfl HOne.out (by simp) (by have := HTk.out; simp only [List.length_cons, List.length_nil]; omega) ?_; intro v1 w3 hown hbel; have HO3 := Lib.hid hown; have HB3 := Lib.hid (HB2.out.trans ((HBa.out.trans (hbel.mono HBa.out.size)).mono HB2.out.size)); have HRW3 := Lib.hid (HR.out.below HB3.out); have HSz := Lib.hid hbel.size; clear hown hbel) | (refine wp_tags (.tmp 27) (.tmp 28) rfl _ _ (L.take k ++ [(nm, va)]) ((L.drop k).drop 1) rfl HO3.out (some _) _ _ rfl (by rw [List.length_drop, List.length_drop] <;> omega) (fun e => by cases e) (row_none _ _ (by rw [List.drop_drop]; exact List.drop_eq_nil_of_le (by omega))) (by simp <;> omega) HSz.out ?_; intro v2 w4 hown hbel; rw [← HF2.out] at hown; have HO4 := Lib.hid hown; have HB4 := Lib.hid (HB3.out.trans (hbel.mono (by simp <;> omega))); clear hown hbel))
        all_goals
          go_wp2
          go_ret
          exact ⟨_, rfl, HO4.out.lower (by simp <;> omega), HB0.out.trans (HB4.out.mono (by have := HZ.out; omega))⟩
      · have hne : ¬ c = k := by omega
        have hne1 : ¬ c - k = 1 := by omega
        go_enter Tryd.func25, Tryd.ntmps25
        go_wp2_with fail
        refine (HBs.out _ HR.out).mono ?_
        rintro e w2 ⟨rfl, hb⟩
        have HB1 := Lib.hid hb
        have hp := HP.out.below hb
        have d0 := hp.c0
        have d1 := hp.c1
        have hsz2 : w.heap.size + 1 ≤ w2.heap.size := by have q := hb.size; rw [HZ.out] at q; exact q
        clear hb hp q0 q1
        go_wp2_with fail
        have HB2 := Lib.hid (show Below (w.alloc (Obj.cells #[.string nm, .string va] 32)).heap.size (w.alloc (Obj.cells #[.string nm, .string va] 32)) w2.drew from HB1.out.drew)
        have HRW := Lib.hid (HR.out.below HB2.out)
        have HBa := Lib.hid ((Below.refl w2.drew.heap.size w2.drew).alloc (Nat.le_refl _) (Obj.cells #[.string nm, .string va] 32))
        have HOne := Lib.hid (row_one w2.drew nm va 32 h1 h2)
        go_region_law (refine wanted_if rfl ?_; first | (refine wp_tags_grow (.tmp 24) (.tmp 26) rfl (L.take k) [(nm, va)] (some ⟨b, off, none⟩) k rfl HTk.out ((HRW.out.below HBa.out).take k) ⟨w2.heap.size, 0, none⟩ 1 _ rfl rfl HOne.out (by simp) (by have := HTk.out; simp only [List.length_cons, List.length_nil]; omega) ?_; intro v1 w3 hown hbel; have HO3 := Lib.hid hown; have HB3 := Lib.hid (HB2.out.trans ((HBa.out.trans (hbel.mono HBa.out.size)).mono HB2.out.size)); have HRW3 := Lib.hid (HR.out.below HB3.out); have HSz := Lib.hid hbel.size; clear hown hbel) | (refine wp_tags (.tmp 27) (.tmp 28) rfl _ _ (L.take k ++ [(nm, va)]) ((L.drop k).drop 1) rfl HO3.out (some ⟨b, off + k * 2 + 1 * 2, none⟩) _ _ rfl (by rw [List.length_drop, List.length_drop] <;> omega) (fun e => by cases e) ((HRW3.out.drop k).drop 1) (by simp <;> omega) HSz.out ?_; intro v2 w4 hown hbel; rw [← HF2.out] at hown; have HO4 := Lib.hid hown; have HB4 := Lib.hid (HB3.out.trans (hbel.mono (by simp <;> omega))); clear hown hbel))
        all_goals
          go_wp2
          go_ret
          exact ⟨_, rfl, HO4.out.lower (by simp <;> omega), HB0.out.trans (HB4.out.mono (by have := HZ.out; omega))⟩
end Go.Proofs.YtjoinifjkpaapaaDoor
