/- What largestFirst of package split returns. -/
import Derived.Test.YtmehihfdfpnfjaaSpL
import Derived.Laws.CopyOwn
namespace Go.Proofs.Ytmehihfdfpnfjaa
open Go.RowKit Go.Sort
set_option linter.unusedVariables false
set_option linter.unusedSimpArgs false

/-- the cells of the table r. -/
def tabC (r : Nat → Int) (t : Nat) : Value := if t % 2 = 0 then .int .i64 ((t / 2 : Nat) : Int) else .int .i64 (r (t / 2))
def tabL (r : Nat → Int) (n : Nat) : List Value := (List.range (n * 2)).map (tabC r)
theorem tabL_len (r : Nat → Int) (n : Nat) : (tabL r n).length = n * 2 := by simp [tabL]
theorem tabL_at {r : Nat → Int} {n j : Nat} {v : Value} (h : (tabL r n)[j]? = some v) : j < n * 2 ∧ v = tabC r j := by
  unfold tabL at h
  rw [List.getElem?_map] at h
  by_cases q : j < n * 2
  · rw [List.getElem?_range q] at h
    exact ⟨q, by simpa using h.symm⟩
  · rw [List.getElem?_eq_none (by simp; omega)] at h; cases h
theorem tabL_get (r : Nat → Int) {n j : Nat} (h : j < n * 2) : (tabL r n)[j]? = some (tabC r j) := by
  unfold tabL
  rw [List.getElem?_map, List.getElem?_range h]; rfl
theorem Prs.tab {w : World} {P n : Nat} {r : Nat → Int} (h : Prs w P n r (fun k => k)) {j : Nat} (hj : j < n * 2) : w.cell? ⟨P, j, none⟩ = some (tabC r j) := by
  unfold tabC
  by_cases e : j % 2 = 0
  · rw [if_pos e]
    have := h.c0 (j / 2) (by omega)
    rwa [show j / 2 * 2 = j by omega] at this
  · rw [if_neg e]
    have := h.c1 (j / 2) (by omega)
    rwa [show j / 2 * 2 + 1 = j by omega] at this
theorem prs_of {w : World} {P n : Nat} {r : Nat → Int} {t : TypeId} (h : w.heap[P]? = some (.cells (tabL r n).toArray t (0, 0))) : Prs w P n r (fun k => k) := by
  have hl : P < w.heap.size := lt_of_block h
  have hc : ∀ j, j < n * 2 → w.cell? ⟨P, j, none⟩ = some (tabC r j) := fun j hj => by
    unfold World.cell?
    rw [h]
    simpa using tabL_get r hj
  refine ⟨hl, fun k hk => ?_, fun k hk => ?_, fun k hk => by unfold World.frozen?; rw [h]; simp, fun k hk => by unfold World.frozen?; rw [h]; simp⟩
  · rw [hc _ (by omega)]; unfold tabC; rw [if_pos (by omega), show k * 2 / 2 = k by omega]
  · rw [hc _ (by omega)]; unfold tabC; rw [if_neg (by omega), show (k * 2 + 1) / 2 = k by omega]
theorem run_copy_two {P : Program} (w : World) (dT sT ty elem : TypeId) (g dLen dCap : Nat) (a : Addr) (sLen sCap n : Nat) (cur : Array Value) (t : TypeId) (cs : List Value)
    (hu : P.underlying dT = some (.slice elem)) (hs : (P.info? elem).map (·.size) = some 2) (hg : w.heap[g]? = some (.cells cur t (0, 0))) (hn : Nat.min sLen dLen = n) (hl2 : cs.length = n * 2)
    (hsrc : ∀ j v, cs[j]? = some v → w.cell? (a.add j) = some v) (hfit : cs.length = cur.size) (h1 : ∀ v ∈ cs, v.oneCell' = true) :
    (Builtin.copy_ #[dT, sT] ty #[.slice (some ⟨g, 0, none⟩) dLen dCap, .slice (some a) sLen sCap]).run P w = .ok (goInt n) (w.setRow g cs.toArray) := by
  have hl := run_loadCells_list (P := P) w a cs hsrc
  have hst : (storeCells ⟨g, 0, none⟩ cs 0).run P w = .ok () (w.setRow g cs.toArray) := by
    have q := run_storeCells_at P g 0 t cs 0 cur w hg (by simp; omega) h1
    have he : cur.toList.take (0 + 0) ++ cs ++ cur.toList.drop (0 + 0 + cs.length) = cs := by
      rw [List.drop_eq_nil_of_le (by simp; omega)]; simp
    rw [he] at q; exact q
  cases hq : P.info? elem with
  | none => simp [hq] at hs
  | some i =>
    have hi : i.size = 2 := by simpa [hq] using hs
    rw [hl2] at hl
    simp [Builtin.copy_, run_underlying hu, Builtin.lenOf, Builtin.firstCells, sizeOf, typeInfo, hq, hi, hn, hl, hst]
theorem wpList_copy_two {P : Program} {w : World} {ops : Array Oper} {rest : List Oper} {o : Oper} {a : Act} {Q : Exit → Act → World → Prop} (hgd : o.guard = none) (d s : Operand) (dT sT : TypeId)
    (ho : o.op = .call { callee := .builtin .copy, args := #[d, s], argTypes := #[dT, sT] }) (elem : TypeId) (hu : P.underlying dT = some (.slice elem)) (hsz : (P.info? elem).map (·.size) = some 2)
    (g dLen dCap : Nat) (ad : Addr) (sLen sCap n : Nat) (hd : a.eval d = .slice (some ⟨g, 0, none⟩) dLen dCap) (hs : a.eval s = .slice (some ad) sLen sCap)
    (cur : Array Value) (t : TypeId) (hg : w.heap[g]? = some (.cells cur t (0, 0))) (cs : List Value) (hn : Nat.min sLen dLen = n) (hl2 : cs.length = n * 2)
    (hsrc : ∀ j v, cs[j]? = some v → w.cell? (ad.add j) = some v) (hfit : cs.length = cur.size) (h1 : ∀ v ∈ cs, v.oneCell' = true)
    (h : wpList P ops Q rest (a.put o.dst (goInt n)) (w.setRow g cs.toArray)) : wpList P ops Q (o :: rest) a w := by
  refine wpList_plain hgd fun K hK => ?_
  have hrun := run_copy_two (P := P) w dT sT o.type elem g dLen dCap ad sLen sCap n cur t cs hu hsz hg hn hl2 hsrc hfit h1
  unfold Oper.wp
  simp [execOp, ho, resolve, invoke, builtin, hd, hs, hrun, Result.andThen]
  exact hK _ _ h
theorem und_rem : Try.prog.underlying 87 = some (.slice 90) := by kernel_rfl
theorem inf_rem : (Try.prog.info? 90).map (fun i => (i.zero, i.size, i.bytes)) = some (some (.agg #[.int .i64 0, .int .i64 0]), 2, 16) := by kernel_rfl
theorem siz_rem : (Try.prog.info? 90).map (·.size) = some 2 := by kernel_rfl
set_option maxRecDepth 100000 in
set_option maxHeartbeats 4000000 in
theorem largestFirst_any (R n c : Nat) (r : Nat → Int) (w : World) (hn0 : 0 < n) (hn : n ≤ 200) (hp : Prs w R n r (fun k => k)) :
    Calls Try.prog 71 #[.slice (some ⟨R, 0, none⟩) n c] w fun e w' => ∃ P σ, e = .returned (.slice (some ⟨P, 0, none⟩) n n) ∧ w.heap.size ≤ P ∧ Srt r σ 0 n ∧ Prm n σ ∧ Prs w' P n r σ ∧ Below w.heap.size w w' := by
  obtain ⟨i0, hi, hz0, hz1, hz2⟩ := info_parts inf_rem
  have HP := Lib.hid hp
  clear hp
  go_enter Try.func71, Try.ntmps71
  go_wp2_with (at_make; refine wpList_make_full _ rfl _ _ 87 rfl w.heap.size 90 i0 (.agg #[.int .i64 0, .int .i64 0]) 2 und_rem hi hz0 hz1 _ _ _ _ n rfl rfl rfl rfl ?_ ?_ ?_ ?_)
  · rw [hz2]; omega
  · unfold maxLen; omega
  · exact Nat.le_refl _
  intro w1 hown hgr
  have HB0 := Lib.hid (show Below w.heap.size w w1 from (Below.refl _ _).grown hgr (Nat.le_refl _) (by simp))
  have hcur : ∃ cur, w1.heap[w.heap.size]? = some (.cells cur 90 (0, 0)) ∧ cur.size = n * 2 := by
    rcases hown.2 with ⟨e, _⟩ | ⟨g, cap, cur, e, _, e3, _, _, e5, _⟩
    · cases e
    · injection e with e1 e2 e4
      injection e1 with e1
      injection e1 with e1
      subst e1 e4
      exact ⟨cur, e3, e5⟩
  obtain ⟨cur, hcur, hsz⟩ := hcur
  have HCu := Lib.hid hcur
  clear hown hgr hcur
  have HSr := Lib.hid (fun j v (h : (tabL r n)[j]? = some v) => show w1.cell? ((⟨R, 0, none⟩ : Addr).add j) = some v by
    obtain ⟨h1, rfl⟩ := tabL_at h
    rw [addr_is, Nat.zero_add, HB0.out.cell HP.out.lt]; exact HP.out.tab h1)
  have HOn := Lib.hid (show ∀ v ∈ tabL r n, v.oneCell' = true from fun v hv => by
    unfold tabL at hv
    obtain ⟨t, _, rfl⟩ := List.mem_map.1 hv
    unfold tabC; split <;> rfl)
  go_wp2_with (refine wpList_copy_two rfl (.tmp 7) (.tmp 8) 87 87 rfl 90 und_rem siz_rem w.heap.size n n ⟨R, 0, none⟩ n c n rfl rfl cur 90 HCu.out (tabL r n) (Nat.min_self n) (tabL_len r n) HSr.out (by rw [tabL_len, hsz]) HOn.out ?_)
  have hg2 := setRow_heap w1 w.heap.size cur (tabL r n).toArray 90 _ HCu.out
  have HB1 := Lib.hid (below_setRow HB0.out (Nat.le_refl _) (tabL r n).toArray)
  have HP1 := Lib.hid (prs_of hg2)
  clear hg2
  generalize w1.setRow w.heap.size (tabL r n).toArray = w2 at *
  have HS := Lib.hid (sortStable_any w.heap.size n n r w2 hn (Nat.le_refl _) HP1.out)
  go_wp2_with fail
  refine HS.out.mono ?_
  rintro e w3 ⟨rfl, σ, h1, h2, h3, h4⟩
  go_wp2
  go_ret
  exact ⟨w.heap.size, σ, rfl, Nat.le_refl _, h1, h2, h3, HB1.out.trans h4⟩
end Go.Proofs.Ytmehihfdfpnfjaa
