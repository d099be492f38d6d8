/- Tags that a call gathers: append. -/
import Derived.Test.YtjoinifjkpaapaaDoorDiE
namespace Go.Proofs.YtjoinifjkpaapaaDoor
open Go.RowKit Go.Sort
set_option linter.unusedVariables false
set_option linter.unusedSimpArgs false

def tgC (t : Tg) : List Value := [.string t.1, .string t.2]
def tgCs (L : List Tg) : List Value := L.flatMap tgC
theorem tgCs_len (L : List Tg) : (tgCs L).length = L.length * 2 := by
  induction L with
  | nil => rfl
  | cons t L ih =>
    have e : tgCs (t :: L) = tgC t ++ tgCs L := rfl
    rw [e, List.length_append, ih]; simp [tgC]; omega
theorem tgCs_get : ∀ (L : List Tg) (i : Nat) (h : i < L.length), (tgCs L)[i * 2]? = some (.string L[i].1) ∧ (tgCs L)[i * 2 + 1]? = some (.string L[i].2)
  | [], i, h => by simp at h
  | t :: L, 0, h => ⟨rfl, rfl⟩
  | t :: L, i + 1, h => by
    obtain ⟨h1, h2⟩ := tgCs_get L i (by simpa using h)
    have e : tgCs (t :: L) = .string t.1 :: .string t.2 :: tgCs L := rfl
    rw [e, show (i + 1) * 2 = i * 2 + 1 + 1 by omega]
    exact ⟨by simpa using h1, by simpa using h2⟩
theorem tgCs_of {L : List Tg} {j : Nat} {u : Value} (h : (tgCs L)[j]? = some u) : ∃ i, ∃ hi : i < L.length, (j = i * 2 ∧ u = .string L[i].1) ∨ (j = i * 2 + 1 ∧ u = .string L[i].2) := by
  have hj := (List.getElem?_eq_some_iff.1 h).1
  rw [tgCs_len] at hj
  have hi : j / 2 < L.length := by omega
  obtain ⟨g1, g2⟩ := tgCs_get L (j / 2) hi
  refine ⟨j / 2, hi, ?_⟩
  rcases Nat.mod_two_eq_zero_or_one j with q | q
  · left
    have e : j = j / 2 * 2 := by omega
    rw [← e, h] at g1
    exact ⟨e, Option.some.inj g1⟩
  · right
    have e : j = j / 2 * 2 + 1 := by omega
    rw [← e, h] at g2
    exact ⟨e, Option.some.inj g2⟩
/-- tags that the call owns. -/
def OwnT (w : World) (base : Nat) (v : Value) (L : List Tg) : Prop := w.ownsRow base 32 2 v L.length (tgCs L)
theorem OwnT.nil (w : World) (base : Nat) : OwnT w base (.slice none 0 0) [] := World.ownsRow_nil w base _ 2
theorem OwnT.shape {w : World} {base : Nat} {v : Value} {L : List Tg} (h : OwnT w base v L) : ∃ ao cap, v = .slice ao L.length cap ∧ (ao = none → cap = 0) ∧ L.length ≤ cap := by
  rcases h.2 with ⟨e, n⟩ | ⟨g, cap, cur, e, _, _, hc, _⟩
  · exact ⟨none, 0, by rw [e, n], fun _ => rfl, by omega⟩
  · exact ⟨_, cap, e, fun q => (by cases q), hc⟩
theorem OwnT.below {w w' : World} {base : Nat} {v : Value} {L : List Tg} (h : OwnT w base v L) (hb : Below w.heap.size w w') : OwnT w' base v L := by
  refine ⟨h.1, ?_⟩
  rcases h.2 with x | ⟨g, cap, cur, e1, e2, e3, e4⟩
  · exact .inl x
  · exact .inr ⟨g, cap, cur, e1, e2, by rw [hb.block g (lt_of_block e3)]; exact e3, e4⟩
theorem OwnT.lower {w : World} {base base' : Nat} {v : Value} {L : List Tg} (h : OwnT w base v L) (hb : base' ≤ base) : OwnT w base' v L := by
  refine ⟨h.1, ?_⟩
  rcases h.2 with x | ⟨g, cap, cur, e1, e2, e3, e4⟩
  · exact .inl x
  · exact .inr ⟨g, cap, cur, e1, Nat.le_trans hb e2, e3, e4⟩
theorem OwnT.row {w : World} {base : Nat} {ao : Option Addr} {n cap : Nat} {L : List Tg} (h : OwnT w base (.slice ao n cap) L) (hb : ∀ t ∈ L, t.1.size ≤ 400 ∧ t.2.size ≤ 400) : RowT w ao L := by
  refine ⟨fun h0 => ?_, hb⟩
  have h' := h
  rcases h.2 with ⟨e, n⟩ | ⟨g, cap, cur, e, _, e3, _⟩
  · omega
  · injection e with e1 e2 e4
    subst e1
    refine ⟨g, 0, rfl, lt_of_block e3, fun i hi => ?_⟩
    obtain ⟨g1, g2⟩ := tgCs_get L i hi
    have q1 := World.ownsRow.cells h' (g := g) rfl _ _ g1
    have q2 := World.ownsRow.cells h' (g := g) rfl _ _ g2
    rw [addr_is] at q1 q2
    exact ⟨q1, by rw [Nat.add_assoc]; exact q2⟩
theorem und_tags : Tryd.prog.underlying 22 = some (.slice 32) := by kernel_rfl
theorem inf_tag : (Tryd.prog.info? 32).map (fun i => (i.zero, i.size, i.bytes)) = some (some (.agg #[.string ⟨#[]⟩, .string ⟨#[]⟩]), 2, 32) := by kernel_rfl
/-- tags appended. -/
theorem wpList_tags {w : World} {ops : Array Oper} {rest : List Oper} {o : Oper} {a : Act} {Q : Exit → Act → World → Prop} (hgd : o.guard = none) (s x : Operand)
    (ho : o.op = .call { callee := .builtin .append, args := #[s, x], argTypes := #[22, 22] })
    (base : Nat) (v : Value) (L M : List Tg) (hs : a.eval s = v) (hown : OwnT w base v L) (ao : Option Addr) (c : Nat) (hx : a.eval x = .slice ao M.length c) (hn : ao = none → c = 0)
    (hc : RowT w ao M) (hl : L.length + M.length < 1000) (hbase : base ≤ w.heap.size)
    (h : ∀ v' w', OwnT w' base v' (L ++ M) → Below base w w' → wpList Tryd.prog ops Q rest (a.put o.dst v') w') : wpList Tryd.prog ops Q (o :: rest) a w := by
  obtain ⟨i0, hi, hz0, hz1, hz2⟩ := info_parts inf_tag
  cases ao with
  | none =>
    have hM0 : M = [] := by
      cases M with
      | nil => rfl
      | cons y M => obtain ⟨b, off, e, _⟩ := hc.1 (by simp); cases e
    subst hM0
    obtain rfl := hn rfl
    have hrun := run_append_owned_none (P := Tryd.prog) (w := w) base 22 o.type 32 i0 2 und_tags hi v _ _ hown
    have hx0 : a.eval x = .slice none 0 0 := hx
    refine wpList_plain hgd fun K hK => ?_
    unfold Oper.wp
    simp [execOp, ho, resolve, invoke, builtin, hs, hx0, hrun, Result.andThen]
    exact hK _ _ (h v w (by rw [List.append_nil]; exact hown) (Below.refl _ _))
  | some ad =>
    refine wpList_append_own w hgd s x _ ho base _ i0 (.agg #[.string ⟨#[]⟩, .string ⟨#[]⟩]) 2 32 und_tags hi hz0 hz1 hz2 (by kernel_rfl) (by decide) v _ _ hs hown ad M.length c (tgCs M) hx (by rw [tgCs_len]) ?_ ?_ ?_ ?_ hbase ?_
    · intro j u hj
      obtain ⟨i, hi', q⟩ := tgCs_of hj
      obtain ⟨b, off, e, _, hcell⟩ := hc.1 (by omega)
      have e := Option.some.inj e
      subst e
      rw [addr_is]
      rcases q with ⟨rfl, rfl⟩ | ⟨rfl, rfl⟩
      · exact (hcell i hi').1
      · rw [← Nat.add_assoc]; exact (hcell i hi').2
    · intro u hu
      obtain ⟨j, hj⟩ := List.getElem?_of_mem hu
      obtain ⟨i, hi', q⟩ := tgCs_of hj
      rcases q with ⟨_, rfl⟩ | ⟨_, rfl⟩ <;> rfl
    · unfold maxLen; omega
    · omega
    · intro v' w' h1 h2 _
      refine h v' w' (by unfold OwnT tgCs; rw [List.length_append, List.flatMap_append]; exact h1) ((Below.refl base w).grown h2 hbase fun k hk => (hown.lt k hk).1)
end Go.Proofs.YtjoinifjkpaapaaDoor
