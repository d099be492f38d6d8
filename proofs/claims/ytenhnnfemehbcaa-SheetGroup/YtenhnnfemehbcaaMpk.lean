/- Maps with keys of any kind, as functions of the key. No conditions. -/
import Derived.Test.YtenhnnfemehbcaaMps
import Derived.Maps.RangeWalk
import Derived.DeepKeys4
import Derived.WideKeyEntry
namespace Go.Proofs.Ytenhnnfemehbcaa
open Go.RowKit Go.Maps
set_option linter.unusedVariables false
set_option linter.unusedSimpArgs false

variable {α κ : Type}
/-- block b is a map of at most n entries, with element g s at key s. -/
def MapK (E : Els α) (kv : κ → Value) (w : World) (k : TypeId) (b n : Nat) (g : κ → Option α) : Prop :=
  ∃ D : DataW Unit, w.ownsMap Try.prog k E.rd b n D ∧ ∀ s l, keyOf Try.prog k (kv s) = some l → Maps.has D l = (g s).isSome ∧ ∀ a, g s = some a → ∀ z, D.atKey l z = E.dat a
def updK [DecidableEq κ] (g : κ → Option α) (s : κ) (a : α) : κ → Option α := fun t => if t = s then some a else g t
variable {kv : κ → Value}
theorem MapK.made (E : Els α) (kv : κ → Value) (w : World) (k : TypeId) : MapK E kv (w.alloc (.map #[] 0)) k w.heap.size 0 (fun _ => none) :=
  ⟨_, World.ownsMap_made w _ k _, fun s l hl => ⟨rfl, fun a h => by cases h⟩⟩
theorem MapK.lt {E : Els α} {w : World} {k : TypeId} {b n : Nat} {g : κ → Option α} (h : MapK E kv w k b n g) : b < w.heap.size := by
  obtain ⟨D, ho, _⟩ := h; exact ho.lt
theorem MapK.kept {E : Els α} {w w' : World} {k : TypeId} {b n : Nat} {g : κ → Option α} {row : Option Nat} (h : MapK E kv w k b n g) (hg : w.grownBy w' row) (hne : some b ≠ row) : MapK E kv w' k b n g := by
  obtain ⟨D, ho, hs⟩ := h; exact ⟨D, ho.kept hg hne, hs⟩
theorem MapK.below {E : Els α} {w w' : World} {k : TypeId} {b n N : Nat} {g : κ → Option α} (h : MapK E kv w k b n g) (hb : Below N w w') (hN : b < N) : MapK E kv w' k b n g := by
  obtain ⟨D, ho, hs⟩ := h
  obtain ⟨es, clock, h1, F, h2, h3⟩ := ho
  exact ⟨D, ⟨es, clock, (hb.block b hN).trans h1, F, h2, h3⟩, hs⟩
theorem MapK.look {E : Els α} {w : World} {k t e : TypeId} {b n : Nat} {g : κ → Option α} (h : MapK E kv w k b n g) (K : Keyed Try.prog k) (ht : Try.prog.underlying t = some (.map k e)) (hz : (zeroValue e).run Try.prog w = .ok (E.enc E.zero) w)
    (s : κ) (l : Lit) (hkey : keyOf Try.prog k (kv s) = some l) : (Instr.lookup t (.map (some b)) (kv s) false).run Try.prog w = .ok (E.enc ((g s).getD E.zero)) w ∧
      (Instr.lookup t (.map (some b)) (kv s) true).run Try.prog w = .ok (.tuple #[E.enc ((g s).getD E.zero), .bool (g s).isSome]) w := by
  obtain ⟨D, ho, hg⟩ := h
  obtain ⟨h1, h2⟩ := hg s l hkey
  have val : ∀ v ps, E.rd v = some (D.atKey l (E.dat E.zero), ps) → v = E.enc ((g s).getD E.zero) := by
    intro v ps hv
    obtain ⟨a, rfl, ha⟩ := E.inv _ _ hv
    have ha : D.atKey l (E.dat E.zero) = E.dat a := ha
    cases q : g s with
    | none =>
      rw [q] at h1
      rw [Maps.atKey_of_not_has (by simpa using h1)] at ha
      rw [E.inj _ _ ha]; rfl
    | some c =>
      rw [h2 c q] at ha
      rw [E.inj _ _ ha]; rfl
  constructor
  · obtain ⟨v, ps, hr, hv⟩ := ho.lookup K ht hz (E.is _) hkey
    rw [hr, val v ps hv]
  · obtain ⟨v, ps, hr, hv⟩ := ho.look_ok K ht hz (E.is _) hkey
    rw [hr, val v ps hv, h1]
theorem wpList_lookK {w : World} {ops : Array Oper} {rest : List Oper} {o : Oper} {a : Act} {Q : Exit → Act → World → Prop} (hgd : o.guard = none) (m x : Operand) (t : TypeId) (hop : o.op = Op.lookup t m x false)
    (E : Els α) (k e : TypeId) (K : Keyed Try.prog k) (ht : Try.prog.underlying t = some (.map k e)) (hz : (zeroValue e).run Try.prog w = .ok (E.enc E.zero) w) (b n : Nat) (g : κ → Option α)
    (hm : a.eval m = .map (some b)) (h : MapK E kv w k b n g) (s : κ) (l : Lit) (hx : a.eval x = kv s) (hkey : keyOf Try.prog k (kv s) = some l)
    (hK : wpList Try.prog ops Q rest (a.put o.dst (E.enc ((g s).getD E.zero))) w) : wpList Try.prog ops Q (o :: rest) a w := by
  refine wpList_plain hgd fun K' hK' => ?_
  have hrun := (h.look K ht hz s l hkey).1
  unfold Oper.wp
  simp [execOp, hop, hm, hx, hrun, Result.andThen]
  exact hK' _ _ hK
theorem wpList_updK [DecidableEq κ] {w : World} {ops : Array Oper} {rest : List Oper} {o : Oper} {a : Act} {Q : Exit → Act → World → Prop} (hgd : o.guard = none) (m x v : Operand) (t : TypeId) (hop : o.op = Op.mapUpdate t m x v)
    (E : Els α) (k e : TypeId) (K : Keyed Try.prog k) (hinj : ∀ a b : κ, kv a = kv b → a = b) (ht : Try.prog.underlying t = some (.map k e)) (b n : Nat) (g : κ → Option α)
    (hm : a.eval m = .map (some b)) (h : MapK E kv w k b n g) (hn : n < maxLen) (s : κ) (l : Lit) (hx : a.eval x = kv s) (hkey : keyOf Try.prog k (kv s) = some l) (c : α) (hv : a.eval v = E.enc c)
    (hK : ∀ w', MapK E kv w' k b (n + 1) (updK g s c) → w.grownBy w' (some b) → wpList Try.prog ops Q rest (a.put o.dst undef) w') : wpList Try.prog ops Q (o :: rest) a w := by
  obtain ⟨D, ho, hg⟩ := h
  refine wpList_mapUpdate_own w hgd m x v t hop k e K ht E.rd b n D hm ho hn _ _ _ hx hv hkey (E.dat c) [] (E.is c) ?_
  intro w' hown hgrow
  refine hK w' ⟨_, hown, fun u lu hlu => ?_⟩ hgrow
  have hIs := ho.isMap
  have hKl := K.key hkey
  unfold updK
  by_cases q : u = s
  · subst q
    rw [hkey] at hlu
    cases hlu
    rw [if_pos rfl]
    exact ⟨by rw [Maps.has_put_same hIs hKl]; rfl, fun a e z => by cases e; exact Maps.atKey_put_same hIs hKl _ _⟩
  · rw [if_neg q]
    have hne : lu ≠ l := fun e => q (hinj _ _ (K.inj hlu (e ▸ hkey)))
    exact ⟨by rw [Maps.has_put_other hne]; exact (hg u lu hlu).1, fun a e z => by rw [Maps.atKey_put_other hne]; exact (hg u lu hlu).2 a e z⟩

/-- between 'the entry at s' and the store of its new value. -/
def MidK [DecidableEq κ] (E : Els α) (kv : κ → Value) (w1 : World) (t k : TypeId) (b n : Nat) (g : κ → Option α) (s : κ) (st : Nat) : Prop :=
  ∃ es1 clock1, w1.heap[b]? = some (.map es1 clock1) ∧ ∀ (w2 : World) (c : α), w2.heap[b]? = some (.map es1 clock1) → ∃ w3, (Instr.entryStore t (.map (some b)) (goInt st) (E.enc c)).run Try.prog w2 = .ok () w3 ∧ MapK E kv w3 k b (n + 1) (updK g s c) ∧ w2.grownBy w3 (some b)
theorem grown_setBlock {w : World} {b : Nat} {es : Array MapEntry} {clock : Nat} (hb : w.heap[b]? = some (.map es clock)) (o : Obj) : w.grownBy (Go.ChangeMaps.setBlock w b o) (some b) :=
  ⟨rfl, rfl, rfl, by simp [Go.ChangeMaps.setBlock], fun k _ hk => Go.ChangeMaps.heap_setBlock_other hb o (fun e => hk (by rw [e]))⟩
theorem MidK.kept [DecidableEq κ] {E : Els α} {w w' : World} {t k : TypeId} {b n st : Nat} {g : κ → Option α} {s : κ} {row : Option Nat} (h : MidK E kv w t k b n g s st) (hg : w.grownBy w' row) (hne : some b ≠ row) : MidK E kv w' t k b n g s st := by
  obtain ⟨es1, c1, h1, h2⟩ := h
  exact ⟨es1, c1, (hg.block b (Array.getElem?_eq_some_iff.1 h1).1 hne).trans h1, h2⟩
theorem MapK.entry [DecidableEq κ] {E : Els α} {w : World} {k t e : TypeId} {b n : Nat} {g : κ → Option α} (h : MapK E kv w k b n g) (KL : Go.WideMaps.KeyLaw Try.prog k) (hinj : ∀ a b : κ, kv a = kv b → a = b) (ht : Try.prog.underlying t = some (.map k e)) (hz : ∀ u : World, (zeroValue e).run Try.prog u = .ok (E.enc E.zero) u) (hn : n < maxLen)
    (s : κ) (l : Lit) (hkey : keyOf Try.prog k (kv s) = some l) :
    ∃ (st : Nat) (w1 : World), (Instr.mapEntry t (.map (some b)) (kv s)).run Try.prog w = .ok (.tuple #[E.enc ((g s).getD E.zero), goInt st]) w1 ∧ w.grownBy w1 (some b) ∧ MidK E kv w1 t k b n g s st := by
  have K := Keyed.of_law KL
  have hlook := (h.look K ht (hz w) s l hkey).1
  obtain ⟨D, ho, hg⟩ := h
  have ho' := ho
  obtain ⟨es, clock, hb, F, hle, hD⟩ := ho
  obtain ⟨v0, st, es1, clock1, hrun, hv, hst⟩ := Go.WideElems.entry_then_store KL ht hz hb F hkey
  have hv0 : v0 = E.enc ((g s).getD E.zero) := by
    rcases Maps.fit_look false K ht (hz w) hb F hkey with ⟨q1, q2, _⟩ | ⟨e0, y, q1, q2, q3, _⟩
    · rw [hlook] at q1
      have q1 : E.enc ((g s).getD E.zero) = E.enc E.zero := by simpa using q1
      rcases hv with ⟨x, hx, hxk, _⟩ | ⟨_, hv⟩
      · exact absurd hxk (q2 x hx)
      · rw [hv, q1]
    · rw [hlook] at q3
      have q3 : E.enc ((g s).getD E.zero) = e0.val := by simpa using q3
      rcases hv with ⟨x, hx, hxk, hv⟩ | ⟨hv, _⟩
      · have hp := ((Go.MapKept.stamped_iff es clock).1 F.stamped).2.2
        have : x = e0 := entry_eq_of_key hp hx q1 (by rw [hxk, q2])
        rw [hv, this, q3]
      · exact absurd q2 (hv e0 q1)
  subst hv0
  refine ⟨st, _, hrun, grown_setBlock hb _, es1, clock1, Go.ChangeMaps.heap_setBlock_same hb _, ?_⟩
  intro w2 c hw2
  obtain ⟨es', clock', r1, r2⟩ := hst w2 (E.enc c) hw2
  obtain ⟨w', r3, r4, r5⟩ := ho'.update K ht hn hkey (E.is c)
  rw [r2] at r3
  have r3 : Go.ChangeMaps.setBlock w b (.map es' clock') = w' := by simpa using r3
  subst r3
  refine ⟨_, r1, ⟨D.put l (E.dat c), ?_, ?_⟩, grown_setBlock hw2 _⟩
  · obtain ⟨ea, ca, a1, a2, a3, a4⟩ := r4
    rw [Go.ChangeMaps.heap_setBlock_same hb] at a1
    cases a1
    exact ⟨es', clock', Go.ChangeMaps.heap_setBlock_same hw2 _, a2, a3, a4⟩
  · intro u lu hlu
    have hIs := ho'.isMap
    have hKl := K.key hkey
    unfold updK
    by_cases q : u = s
    · subst q
      rw [hkey] at hlu
      cases hlu
      rw [if_pos rfl]
      exact ⟨by rw [Maps.has_put_same hIs hKl]; rfl, fun a e z => by cases e; exact Maps.atKey_put_same hIs hKl _ _⟩
    · rw [if_neg q]
      have hne : lu ≠ l := fun e => q (hinj _ _ (K.inj hlu (e ▸ hkey)))
      exact ⟨by rw [Maps.has_put_other hne]; exact (hg u lu hlu).1, fun a e z => by rw [Maps.atKey_put_other hne]; exact (hg u lu hlu).2 a e z⟩
theorem wpList_entryK [DecidableEq κ] {w : World} {ops : Array Oper} {rest : List Oper} {o : Oper} {a : Act} {Q : Exit → Act → World → Prop} (hgd : o.guard = none) (m x : Operand) (t : TypeId) (hop : o.op = Op.mapEntry t m x)
    (E : Els α) (k e : TypeId) (KL : Go.WideMaps.KeyLaw Try.prog k) (hinj : ∀ a b : κ, kv a = kv b → a = b) (ht : Try.prog.underlying t = some (.map k e)) (hz : ∀ u : World, (zeroValue e).run Try.prog u = .ok (E.enc E.zero) u) (b n : Nat) (g : κ → Option α)
    (hm : a.eval m = .map (some b)) (h : MapK E kv w k b n g) (hn : n < maxLen) (s : κ) (l : Lit) (hx : a.eval x = kv s) (hkey : keyOf Try.prog k (kv s) = some l)
    (hK : ∀ (st : Nat) (w1 : World), w.grownBy w1 (some b) → MidK E kv w1 t k b n g s st → wpList Try.prog ops Q rest (a.put o.dst (.tuple #[E.enc ((g s).getD E.zero), goInt st])) w1) : wpList Try.prog ops Q (o :: rest) a w := by
  refine wpList_plain hgd fun K' hK' => ?_
  obtain ⟨st, w1, r1, r2, r3⟩ := h.entry KL hinj ht hz hn s l hkey
  unfold Oper.wp
  simp [execOp, hop, hm, hx, r1, Result.andThen]
  exact hK' _ _ (hK st w1 r2 r3)
theorem wpList_estoreK [DecidableEq κ] {w : World} {ops : Array Oper} {rest : List Oper} {o : Oper} {a : Act} {Q : Exit → Act → World → Prop} (hgd : o.guard = none) (m x v : Operand) (t : TypeId) (hop : o.op = Op.entryStore t m x v)
    (E : Els α) (k : TypeId) (b n st : Nat) (g : κ → Option α) (s : κ)
    (hm : a.eval m = .map (some b)) (h : MidK E kv w t k b n g s st) (hx : a.eval x = goInt st) (c : α) (hv : a.eval v = E.enc c)
    (hK : ∀ w', MapK E kv w' k b (n + 1) (updK g s c) → w.grownBy w' (some b) → wpList Try.prog ops Q rest (a.put o.dst undef) w') : wpList Try.prog ops Q (o :: rest) a w := by
  refine wpList_plain hgd fun K' hK' => ?_
  obtain ⟨es1, c1, h1, h2⟩ := h
  obtain ⟨w3, r1, r2, r3⟩ := h2 w c h1
  unfold Oper.wp
  simp [execOp, hop, hm, hx, hv, r1, Result.andThen]
  exact hK' _ _ (hK w3 r2 r3)
end Go.Proofs.Ytenhnnfemehbcaa
