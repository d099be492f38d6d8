/- Maps with keys of type string, as functions from the key's bytes. No conditions. -/
import Derived.Test.YtenhnnfemehbcaaProg
import Derived.WalkKit
import Derived.Lib.Hide
import Derived.Maps.Own
import Derived.Maps.OwnOps
import Derived.Maps.OwnSet
import Derived.Maps.Views
namespace Go.Proofs.Ytenhnnfemehbcaa
open Go.RowKit Go.Maps
set_option linter.unusedVariables false
set_option linter.unusedSimpArgs false

/-- how the elements of a map are written as values and as data. -/
structure Els (α : Type) where
  enc : α → Value
  dat : α → DataW Unit
  rd : Value → Option (DataW Unit × List MemPlace)
  zero : α
  is : ∀ a, rd (enc a) = some (dat a, [])
  inv : ∀ v z, rd v = some z → ∃ a, v = enc a ∧ z.1 = dat a
  inj : ∀ a b, dat a = dat b → a = b
variable {α : Type}
/-- block b is a map of at most n entries, with element g s at key s. -/
def MapS (E : Els α) (w : World) (k : TypeId) (b n : Nat) (g : List UInt8 → Option α) : Prop :=
  ∃ D : DataW Unit, w.ownsMap Try.prog k E.rd b n D ∧ ∀ s, Maps.has D (.string s) = (g s).isSome ∧ ∀ a, g s = some a → ∀ z, D.atKey (.string s) z = E.dat a
def updS (g : List UInt8 → Option α) (s : List UInt8) (a : α) : List UInt8 → Option α := fun t => if t = s then some a else g t
theorem MapS.made (E : Els α) (w : World) (k : TypeId) : MapS E (w.alloc (.map #[] 0)) k w.heap.size 0 (fun _ => none) :=
  ⟨_, World.ownsMap_made w _ k _, fun s => ⟨rfl, fun a h => by cases h⟩⟩
theorem MapS.lt {E : Els α} {w : World} {k : TypeId} {b n : Nat} {g : List UInt8 → Option α} (h : MapS E w k b n g) : b < w.heap.size := by
  obtain ⟨D, ho, _⟩ := h; exact ho.lt
theorem MapS.kept {E : Els α} {w w' : World} {k : TypeId} {b n : Nat} {g : List UInt8 → Option α} {row : Option Nat} (h : MapS E w k b n g) (hg : w.grownBy w' row) (hne : some b ≠ row) : MapS E w' k b n g := by
  obtain ⟨D, ho, hs⟩ := h; exact ⟨D, ho.kept hg hne, hs⟩
theorem MapS.below {E : Els α} {w w' : World} {k : TypeId} {b n N : Nat} {g : List UInt8 → Option α} (h : MapS E w k b n g) (hb : Below N w w') (hN : b < N) : MapS E w' k b n g := by
  obtain ⟨D, ho, hs⟩ := h
  obtain ⟨es, clock, h1, F, h2, h3⟩ := ho
  exact ⟨D, ⟨es, clock, (hb.block b hN).trans h1, F, h2, h3⟩, hs⟩
theorem key_str (s t : List UInt8) (h : t ≠ s) : (Lit.string t) ≠ (Lit.string s) := fun e => h (Lit.string.inj e)
theorem MapS.look {E : Els α} {w : World} {k t e : TypeId} {b n : Nat} {g : List UInt8 → Option α} (h : MapS E w k b n g) (hk : Try.prog.underlying k = some .string) (ht : Try.prog.underlying t = some (.map k e)) (hz : (zeroValue e).run Try.prog w = .ok (E.enc E.zero) w)
    (s : ByteArray) (hs : s.size ≤ maxLen) : (Instr.lookup t (.map (some b)) (.string s) false).run Try.prog w = .ok (E.enc ((g s.toList).getD E.zero)) w ∧
      (Instr.lookup t (.map (some b)) (.string s) true).run Try.prog w = .ok (.tuple #[E.enc ((g s.toList).getD E.zero), .bool (g s.toList).isSome]) w := by
  obtain ⟨D, ho, hg⟩ := h
  obtain ⟨h1, h2⟩ := hg s.toList
  have hkey : keyOf Try.prog k (.string s) = some (.string s.toList) := by
    rw [ByteArray.toList_eq]; exact Go.WideMaps.keyOf_string_mk hk hs
  have val : ∀ v ps, E.rd v = some (D.atKey (.string s.toList) (E.dat E.zero), ps) → v = E.enc ((g s.toList).getD E.zero) := by
    intro v ps hv
    obtain ⟨a, rfl, ha⟩ := E.inv _ _ hv
    have ha : D.atKey (.string s.toList) (E.dat E.zero) = E.dat a := ha
    cases q : g s.toList with
    | none =>
      rw [q] at h1
      rw [Maps.atKey_of_not_has (by simpa using h1)] at ha
      rw [E.inj _ _ ha]; rfl
    | some c =>
      rw [h2 c q] at ha
      rw [E.inj _ _ ha]; rfl
  constructor
  · obtain ⟨v, ps, hr, hv⟩ := ho.lookup (string_keyed hk) ht hz (E.is _) hkey
    rw [hr, val v ps hv]
  · obtain ⟨v, ps, hr, hv⟩ := ho.look_ok (string_keyed hk) ht hz (E.is _) hkey
    rw [hr, val v ps hv, h1]
theorem wpList_lookS {w : World} {ops : Array Oper} {rest : List Oper} {o : Oper} {a : Act} {Q : Exit → Act → World → Prop} (hgd : o.guard = none) (m x : Operand) (t : TypeId) (hop : o.op = Op.lookup t m x false)
    (E : Els α) (k e : TypeId) (hk : Try.prog.underlying k = some .string) (ht : Try.prog.underlying t = some (.map k e)) (hz : (zeroValue e).run Try.prog w = .ok (E.enc E.zero) w) (b n : Nat) (g : List UInt8 → Option α)
    (hm : a.eval m = .map (some b)) (h : MapS E w k b n g) (s : ByteArray) (hx : a.eval x = .string s) (hs : s.size ≤ maxLen)
    (hK : wpList Try.prog ops Q rest (a.put o.dst (E.enc ((g s.toList).getD E.zero))) w) : wpList Try.prog ops Q (o :: rest) a w := by
  refine wpList_plain hgd fun K' hK' => ?_
  have hrun := (h.look hk ht hz s hs).1
  unfold Oper.wp
  simp [execOp, hop, hm, hx, hrun, Result.andThen]
  exact hK' _ _ hK
theorem wpList_lookokS {w : World} {ops : Array Oper} {rest : List Oper} {o : Oper} {a : Act} {Q : Exit → Act → World → Prop} (hgd : o.guard = none) (m x : Operand) (t : TypeId) (hop : o.op = Op.lookup t m x true)
    (E : Els α) (k e : TypeId) (hk : Try.prog.underlying k = some .string) (ht : Try.prog.underlying t = some (.map k e)) (hz : (zeroValue e).run Try.prog w = .ok (E.enc E.zero) w) (b n : Nat) (g : List UInt8 → Option α)
    (hm : a.eval m = .map (some b)) (h : MapS E w k b n g) (s : ByteArray) (hx : a.eval x = .string s) (hs : s.size ≤ maxLen)
    (hK : wpList Try.prog ops Q rest (a.put o.dst (.tuple #[E.enc ((g s.toList).getD E.zero), .bool (g s.toList).isSome])) w) : wpList Try.prog ops Q (o :: rest) a w := by
  refine wpList_plain hgd fun K' hK' => ?_
  have hrun := (h.look hk ht hz s hs).2
  unfold Oper.wp
  simp [execOp, hop, hm, hx, hrun, Result.andThen]
  exact hK' _ _ hK
theorem wpList_updS {w : World} {ops : Array Oper} {rest : List Oper} {o : Oper} {a : Act} {Q : Exit → Act → World → Prop} (hgd : o.guard = none) (m x v : Operand) (t : TypeId) (hop : o.op = Op.mapUpdate t m x v)
    (E : Els α) (k e : TypeId) (hk : Try.prog.underlying k = some .string) (ht : Try.prog.underlying t = some (.map k e)) (b n : Nat) (g : List UInt8 → Option α)
    (hm : a.eval m = .map (some b)) (h : MapS E w k b n g) (hn : n < maxLen) (s : ByteArray) (hx : a.eval x = .string s) (hs : s.size ≤ maxLen) (c : α) (hv : a.eval v = E.enc c)
    (hK : ∀ w', MapS E w' k b (n + 1) (updS g s.toList c) → w.grownBy w' (some b) → wpList Try.prog ops Q rest (a.put o.dst undef) w') : wpList Try.prog ops Q (o :: rest) a w := by
  obtain ⟨D, ho, hg⟩ := h
  have hkey : keyOf Try.prog k (.string s) = some (.string s.toList) := by
    rw [ByteArray.toList_eq]; exact Go.WideMaps.keyOf_string_mk hk hs
  refine wpList_mapUpdate_own w hgd m x v t hop k e (string_keyed hk) ht E.rd b n D hm ho hn _ _ _ hx hv hkey (E.dat c) [] (E.is c) ?_
  intro w' hown hgrow
  refine hK w' ⟨_, hown, fun u => ?_⟩ hgrow
  have hIs := ho.isMap
  have hKl := (string_keyed hk).key hkey
  unfold updS
  by_cases q : u = s.toList
  · subst q
    rw [if_pos rfl]
    exact ⟨by rw [Maps.has_put_same hIs hKl]; rfl, fun a e z => by cases e; exact Maps.atKey_put_same hIs hKl _ _⟩
  · rw [if_neg q]
    exact ⟨by rw [Maps.has_put_other (key_str _ _ q)]; exact (hg u).1, fun a e z => by rw [Maps.atKey_put_other (key_str _ _ q)]; exact (hg u).2 a e z⟩
theorem below_updS {N : Nat} {w0 w w' : World} {b : Nat} (h : Below N w0 w) (hg : w.grownBy w' (some b)) (hN : N ≤ w.heap.size) (hb : N ≤ b) : Below N w0 w' := h.grown hg hN (fun k e => by cases e; exact hb)
end Go.Proofs.Ytenhnnfemehbcaa
