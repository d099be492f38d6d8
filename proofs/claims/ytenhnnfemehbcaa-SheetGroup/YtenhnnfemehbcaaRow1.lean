/- Slices whose elements take one cell each, in memory and owned by the call; bytes and strings. No conditions. -/
import Derived.Test.YtenhnnfemehbcaaChecked
import Derived.WalkKit
import Derived.OwnWalk
import Derived.Lib.Hide
import Derived.Handy
import Derived.Laws.RangeAny
import Derived.Laws.RangeString
import Derived.WalkSpells
import Derived.WalkLawsBesides
import Derived.ProofKit
import Derived.LaidMore
import Derived.OpenShut
import Derived.Below
import Derived.Stop.Joined
import Derived.Lib.LaidTab
import Derived.Deep.QuietTactic
import Derived.BigQuiet
import Derived.WalkMore
import Derived.Lib.QuietBelow
import Derived.IntWalk
import Derived.StillTailTactics
import Derived.Deep.RegionWith
import Derived.Deep.RegionLaw
import Derived.Laws.ResultCell
import Derived.Laws.BytesArg
import Derived.Laws.AppendOwn
import Derived.Laws.AppendOwnNone
import Derived.Laws.IdiomStrings
import Derived.Laws.BitsAllLaws
import Derived.Test.YtenhnnfemehbcaaStr
namespace Go.Proofs.Ytenhnnfemehbcaa
open Go.RowKit
set_option linter.unusedVariables false
set_option linter.unusedSimpArgs false

theorem below_drewN {B : Nat} {a w : World} (h : Below B a w) (n : Nat) : Below B a (w.drewN n) := ⟨h.os, h.tape, h.output, h.size, h.block⟩
theorem addr_is (b off k : Nat) : (⟨b, off, none⟩ : Addr).add k = ⟨b, off + k, none⟩ := by
  unfold Addr.add; split
  · rename_i e; subst e; rfl
  · rfl
/-- values in memory, one cell each. -/
def RowV (w : World) (ao : Option Addr) (L : List Value) : Prop :=
  ∀ i x, L[i]? = some x → ∃ b off, ao = some ⟨b, off, none⟩ ∧ b < w.heap.size ∧ w.cell? ⟨b, off + i, none⟩ = some x
theorem RowV.below {w w' : World} {ao : Option Addr} {L : List Value} (h : RowV w ao L) (hb : Below w.heap.size w w') : RowV w' ao L := by
  intro i x hx
  obtain ⟨b, off, e, hl, c⟩ := h i x hx
  exact ⟨b, off, e, Nat.lt_of_lt_of_le hl hb.size, by rw [hb.cell hl]; exact c⟩
theorem RowV.nil (w : World) (ao : Option Addr) : RowV w ao [] := fun i x h => by simp at h
theorem RowV.block {w : World} {B off : Nat} {L : List Value} (hl : B < w.heap.size) (h : ∀ i x, L[i]? = some x → w.cell? ⟨B, off + i, none⟩ = some x) : RowV w (some ⟨B, off, none⟩) L :=
  fun i x hx => ⟨B, off, rfl, hl, h i x hx⟩
theorem RowV.take {w : World} {ao : Option Addr} {L : List Value} (h : RowV w ao L) (n : Nat) : RowV w ao (L.take n) := by
  intro i x hx
  rw [List.getElem?_take] at hx
  split at hx
  · exact h i x hx
  · cases hx
/-- the byte as a value, and the word of 64 bits. -/
def byV (b : UInt8) : Value := .int .u8 (b.toNat : Int)
def uV (n : Int) : Value := .int .u64 n
def RowB (w : World) (ao : Option Addr) (l : List UInt8) : Prop := RowV w ao (l.map byV)
def RowU (w : World) (ao : Option Addr) (l : List Int) : Prop := RowV w ao (l.map uV)
theorem RowB.at {w : World} {ao : Option Addr} {l : List UInt8} (h : RowB w ao l) (i : Nat) (hi : i < l.length) : ∃ b off, ao = some ⟨b, off, none⟩ ∧ b < w.heap.size ∧ w.cell? ⟨b, off + i, none⟩ = some (.int .u8 (l[i].toNat : Int)) :=
  h i _ (by rw [List.getElem?_map, List.getElem?_eq_getElem hi]; rfl)
theorem RowU.at {w : World} {ao : Option Addr} {l : List Int} (h : RowU w ao l) (i : Nat) (hi : i < l.length) : ∃ b off, ao = some ⟨b, off, none⟩ ∧ b < w.heap.size ∧ w.cell? ⟨b, off + i, none⟩ = some (.int .u64 l[i]) :=
  h i _ (by rw [List.getElem?_map, List.getElem?_eq_getElem hi]; rfl)
theorem RowB.below {w w' : World} {ao : Option Addr} {l : List UInt8} (h : RowB w ao l) (hb : Below w.heap.size w w') : RowB w' ao l := RowV.below h hb
theorem RowU.below {w w' : World} {ao : Option Addr} {l : List Int} (h : RowU w ao l) (hb : Below w.heap.size w w') : RowU w' ao l := RowV.below h hb
/-- the slice v owns the values L, of type T. -/
def OwnV (w : World) (base : Nat) (T : TypeId) (v : Value) (L : List Value) : Prop := w.ownsRow base T 1 v L.length L
theorem OwnV.nil (w : World) (base : Nat) (T : TypeId) : OwnV w base T (.slice none 0 0) [] := World.ownsRow_nil w base _ 1
theorem OwnV.shape {w : World} {base : Nat} {T : TypeId} {v : Value} {L : List Value} (h : OwnV w base T v L) : ∃ ao cap, v = .slice ao L.length cap := by
  rcases h.2 with ⟨e, n⟩ | ⟨g, cap, cur, e, _⟩
  · exact ⟨none, 0, by rw [e, n]⟩
  · exact ⟨_, _, e⟩
theorem OwnV.below {w w' : World} {base : Nat} {T : TypeId} {v : Value} {L : List Value} (h : OwnV w base T v L) (hb : Below w.heap.size w w') : OwnV w' base T v L := by
  refine ⟨h.1, ?_⟩
  rcases h.2 with x | ⟨g, cap, cur, e1, e2, e3, e4⟩
  · exact .inl x
  · exact .inr ⟨g, cap, cur, e1, e2, by rw [hb.block g (lt_of_block e3)]; exact e3, e4⟩
theorem OwnV.row {w : World} {base : Nat} {T : TypeId} {ao : Option Addr} {n cap : Nat} {L : List Value} (h : OwnV w base T (.slice ao n cap) L) : RowV w ao L := by
  intro i x hx
  rcases h.2 with ⟨e, n⟩ | ⟨g, cap, cur, e, _, e3, _⟩
  · have : L = [] := List.length_eq_zero_iff.1 n
    subst this; simp at hx
  · injection e with e1 e2 e4
    subst e1
    refine ⟨g, 0, rfl, lt_of_block e3, ?_⟩
    have := h.cells (g := g) rfl i x hx; rw [addr_is] at this; exact this
theorem OwnV.lower {w : World} {base base' : Nat} {T : TypeId} {v : Value} {L : List Value} (h : OwnV w base T v L) (hb : base' ≤ base) : OwnV w base' T v L := by
  refine ⟨h.1, ?_⟩
  rcases h.2 with x | ⟨g, cap, cur, e1, e2, e3, e4⟩
  · exact .inl x
  · exact .inr ⟨g, cap, cur, e1, Nat.le_trans hb e2, e3, e4⟩
/-- values appended. -/
theorem wp_vals {w : World} {o : Oper} {a : Act} {K : Act → World → Prop} {Q : Exit → Act → World → Prop} {ST T : TypeId} {z : Value} {nb : Nat}
    (hU : Try.prog.underlying ST = some (.slice T)) (hI : (Try.prog.info? T).map (fun i => (i.zero, i.size, i.bytes)) = some (some z, 1, nb)) (hz : z.cells.size = 1) (hb1 : nb ≤ 64) (s x : Operand)
    (ho : o.op = .call { callee := .builtin .append, args := #[s, x], argTypes := #[ST, ST] })
    (base : Nat) (v : Value) (L M : List Value) (hs : a.eval s = v) (hown : OwnV w base T v L) (ao : Option Addr) (c : Nat) (hx : a.eval x = .slice ao M.length c) (hn : ao = none → c = 0)
    (hc : RowV w ao M) (hM : ∀ y ∈ M, y.oneCell' = true)
    (hl : L.length + M.length < 1000000) (hbase : base ≤ w.heap.size)
    (h : ∀ v' w', OwnV w' base T v' (L ++ M) → Below base w w' → K (a.put o.dst v') w') : o.wp Try.prog a w K Q := by
  obtain ⟨i0, hi, hz0, hz1, hz2⟩ := info_parts hI
  cases ao with
  | none =>
    have hM0 : M = [] := by
      cases M with
      | nil => rfl
      | cons y M => obtain ⟨b, off, e, _⟩ := hc 0 y rfl; cases e
    subst hM0
    obtain rfl := hn rfl
    have hrun := run_append_owned_none (P := Try.prog) (w := w) base ST o.type T i0 1 hU hi v _ _ hown
    have hx0 : a.eval x = .slice none 0 0 := hx
    unfold Oper.wp
    simp [execOp, ho, resolve, invoke, builtin, hs, hx0, hrun, Result.andThen]
    exact h v w (by rw [List.append_nil]; exact hown) (Below.refl _ _)
  | some ad =>
    refine wp_append_own w s x _ ho base _ i0 z 1 nb hU hi hz0 hz1 hz2 hz (by decide) v _ _ hs hown ad M.length c M hx (by omega) ?_ hM ?_ ?_ hbase ?_
    · intro j u hj
      obtain ⟨b, off, e, _, hcell⟩ := hc j u hj
      have e := Option.some.inj e
      subst e
      rw [addr_is]; exact hcell
    · unfold maxLen; omega
    · have : (L.length + M.length) * nb ≤ 1000000 * 64 := Nat.mul_le_mul (by omega) hb1
      omega
    · intro v' w' h1 h2 _
      refine h v' w' (by unfold OwnV; rw [List.length_append]; exact h1) ((Below.refl base w).grown h2 hbase fun k hk => (hown.lt k hk).1)
theorem wpList_vals {w : World} {ops : Array Oper} {rest : List Oper} {o : Oper} {a : Act} {Q : Exit → Act → World → Prop} {ST T : TypeId} {z : Value} {nb : Nat}
    (hU : Try.prog.underlying ST = some (.slice T)) (hI : (Try.prog.info? T).map (fun i => (i.zero, i.size, i.bytes)) = some (some z, 1, nb)) (hz : z.cells.size = 1) (hb1 : nb ≤ 64) (hgd : o.guard = none) (s x : Operand)
    (ho : o.op = .call { callee := .builtin .append, args := #[s, x], argTypes := #[ST, ST] })
    (base : Nat) (v : Value) (L M : List Value) (hs : a.eval s = v) (hown : OwnV w base T v L) (ao : Option Addr) (c : Nat) (hx : a.eval x = .slice ao M.length c) (hn : ao = none → c = 0)
    (hc : RowV w ao M) (hM : ∀ y ∈ M, y.oneCell' = true)
    (hl : L.length + M.length < 1000000) (hbase : base ≤ w.heap.size)
    (h : ∀ v' w', OwnV w' base T v' (L ++ M) → Below base w w' → wpList Try.prog ops Q rest (a.put o.dst v') w') : wpList Try.prog ops Q (o :: rest) a w :=
  wpList_plain hgd fun _ hK => wp_vals hU hI hz hb1 s x ho base v L M hs hown ao c hx hn hc hM hl hbase fun v' w' h2 h3 => hK _ _ (h v' w' h2 h3)
theorem step_vals {w : World} {ops : Array Oper} {o : Oper} {a : Act} {K : Act → World → Prop} {Q : Exit → Act → World → Prop} {E : Prop} {ST T : TypeId} {z : Value} {nb : Nat}
    (hU : Try.prog.underlying ST = some (.slice T)) (hI : (Try.prog.info? T).map (fun i => (i.zero, i.size, i.bytes)) = some (some z, 1, nb)) (hz : z.cells.size = 1) (hb1 : nb ≤ 64) (hgd : o.guard = none) (s x : Operand)
    (ho : o.op = .call { callee := .builtin .append, args := #[s, x], argTypes := #[ST, ST] })
    (base : Nat) (v : Value) (L M : List Value) (hs : a.eval s = v) (hown : OwnV w base T v L) (ao : Option Addr) (c : Nat) (hx : a.eval x = .slice ao M.length c) (hn : ao = none → c = 0)
    (hc : RowV w ao M) (hM : ∀ y ∈ M, y.oneCell' = true)
    (hl : L.length + M.length < 1000000) (hbase : base ≤ w.heap.size)
    (h : ∀ v' w', OwnV w' base T v' (L ++ M) → Below base w w' → K (a.put o.dst v') w') : if Region.wanted o (yielded ops a.tmps) = true then Oper.wp Try.prog o a w K Q else E := by
  rw [if_pos (show Region.wanted o (yielded ops a.tmps) = true by simp [Region.wanted, hgd])]
  exact wp_vals hU hI hz hb1 s x ho base v L M hs hown ao c hx hn hc hM hl hbase h
theorem und_u8 : Try.prog.underlying 5 = some (.int .u8) := by kernel_rfl
theorem und_str : Try.prog.underlying 9 = some .string := by kernel_rfl
theorem inf_u8 : (Try.prog.info? 5).map (fun i => (i.zero, i.size, i.bytes)) = some (some (.int .u8 0), 1, 1) := by kernel_rfl
/-- the string of bytes. -/
def bs (l : List UInt8) : ByteArray := ⟨l.toArray⟩
theorem bs_list (l : List UInt8) : (bs l).toList = l := ByteArray.toList_mk l
theorem bs_size (l : List UInt8) : (bs l).size = l.length := by rw [← bytes_len, bs_list]
theorem ba_ext {a b : ByteArray} (h : a.toList = b.toList) : a = b := by
  rw [ByteArray.toList_eq, ByteArray.toList_eq] at h
  exact ByteArray.ext (Array.ext' h)
theorem bs_of (s : ByteArray) : bs s.toList = s := ba_ext (bs_list _)
theorem bs_inj {a b : List UInt8} (h : bs a = bs b) : a = b := by rw [← bs_list a, h, bs_list]
def OwnB (w : World) (base : Nat) (v : Value) (l : List UInt8) : Prop := OwnV w base 5 v (l.map byV)
/-- values in the block P that this call may write. -/
def PaV (w : World) (P n : Nat) (f : Nat → Value) : Prop := P < w.heap.size ∧ ∀ t, t < n → w.cell? ⟨P, t, none⟩ = some (f t) ∧ w.frozen? ⟨P, t, none⟩ = false
theorem PaV.below {w w' : World} {P n N : Nat} {f : Nat → Value} (h : PaV w P n f) (hb : Below N w w') (hP : P < N) (hs : P < w'.heap.size) : PaV w' P n f :=
  ⟨hs, fun t ht => ⟨by rw [hb.cell hP]; exact (h.2 t ht).1, by rw [hb.frozen hP]; exact (h.2 t ht).2⟩⟩
theorem PaV.set {w : World} {P n : Nat} {f g : Nat → Value} (h : PaV w P n f) (j : Nat) (hj : j < n) (hg : ∀ t, t < n → t ≠ j → g t = f t) : PaV (w.setCell ⟨P, j, none⟩ (g j)) P n g := by
  refine ⟨by simpa using h.1, fun t ht => ⟨?_, by rw [World.frozen?_setCell]; exact (h.2 t ht).2⟩⟩
  by_cases e : t = j
  · subst e; exact World.cell?_setCell_same _ _ _ (h.2 t hj).1
  · rw [World.cell?_setCell_other _ _ _ _ (by intro x; injection x with _ y; exact e y.symm), hg t ht e]; exact (h.2 t ht).1
theorem PaV.made {w : World} {base P n : Nat} {T : TypeId} {z : Value} (h : w.ownsRow base T 1 (.slice (some ⟨P, 0, none⟩) n n) n (madeCells #[z] (n * 1)).toList) : PaV w P n (fun _ => z) := by
  rcases h.2 with ⟨e, _⟩ | ⟨g, cap, cur, e, _, e3, e4⟩
  · exact absurd e (by simp)
  · injection e with e1 e2 e5
    injection e1 with e1
    injection e1 with e1
    subst e1
    refine ⟨lt_of_block e3, fun t ht => ⟨?_, ?_⟩⟩
    · have := h.cells (g := P) rfl t z (by rw [Nat.mul_one, toList_madeCells_one, List.getElem?_replicate]; simp [ht])
      rw [addr_is, Nat.zero_add] at this; exact this
    · unfold World.frozen?; rw [e3]; simp
theorem PaV.row {w : World} {P n : Nat} {f : Nat → Value} (h : PaV w P n f) {L : List Value} (hL : ∀ i x, L[i]? = some x → i < n ∧ f i = x) : RowV w (some ⟨P, 0, none⟩) L :=
  RowV.block h.1 fun i x hx => by rw [Nat.zero_add, (h.2 i (hL i x hx).1).1, (hL i x hx).2]
end Go.Proofs.Ytenhnnfemehbcaa
