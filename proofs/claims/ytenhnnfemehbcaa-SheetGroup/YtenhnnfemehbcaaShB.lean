/- Cells of sheets in memory. No conditions. -/
import Derived.Test.YtenhnnfemehbcaaShA
import Derived.Test.YtenhnnfemehbcaaQs
import Derived.Maps.AppendAt
namespace Go.Proofs.Ytenhnnfemehbcaa
open Go.RowKit
set_option linter.unusedVariables false
set_option linter.unusedSimpArgs false

def kyC (k : Ky) : List Value := [.string k.1, .string k.2.1, .string k.2.2.1, .string k.2.2.2.1, .string k.2.2.2.2]
def clC (x : Cl) : List Value := [.string x.1.1, .string x.1.2.1, .string x.1.2.2.1, .string x.1.2.2.2.1, .string x.1.2.2.2.2, .int .i64 x.2.1, .int .i64 x.2.2]
theorem clC_len (x : Cl) : (clC x).length = 7 := rfl
theorem clC_one (x : Cl) : ∀ v ∈ clC x, v.oneCell' = true := by
  intro v hv
  simp [clC] at hv
  rcases hv with rfl | rfl | rfl | rfl | rfl | rfl | rfl <;> rfl
/-- the cells L, from A on. -/
def RowS (w : World) (A : Option Addr) (L : List Cl) : Prop :=
  0 < L.length → ∃ b off, A = some ⟨b, off, none⟩ ∧ b < w.heap.size ∧ ∀ i, (h : i < L.length) → ∀ j v, (clC L[i])[j]? = some v → w.cell? ⟨b, off + i * 7 + j, none⟩ = some v
theorem RowS.below {w w' : World} {A : Option Addr} {L : List Cl} (h : RowS w A L) (hb : Below w.heap.size w w') : RowS w' A L := by
  intro h0
  obtain ⟨b, off, e, hl, hc⟩ := h h0
  exact ⟨b, off, e, Nat.lt_of_lt_of_le hl hb.size, fun i hi j v hv => by rw [hb.cell hl]; exact hc i hi j v hv⟩
theorem RowS.nil (w : World) (A : Option Addr) : RowS w A [] := fun h => absurd h (by simp)
/-- the seven values of the cell i. -/
theorem RowS.at {w : World} {A : Option Addr} {L : List Cl} (h : RowS w A L) {i : Nat} (hi : i < L.length) : ∃ b off, A = some ⟨b, off, none⟩ ∧ b < w.heap.size ∧
    w.cell? ⟨b, off + i * 7, none⟩ = some (.string L[i].1.1) ∧ w.cell? ⟨b, off + i * 7 + 1, none⟩ = some (.string L[i].1.2.1) ∧ w.cell? ⟨b, off + i * 7 + 2, none⟩ = some (.string L[i].1.2.2.1) ∧ w.cell? ⟨b, off + i * 7 + 3, none⟩ = some (.string L[i].1.2.2.2.1) ∧ w.cell? ⟨b, off + i * 7 + 4, none⟩ = some (.string L[i].1.2.2.2.2) ∧ w.cell? ⟨b, off + i * 7 + 5, none⟩ = some (.int .i64 L[i].2.1) ∧ w.cell? ⟨b, off + i * 7 + 6, none⟩ = some (.int .i64 L[i].2.2) := by
  obtain ⟨b, off, e, hl, hc⟩ := h (by omega)
  refine ⟨b, off, e, hl, ?_, ?_, ?_, ?_, ?_, ?_, ?_⟩
  · exact hc i hi 0 _ rfl
  · exact hc i hi 1 _ rfl
  · exact hc i hi 2 _ rfl
  · exact hc i hi 3 _ rfl
  · exact hc i hi 4 _ rfl
  · exact hc i hi 5 _ rfl
  · exact hc i hi 6 _ rfl
/-- a part of the cells. -/
theorem RowS.part {w : World} {A : Option Addr} {L : List Cl} (h : RowS w A L) {b off : Nat} (e : A = some ⟨b, off, none⟩) (s n : Nat) (hn : s + n ≤ L.length) : RowS w (some ⟨b, off + s * 7, none⟩) ((L.drop s).take n) := by
  intro h0
  have hlen : ((L.drop s).take n).length = n := by simp; omega
  rw [hlen] at h0
  obtain ⟨b', off', e', hl, hc⟩ := h (by omega)
  rw [e] at e'
  injection e' with e'
  injection e' with e1 e2
  subst e1 e2
  refine ⟨b, off + s * 7, rfl, hl, fun i hi j v hv => ?_⟩
  rw [hlen] at hi
  have hg : ((L.drop s).take n)[i]'(by omega) = L[s + i]'(by omega) := by simp
  rw [hg] at hv
  have q := hc (s + i) (by omega) j v hv
  rw [show off + s * 7 + i * 7 + j = off + (s + i) * 7 + j by omega]
  exact q
/-- bounds of what a cell holds. -/
def BdS (L : List Cl) : Prop := ∀ c ∈ L, r64 c.2.1 ∧ r64 c.2.2
/-- cells that the call owns. -/
def OwnS (w : World) (base : Nat) (v : Value) (L : List Cl) : Prop := w.ownsRow base 37 7 v L.length (L.flatMap clC)
theorem OwnS.nil (w : World) (base : Nat) : OwnS w base (.slice none 0 0) [] := World.ownsRow_nil w base _ 7
theorem flatS_at : ∀ (L : List Cl) (i j : Nat) (hi : i < L.length) (v : Value), (clC L[i])[j]? = some v → (L.flatMap clC)[i * 7 + j]? = some v
  | x :: L, 0, j, _, v, hv => by
    rw [List.flatMap_cons, Nat.zero_mul, Nat.zero_add]
    have hj : j < (clC x).length := (List.getElem?_eq_some_iff.1 hv).1
    rw [List.getElem?_append_left hj]
    exact hv
  | x :: L, i + 1, j, hi, v, hv => by
    rw [List.flatMap_cons, List.getElem?_append_right (by rw [clC_len]; omega), clC_len, show (i + 1) * 7 + j - 7 = i * 7 + j by omega]
    exact flatS_at L i j (by simpa using hi) v hv
theorem flatS_len : ∀ L : List Cl, (L.flatMap clC).length = L.length * 7
  | [] => rfl
  | x :: L => by rw [List.flatMap_cons, List.length_append, flatS_len L, clC_len, List.length_cons]; omega
theorem OwnS.shape {w : World} {base : Nat} {v : Value} {L : List Cl} (h : OwnS w base v L) : ∃ ao cap, v = .slice ao L.length cap ∧ L.length ≤ cap ∧ cap ≤ maxLen ∧ RowS w ao L ∧ ((v = .slice none 0 0 ∧ L = []) ∨ ∃ g, ao = some ⟨g, 0, none⟩ ∧ base ≤ g ∧ g < w.heap.size) := by
  have hc := fun g e => h.cells (g := g) e
  rcases h.2 with ⟨rfl, n⟩ | ⟨g, cap, cur, rfl, hb, hg, h1, h2, _, _⟩
  · have : L = [] := List.length_eq_zero_iff.1 n
    subst this
    exact ⟨none, 0, rfl, Nat.le_refl _, Nat.zero_le _, RowS.nil _ _, .inl ⟨rfl, rfl⟩⟩
  · have hl := lt_of_block hg
    refine ⟨some ⟨g, 0, none⟩, cap, rfl, h1, h2, fun _ => ⟨g, 0, rfl, hl, fun i hi j v hv => ?_⟩, .inr ⟨g, rfl, hb, hl⟩⟩
    have q := hc g rfl (i * 7 + j) v (flatS_at L i j hi v hv)
    rw [addr_is] at q
    rw [show 0 + i * 7 + j = 0 + (i * 7 + j) by omega]
    exact q
theorem OwnS.below {w w' : World} {base : Nat} {v : Value} {L : List Cl} (h : OwnS w base v L) (hb : Below w.heap.size w w') : OwnS w' base v L :=
  World.ownsRow.kept h (row := none) ⟨hb.os, hb.tape, hb.output, hb.size, fun k hk _ => hb.block k hk⟩ (by
    cases e : v.ownBlock
    · exact .inl rfl
    · exact .inr (by simp))
theorem und_cells : Try.prog.underlying 28 = some (.slice 37) := by kernel_rfl
theorem inf_cell : (Try.prog.info? 37).map (fun i => (i.zero, i.size, i.bytes)) = some (some (.agg #[.string ⟨#[]⟩, .string ⟨#[]⟩, .string ⟨#[]⟩, .string ⟨#[]⟩, .string ⟨#[]⟩, .int .i64 0, .int .i64 0]), 7, 96) := by kernel_rfl
/-- the cells of the block P, which holds one. -/
theorem row_cell (w : World) (x : Cl) (t : TypeId) : ∀ j u, (clC x)[j]? = some u → (w.alloc (Obj.cells (clC x).toArray t)).cell? ((⟨w.heap.size, 0, none⟩ : Addr).add j) = some u := by
  intro j u hj
  rw [addr_is, World.cell?_alloc_at _ _ _ _ rfl, Nat.zero_add]
  simpa using hj
/-- one cell appended. -/
theorem wpList_cell {w : World} {ops : Array Oper} {rest : List Oper} {o : Oper} {a : Act} {Q : Exit → Act → World → Prop} (hgd : o.guard = none) (s x : Operand)
    (ho : o.op = .call { callee := .builtin .append, args := #[s, x], argTypes := #[28, 28] })
    (base : Nat) (v : Value) (L : List Cl) (y : Cl) (hs : a.eval s = v) (hown : OwnS w base v L) (ad : Addr) (c : Nat) (hx : a.eval x = .slice (some ad) 1 c) (hc : ∀ j u, (clC y)[j]? = some u → w.cell? (ad.add j) = some u)
    (hl : L.length < 10000) (hbase : base ≤ w.heap.size)
    (h : ∀ v' w', OwnS w' base v' (L ++ [y]) → Below base w w' → wpList Try.prog ops Q rest (a.put o.dst v') w') : wpList Try.prog ops Q (o :: rest) a w := by
  obtain ⟨i0, hi, hz0, hz1, hz2⟩ := info_parts inf_cell
  refine wpList_append_own_at w hgd s x _ ho base 37 i0 _ 7 96 und_cells hi hz0 hz1 hz2 rfl (by decide) v L.length (L.flatMap clC) hs hown ad 1 c (clC y) hx rfl hc (clC_one y) (by unfold maxLen; omega) (by omega) hbase ?_
  intro v' w' h1 h2 _ _
  refine h v' w' ?_ ?_
  · unfold OwnS
    rw [List.length_append, List.flatMap_append]
    simpa using h1
  · refine (Below.refl base w).grown h2 hbase (fun k hk => ?_)
    exact (hown.lt k hk).1
end Go.Proofs.Ytenhnnfemehbcaa
