/- Structs of one to four cells in memory. No conditions. -/
import Derived.Test.YtaibjmdfkahjjaaDoorDyG
namespace Go.Proofs.YtaibjmdfkahjjaaDoor
open Go.RowKit Go.Sort
set_option linter.unusedVariables false

/-- a struct of one cell in memory. -/
structure Cell1 (w : World) (B : Nat) (a : Value) : Prop where
  c0 : w.cell? ⟨B, 0, none⟩ = some a
  f0 : w.frozen? ⟨B, 0, none⟩ = false
theorem Cell1.alloc (w : World) (a : Value) (t : TypeId) : Cell1 (w.alloc (Obj.cells #[a] t)) w.heap.size a :=
  ⟨World.cell?_alloc_at _ _ _ _ rfl, World.frozen?_alloc_at _ _ _ _ rfl⟩
theorem Cell1.below {w w' : World} {B N : Nat} {a : Value} (h : Cell1 w B a) (hb : Below N w w') (hB : B < N) : Cell1 w' B a :=
  ⟨by rw [hb.cell hB]; exact h.c0, by rw [hb.frozen hB]; exact h.f0⟩
theorem Cell1.far {w : World} {B B' : Nat} {a : Value} (h : Cell1 w B a) (hB : B ≠ B') (j : Nat) (v : Value) : Cell1 (w.setCell ⟨B', j, none⟩ v) B a :=
  ⟨by rw [World.cell?_setCell_other _ _ _ _ (by intro h; cases h; exact hB rfl)]; exact h.c0, by rw [World.frozen?_setCell]; exact h.f0⟩
theorem Cell1.lt {w : World} {B : Nat} {a : Value} (h : Cell1 w B a) : B < w.heap.size := by
  rcases Nat.lt_or_ge B w.heap.size with k | k
  · exact k
  · exact absurd h.c0 (by simp [World.cell?, Array.getElem?_eq_none k])
/-- a struct of two cells in memory. -/
structure Cell2 (w : World) (B : Nat) (a b : Value) : Prop where
  c0 : w.cell? ⟨B, 0, none⟩ = some a
  c1 : w.cell? ⟨B, 1, none⟩ = some b
  f0 : w.frozen? ⟨B, 0, none⟩ = false
  f1 : w.frozen? ⟨B, 1, none⟩ = false
theorem Cell2.set0 {w : World} {B : Nat} {a b : Value} (h : Cell2 w B a b) (v : Value) : Cell2 (w.setCell ⟨B, 0, none⟩ v) B v b :=
  ⟨World.cell?_setCell_same _ _ _ h.c0, by rw [World.cell?_setCell_other _ _ _ _ (by simp)]; exact h.c1, by rw [World.frozen?_setCell]; exact h.f0, by rw [World.frozen?_setCell]; exact h.f1⟩
theorem Cell2.set1 {w : World} {B : Nat} {a b : Value} (h : Cell2 w B a b) (v : Value) : Cell2 (w.setCell ⟨B, 1, none⟩ v) B a v :=
  ⟨by rw [World.cell?_setCell_other _ _ _ _ (by simp)]; exact h.c0, World.cell?_setCell_same _ _ _ h.c1, by rw [World.frozen?_setCell]; exact h.f0, by rw [World.frozen?_setCell]; exact h.f1⟩
theorem Cell2.alloc (w : World) (a b : Value) (t : TypeId) : Cell2 (w.alloc (Obj.cells #[a, b] t)) w.heap.size a b :=
  ⟨World.cell?_alloc_at _ _ _ _ rfl, World.cell?_alloc_at _ _ _ _ rfl, World.frozen?_alloc_at _ _ _ _ rfl, World.frozen?_alloc_at _ _ _ _ rfl⟩
theorem Cell2.below {w w' : World} {B N : Nat} {a b : Value} (h : Cell2 w B a b) (hb : Below N w w') (hB : B < N) : Cell2 w' B a b :=
  ⟨by rw [hb.cell hB]; exact h.c0, by rw [hb.cell hB]; exact h.c1, by rw [hb.frozen hB]; exact h.f0, by rw [hb.frozen hB]; exact h.f1⟩
theorem Cell2.far {w : World} {B B' : Nat} {a b : Value} (h : Cell2 w B a b) (hB : B ≠ B') (j : Nat) (v : Value) : Cell2 (w.setCell ⟨B', j, none⟩ v) B a b :=
  ⟨by rw [World.cell?_setCell_other _ _ _ _ (by intro h; cases h; exact hB rfl)]; exact h.c0, by rw [World.cell?_setCell_other _ _ _ _ (by intro h; cases h; exact hB rfl)]; exact h.c1, by rw [World.frozen?_setCell]; exact h.f0, by rw [World.frozen?_setCell]; exact h.f1⟩
theorem Cell3.far {w : World} {B B' : Nat} {a b c : Value} (h : Cell3 w B a b c) (hB : B ≠ B') (j : Nat) (v : Value) : Cell3 (w.setCell ⟨B', j, none⟩ v) B a b c :=
  ⟨by rw [World.cell?_setCell_other _ _ _ _ (by intro h; cases h; exact hB rfl)]; exact h.c0, by rw [World.cell?_setCell_other _ _ _ _ (by intro h; cases h; exact hB rfl)]; exact h.c1, by rw [World.cell?_setCell_other _ _ _ _ (by intro h; cases h; exact hB rfl)]; exact h.c2, by rw [World.frozen?_setCell]; exact h.f0, by rw [World.frozen?_setCell]; exact h.f1, by rw [World.frozen?_setCell]; exact h.f2⟩
theorem Cell3.lt {w : World} {B : Nat} {a b c : Value} (h : Cell3 w B a b c) : B < w.heap.size := by
  rcases Nat.lt_or_ge B w.heap.size with k | k
  · exact k
  · exact absurd h.c0 (by simp [World.cell?, Array.getElem?_eq_none k])
theorem Cell2.lt {w : World} {B : Nat} {a b : Value} (h : Cell2 w B a b) : B < w.heap.size := by
  rcases Nat.lt_or_ge B w.heap.size with k | k
  · exact k
  · exact absurd h.c0 (by simp [World.cell?, Array.getElem?_eq_none k])

/-- two structs of two cells, one after the other, in memory. -/
structure Cell4 (w : World) (B : Nat) (a b c d : Value) : Prop where
  c0 : w.cell? ⟨B, 0, none⟩ = some a
  c1 : w.cell? ⟨B, 1, none⟩ = some b
  c2 : w.cell? ⟨B, 2, none⟩ = some c
  c3 : w.cell? ⟨B, 3, none⟩ = some d
theorem Cell4.alloc (w : World) (a b c d : Value) (t : TypeId) : Cell4 (w.alloc (Obj.cells #[a, b, c, d] t)) w.heap.size a b c d :=
  ⟨World.cell?_alloc_at _ _ _ _ rfl, World.cell?_alloc_at _ _ _ _ rfl, World.cell?_alloc_at _ _ _ _ rfl, World.cell?_alloc_at _ _ _ _ rfl⟩
theorem Cell4.below {w w' : World} {B N : Nat} {a b c d : Value} (h : Cell4 w B a b c d) (hb : Below N w w') (hB : B < N) : Cell4 w' B a b c d :=
  ⟨by rw [hb.cell hB]; exact h.c0, by rw [hb.cell hB]; exact h.c1, by rw [hb.cell hB]; exact h.c2, by rw [hb.cell hB]; exact h.c3⟩
theorem Cell4.lt {w : World} {B : Nat} {a b c d : Value} (h : Cell4 w B a b c d) : B < w.heap.size := by
  rcases Nat.lt_or_ge B w.heap.size with k | k
  · exact k
  · exact absurd h.c0 (by simp [World.cell?, Array.getElem?_eq_none k])
end Go.Proofs.YtaibjmdfkahjjaaDoor
