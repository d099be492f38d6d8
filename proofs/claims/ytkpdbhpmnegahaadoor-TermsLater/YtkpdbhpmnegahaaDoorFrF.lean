/- What the checked operations of package frac and Neg, Add, Mul and Quo of package accountingref03 return. -/
import Derived.Test.YtkpdbhpmnegahaaDoorFrM
namespace Go.Proofs.YtkpdbhpmnegahaaDoor
open Go.RowKit Go.Sort
set_option linter.unusedVariables false

/-- a variable of one cell in memory. -/
structure Cell1 (w : World) (B : Nat) (a : Value) : Prop where
  c0 : w.cell? ⟨B, 0, none⟩ = some a
  f0 : w.frozen? ⟨B, 0, none⟩ = false
theorem Cell1.alloc (w : World) (a : Value) (t : TypeId) : Cell1 (w.alloc (Obj.cells #[a] t)) w.heap.size a :=
  ⟨World.cell?_alloc_at _ _ _ _ rfl, World.frozen?_alloc_at _ _ _ _ rfl⟩
theorem Cell1.below {w w' : World} {B N : Nat} {a : Value} (h : Cell1 w B a) (hb : Below N w w') (hB : B < N) : Cell1 w' B a :=
  ⟨by rw [hb.cell hB]; exact h.c0, by rw [hb.frozen hB]; exact h.f0⟩
theorem Cell1.lt {w : World} {B : Nat} {a : Value} (h : Cell1 w B a) : B < w.heap.size := by
  rcases Nat.lt_or_ge B w.heap.size with k | k
  · exact k
  · exact absurd h.c0 (by simp [World.cell?, Array.getElem?_eq_none k])
theorem part_n {a b : Int} (h : RightP a b) : part a := ⟨h.2.2.1, h.2.2.2.1⟩
theorem part_d {a b : Int} (h : RightP a b) : part b := ⟨by have := h.1; omega, h.2.1⟩
theorem right_val (a b : Int) (r : Bool) (h : rightB a b = r) (w : World) (a1 : -9223372036854775808 ≤ a) (a2 : a ≤ 9223372036854775807) (b1 : -9223372036854775808 ≤ b) (b2 : b ≤ 9223372036854775807) :
    Calls Tryd.prog 25 #[.agg #[.int .i64 a, .int .i64 b]] w fun e w' => e = .returned (.bool r) ∧ Below w.heap.size w w' := h ▸ right_any a b w a1 a2 b1 b2
theorem ok_no1 {a b c d : Int} (h : rightB a b = false) : okB a b c d = false := by unfold okB; rw [h]; rfl
theorem ok_no2 {a b c d : Int} (h : rightB c d = false) : okB a b c d = false := by unfold okB; rw [h, Bool.and_false]
theorem ok_yes {a b c d : Int} (h : rightB a b = true) (k : rightB c d = true) : okB a b c d = true := by unfold okB; rw [h, k]; rfl

theorem results_cell1 {fn : Func} {p : Tmp} {ty : TypeId} (h : fn.results = #[.cell p ty]) (tmps : Array Value) (P : Program) (w : World) :
    (results fn tmps).run P w = ((asAddr (tmps.getD p undef)).run P w).andThen fun a w₁ => (loadVar ty a).run P w₁ := by
  simp only [results, h]
  simp [Sem.run_bind, Result.andThen]

end Go.Proofs.YtkpdbhpmnegahaaDoor
