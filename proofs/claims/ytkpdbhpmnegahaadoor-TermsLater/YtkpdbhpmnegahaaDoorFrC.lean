/- What Make of the packages frac and accountingref03 returns. -/
import Derived.Test.YtkpdbhpmnegahaaDoorFrB
import Derived.Laws.ResultCell
namespace Go.Proofs.YtkpdbhpmnegahaaDoor
open Go.RowKit Go.Sort
set_option linter.unusedVariables false

/-- the parts of a fraction in lowest terms, without their sign. -/
def mkA (n d : Int) : Nat := n.natAbs / Nat.gcd n.natAbs d.natAbs
def mkB (n d : Int) : Nat := d.natAbs / Nat.gcd n.natAbs d.natAbs
def Big (n d : Int) : Prop := 1000000 < mkA n d ∨ 1000000 < mkB n d
instance (n d : Int) : Decidable (Big n d) := by unfold Big; infer_instance
def mkN (n d : Int) : Int := if d = 0 ∨ Big n d then 0 else if decide (n < 0) = decide (d < 0) then (mkA n d : Int) else -(mkA n d : Int)
def mkD (n d : Int) : Int := if d = 0 ∨ Big n d then 0 else (mkB n d : Int)
def mkE (n d : Int) : Int := if d = 0 then 2 else if Big n d then 4 else 0

theorem Cell2.far {w : World} {B B' : Nat} {a b : Value} (h : Cell2 w B a b) (hB : B ≠ B') (j : Nat) (v : Value) : Cell2 (w.setCell ⟨B', j, none⟩ v) B a b :=
  ⟨by rw [World.cell?_setCell_other _ _ _ _ (by intro h; cases h; exact hB rfl)]; exact h.c0, by rw [World.cell?_setCell_other _ _ _ _ (by intro h; cases h; exact hB rfl)]; exact h.c1, by rw [World.frozen?_setCell]; exact h.f0, by rw [World.frozen?_setCell]; exact h.f1⟩

end Go.Proofs.YtkpdbhpmnegahaaDoor
