/- Pairs in memory: the order of the numbers in which a table lies. -/
import Derived.Test.YtmehihfdfpnfjaaRow1
import Derived.Test.YtmehihfdfpnfjaaOrd2
import Derived.Test.YtmehihfdfpnfjaaSpB
namespace Go.Proofs.Ytmehihfdfpnfjaa
open Go.RowKit Go.Sort
set_option linter.unusedVariables false

/-- block P holds, at place k, the number σ k and its size. -/
structure Prs (w : World) (P n : Nat) (r : Nat → Int) (σ : Nat → Nat) : Prop where
  lt : P < w.heap.size
  c0 : ∀ k, k < n → w.cell? ⟨P, k * 2, none⟩ = some (.int .i64 (σ k))
  c1 : ∀ k, k < n → w.cell? ⟨P, k * 2 + 1, none⟩ = some (.int .i64 (r (σ k)))
  f0 : ∀ k, k < n → w.frozen? ⟨P, k * 2, none⟩ = false
  f1 : ∀ k, k < n → w.frozen? ⟨P, k * 2 + 1, none⟩ = false
theorem Prs.below {w w' : World} {P n N : Nat} {r : Nat → Int} {σ : Nat → Nat} (h : Prs w P n r σ) (hb : Below N w w') (hP : P < N) (hN : N ≤ w.heap.size) : Prs w' P n r σ :=
  ⟨Nat.lt_of_lt_of_le h.lt hb.size, fun k hk => by rw [hb.cell hP]; exact h.c0 k hk, fun k hk => by rw [hb.cell hP]; exact h.c1 k hk, fun k hk => by rw [hb.frozen hP]; exact h.f0 k hk, fun k hk => by rw [hb.frozen hP]; exact h.f1 k hk⟩
theorem Prs.set2 {w : World} {P n : Nat} {r : Nat → Int} {σ : Nat → Nat} (h : Prs w P n r σ) (i v : Nat) (hi : i < n) :
    Prs ((w.setCell ⟨P, i * 2, none⟩ (.int .i64 v)).setCell ⟨P, i * 2 + 1, none⟩ (.int .i64 (r v))) P n r (fun k => if k = i then v else σ k) := by
  refine ⟨by simpa using h.lt, fun k hk => ?_, fun k hk => ?_, fun k hk => by rw [World.frozen?_setCell, World.frozen?_setCell]; exact h.f0 k hk, fun k hk => by rw [World.frozen?_setCell, World.frozen?_setCell]; exact h.f1 k hk⟩
  · rw [World.cell?_setCell_other _ _ _ _ (by intro e; injection e with _ e; omega)]
    by_cases e : k = i
    · subst e; rw [if_pos rfl]; exact World.cell?_setCell_same _ _ _ (h.c0 k hk)
    · rw [if_neg e, World.cell?_setCell_other _ _ _ _ (by intro x; injection x with _ x; omega)]; exact h.c0 k hk
  · by_cases e : k = i
    · subst e; rw [if_pos rfl]
      exact World.cell?_setCell_same _ _ _ (by rw [World.cell?_setCell_other _ _ _ _ (by intro x; injection x with _ x; omega)]; exact h.c1 k hk)
    · rw [if_neg e, World.cell?_setCell_other _ _ _ _ (by intro x; injection x with _ x; omega), World.cell?_setCell_other _ _ _ _ (by intro x; injection x with _ x; omega)]; exact h.c1 k hk
/-- two places exchanged, the first written first. -/
theorem Prs.swap {w : World} {P n : Nat} {r : Nat → Int} {σ : Nat → Nat} (h : Prs w P n r σ) (i j : Nat) (hi : i < n) (hj : j < n) :
    Prs ((((w.setCell ⟨P, i * 2, none⟩ (.int .i64 (σ j))).setCell ⟨P, i * 2 + 1, none⟩ (.int .i64 (r (σ j)))).setCell ⟨P, j * 2, none⟩ (.int .i64 (σ i))).setCell ⟨P, j * 2 + 1, none⟩ (.int .i64 (r (σ i)))) P n r (swp σ i j) := by
  have q := (h.set2 i (σ j) hi).set2 j (σ i) hj
  have e : (fun k => if k = j then σ i else if k = i then σ j else σ k) = swp σ i j := by
    funext k
    unfold swp
    by_cases h1 : k = j
    · subst h1
      by_cases h2 : k = i
      · subst h2; rfl
      · rw [if_pos rfl, if_neg h2, if_pos rfl]
    · rw [if_neg h1]
      by_cases h2 : k = i
      · rw [if_pos h2, if_pos h2]
      · rw [if_neg h2, if_neg h2, if_neg h1]
  rw [← e]; exact q
end Go.Proofs.Ytmehihfdfpnfjaa
