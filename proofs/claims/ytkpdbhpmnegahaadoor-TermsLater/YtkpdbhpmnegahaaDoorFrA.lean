/- What magnitude, commonDivisor and Right of package frac return, and size, divisor and Right of package accountingref03. -/
import Derived.Test.YtkpdbhpmnegahaaDoorNumA
import Derived.Test.YtkpdbhpmnegahaaDoorRows
import Derived.Deep.QuietTactic
import Derived.BigQuiet
import Derived.StillTailTactics
import Derived.Lib.QuietBelow
import Derived.Deep.RegionWith
namespace Go.Proofs.YtkpdbhpmnegahaaDoor
open Go.RowKit Go.Sort
set_option linter.unusedVariables false

theorem wrap_mag {n : Int} (h1 : -9223372036854775808 ≤ n) (h2 : n < 0) : IntKind.u64.wrap (-(IntKind.u64.wrap n)) = -n := by
  simp only [IntKind.wrap_u64]; omega
theorem wrap_pos {n : Int} (h1 : 0 ≤ n) (h2 : n ≤ 9223372036854775807) : IntKind.u64.wrap n = n := by
  simp only [IntKind.wrap_u64]; omega

set_option maxHeartbeats 400000 in
theorem magnitude_any (n : Int) (w : World) (n1 : -9223372036854775808 ≤ n) (n2 : n ≤ 9223372036854775807) :
    Calls Tryd.prog 41 #[.int .i64 n] w fun e w' => e = .returned (.int .u64 (n.natAbs : Int)) ∧ w = w' := by
  by_cases h : n < 0
  · have k := wrap_mag n1 h
    have e : (n.natAbs : Int) = -n := by omega
    rw [e]
    clear e
    go_enter Tryd.func41, Tryd.ntmps41
    go_wp2
    go_ret
    exact ⟨rfl, rfl⟩
  · have k := wrap_pos (n := n) (by omega) n2
    have e : (n.natAbs : Int) = n := by omega
    rw [e]
    clear e
    go_enter Tryd.func41, Tryd.ntmps41
    go_wp2
    go_ret
    exact ⟨rfl, rfl⟩

theorem region_tail {P : Program} {id : Nat} {Q : Exit → Act → World → Prop} {a : Act} {w : World} {l : List Oper} (n : Nat) (hm : P.follows .mixedOrders = true) (hB : Region.lexTailB .any l.toArray n = true)
    (h : ∀ W, W = w.drew → wpStill P l.toArray W (fun a' => wpList P l.toArray Q (l.drop n) a' W) (l.take n) a) : (Code.region id l.toArray true).wp P Q a w :=
  wp_region_still_tail n hm hB (h _ rfl)
/-- an array or a struct of two cells in memory. -/
structure Cell2 (w : World) (B : Nat) (a b : Value) : Prop where
  c0 : w.cell? ⟨B, 0, none⟩ = some a
  c1 : w.cell? ⟨B, 1, none⟩ = some b
  f0 : w.frozen? ⟨B, 0, none⟩ = false
  f1 : w.frozen? ⟨B, 1, none⟩ = false
theorem Cell2.set0 {w : World} {B : Nat} {a b : Value} (h : Cell2 w B a b) (v : Value) : Cell2 (w.setCell ⟨B, 0, none⟩ v) B v b :=
  ⟨World.cell?_setCell_same _ _ _ h.c0, by rw [World.cell?_setCell_other _ _ _ _ (by simp)]; exact h.c1, by rw [World.frozen?_setCell]; exact h.f0, by rw [World.frozen?_setCell]; exact h.f1⟩
theorem Cell2.set1 {w : World} {B : Nat} {a b : Value} (h : Cell2 w B a b) (v : Value) : Cell2 (w.setCell ⟨B, 1, none⟩ v) B a v :=
  ⟨by rw [World.cell?_setCell_other _ _ _ _ (by simp)]; exact h.c0, World.cell?_setCell_same _ _ _ h.c1, by rw [World.frozen?_setCell]; exact h.f0, by rw [World.frozen?_setCell]; exact h.f1⟩
theorem Cell2.alloc (w : World) (a b : Value) (t : TypeId) : Cell2 (w.alloc (Obj.cells #[a, b] t)) w.heap.size a b :=
  ⟨World.cell?_alloc_at _ _ _ _ rfl, World.cell?_alloc_at _ _ _ _ rfl, World.frozen?_alloc_at _ _ _ _ rfl, World.frozen?_alloc_at _ _ _ _ rfl⟩
theorem Cell2.below {w w' : World} {B N : Nat} {a b : Value} (h : Cell2 w B a b) (hb : Below N w w') (hB : B < N) : Cell2 w' B a b :=
  ⟨by rw [hb.cell hB]; exact h.c0, by rw [hb.cell hB]; exact h.c1, by rw [hb.frozen hB]; exact h.f0, by rw [hb.frozen hB]; exact h.f1⟩
theorem Cell2.lt {w : World} {B : Nat} {a b : Value} (h : Cell2 w B a b) : B < w.heap.size := by
  rcases Nat.lt_or_ge B w.heap.size with k | k
  · exact k
  · exact absurd h.c0 (by simp [World.cell?, Array.getElem?_eq_none k])

set_option maxRecDepth 100000 in
set_option maxHeartbeats 4000000 in
theorem commonDivisor_any (a b : Nat) (w : World) (a1 : a ≤ 9223372036854775808) (b1 : b ≤ 9223372036854775808) :
    Calls Tryd.prog 40 #[.agg #[.int .u64 a, .int .u64 b]] w fun e w' => e = .returned (.int .u64 (Nat.gcd a b : Nat)) ∧ Below w.heap.size w w' := by
  have H0 := Lib.hid (Cell2.alloc w (.int .u64 a) (.int .u64 b) 87)
  have HB0 := Lib.hid ((Below.refl w.heap.size w).alloc (Nat.le_refl _) (Obj.cells #[.int .u64 a, .int .u64 b] 87))
  generalize hG : Nat.gcd a b = G
  have HAB := Lib.hid (And.intro a1 b1)
  clear a1 b1
  have HG := Lib.hid hG
  clear hG
  go_enter Tryd.func40, Tryd.ntmps40
  go_wp2
  go_loopw [] (fun wr => ∃ x y : Nat, Hid (x ≤ 9223372036854775808 ∧ y ≤ 9223372036854775808) ∧ Hid (Nat.gcd x y = G) ∧ Hid (Cell2 wr w.heap.size (.int .u64 x) (.int .u64 y)) ∧ Hid (Below w.heap.size w wr)) (fun wr => (intOf ((wr.cell? ⟨w.heap.size, 1, none⟩).getD undef)).toNat)
  case atStart => exact ⟨a, b, HAB, HG, H0, HB0⟩
  case round =>
    obtain ⟨x, y, HXY, HX, HC, HB⟩ := hrel
    have x2 : (x : Int) ≤ 9223372036854775808 := by have := HXY.out; omega
    have y2 : (y : Int) ≤ 9223372036854775808 := by have := HXY.out; omega
    have c0 := HC.out.c0
    have c1 := HC.out.c1
    by_cases hy : y = 0
    · subst hy
      go_wp2
      go_ret
      exact ⟨by rw [← HX.out, Nat.gcd_zero_right]; rfl, HB.out⟩
    · have hn : ((y : Int) != 0) = true := by simp; omega
      have hn2 : ¬ (y : Int) = 0 := by omega
      go_wp2_with fail
      refine region_tail 8 (by kernel_rfl) (by kernel_rfl) ?_
      intro W hW
      have HCW := Lib.hid (show Cell2 W w.heap.size (.int .u64 x) (.int .u64 y) from hW ▸ HC.out.below (N := wr.heap.size) (Below.refl _ _).drew HC.out.lt)
      have HBW := Lib.hid (show Below w.heap.size w W from hW ▸ HB.out.drew)
      clear hW
      have d0 := HCW.out.c0
      have d1 := HCW.out.c1
      have g0 := HCW.out.f0
      have e1 := fun v => (HCW.out.set0 v).c1
      have e2 := fun v => (HCW.out.set0 v).f1
      simp only [List.take_succ_cons, List.take_zero, List.drop_succ_cons, List.drop_zero]
      iterate 8 still_step
      refine wpStill_nil ?_
      go_wp2
      go_roundw
      case rel => exact ⟨y, x % y, Lib.hid ⟨HXY.out.2, by have := Nat.mod_lt x (show 0 < y by omega); have := HXY.out; omega⟩, Lib.hid (by rw [← HX.out, Nat.gcd_comm x y, Nat.gcd_rec y x, Nat.gcd_comm]), Lib.hid (by simpa using (HCW.out.set0 (.int .u64 y)).set1 (.int .u64 ((x % y : Nat) : Int))), Lib.hid ((HBW.out.setCell (p := ⟨w.heap.size, 0, none⟩) (Nat.le_refl _) _).setCell (p := ⟨w.heap.size, 1, none⟩) (Nat.le_refl _) _)⟩
      case measure =>
        have e3 := ((HCW.out.set0 (.int .u64 y)).set1 (.int .u64 ((x : Int) % (y : Int)))).c1
        have e4 : (x : Int) % (y : Int) = ((x % y : Nat) : Int) := rfl
        have e5 := Nat.mod_lt x (show 0 < y by omega)
        simp only [e3, c1, Option.getD_some, intOf]
        rw [e4]
        omega

end Go.Proofs.YtkpdbhpmnegahaaDoor
