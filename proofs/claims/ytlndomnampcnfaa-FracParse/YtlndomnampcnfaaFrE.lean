/- What the closures of Add, Sub, Mul and Quo of package frac return for small parts. -/
import Derived.Test.YtlndomnampcnfaaFrD
namespace Go.Proofs.Ytlndomnampcnfaa
open Go.RowKit Go.Sort
set_option linter.unusedVariables false

/-- a part of a valid fraction. -/
def part (x : Int) : Prop := -1000000 ≤ x ∧ x ≤ 1000000
theorem mulB {x y : Int} (h : part x) (k : part y) : -1000000000000 ≤ x * y ∧ x * y ≤ 1000000000000 := by
  have h1 : x.natAbs ≤ 1000000 := by have := h.1; have := h.2; omega
  have h2 : y.natAbs ≤ 1000000 := by have := k.1; have := k.2; omega
  have h3 : (x * y).natAbs ≤ 1000000 * 1000000 := by rw [Int.natAbs_mul]; exact Nat.mul_le_mul h1 h2
  omega
set_option maxHeartbeats 2000000 in
theorem addC_any (a b c d : Int) (w : World) (ha : part a) (hb : part b) (hc : part c) (hd : part d) :
    Calls Try.prog 28 #[.agg #[.int .i64 a, .int .i64 b], .agg #[.int .i64 c, .int .i64 d]] w fun e w' => e = .returned (.tuple #[.int .i64 (a * d + c * b), .int .i64 (b * d)]) ∧ Below w.heap.size w w' := by
  have m0 := mulB ha hd
  obtain ⟨m0a, m0b⟩ := m0
  have m1 := mulB hc hb
  obtain ⟨m1a, m1b⟩ := m1
  have m2 := mulB hb hd
  obtain ⟨m2a, m2b⟩ := m2
  clear ha hb hc hd
  have HP := Lib.hid ((Cell2.alloc w (.int .i64 a) (.int .i64 b) 24).below ((Below.refl _ _).alloc (Nat.le_refl _) (Obj.cells #[.int .i64 c, .int .i64 d] 24)) (by simp))
  have HQ := Lib.hid (Cell2.alloc (w.alloc (Obj.cells #[.int .i64 a, .int .i64 b] 24)) (.int .i64 c) (.int .i64 d) 24)
  have hsz : (w.alloc (Obj.cells #[.int .i64 a, .int .i64 b] 24)).heap.size = w.heap.size + 1 := by simp
  rw [hsz] at HQ
  clear hsz
  have HW := Lib.hid (((Below.refl w.heap.size w).alloc (Nat.le_refl _) (Obj.cells #[.int .i64 a, .int .i64 b] 24)).alloc (by simp) (Obj.cells #[.int .i64 c, .int .i64 d] 24))
  go_enter Try.func28, Try.ntmps28
  go_wp2_with fail
  generalize (w.alloc (Obj.cells #[.int .i64 a, .int .i64 b] 24)).alloc (Obj.cells #[.int .i64 c, .int .i64 d] 24) = W at *
  have l0 := cell_regrown HP.out.c0
  have l1 := cell_regrown HP.out.c1
  have l2 := cell_regrown HQ.out.c0
  have l3 := cell_regrown HQ.out.c1
  refine wp_region_quiet_below (l := _) (by kernel_rfl) (by kernel_rfl) ?_
  repeat (first | go_big_quiet_step (fail))
  refine wpQuiet_nil ?_
  intro w2 hw'
  obtain ⟨⟨dq2, osq2⟩, hw''⟩ := hw'
  have hb2 := below_regrown W dq2 osq2
  rw [← hw''] at hb2
  clear hw''
  go_wp2
  go_ret2
  exact ⟨rfl, HW.out.trans (hb2.mono HW.out.size)⟩
end Go.Proofs.Ytlndomnampcnfaa
