/- What Right of the packages frac and accountingref03 returns. -/
import Derived.Test.YtkpdbhpmnegahaaDoorFrA
namespace Go.Proofs.YtkpdbhpmnegahaaDoor
open Go.RowKit Go.Sort
set_option linter.unusedVariables false

/-- a valid fraction. -/
def RightP (n d : Int) : Prop := 1 ≤ d ∧ d ≤ 1000000 ∧ -1000000 ≤ n ∧ n ≤ 1000000 ∧ Nat.gcd n.natAbs d.natAbs = 1
instance (n d : Int) : Decidable (RightP n d) := by unfold RightP; infer_instance
def rightB (n d : Int) : Bool := decide (RightP n d)
theorem right_no {n d : Int} (h : ¬ (1 ≤ d ∧ d ≤ 1000000 ∧ -1000000 ≤ n ∧ n ≤ 1000000)) : rightB n d = false := by
  unfold rightB; exact decide_eq_false (fun k => h ⟨k.1, k.2.1, k.2.2.1, k.2.2.2.1⟩)
theorem right_in {n d : Int} (h1 : 1 ≤ d) (h2 : d ≤ 1000000) (h3 : -1000000 ≤ n) (h4 : n ≤ 1000000) : rightB n d = ((Nat.gcd n.natAbs d.natAbs : Int) == 1) := by
  unfold rightB
  by_cases h : Nat.gcd n.natAbs d.natAbs = 1
  · rw [decide_eq_true (p := RightP n d) ⟨h1, h2, h3, h4, h⟩, h]; rfl
  · rw [decide_eq_false (p := RightP n d) (fun k => h k.2.2.2.2)]
    symm; rw [beq_eq_false_iff_ne]; omega
theorem below_drewN' {B : Nat} {a w : World} (h : Below B a w) (n : Nat) : Below B a (w.drewN n) := ⟨h.os, h.tape, h.output, h.size, h.block⟩

set_option maxRecDepth 100000 in
set_option maxHeartbeats 4000000 in
theorem right_any (n d : Int) (w : World) (n1 : -9223372036854775808 ≤ n) (n2 : n ≤ 9223372036854775807) (d1 : -9223372036854775808 ≤ d) (d2 : d ≤ 9223372036854775807) :
    Calls Tryd.prog 25 #[.agg #[.int .i64 n, .int .i64 d]] w fun e w' => e = .returned (.bool (rightB n d)) ∧ Below w.heap.size w w' := by
  have HB0 := Lib.hid ((Below.refl w.heap.size w).alloc (Nat.le_refl _) (Obj.cells #[.int .i64 n, .int .i64 d] 35))
  have HC0 := Lib.hid (Cell2.alloc w (.int .i64 n) (.int .i64 d) 35)
  by_cases h1 : d < 1
  · have q1 : decide (d < 1) = true := decide_eq_true h1
    have HR := Lib.hid (right_no (n := n) (d := d) (by omega))
    go_enter Tryd.func25, Tryd.ntmps25
    go_wp2
    go_ret
    exact ⟨by rw [HR.out]; rfl, HB0.out⟩
  have q1 : decide (d < 1) = false := decide_eq_false h1
  by_cases h2 : 1000000 < d
  · have q2 : decide (1000000 < d) = true := decide_eq_true h2
    have HR := Lib.hid (right_no (n := n) (d := d) (by omega))
    go_enter Tryd.func25, Tryd.ntmps25
    go_wp2
    go_ret
    exact ⟨by rw [HR.out]; rfl, HB0.out⟩
  have q2 : decide (1000000 < d) = false := decide_eq_false h2
  by_cases h3 : n < -1000000
  · have q3 : decide (n < -1000000) = true := decide_eq_true h3
    have HR := Lib.hid (right_no (n := n) (d := d) (by omega))
    go_enter Tryd.func25, Tryd.ntmps25
    go_wp2
    go_ret
    exact ⟨by rw [HR.out]; rfl, HB0.out⟩
  have q3 : decide (n < -1000000) = false := decide_eq_false h3
  by_cases h4 : 1000000 < n
  · have q4 : decide (1000000 < n) = true := decide_eq_true h4
    have HR := Lib.hid (right_no (n := n) (d := d) (by omega))
    go_enter Tryd.func25, Tryd.ntmps25
    go_wp2
    go_ret
    exact ⟨by rw [HR.out]; rfl, HB0.out⟩
  have q4 : decide (1000000 < n) = false := decide_eq_false h4
  have HR := Lib.hid (right_in (n := n) (d := d) (by omega) (by omega) (by omega) (by omega))
  have HM := Lib.hid (fun w => magnitude_any n w n1 n2)
  have HD := Lib.hid (fun w => magnitude_any d w d1 d2)
  have HG := Lib.hid (fun w => commonDivisor_any n.natAbs d.natAbs w (by omega) (by omega))
  generalize hG : Nat.gcd n.natAbs d.natAbs = G at *
  clear hG
  generalize n.natAbs = an at *
  generalize d.natAbs = ad at *
  go_enter Tryd.func25, Tryd.ntmps25
  go_wp2_with fail
  generalize w.alloc (Obj.cells #[.int .i64 n, .int .i64 d] 35) = W at *
  have l0 := cell_regrown HC0.out.c0
  have l1 := cell_regrown HC0.out.c1
  have CM := Lib.hid (show ∀ dd os, Calls Tryd.prog 41 #[.int .i64 n] (grow (redrawn W dd) os) fun e w'' => e = .returned (.int .u64 (an : Int)) ∧ ∃ p : Regrown, w'' = grow (redrawn W p.d) p.os from fun dd os => Calls.regrown_of ((HM.out _).mono fun _ _ h => ⟨h.1, h.2 ▸ Below.refl _ _⟩))
  have CD := Lib.hid (show ∀ dd os, Calls Tryd.prog 41 #[.int .i64 d] (grow (redrawn W dd) os) fun e w'' => e = .returned (.int .u64 (ad : Int)) ∧ ∃ p : Regrown, w'' = grow (redrawn W p.d) p.os from fun dd os => Calls.regrown_of ((HD.out _).mono fun _ _ h => ⟨h.1, h.2 ▸ Below.refl _ _⟩))
  have CG := Lib.hid (show ∀ dd os, Calls Tryd.prog 40 #[.agg #[.int .u64 (an : Int), .int .u64 (ad : Int)]] (grow (redrawn W dd) os) fun e w'' => e = .returned (.int .u64 (G : Int)) ∧ ∃ p : Regrown, w'' = grow (redrawn W p.d) p.os from fun dd os => Calls.regrown_of (HG.out _))
  refine wp_region_quiet_below (l := _) (by kernel_rfl) (by kernel_rfl) ?_
  repeat (first | go_big_quiet_step (first | (go_at_call 40; exact CG.out _ _) | (go_at_call_of 41 n; exact CM.out _ _) | (go_at_call_of 41 d; exact CD.out _ _)))
  refine wpQuiet_nil ?_
  intro w2 hw'
  obtain ⟨⟨dq2, osq2⟩, hw''⟩ := hw'
  have hb := below_regrown W dq2 osq2
  rw [← hw''] at hb
  clear hw''
  go_wp2
  go_ret
  exact ⟨by rw [HR.out]; rfl, HB0.out.trans (hb.mono HB0.out.size)⟩

end Go.Proofs.YtkpdbhpmnegahaaDoor
