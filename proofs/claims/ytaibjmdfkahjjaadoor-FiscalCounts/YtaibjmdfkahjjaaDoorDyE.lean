/- What Of of package accountingref04 returns. -/
import Derived.Test.YtaibjmdfkahjjaaDoorDyD
import Derived.Lib.QuietBelow
import Derived.IntWalk
namespace Go.Proofs.YtaibjmdfkahjjaaDoor
open Go.RowKit Go.Sort
set_option linter.unusedVariables false

set_option maxHeartbeats 4000000 in
theorem rOf_any (y m d : Int) (w : World) (y1 : -9223372036854775808 ≤ y) (y2 : y ≤ 9223372036854775807) (m1 : -9223372036854775808 ≤ m) (m2 : m ≤ 9223372036854775807) (d1 : -9223372036854775808 ≤ d) (d2 : d ≤ 9223372036854775807) :
    Calls Tryd.prog 52 #[.agg #[.int .i64 y, .int .i64 m, .int .i64 d]] w fun e w' => e = .returned (.tuple #[.int .i64 (ofV y m d), .int .i64 (ofE y m d)]) ∧ Below w.heap.size w w' := by
  unfold ofV ofE
  have hb0 : Below w.heap.size w (w.alloc (Obj.cells #[.int .i64 y, .int .i64 m, .int .i64 d] 67)) := (Below.refl _ _).alloc (Nat.le_refl _) _
  have HB0 := Lib.hid hb0
  have HS := Lib.hid (show w.heap.size ≤ (w.alloc (Obj.cells #[.int .i64 y, .int .i64 m, .int .i64 d] 67)).heap.size by simp)
  clear hb0
  have k0 := cell_regrown (w := w.alloc (Obj.cells #[.int .i64 y, .int .i64 m, .int .i64 d] 67)) (a := ⟨w.heap.size, 0, none⟩) (v := .int .i64 y) (World.cell?_alloc_at _ _ _ _ rfl)
  have k1 := cell_regrown (w := w.alloc (Obj.cells #[.int .i64 y, .int .i64 m, .int .i64 d] 67)) (a := ⟨w.heap.size, 1, none⟩) (v := .int .i64 m) (World.cell?_alloc_at _ _ _ _ rfl)
  have k2 := cell_regrown (w := w.alloc (Obj.cells #[.int .i64 y, .int .i64 m, .int .i64 d] 67)) (a := ⟨w.heap.size, 2, none⟩) (v := .int .i64 d) (World.cell?_alloc_at _ _ _ _ rfl)
  have cL : ∀ dd os, Calls Tryd.prog 53 #[.int .i64 y, .int .i64 m] (grow (redrawn (w.alloc (Obj.cells #[.int .i64 y, .int .i64 m, .int .i64 d] 67)) dd) os) fun e w'' => e = .returned (.int .i64 (lenV y m)) ∧ ∃ p : Regrown, w'' = grow (redrawn (w.alloc (Obj.cells #[.int .i64 y, .int .i64 m, .int .i64 d] 67)) p.d) p.os := fun dd os => Calls.regrown_of (rLength_any y m _ y1 y2 m1 m2)
  by_cases hv : Valid y m d
  · rw [if_pos hv, if_pos hv]
    have hm := hv.m
    have hd := hv.d
    have HM := Lib.hid hv.monE
    obtain ⟨f1, f2⟩ := firstM_b (mon y m)
    have HF := Lib.hid (fun w => rFirst_any (mon y m) w (by have := HM.out; omega))
    have e1 := HM.out.1
    rw [e1] at HF
    have f3 : firstM (mon y m) ≤ 200000 := by have := HM.out; omega
    have f4 : 0 ≤ firstM (mon y m) := by omega
    clear f1 f2 e1
    unfold ofN
    obtain ⟨v1, v2, v3, v4⟩ := hv
    have q1 : decide (y < 1900) = false := decide_eq_false (by omega)
    have q2 : decide (2199 < y) = false := decide_eq_false (by omega)
    have q3 : decide (d < 1) = false := decide_eq_false (by omega)
    have q4 : decide (lenV y m < d) = false := decide_eq_false (by omega)
    generalize firstM (mon y m) = F at *
    go_enter Tryd.func52, Tryd.ntmps52
    go_wp2
    refine wp_region_quiet_below (l := _) (by kernel_rfl) (by kernel_rfl) ?_
    repeat (first | go_big_quiet_step (exact cL _ _) | quiet_step (exact cL _ _))
    refine wpQuiet_nil ?_
    intro w' hw'
    obtain ⟨⟨dq, osq⟩, hw''⟩ := hw'
    have hb := below_regrown (w.alloc (Obj.cells #[.int .i64 y, .int .i64 m, .int .i64 d] 67)) dq osq
    have c1 := k0 dq osq
    have c2 := k1 dq osq
    have c3 := k2 dq osq
    rw [← hw''] at hb c1 c2 c3
    clear hw''
    clear q1 q2 q3 q4 cL k0 k1 k2
    go_wp2
    have l0 := cell_regrown c1
    have l1 := cell_regrown c2
    have l2 := cell_regrown c3
    have W1 := IntWalk.i64_in (y - 1900) (by omega)
    have W2 := IntWalk.i64_in ((y - 1900) * 12) (by omega)
    have W3 := IntWalk.i64_in ((y - 1900) * 12 + m) (by omega)
    have W4 := IntWalk.i64_in ((y - 1900) * 12 + m - 1) (by omega)
    have W5 := IntWalk.i64_in (F + d) (by omega)
    have W6 := IntWalk.i64_in (F + d - 1) (by omega)
    have cF : ∀ dd os, Calls Tryd.prog 62 #[.int .i64 ((y - 1900) * 12 + m - 1)] (grow (redrawn w' dd) os) fun e w'' => e = .returned (.int .i64 F) ∧ ∃ p : Regrown, w'' = grow (redrawn w' p.d) p.os := fun dd os => Calls.regrown_of (HF.out _)
    refine wp_region_quiet_below (l := _) (by kernel_rfl) (by kernel_rfl) ?_
    repeat (first | go_big_quiet_step (exact cF _ _) | quiet_step (exact cF _ _))
    refine wpQuiet_nil ?_
    intro _ hw'
    obtain ⟨⟨dq2, osq2⟩, hw''⟩ := hw'
    have hb2 := below_regrown w' dq2 osq2
    rw [← hw''] at hb2
    clear hw''
    go_wp2
    go_ret2
    exact ⟨rfl, HB0.out.trans ((hb.mono HS.out).trans (hb2.mono (Nat.le_trans HS.out hb.size)))⟩
  · rw [if_neg hv, if_neg hv]
    unfold Valid at hv
    by_cases h1 : y < 1900
    · have q1 : decide (y < 1900) = true := decide_eq_true h1
      go_enter Tryd.func52, Tryd.ntmps52
      go_wp2
      refine wp_region_quiet_below (l := _) (by kernel_rfl) (by kernel_rfl) ?_
      repeat (first | go_big_quiet_step (exact cL _ _) | quiet_step (exact cL _ _))
      refine wpQuiet_nil ?_
      intro _ hw'
      obtain ⟨⟨dq, osq⟩, hw''⟩ := hw'
      have hb := below_regrown (w.alloc (Obj.cells #[.int .i64 y, .int .i64 m, .int .i64 d] 67)) dq osq
      have c1 := k0 dq osq
      have c2 := k1 dq osq
      have c3 := k2 dq osq
      rw [← hw''] at hb c1 c2 c3
      clear hw''
      go_wp2
      go_ret2
      exact ⟨rfl, HB0.out.trans (hb.mono HS.out)⟩
    have q1 : decide (y < 1900) = false := decide_eq_false h1
    by_cases h2 : 2199 < y
    · have q2 : decide (2199 < y) = true := decide_eq_true h2
      go_enter Tryd.func52, Tryd.ntmps52
      go_wp2
      refine wp_region_quiet_below (l := _) (by kernel_rfl) (by kernel_rfl) ?_
      repeat (first | go_big_quiet_step (exact cL _ _) | quiet_step (exact cL _ _))
      refine wpQuiet_nil ?_
      intro _ hw'
      obtain ⟨⟨dq, osq⟩, hw''⟩ := hw'
      have hb := below_regrown (w.alloc (Obj.cells #[.int .i64 y, .int .i64 m, .int .i64 d] 67)) dq osq
      have c1 := k0 dq osq
      have c2 := k1 dq osq
      have c3 := k2 dq osq
      rw [← hw''] at hb c1 c2 c3
      clear hw''
      go_wp2
      go_ret2
      exact ⟨rfl, HB0.out.trans (hb.mono HS.out)⟩
    have q2 : decide (2199 < y) = false := decide_eq_false h2
    by_cases h3 : d < 1
    · have q3 : decide (d < 1) = true := decide_eq_true h3
      go_enter Tryd.func52, Tryd.ntmps52
      go_wp2
      refine wp_region_quiet_below (l := _) (by kernel_rfl) (by kernel_rfl) ?_
      repeat (first | go_big_quiet_step (exact cL _ _) | quiet_step (exact cL _ _))
      refine wpQuiet_nil ?_
      intro _ hw'
      obtain ⟨⟨dq, osq⟩, hw''⟩ := hw'
      have hb := below_regrown (w.alloc (Obj.cells #[.int .i64 y, .int .i64 m, .int .i64 d] 67)) dq osq
      have c1 := k0 dq osq
      have c2 := k1 dq osq
      have c3 := k2 dq osq
      rw [← hw''] at hb c1 c2 c3
      clear hw''
      go_wp2
      go_ret2
      exact ⟨rfl, HB0.out.trans (hb.mono HS.out)⟩
    have q3 : decide (d < 1) = false := decide_eq_false h3
    have q4 : decide (lenV y m < d) = true := decide_eq_true (by omega)
    go_enter Tryd.func52, Tryd.ntmps52
    go_wp2
    refine wp_region_quiet_below (l := _) (by kernel_rfl) (by kernel_rfl) ?_
    repeat (first | go_big_quiet_step (exact cL _ _) | quiet_step (exact cL _ _))
    refine wpQuiet_nil ?_
    intro w' hw'
    obtain ⟨⟨dq, osq⟩, hw''⟩ := hw'
    have hb := below_regrown (w.alloc (Obj.cells #[.int .i64 y, .int .i64 m, .int .i64 d] 67)) dq osq
    have c1 := k0 dq osq
    have c2 := k1 dq osq
    have c3 := k2 dq osq
    rw [← hw''] at hb c1 c2 c3
    clear hw''
    go_wp2
    go_ret2
    exact ⟨rfl, HB0.out.trans (hb.mono HS.out)⟩
end Go.Proofs.YtaibjmdfkahjjaaDoor
