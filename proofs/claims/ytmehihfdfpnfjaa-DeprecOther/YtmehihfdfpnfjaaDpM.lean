/- The laws on deprec, but for their frames: DeprecCheck, DeprecSchedule, DeprecAfter. Written by wip/mk_dpl.py. -/
import Derived.Test.YtmehihfdfpnfjaaDpL
import Derived.Lib.QuietBelow
import Derived.BigQuiet
namespace Go.Proofs.Ytmehihfdfpnfjaa
open Go.RowKit Go.Sort
set_option linter.unusedVariables false
set_option linter.unusedSimpArgs false

set_option maxRecDepth 100000 in
set_option maxHeartbeats 4000000 in
theorem deprecCheck_walk (m c s p a b : Int) (A : Option Addr) (len uc : Nat) (us : List Int) (w : World) (h : PlIn w m c s p a b A len us) :
    Calls Try.prog 3 #[.agg #[.int .i64 m, .int .i64 c, .int .i64 s, .int .i64 p, .int .i64 a, .int .i64 b, .slice A len uc]] w fun e w' => e = .returned (.bool true) ∧ Below w.heap.size w w' := by
  obtain ⟨rfl, hR, hl'⟩ := h
  have HLi := Lib.hid lives_any
  have HP := Lib.hid (Q7.alloc w (.int .i64 m) (.int .i64 c) (.int .i64 s) (.int .i64 p) (.int .i64 a) (.int .i64 b) (.slice A us.length uc) 26)
  have HB0 := Lib.hid ((Below.refl w.heap.size w).alloc (Nat.le_refl _) (Obj.cells #[.int .i64 m, .int .i64 c, .int .i64 s, .int .i64 p, .int .i64 a, .int .i64 b, .slice A us.length uc] 26))
  have HR := Lib.hid (hR.below ((Below.refl w.heap.size w).alloc (Nat.le_refl _) (Obj.cells #[.int .i64 m, .int .i64 c, .int .i64 s, .int .i64 p, .int .i64 a, .int .i64 b, .slice A us.length uc] 26)))
  clear hR
  by_cases g : 250 < us.length
  · have g' : (250 : Int) < (us.length : Int) := by omega
    go_enter Try.func3, Try.ntmps3
    have xP0 := HP.out.c0
    have xP1 := HP.out.c1
    have xP2 := HP.out.c2
    have xP3 := HP.out.c3
    have xP4 := HP.out.c4
    have xP5 := HP.out.c5
    have xP6 := HP.out.c6
    go_wp2_with fail
    refine (HLi.out _).mono ?_
    rintro e w1 ⟨rfl, hb⟩
    clear xP0 xP1 xP2 xP3 xP4 xP5 xP6
    have HB1 := Lib.hid (HB0.out.trans ((hb).mono HB0.out.size))
    have P_1 := Lib.hid (HP.out.below hb)
    have R_1 := Lib.hid (HR.out.below hb)
    clear hb HP HR
    have xP0 := P_1.out.c0
    have xP1 := P_1.out.c1
    have xP2 := P_1.out.c2
    have xP3 := P_1.out.c3
    have xP4 := P_1.out.c4
    have xP5 := P_1.out.c5
    have xP6 := P_1.out.c6
    go_wp2
    go_ret
    exact ⟨rfl, HB1.out⟩
  have g' : ¬ (250 : Int) < (us.length : Int) := by omega
  have hn : us.length ≤ 250 := by omega
  have H1 := Lib.hid (fun W hr => check_any m c s p a b A uc us W hr hn)
  have H2 := Lib.hid (fun W hr => rCheck_any m c s p a b A uc us W hr hn)
  generalize ckE m c s p a b us = er at *
  go_enter Try.func3, Try.ntmps3
  have xP0 := HP.out.c0
  have xP1 := HP.out.c1
  have xP2 := HP.out.c2
  have xP3 := HP.out.c3
  have xP4 := HP.out.c4
  have xP5 := HP.out.c5
  have xP6 := HP.out.c6
  go_wp2_with fail
  clear xP0 xP1 xP2 xP3 xP4 xP5 xP6
  have C1 : ∀ dd os, Calls Try.prog 10 #[.agg #[.int .i64 m, .int .i64 c, .int .i64 s, .int .i64 p, .int .i64 a, .int .i64 b, .slice A us.length uc]] (grow (redrawn (w.alloc (Obj.cells #[.int .i64 m, .int .i64 c, .int .i64 s, .int .i64 p, .int .i64 a, .int .i64 b, .slice A us.length uc] 26)) dd) os) fun e w'' => e = .returned (.int .i64 er) ∧ ∃ rg : Regrown, w'' = grow (redrawn (w.alloc (Obj.cells #[.int .i64 m, .int .i64 c, .int .i64 s, .int .i64 p, .int .i64 a, .int .i64 b, .slice A us.length uc] 26)) rg.d) rg.os := fun dd os => Calls.regrown_of (H1.out _ (HR.out.below (below_regrown (w.alloc (Obj.cells #[.int .i64 m, .int .i64 c, .int .i64 s, .int .i64 p, .int .i64 a, .int .i64 b, .slice A us.length uc] 26)) dd os)))
  have C2 : ∀ dd os, Calls Try.prog 11 #[.agg #[.int .i64 m, .int .i64 c, .int .i64 s, .int .i64 p, .int .i64 a, .int .i64 b, .slice A us.length uc]] (grow (redrawn (w.alloc (Obj.cells #[.int .i64 m, .int .i64 c, .int .i64 s, .int .i64 p, .int .i64 a, .int .i64 b, .slice A us.length uc] 26)) dd) os) fun e w'' => e = .returned (.int .i64 er) ∧ ∃ rg : Regrown, w'' = grow (redrawn (w.alloc (Obj.cells #[.int .i64 m, .int .i64 c, .int .i64 s, .int .i64 p, .int .i64 a, .int .i64 b, .slice A us.length uc] 26)) rg.d) rg.os := fun dd os => Calls.regrown_of (H2.out _ (HR.out.below (below_regrown (w.alloc (Obj.cells #[.int .i64 m, .int .i64 c, .int .i64 s, .int .i64 p, .int .i64 a, .int .i64 b, .slice A us.length uc] 26)) dd os)))
  have C3 : ∀ dd os, Calls Try.prog 9 #[] (grow (redrawn (w.alloc (Obj.cells #[.int .i64 m, .int .i64 c, .int .i64 s, .int .i64 p, .int .i64 a, .int .i64 b, .slice A us.length uc] 26)) dd) os) fun e w'' => e = .returned (.bool true) ∧ ∃ rg : Regrown, w'' = grow (redrawn (w.alloc (Obj.cells #[.int .i64 m, .int .i64 c, .int .i64 s, .int .i64 p, .int .i64 a, .int .i64 b, .slice A us.length uc] 26)) rg.d) rg.os := fun dd os => Calls.regrown_of (HLi.out _)
  have m0 := cell_regrown HP.out.c0
  have m1 := cell_regrown HP.out.c1
  have m2 := cell_regrown HP.out.c2
  have m3 := cell_regrown HP.out.c3
  have m4 := cell_regrown HP.out.c4
  have m5 := cell_regrown HP.out.c5
  have m6 := cell_regrown HP.out.c6
  refine wp_region_quiet_below (l := _) (by kernel_rfl) (by kernel_rfl) ?_
  repeat (first | go_big_quiet_step (first | (go_at_call 10; exact C1 _ _) | (go_at_call 11; exact C2 _ _) | (go_at_call 9; exact C3 _ _)))
  refine wpQuiet_nil ?_
  intro w5 hw'
  obtain ⟨⟨dq2, osq2⟩, hw''⟩ := hw'
  have hb2 := below_regrown (w.alloc (Obj.cells #[.int .i64 m, .int .i64 c, .int .i64 s, .int .i64 p, .int .i64 a, .int .i64 b, .slice A us.length uc] 26)) dq2 osq2
  rw [← hw''] at hb2
  clear hw'' C1 C2 C3 m0 m1 m2 m3 m4 m5 m6
  go_wp2
  go_ret
  exact ⟨rfl, HB0.out.trans (hb2.mono HB0.out.size)⟩
set_option maxRecDepth 100000 in
set_option maxHeartbeats 4000000 in
theorem deprecSchedule_walk (m c s p a b : Int) (A : Option Addr) (len uc : Nat) (us : List Int) (w : World) (h : PlIn w m c s p a b A len us) :
    Calls Try.prog 4 #[.agg #[.int .i64 m, .int .i64 c, .int .i64 s, .int .i64 p, .int .i64 a, .int .i64 b, .slice A len uc]] w fun e w' => e = .returned (.bool true) ∧ Below w.heap.size w w' := by
  obtain ⟨rfl, hR, hl'⟩ := h
  have HLi := Lib.hid lives_any
  have HP := Lib.hid (Q7.alloc w (.int .i64 m) (.int .i64 c) (.int .i64 s) (.int .i64 p) (.int .i64 a) (.int .i64 b) (.slice A us.length uc) 26)
  have HB0 := Lib.hid ((Below.refl w.heap.size w).alloc (Nat.le_refl _) (Obj.cells #[.int .i64 m, .int .i64 c, .int .i64 s, .int .i64 p, .int .i64 a, .int .i64 b, .slice A us.length uc] 26))
  have HR := Lib.hid (hR.below ((Below.refl w.heap.size w).alloc (Nat.le_refl _) (Obj.cells #[.int .i64 m, .int .i64 c, .int .i64 s, .int .i64 p, .int .i64 a, .int .i64 b, .slice A us.length uc] 26)))
  clear hR
  by_cases g : 250 < us.length
  · have g' : (250 : Int) < (us.length : Int) := by omega
    go_enter Try.func4, Try.ntmps4
    have xP0 := HP.out.c0
    have xP1 := HP.out.c1
    have xP2 := HP.out.c2
    have xP3 := HP.out.c3
    have xP4 := HP.out.c4
    have xP5 := HP.out.c5
    have xP6 := HP.out.c6
    go_wp2_with fail
    refine (HLi.out _).mono ?_
    rintro e w1 ⟨rfl, hb⟩
    clear xP0 xP1 xP2 xP3 xP4 xP5 xP6
    have HB1 := Lib.hid (HB0.out.trans ((hb).mono HB0.out.size))
    have P_1 := Lib.hid (HP.out.below hb)
    have R_1 := Lib.hid (HR.out.below hb)
    clear hb HP HR
    have xP0 := P_1.out.c0
    have xP1 := P_1.out.c1
    have xP2 := P_1.out.c2
    have xP3 := P_1.out.c3
    have xP4 := P_1.out.c4
    have xP5 := P_1.out.c5
    have xP6 := P_1.out.c6
    go_wp2
    go_ret
    exact ⟨rfl, HB1.out⟩
  have g' : ¬ (250 : Int) < (us.length : Int) := by omega
  have hn : us.length ≤ 250 := by omega
  have H1 := Lib.hid (fun W (hr : PlF W m c s p a b A us) => show Calls Try.prog 12 #[.agg #[.int .i64 m, .int .i64 c, .int .i64 s, .int .i64 p, .int .i64 a, .int .i64 b, .slice A us.length uc]] W (fun e w' => (ckE m c s p a b us = 0 → OrdS m c s p us) ∧ ∃ A, e = .returned (.tuple #[.slice A (scL m c s p a b us).length (scL m c s p a b us).length, .int .i64 (ckE m c s p a b us)]) ∧ Row w' A (scL m c s p a b us) ∧ Below W.heap.size W w') from schedule_any m c s p a b A uc us W hr hn)
  have H2 := Lib.hid (fun W (hr : PlF W m c s p a b A us) (ho : ckE m c s p a b us = 0 → OrdS m c s p us) => show Calls Try.prog 13 #[.agg #[.int .i64 m, .int .i64 c, .int .i64 s, .int .i64 p, .int .i64 a, .int .i64 b, .slice A us.length uc]] W (fun e w' => ∃ A k, e = .returned (.tuple #[.slice A (scL m c s p a b us).length k, .int .i64 (ckE m c s p a b us)]) ∧ Row w' A (scL m c s p a b us) ∧ Below W.heap.size W w') from rSchedule_any m c s p a b A uc us W hr hn ho)
  have H3 := Lib.hid (fun (ho : ckE m c s p a b us = 0 → OrdS m c s p us) => sc_len ho)
  generalize hO : (ckE m c s p a b us = 0 → OrdS m c s p us) = O at *
  clear hO
  generalize scL m c s p a b us = L at *
  generalize ckE m c s p a b us = er at *
  go_enter Try.func4, Try.ntmps4
  have xP0 := HP.out.c0
  have xP1 := HP.out.c1
  have xP2 := HP.out.c2
  have xP3 := HP.out.c3
  have xP4 := HP.out.c4
  have xP5 := HP.out.c5
  have xP6 := HP.out.c6
  go_wp2_with fail
  refine (H1.out _ HR.out).mono ?_
  rintro e w1 ⟨ho, A2, rfl, hr, hb⟩
  clear xP0 xP1 xP2 xP3 xP4 xP5 xP6
  have HB1 := Lib.hid (HB0.out.trans ((hb).mono HB0.out.size))
  have P_1 := Lib.hid (HP.out.below hb)
  have R_1 := Lib.hid (HR.out.below hb)
  have S_1 := Lib.hid hr
  clear hb HP HR hr
  have xP0 := P_1.out.c0
  have xP1 := P_1.out.c1
  have xP2 := P_1.out.c2
  have xP3 := P_1.out.c3
  have xP4 := P_1.out.c4
  have xP5 := P_1.out.c5
  have xP6 := P_1.out.c6
  have HO := Lib.hid ho
  clear ho
  go_wp2_with fail
  refine (H2.out _ R_1.out HO.out).mono ?_
  rintro e w2 ⟨A3, k3, rfl, hr, hb⟩
  clear xP0 xP1 xP2 xP3 xP4 xP5 xP6
  have HB2 := Lib.hid (HB1.out.trans ((hb).mono HB1.out.size))
  have P_2 := Lib.hid (P_1.out.below hb)
  have R_2 := Lib.hid (R_1.out.below hb)
  have S_2 := Lib.hid (row_b S_1.out hb)
  have T_2 := Lib.hid hr
  clear hb HB1 P_1 R_1 S_1 hr
  have xP0 := P_2.out.c0
  have xP1 := P_2.out.c1
  have xP2 := P_2.out.c2
  have xP3 := P_2.out.c3
  have xP4 := P_2.out.c4
  have xP5 := P_2.out.c5
  have xP6 := P_2.out.c6
  have HSm := Lib.hid (same_any A2 A3 L.length k3 L L _ S_2.out T_2.out (by have := H3.out HO.out; omega) (by have := H3.out HO.out; omega))
  rw [decide_eq_true (rfl : L = L)] at HSm
  go_wp2_with fail
  refine (HSm.out).mono ?_
  rintro e w3 ⟨rfl, hb⟩
  clear xP0 xP1 xP2 xP3 xP4 xP5 xP6
  have HB3 := Lib.hid (HB2.out.trans ((hb).mono HB2.out.size))
  have P_3 := Lib.hid (P_2.out.below hb)
  have R_3 := Lib.hid (R_2.out.below hb)
  have S_3 := Lib.hid (row_b S_2.out hb)
  have T_3 := Lib.hid (row_b T_2.out hb)
  clear hb HB2 P_2 R_2 S_2 T_2
  have xP0 := P_3.out.c0
  have xP1 := P_3.out.c1
  have xP2 := P_3.out.c2
  have xP3 := P_3.out.c3
  have xP4 := P_3.out.c4
  have xP5 := P_3.out.c5
  have xP6 := P_3.out.c6
  go_wp2_with fail
  refine (HLi.out _).mono ?_
  rintro e w4 ⟨rfl, hb⟩
  clear xP0 xP1 xP2 xP3 xP4 xP5 xP6
  have HB4 := Lib.hid (HB3.out.trans ((hb).mono HB3.out.size))
  have P_4 := Lib.hid (P_3.out.below hb)
  have R_4 := Lib.hid (R_3.out.below hb)
  have S_4 := Lib.hid (row_b S_3.out hb)
  have T_4 := Lib.hid (row_b T_3.out hb)
  clear hb HB3 P_3 R_3 S_3 T_3
  have xP0 := P_4.out.c0
  have xP1 := P_4.out.c1
  have xP2 := P_4.out.c2
  have xP3 := P_4.out.c3
  have xP4 := P_4.out.c4
  have xP5 := P_4.out.c5
  have xP6 := P_4.out.c6
  go_wp2
  go_ret
  exact ⟨rfl, HB4.out⟩
set_option maxRecDepth 100000 in
set_option maxHeartbeats 4000000 in
theorem deprecAfter_walk (m c s p a b : Int) (A : Option Addr) (len uc : Nat) (us : List Int) (j : Int) (w : World) (h : PlIn w m c s p a b A len us) (hj0 : (Lit.int .i64 j).wf = true) :
    Calls Try.prog 5 #[.agg #[.int .i64 m, .int .i64 c, .int .i64 s, .int .i64 p, .int .i64 a, .int .i64 b, .slice A len uc], .int .i64 j] w fun e w' => e = .returned (.bool true) ∧ Below w.heap.size w w' := by
  obtain ⟨rfl, hR, hl'⟩ := h
  have HLi := Lib.hid lives_any
  have HP := Lib.hid (Q7.alloc w (.int .i64 m) (.int .i64 c) (.int .i64 s) (.int .i64 p) (.int .i64 a) (.int .i64 b) (.slice A us.length uc) 26)
  have HB0 := Lib.hid ((Below.refl w.heap.size w).alloc (Nat.le_refl _) (Obj.cells #[.int .i64 m, .int .i64 c, .int .i64 s, .int .i64 p, .int .i64 a, .int .i64 b, .slice A us.length uc] 26))
  have HR := Lib.hid (hR.below ((Below.refl w.heap.size w).alloc (Nat.le_refl _) (Obj.cells #[.int .i64 m, .int .i64 c, .int .i64 s, .int .i64 p, .int .i64 a, .int .i64 b, .slice A us.length uc] 26)))
  clear hR
  have hj := wf64' hj0
  by_cases g : 250 < us.length
  · have g' : (250 : Int) < (us.length : Int) := by omega
    go_enter Try.func5, Try.ntmps5
    have xP0 := HP.out.c0
    have xP1 := HP.out.c1
    have xP2 := HP.out.c2
    have xP3 := HP.out.c3
    have xP4 := HP.out.c4
    have xP5 := HP.out.c5
    have xP6 := HP.out.c6
    go_wp2_with fail
    refine (HLi.out _).mono ?_
    rintro e w1 ⟨rfl, hb⟩
    clear xP0 xP1 xP2 xP3 xP4 xP5 xP6
    have HB1 := Lib.hid (HB0.out.trans ((hb).mono HB0.out.size))
    have P_1 := Lib.hid (HP.out.below hb)
    have R_1 := Lib.hid (HR.out.below hb)
    clear hb HP HR
    have xP0 := P_1.out.c0
    have xP1 := P_1.out.c1
    have xP2 := P_1.out.c2
    have xP3 := P_1.out.c3
    have xP4 := P_1.out.c4
    have xP5 := P_1.out.c5
    have xP6 := P_1.out.c6
    go_wp2
    go_ret
    exact ⟨rfl, HB1.out⟩
  have g' : ¬ (250 : Int) < (us.length : Int) := by omega
  have hn : us.length ≤ 250 := by omega
  have H1 := Lib.hid (fun W (hr : PlF W m c s p a b A us) => show Calls Try.prog 15 #[.agg #[.int .i64 m, .int .i64 c, .int .i64 s, .int .i64 p, .int .i64 a, .int .i64 b, .slice A us.length uc], .int .i64 j] W (fun e w' => (ckE m c s p a b us = 0 → OrdS m c s p us) ∧ e = .returned (.tuple #[.int .i64 (afB m c s p a b us j), .int .i64 (afE m c s p a b us j)]) ∧ Below W.heap.size W w') from after_any m c s p a b A uc us j W hr hn hj)
  have H2 := Lib.hid (fun W (hr : PlF W m c s p a b A us) (ho : ckE m c s p a b us = 0 → OrdS m c s p us) => show Calls Try.prog 16 #[.agg #[.int .i64 m, .int .i64 c, .int .i64 s, .int .i64 p, .int .i64 a, .int .i64 b, .slice A us.length uc], .int .i64 j] W (fun e w' => e = .returned (.tuple #[.int .i64 (afB m c s p a b us j), .int .i64 (afE m c s p a b us j)]) ∧ Below W.heap.size W w') from rAfter_any m c s p a b A uc us j W hr hn hj ho)
  generalize hO : (ckE m c s p a b us = 0 → OrdS m c s p us) = O at *
  clear hO
  generalize afB m c s p a b us j = bk at *
  generalize afE m c s p a b us j = er at *
  go_enter Try.func5, Try.ntmps5
  have xP0 := HP.out.c0
  have xP1 := HP.out.c1
  have xP2 := HP.out.c2
  have xP3 := HP.out.c3
  have xP4 := HP.out.c4
  have xP5 := HP.out.c5
  have xP6 := HP.out.c6
  go_wp2_with fail
  refine (H1.out _ HR.out).mono ?_
  rintro e w1 ⟨ho, rfl, hb⟩
  clear xP0 xP1 xP2 xP3 xP4 xP5 xP6
  have HB1 := Lib.hid (HB0.out.trans ((hb).mono HB0.out.size))
  have P_1 := Lib.hid (HP.out.below hb)
  have R_1 := Lib.hid (HR.out.below hb)
  clear hb HP HR
  have xP0 := P_1.out.c0
  have xP1 := P_1.out.c1
  have xP2 := P_1.out.c2
  have xP3 := P_1.out.c3
  have xP4 := P_1.out.c4
  have xP5 := P_1.out.c5
  have xP6 := P_1.out.c6
  have HO := Lib.hid ho
  clear ho
  go_wp2_with fail
  refine (H2.out _ R_1.out HO.out).mono ?_
  rintro e w2 ⟨rfl, hb⟩
  clear xP0 xP1 xP2 xP3 xP4 xP5 xP6
  have HB2 := Lib.hid (HB1.out.trans ((hb).mono HB1.out.size))
  have P_2 := Lib.hid (P_1.out.below hb)
  have R_2 := Lib.hid (R_1.out.below hb)
  clear hb HB1 P_1 R_1
  have xP0 := P_2.out.c0
  have xP1 := P_2.out.c1
  have xP2 := P_2.out.c2
  have xP3 := P_2.out.c3
  have xP4 := P_2.out.c4
  have xP5 := P_2.out.c5
  have xP6 := P_2.out.c6
  go_wp2_with fail
  refine (HLi.out _).mono ?_
  rintro e w3 ⟨rfl, hb⟩
  clear xP0 xP1 xP2 xP3 xP4 xP5 xP6
  have HB3 := Lib.hid (HB2.out.trans ((hb).mono HB2.out.size))
  have P_3 := Lib.hid (P_2.out.below hb)
  have R_3 := Lib.hid (R_2.out.below hb)
  clear hb HB2 P_2 R_2
  have xP0 := P_3.out.c0
  have xP1 := P_3.out.c1
  have xP2 := P_3.out.c2
  have xP3 := P_3.out.c3
  have xP4 := P_3.out.c4
  have xP5 := P_3.out.c5
  have xP6 := P_3.out.c6
  go_wp2
  go_ret
  exact ⟨rfl, HB3.out⟩
end Go.Proofs.Ytmehihfdfpnfjaa
