/- The law DeprecOther, but for its frame. Written by wip/mk_dpl.py. -/
import Derived.Test.YtmehihfdfpnfjaaDpN
namespace Go.Proofs.Ytmehihfdfpnfjaa
open Go.RowKit Go.Sort
set_option linter.unusedVariables false
set_option linter.unusedSimpArgs false

theorem other_eq {m c s p a b a' b' : Int} {us us' : List Int} (h2 : m = 2 → a' = a ∧ b' = b) (h4 : m = 4 → us' = us) : ckE m c s p a' b' us' = ckE m c s p a b us ∧ scL m c s p a' b' us' = scL m c s p a b us := by
  by_cases e2 : m = 2
  · obtain ⟨rfl, rfl⟩ := h2 e2
    have n4 : ¬ m = 4 := by omega
    have hc : ckE m c s p a' b' us' = ckE m c s p a' b' us := by
      unfold ckE
      simp only [n4, false_and, if_false]
    refine ⟨hc, ?_⟩
    unfold scL
    rw [hc]
    have n1 : ¬ m = 1 := by omega
    simp only [n1, if_false, e2, if_true]
  · have hc0 : ∀ u, ckE m c s p a' b' u = ckE m c s p a b u := fun u => by
      unfold ckE
      simp only [e2, false_and, if_false]
    by_cases e4 : m = 4
    · rw [h4 e4]
      refine ⟨hc0 us, ?_⟩
      unfold scL
      rw [hc0]
      simp only [e2, if_false]
    · have hc1 : ckE m c s p a b us' = ckE m c s p a b us := by
        unfold ckE
        simp only [e4, false_and, if_false]
      have hc : ckE m c s p a' b' us' = ckE m c s p a b us := (hc0 us').trans hc1
      refine ⟨hc, ?_⟩
      unfold scL
      rw [hc]
      by_cases hk : ckE m c s p a b us = 0
      · have g := good_of hk
        have := g.m1
        have := g.m4
        have h13 : m = 1 ∨ m = 3 := by omega
        rcases h13 with rfl | rfl
        · simp
        · simp
      · simp only [hk, if_false]
set_option maxRecDepth 100000 in
set_option maxHeartbeats 1500000 in
theorem deprecOther_walk (m c s p a b : Int) (A : Option Addr) (len uc : Nat) (us : List Int) (x y : Int) (A2 : Option Addr) (len2 uc2 : Nat) (z2 : List Int) (w : World) (h : PlIn w m c s p a b A len us) (hx0 : (Lit.int .i64 x).wf = true) (hy0 : (Lit.int .i64 y).wf = true) (h2 : IsRow .i64 w A2 len2 uc2 z2) :
    Calls Try.prog 8 #[.agg #[.int .i64 m, .int .i64 c, .int .i64 s, .int .i64 p, .int .i64 a, .int .i64 b, .slice A len uc], .agg #[.int .i64 x, .int .i64 y], .slice A2 len2 uc2] w fun e w' => e = .returned (.bool true) ∧ Below w.heap.size w w' := by
  obtain ⟨rfl, hR, hl'⟩ := h
  obtain ⟨vs, rfl, hV, _, hlv⟩ := row_of h2
  have hx := wf64' hx0
  have hy := wf64' hy0
  have HLi := Lib.hid lives_any
  have HP0 := Lib.hid (Q7.alloc w (.int .i64 m) (.int .i64 c) (.int .i64 s) (.int .i64 p) (.int .i64 a) (.int .i64 b) (.slice A us.length uc) 26)
  have ha0 : Below w.heap.size w (w.alloc (Obj.cells #[.int .i64 m, .int .i64 c, .int .i64 s, .int .i64 p, .int .i64 a, .int .i64 b, .slice A us.length uc] 26)) := (Below.refl w.heap.size w).alloc (Nat.le_refl _) _
  have ha1 : Below (w.alloc (Obj.cells #[.int .i64 m, .int .i64 c, .int .i64 s, .int .i64 p, .int .i64 a, .int .i64 b, .slice A us.length uc] 26)).heap.size (w.alloc (Obj.cells #[.int .i64 m, .int .i64 c, .int .i64 s, .int .i64 p, .int .i64 a, .int .i64 b, .slice A us.length uc] 26)) ((w.alloc (Obj.cells #[.int .i64 m, .int .i64 c, .int .i64 s, .int .i64 p, .int .i64 a, .int .i64 b, .slice A us.length uc] 26)).alloc (Obj.cells #[.int .i64 x, .int .i64 y] 23)) := (Below.refl _ _).alloc (Nat.le_refl _) _
  have HP := Lib.hid (HP0.out.below ha1)
  have hs1 : (w.alloc (Obj.cells #[.int .i64 m, .int .i64 c, .int .i64 s, .int .i64 p, .int .i64 a, .int .i64 b, .slice A us.length uc] 26)).heap.size = w.heap.size + 1 := by simp
  have hs2 : ((w.alloc (Obj.cells #[.int .i64 m, .int .i64 c, .int .i64 s, .int .i64 p, .int .i64 a, .int .i64 b, .slice A us.length uc] 26)).alloc (Obj.cells #[.int .i64 x, .int .i64 y] 23)).heap.size = w.heap.size + 1 + 1 := by simp
  have HF := Lib.hid (show Q2 ((w.alloc (Obj.cells #[.int .i64 m, .int .i64 c, .int .i64 s, .int .i64 p, .int .i64 a, .int .i64 b, .slice A us.length uc] 26)).alloc (Obj.cells #[.int .i64 x, .int .i64 y] 23)) (w.heap.size + 1) (.int .i64 x) (.int .i64 y) from by have q := Q2.alloc (w.alloc (Obj.cells #[.int .i64 m, .int .i64 c, .int .i64 s, .int .i64 p, .int .i64 a, .int .i64 b, .slice A us.length uc] 26)) (.int .i64 x) (.int .i64 y) 23; rwa [hs1] at q)
  have HB0 := Lib.hid (ha0.trans (ha1.mono ha0.size))
  have HRb := Lib.hid (fun W (hb : Below w.heap.size w W) => hR.below hb)
  have HVb := Lib.hid (fun W (hb : Below w.heap.size w W) => row_b hV hb)
  have hq : PlF w m c s p x y A us := ⟨hR.m, hR.c, hR.s, hR.p, hx, hy, hR.u⟩
  have hq2 : PlF w m c s p a b A2 vs := ⟨hR.m, hR.c, hR.s, hR.p, hR.a, hR.b, hV⟩
  have hq3 : PlF w m c s p x y A2 vs := ⟨hR.m, hR.c, hR.s, hR.p, hx, hy, hV⟩
  by_cases g : 250 < us.length
  · have g' : (250 : Int) < (us.length : Int) := by omega
    clear hs1 hs2
    go_enter Try.func8, Try.ntmps8
    have x0 := HP.out.c0
    have x1 := HP.out.c1
    have x2 := HP.out.c2
    have x3 := HP.out.c3
    have x4 := HP.out.c4
    have x5 := HP.out.c5
    have x6 := HP.out.c6
    go_wp2_with fail
    refine (HLi.out _).mono ?_
    rintro e w1 ⟨rfl, hb⟩
    have HB1 := Lib.hid (HB0.out.trans (hb.mono HB0.out.size))
    clear hb
    go_wp2
    go_ret
    exact ⟨rfl, HB1.out⟩
  have g' : decide ((250 : Int) < (us.length : Int)) = false := decide_eq_false (by omega)
  by_cases k : 250 < vs.length
  · have k' : (250 : Int) < (vs.length : Int) := by omega
    clear hs1 hs2
    go_enter Try.func8, Try.ntmps8
    have x0 := HP.out.c0
    have x1 := HP.out.c1
    have x2 := HP.out.c2
    have x3 := HP.out.c3
    have x4 := HP.out.c4
    have x5 := HP.out.c5
    have x6 := HP.out.c6
    go_wp2_with fail
    refine (HLi.out _).mono ?_
    rintro e w1 ⟨rfl, hb⟩
    have HB1 := Lib.hid (HB0.out.trans (hb.mono HB0.out.size))
    clear hb
    go_wp2
    go_ret
    exact ⟨rfl, HB1.out⟩
  have k' : decide ((250 : Int) < (vs.length : Int)) = false := decide_eq_false (by omega)
  have hn : us.length ≤ 250 := by omega
  have hn2 : vs.length ≤ 250 := by omega
  have H1 := Lib.hid (fun W (hr : PlF W m c s p a b A us) => show Calls Try.prog 12 #[.agg #[.int .i64 m, .int .i64 c, .int .i64 s, .int .i64 p, .int .i64 a, .int .i64 b, .slice A us.length uc]] W (fun e w' => (ckE m c s p a b us = 0 → OrdS m c s p us) ∧ ∃ A, e = .returned (.tuple #[.slice A (scL m c s p a b us).length (scL m c s p a b us).length, .int .i64 (ckE m c s p a b us)]) ∧ Row w' A (scL m c s p a b us) ∧ Below W.heap.size W w') from schedule_any m c s p a b A uc us W hr hn)
  have H5 := Lib.hid (fun W (hr : PlF W m c s p a b A us) => check_any m c s p a b A uc us W hr hn)
  have H3 := Lib.hid (fun (ho : ckE m c s p a b us = 0 → OrdS m c s p us) => sc_len ho)
  clear ha0 ha1 hs1 hR hV h2
  by_cases m2 : m = 2
  · subst m2
    obtain ⟨e1, e2⟩ := other_eq (m := 2) (c := c) (s := s) (p := p) (a := a) (b := b) (a' := a) (b' := b) (us := us) (us' := vs) (fun _ => ⟨rfl, rfl⟩) (fun q => absurd q (by omega))
    have H2 := Lib.hid (fun W (hr : PlF W 2 c s p a b A2 vs) => show Calls Try.prog 12 #[.agg #[.int .i64 2, .int .i64 c, .int .i64 s, .int .i64 p, .int .i64 a, .int .i64 b, .slice A2 vs.length uc2]] W (fun e w' => ∃ A, e = .returned (.tuple #[.slice A (scL 2 c s p a b us).length (scL 2 c s p a b us).length, .int .i64 (ckE 2 c s p a b us)]) ∧ Row w' A (scL 2 c s p a b us) ∧ Below W.heap.size W w') from by
      refine (schedule_any 2 c s p a b A2 uc2 vs W hr hn2).mono ?_
      rintro e w' ⟨_, A3, rfl, q1, q2⟩
      rw [e1, e2] at *
      exact ⟨A3, rfl, q1, q2⟩)
    have H6 := Lib.hid (fun W (hr : PlF W 2 c s p a b A2 vs) => check_any 2 c s p a b A2 uc2 vs W hr hn2)
    rw [e1] at H6
    have HRq := Lib.hid (fun W (hb : Below w.heap.size w W) => (hq2).below hb)
    clear e1 e2 hq hq2 hq3 hx hy
    generalize hO : (ckE 2 c s p a b us = 0 → OrdS 2 c s p us) = O at *
    clear hO
    generalize scL 2 c s p a b us = L at *
    generalize ckE 2 c s p a b us = er at *
    have ha1 : Below ((w.alloc (Obj.cells #[.int .i64 2, .int .i64 c, .int .i64 s, .int .i64 p, .int .i64 a, .int .i64 b, .slice A us.length uc] 26)).alloc (Obj.cells #[.int .i64 x, .int .i64 y] 23)).heap.size ((w.alloc (Obj.cells #[.int .i64 2, .int .i64 c, .int .i64 s, .int .i64 p, .int .i64 a, .int .i64 b, .slice A us.length uc] 26)).alloc (Obj.cells #[.int .i64 x, .int .i64 y] 23)) (((w.alloc (Obj.cells #[.int .i64 2, .int .i64 c, .int .i64 s, .int .i64 p, .int .i64 a, .int .i64 b, .slice A us.length uc] 26)).alloc (Obj.cells #[.int .i64 x, .int .i64 y] 23)).alloc (Obj.cells #[.int .i64 2, .int .i64 c, .int .i64 s, .int .i64 p, .int .i64 a, .int .i64 b, .slice A us.length uc] 26)) := (Below.refl _ _).alloc (Nat.le_refl _) _
    have HP1 := Lib.hid (HP.out.below ha1)
    have HF1 := Lib.hid (HF.out.below ha1)
    have HQ1 := Lib.hid (show Q7 (((w.alloc (Obj.cells #[.int .i64 2, .int .i64 c, .int .i64 s, .int .i64 p, .int .i64 a, .int .i64 b, .slice A us.length uc] 26)).alloc (Obj.cells #[.int .i64 x, .int .i64 y] 23)).alloc (Obj.cells #[.int .i64 2, .int .i64 c, .int .i64 s, .int .i64 p, .int .i64 a, .int .i64 b, .slice A us.length uc] 26)) (w.heap.size + 1 + 1) (.int .i64 2) (.int .i64 c) (.int .i64 s) (.int .i64 p) (.int .i64 a) (.int .i64 b) (.slice A us.length uc) from by have q := Q7.alloc ((w.alloc (Obj.cells #[.int .i64 2, .int .i64 c, .int .i64 s, .int .i64 p, .int .i64 a, .int .i64 b, .slice A us.length uc] 26)).alloc (Obj.cells #[.int .i64 x, .int .i64 y] 23)) (.int .i64 2) (.int .i64 c) (.int .i64 s) (.int .i64 p) (.int .i64 a) (.int .i64 b) (.slice A us.length uc) 26; rwa [hs2] at q)
    have HB1 := Lib.hid (HB0.out.trans (ha1.mono HB0.out.size))
    clear ha1
    have ha2 : Below ((w.alloc (Obj.cells #[.int .i64 2, .int .i64 c, .int .i64 s, .int .i64 p, .int .i64 a, .int .i64 b, .slice A us.length uc] 26)).alloc (Obj.cells #[.int .i64 x, .int .i64 y] 23)).heap.size ((w.alloc (Obj.cells #[.int .i64 2, .int .i64 c, .int .i64 s, .int .i64 p, .int .i64 a, .int .i64 b, .slice A us.length uc] 26)).alloc (Obj.cells #[.int .i64 x, .int .i64 y] 23)) (((w.alloc (Obj.cells #[.int .i64 2, .int .i64 c, .int .i64 s, .int .i64 p, .int .i64 a, .int .i64 b, .slice A us.length uc] 26)).alloc (Obj.cells #[.int .i64 x, .int .i64 y] 23)).alloc (Obj.cells #[.int .i64 2, .int .i64 c, .int .i64 s, .int .i64 p, .int .i64 a, .int .i64 b, .slice A2 vs.length uc2] 26)) := (Below.refl _ _).alloc (Nat.le_refl _) _
    have HP2 := Lib.hid (HP.out.below ha2)
    have HF2 := Lib.hid (HF.out.below ha2)
    have HQ2 := Lib.hid (show Q7 (((w.alloc (Obj.cells #[.int .i64 2, .int .i64 c, .int .i64 s, .int .i64 p, .int .i64 a, .int .i64 b, .slice A us.length uc] 26)).alloc (Obj.cells #[.int .i64 x, .int .i64 y] 23)).alloc (Obj.cells #[.int .i64 2, .int .i64 c, .int .i64 s, .int .i64 p, .int .i64 a, .int .i64 b, .slice A2 vs.length uc2] 26)) (w.heap.size + 1 + 1) (.int .i64 2) (.int .i64 c) (.int .i64 s) (.int .i64 p) (.int .i64 a) (.int .i64 b) (.slice A2 vs.length uc2) from by have q := Q7.alloc ((w.alloc (Obj.cells #[.int .i64 2, .int .i64 c, .int .i64 s, .int .i64 p, .int .i64 a, .int .i64 b, .slice A us.length uc] 26)).alloc (Obj.cells #[.int .i64 x, .int .i64 y] 23)) (.int .i64 2) (.int .i64 c) (.int .i64 s) (.int .i64 p) (.int .i64 a) (.int .i64 b) (.slice A2 vs.length uc2) 26; rwa [hs2] at q)
    have HB2 := Lib.hid (HB0.out.trans (ha2.mono HB0.out.size))
    clear ha2
    go_enter Try.func8, Try.ntmps8
    have z0 := HP.out.c0
    have z1 := HP.out.c1
    have z2 := HP.out.c2
    have z3 := HP.out.c3
    have z4 := HP.out.c4
    have z5 := HP.out.c5
    have z6 := HP.out.c6
    have p10 := HP1.out.c0
    have q10 := HQ1.out.c0
    have r10 := HQ1.out.f0
    have p11 := HP1.out.c1
    have q11 := HQ1.out.c1
    have r11 := HQ1.out.f1
    have p12 := HP1.out.c2
    have q12 := HQ1.out.c2
    have r12 := HQ1.out.f2
    have p13 := HP1.out.c3
    have q13 := HQ1.out.c3
    have r13 := HQ1.out.f3
    have p14 := HP1.out.c4
    have q14 := HQ1.out.c4
    have r14 := HQ1.out.f4
    have p15 := HP1.out.c5
    have q15 := HQ1.out.c5
    have r15 := HQ1.out.f5
    have p16 := HP1.out.c6
    have q16 := HQ1.out.c6
    have r16 := HQ1.out.f6
    have s10 := HF1.out.c0
    have s11 := HF1.out.c1
    have p20 := HP2.out.c0
    have q20 := HQ2.out.c0
    have r20 := HQ2.out.f0
    have p21 := HP2.out.c1
    have q21 := HQ2.out.c1
    have r21 := HQ2.out.f1
    have p22 := HP2.out.c2
    have q22 := HQ2.out.c2
    have r22 := HQ2.out.f2
    have p23 := HP2.out.c3
    have q23 := HQ2.out.c3
    have r23 := HQ2.out.f3
    have p24 := HP2.out.c4
    have q24 := HQ2.out.c4
    have r24 := HQ2.out.f4
    have p25 := HP2.out.c5
    have q25 := HQ2.out.c5
    have r25 := HQ2.out.f5
    have p26 := HP2.out.c6
    have q26 := HQ2.out.c6
    have r26 := HQ2.out.f6
    have s20 := HF2.out.c0
    have s21 := HF2.out.c1
    go_wp2_with fail
    refine (H1.out _ (HRb.out _ HB2.out)).mono ?_
    rintro e w5 ⟨ho, A5, rfl, hr, hb⟩
    clear p10 q10 r10 p11 q11 r11 p12 q12 r12 p13 q13 r13 p14 q14 r14 p15 q15 r15 p16 q16 r16 s10 s11 p20 q20 r20 p21 q21 r21 p22 q22 r22 p23 q23 r23 p24 q24 r24 p25 q25 r25 p26 q26 r26 s20 s21 z0 z1 z2 z3 z4 z5 z6
    have HB5 := Lib.hid (HB2.out.trans (hb.mono HB2.out.size))
    have HP5 := Lib.hid (HP2.out.below hb)
    have HQ5 := Lib.hid (HQ2.out.below hb)
    have HS5 := Lib.hid hr
    have HO := Lib.hid ho
    clear hb hr ho
    have x0 := HP5.out.c0
    have x1 := HP5.out.c1
    have x2 := HP5.out.c2
    have x3 := HP5.out.c3
    have x4 := HP5.out.c4
    have x5 := HP5.out.c5
    have x6 := HP5.out.c6
    have y0 := HQ5.out.c0
    have y1 := HQ5.out.c1
    have y2 := HQ5.out.c2
    have y3 := HQ5.out.c3
    have y4 := HQ5.out.c4
    have y5 := HQ5.out.c5
    have y6 := HQ5.out.c6
    go_wp2_with fail
    refine (H2.out _ (HRq.out _ HB5.out)).mono ?_
    rintro e w6 ⟨A6, rfl, hr, hb⟩
    clear x0 x1 x2 x3 x4 x5 x6 y0 y1 y2 y3 y4 y5 y6
    have HB6 := Lib.hid (HB5.out.trans (hb.mono HB5.out.size))
    have HP6 := Lib.hid (HP5.out.below hb)
    have HQ6 := Lib.hid (HQ5.out.below hb)
    have HS6 := Lib.hid (row_b HS5.out hb)
    have HT6 := Lib.hid hr
    clear hb hr HP5 HQ5 HS5 HB5
    go_wp2_with fail
    have C1 : ∀ dd os, Calls Try.prog 14 #[.slice A5 L.length L.length, .slice A6 L.length L.length] (grow (redrawn w6 dd) os) fun e w'' => e = .returned (.bool true) ∧ ∃ rg : Regrown, w'' = grow (redrawn w6 rg.d) rg.os := fun dd os => Calls.regrown_of ((same_any A5 A6 L.length L.length L L _ (row_b HS6.out (below_regrown w6 dd os)) (row_b HT6.out (below_regrown w6 dd os)) (by have := H3.out HO.out; omega) (by have := H3.out HO.out; omega)).mono (fun e w' q => by rw [decide_eq_true (rfl : L = L)] at q; exact q))
    have C2 : ∀ dd os, Calls Try.prog 10 #[.agg #[.int .i64 2, .int .i64 c, .int .i64 s, .int .i64 p, .int .i64 a, .int .i64 b, .slice A us.length uc]] (grow (redrawn w6 dd) os) fun e w'' => e = .returned (.int .i64 er) ∧ ∃ rg : Regrown, w'' = grow (redrawn w6 rg.d) rg.os := fun dd os => Calls.regrown_of (H5.out _ ((HRb.out _ HB6.out).below (below_regrown w6 dd os)))
    have C3 : ∀ dd os, Calls Try.prog 10 #[.agg #[.int .i64 2, .int .i64 c, .int .i64 s, .int .i64 p, .int .i64 a, .int .i64 b, .slice A2 vs.length uc2]] (grow (redrawn w6 dd) os) fun e w'' => e = .returned (.int .i64 er) ∧ ∃ rg : Regrown, w'' = grow (redrawn w6 rg.d) rg.os := fun dd os => Calls.regrown_of (H6.out _ ((HRq.out _ HB6.out).below (below_regrown w6 dd os)))
    have C4 : ∀ dd os, Calls Try.prog 9 #[] (grow (redrawn w6 dd) os) fun e w'' => e = .returned (.bool true) ∧ ∃ rg : Regrown, w'' = grow (redrawn w6 rg.d) rg.os := fun dd os => Calls.regrown_of (HLi.out _)
    have m0 := cell_regrown HP6.out.c0
    have n0 := cell_regrown HQ6.out.c0
    have m1 := cell_regrown HP6.out.c1
    have n1 := cell_regrown HQ6.out.c1
    have m2 := cell_regrown HP6.out.c2
    have n2 := cell_regrown HQ6.out.c2
    have m3 := cell_regrown HP6.out.c3
    have n3 := cell_regrown HQ6.out.c3
    have m4 := cell_regrown HP6.out.c4
    have n4 := cell_regrown HQ6.out.c4
    have m5 := cell_regrown HP6.out.c5
    have n5 := cell_regrown HQ6.out.c5
    have m6 := cell_regrown HP6.out.c6
    have n6 := cell_regrown HQ6.out.c6
    refine wp_region_quiet_below (l := _) (by kernel_rfl) (by kernel_rfl) ?_
    repeat (first | go_big_quiet_step (first | (go_at_call 14; with_reducible exact C1 _ _) | (go_at_call 10; first | with_reducible exact C2 _ _ | with_reducible exact C3 _ _) | (go_at_call 9; with_reducible exact C4 _ _)))
    refine wpQuiet_nil ?_
    intro w7 hw'
    obtain ⟨⟨dq2, osq2⟩, hw''⟩ := hw'
    have hb2 := below_regrown w6 dq2 osq2
    rw [← hw''] at hb2
    clear hw'' C1 C2 C3 C4 m0 n0 m1 n1 m2 n2 m3 n3 m4 n4 m5 n5 m6 n6
    go_wp2
    go_ret
    exact ⟨rfl, HB6.out.trans (hb2.mono HB6.out.size)⟩
  have d2 : (m != 2) = true := by simpa using m2
  by_cases m4 : m = 4
  · subst m4
    obtain ⟨e1, e2⟩ := other_eq (m := 4) (c := c) (s := s) (p := p) (a := a) (b := b) (a' := x) (b' := y) (us := us) (us' := us) (by omega) (fun _ => rfl)
    have H2 := Lib.hid (fun W (hr : PlF W 4 c s p x y A us) => show Calls Try.prog 12 #[.agg #[.int .i64 4, .int .i64 c, .int .i64 s, .int .i64 p, .int .i64 x, .int .i64 y, .slice A us.length uc]] W (fun e w' => ∃ A, e = .returned (.tuple #[.slice A (scL 4 c s p a b us).length (scL 4 c s p a b us).length, .int .i64 (ckE 4 c s p a b us)]) ∧ Row w' A (scL 4 c s p a b us) ∧ Below W.heap.size W w') from by
      refine (schedule_any 4 c s p x y A uc us W hr hn).mono ?_
      rintro e w' ⟨_, A3, rfl, q1, q2⟩
      rw [e1, e2] at *
      exact ⟨A3, rfl, q1, q2⟩)
    have H6 := Lib.hid (fun W (hr : PlF W 4 c s p x y A us) => check_any 4 c s p x y A uc us W hr hn)
    rw [e1] at H6
    have HRq := Lib.hid (fun W (hb : Below w.heap.size w W) => (hq).below hb)
    clear e1 e2 hq hq2 hq3 hx hy
    generalize hO : (ckE 4 c s p a b us = 0 → OrdS 4 c s p us) = O at *
    clear hO
    generalize scL 4 c s p a b us = L at *
    generalize ckE 4 c s p a b us = er at *
    have ha1 : Below ((w.alloc (Obj.cells #[.int .i64 4, .int .i64 c, .int .i64 s, .int .i64 p, .int .i64 a, .int .i64 b, .slice A us.length uc] 26)).alloc (Obj.cells #[.int .i64 x, .int .i64 y] 23)).heap.size ((w.alloc (Obj.cells #[.int .i64 4, .int .i64 c, .int .i64 s, .int .i64 p, .int .i64 a, .int .i64 b, .slice A us.length uc] 26)).alloc (Obj.cells #[.int .i64 x, .int .i64 y] 23)) (((w.alloc (Obj.cells #[.int .i64 4, .int .i64 c, .int .i64 s, .int .i64 p, .int .i64 a, .int .i64 b, .slice A us.length uc] 26)).alloc (Obj.cells #[.int .i64 x, .int .i64 y] 23)).alloc (Obj.cells #[.int .i64 4, .int .i64 c, .int .i64 s, .int .i64 p, .int .i64 a, .int .i64 b, .slice A us.length uc] 26)) := (Below.refl _ _).alloc (Nat.le_refl _) _
    have HP1 := Lib.hid (HP.out.below ha1)
    have HF1 := Lib.hid (HF.out.below ha1)
    have HQ1 := Lib.hid (show Q7 (((w.alloc (Obj.cells #[.int .i64 4, .int .i64 c, .int .i64 s, .int .i64 p, .int .i64 a, .int .i64 b, .slice A us.length uc] 26)).alloc (Obj.cells #[.int .i64 x, .int .i64 y] 23)).alloc (Obj.cells #[.int .i64 4, .int .i64 c, .int .i64 s, .int .i64 p, .int .i64 a, .int .i64 b, .slice A us.length uc] 26)) (w.heap.size + 1 + 1) (.int .i64 4) (.int .i64 c) (.int .i64 s) (.int .i64 p) (.int .i64 a) (.int .i64 b) (.slice A us.length uc) from by have q := Q7.alloc ((w.alloc (Obj.cells #[.int .i64 4, .int .i64 c, .int .i64 s, .int .i64 p, .int .i64 a, .int .i64 b, .slice A us.length uc] 26)).alloc (Obj.cells #[.int .i64 x, .int .i64 y] 23)) (.int .i64 4) (.int .i64 c) (.int .i64 s) (.int .i64 p) (.int .i64 a) (.int .i64 b) (.slice A us.length uc) 26; rwa [hs2] at q)
    have HB1 := Lib.hid (HB0.out.trans (ha1.mono HB0.out.size))
    clear ha1
    have ha2 : Below ((w.alloc (Obj.cells #[.int .i64 4, .int .i64 c, .int .i64 s, .int .i64 p, .int .i64 a, .int .i64 b, .slice A us.length uc] 26)).alloc (Obj.cells #[.int .i64 x, .int .i64 y] 23)).heap.size ((w.alloc (Obj.cells #[.int .i64 4, .int .i64 c, .int .i64 s, .int .i64 p, .int .i64 a, .int .i64 b, .slice A us.length uc] 26)).alloc (Obj.cells #[.int .i64 x, .int .i64 y] 23)) (((w.alloc (Obj.cells #[.int .i64 4, .int .i64 c, .int .i64 s, .int .i64 p, .int .i64 a, .int .i64 b, .slice A us.length uc] 26)).alloc (Obj.cells #[.int .i64 x, .int .i64 y] 23)).alloc (Obj.cells #[.int .i64 4, .int .i64 c, .int .i64 s, .int .i64 p, .int .i64 x, .int .i64 y, .slice A us.length uc] 26)) := (Below.refl _ _).alloc (Nat.le_refl _) _
    have HP2 := Lib.hid (HP.out.below ha2)
    have HF2 := Lib.hid (HF.out.below ha2)
    have HQ2 := Lib.hid (show Q7 (((w.alloc (Obj.cells #[.int .i64 4, .int .i64 c, .int .i64 s, .int .i64 p, .int .i64 a, .int .i64 b, .slice A us.length uc] 26)).alloc (Obj.cells #[.int .i64 x, .int .i64 y] 23)).alloc (Obj.cells #[.int .i64 4, .int .i64 c, .int .i64 s, .int .i64 p, .int .i64 x, .int .i64 y, .slice A us.length uc] 26)) (w.heap.size + 1 + 1) (.int .i64 4) (.int .i64 c) (.int .i64 s) (.int .i64 p) (.int .i64 x) (.int .i64 y) (.slice A us.length uc) from by have q := Q7.alloc ((w.alloc (Obj.cells #[.int .i64 4, .int .i64 c, .int .i64 s, .int .i64 p, .int .i64 a, .int .i64 b, .slice A us.length uc] 26)).alloc (Obj.cells #[.int .i64 x, .int .i64 y] 23)) (.int .i64 4) (.int .i64 c) (.int .i64 s) (.int .i64 p) (.int .i64 x) (.int .i64 y) (.slice A us.length uc) 26; rwa [hs2] at q)
    have HB2 := Lib.hid (HB0.out.trans (ha2.mono HB0.out.size))
    clear ha2
    go_enter Try.func8, Try.ntmps8
    have z0 := HP.out.c0
    have z1 := HP.out.c1
    have z2 := HP.out.c2
    have z3 := HP.out.c3
    have z4 := HP.out.c4
    have z5 := HP.out.c5
    have z6 := HP.out.c6
    have p10 := HP1.out.c0
    have q10 := HQ1.out.c0
    have r10 := HQ1.out.f0
    have p11 := HP1.out.c1
    have q11 := HQ1.out.c1
    have r11 := HQ1.out.f1
    have p12 := HP1.out.c2
    have q12 := HQ1.out.c2
    have r12 := HQ1.out.f2
    have p13 := HP1.out.c3
    have q13 := HQ1.out.c3
    have r13 := HQ1.out.f3
    have p14 := HP1.out.c4
    have q14 := HQ1.out.c4
    have r14 := HQ1.out.f4
    have p15 := HP1.out.c5
    have q15 := HQ1.out.c5
    have r15 := HQ1.out.f5
    have p16 := HP1.out.c6
    have q16 := HQ1.out.c6
    have r16 := HQ1.out.f6
    have s10 := HF1.out.c0
    have s11 := HF1.out.c1
    have p20 := HP2.out.c0
    have q20 := HQ2.out.c0
    have r20 := HQ2.out.f0
    have p21 := HP2.out.c1
    have q21 := HQ2.out.c1
    have r21 := HQ2.out.f1
    have p22 := HP2.out.c2
    have q22 := HQ2.out.c2
    have r22 := HQ2.out.f2
    have p23 := HP2.out.c3
    have q23 := HQ2.out.c3
    have r23 := HQ2.out.f3
    have p24 := HP2.out.c4
    have q24 := HQ2.out.c4
    have r24 := HQ2.out.f4
    have p25 := HP2.out.c5
    have q25 := HQ2.out.c5
    have r25 := HQ2.out.f5
    have p26 := HP2.out.c6
    have q26 := HQ2.out.c6
    have r26 := HQ2.out.f6
    have s20 := HF2.out.c0
    have s21 := HF2.out.c1
    go_wp2_with fail
    refine (H1.out _ (HRb.out _ HB2.out)).mono ?_
    rintro e w5 ⟨ho, A5, rfl, hr, hb⟩
    clear p10 q10 r10 p11 q11 r11 p12 q12 r12 p13 q13 r13 p14 q14 r14 p15 q15 r15 p16 q16 r16 s10 s11 p20 q20 r20 p21 q21 r21 p22 q22 r22 p23 q23 r23 p24 q24 r24 p25 q25 r25 p26 q26 r26 s20 s21 z0 z1 z2 z3 z4 z5 z6
    have HB5 := Lib.hid (HB2.out.trans (hb.mono HB2.out.size))
    have HP5 := Lib.hid (HP2.out.below hb)
    have HQ5 := Lib.hid (HQ2.out.below hb)
    have HS5 := Lib.hid hr
    have HO := Lib.hid ho
    clear hb hr ho
    have x0 := HP5.out.c0
    have x1 := HP5.out.c1
    have x2 := HP5.out.c2
    have x3 := HP5.out.c3
    have x4 := HP5.out.c4
    have x5 := HP5.out.c5
    have x6 := HP5.out.c6
    have y0 := HQ5.out.c0
    have y1 := HQ5.out.c1
    have y2 := HQ5.out.c2
    have y3 := HQ5.out.c3
    have y4 := HQ5.out.c4
    have y5 := HQ5.out.c5
    have y6 := HQ5.out.c6
    go_wp2_with fail
    refine (H2.out _ (HRq.out _ HB5.out)).mono ?_
    rintro e w6 ⟨A6, rfl, hr, hb⟩
    clear x0 x1 x2 x3 x4 x5 x6 y0 y1 y2 y3 y4 y5 y6
    have HB6 := Lib.hid (HB5.out.trans (hb.mono HB5.out.size))
    have HP6 := Lib.hid (HP5.out.below hb)
    have HQ6 := Lib.hid (HQ5.out.below hb)
    have HS6 := Lib.hid (row_b HS5.out hb)
    have HT6 := Lib.hid hr
    clear hb hr HP5 HQ5 HS5 HB5
    go_wp2_with fail
    have C1 : ∀ dd os, Calls Try.prog 14 #[.slice A5 L.length L.length, .slice A6 L.length L.length] (grow (redrawn w6 dd) os) fun e w'' => e = .returned (.bool true) ∧ ∃ rg : Regrown, w'' = grow (redrawn w6 rg.d) rg.os := fun dd os => Calls.regrown_of ((same_any A5 A6 L.length L.length L L _ (row_b HS6.out (below_regrown w6 dd os)) (row_b HT6.out (below_regrown w6 dd os)) (by have := H3.out HO.out; omega) (by have := H3.out HO.out; omega)).mono (fun e w' q => by rw [decide_eq_true (rfl : L = L)] at q; exact q))
    have C2 : ∀ dd os, Calls Try.prog 10 #[.agg #[.int .i64 4, .int .i64 c, .int .i64 s, .int .i64 p, .int .i64 a, .int .i64 b, .slice A us.length uc]] (grow (redrawn w6 dd) os) fun e w'' => e = .returned (.int .i64 er) ∧ ∃ rg : Regrown, w'' = grow (redrawn w6 rg.d) rg.os := fun dd os => Calls.regrown_of (H5.out _ ((HRb.out _ HB6.out).below (below_regrown w6 dd os)))
    have C3 : ∀ dd os, Calls Try.prog 10 #[.agg #[.int .i64 4, .int .i64 c, .int .i64 s, .int .i64 p, .int .i64 x, .int .i64 y, .slice A us.length uc]] (grow (redrawn w6 dd) os) fun e w'' => e = .returned (.int .i64 er) ∧ ∃ rg : Regrown, w'' = grow (redrawn w6 rg.d) rg.os := fun dd os => Calls.regrown_of (H6.out _ ((HRq.out _ HB6.out).below (below_regrown w6 dd os)))
    have C4 : ∀ dd os, Calls Try.prog 9 #[] (grow (redrawn w6 dd) os) fun e w'' => e = .returned (.bool true) ∧ ∃ rg : Regrown, w'' = grow (redrawn w6 rg.d) rg.os := fun dd os => Calls.regrown_of (HLi.out _)
    have m0 := cell_regrown HP6.out.c0
    have n0 := cell_regrown HQ6.out.c0
    have m1 := cell_regrown HP6.out.c1
    have n1 := cell_regrown HQ6.out.c1
    have m2 := cell_regrown HP6.out.c2
    have n2 := cell_regrown HQ6.out.c2
    have m3 := cell_regrown HP6.out.c3
    have n3 := cell_regrown HQ6.out.c3
    have m4 := cell_regrown HP6.out.c4
    have n4 := cell_regrown HQ6.out.c4
    have m5 := cell_regrown HP6.out.c5
    have n5 := cell_regrown HQ6.out.c5
    have m6 := cell_regrown HP6.out.c6
    have n6 := cell_regrown HQ6.out.c6
    refine wp_region_quiet_below (l := _) (by kernel_rfl) (by kernel_rfl) ?_
    repeat (first | go_big_quiet_step (first | (go_at_call 14; with_reducible exact C1 _ _) | (go_at_call 10; first | with_reducible exact C2 _ _ | with_reducible exact C3 _ _) | (go_at_call 9; with_reducible exact C4 _ _)))
    refine wpQuiet_nil ?_
    intro w7 hw'
    obtain ⟨⟨dq2, osq2⟩, hw''⟩ := hw'
    have hb2 := below_regrown w6 dq2 osq2
    rw [← hw''] at hb2
    clear hw'' C1 C2 C3 C4 m0 n0 m1 n1 m2 n2 m3 n3 m4 n4 m5 n5 m6 n6
    go_wp2
    go_ret
    exact ⟨rfl, HB6.out.trans (hb2.mono HB6.out.size)⟩
  have d4 : (m != 4) = true := by simpa using m4
  obtain ⟨e1, e2⟩ := other_eq (m := m) (c := c) (s := s) (p := p) (a := a) (b := b) (a' := x) (b' := y) (us := us) (us' := vs) (by omega) (fun q => absurd q (by omega))
  have H2 := Lib.hid (fun W (hr : PlF W m c s p x y A2 vs) => show Calls Try.prog 12 #[.agg #[.int .i64 m, .int .i64 c, .int .i64 s, .int .i64 p, .int .i64 x, .int .i64 y, .slice A2 vs.length uc2]] W (fun e w' => ∃ A, e = .returned (.tuple #[.slice A (scL m c s p a b us).length (scL m c s p a b us).length, .int .i64 (ckE m c s p a b us)]) ∧ Row w' A (scL m c s p a b us) ∧ Below W.heap.size W w') from by
    refine (schedule_any m c s p x y A2 uc2 vs W hr hn2).mono ?_
    rintro e w' ⟨_, A3, rfl, q1, q2⟩
    rw [e1, e2] at *
    exact ⟨A3, rfl, q1, q2⟩)
  have H6 := Lib.hid (fun W (hr : PlF W m c s p x y A2 vs) => check_any m c s p x y A2 uc2 vs W hr hn2)
  rw [e1] at H6
  have HRq := Lib.hid (fun W (hb : Below w.heap.size w W) => (hq3).below hb)
  clear e1 e2 hq hq2 hq3 hx hy
  generalize hO : (ckE m c s p a b us = 0 → OrdS m c s p us) = O at *
  clear hO
  generalize scL m c s p a b us = L at *
  generalize ckE m c s p a b us = er at *
  have ha1 : Below ((w.alloc (Obj.cells #[.int .i64 m, .int .i64 c, .int .i64 s, .int .i64 p, .int .i64 a, .int .i64 b, .slice A us.length uc] 26)).alloc (Obj.cells #[.int .i64 x, .int .i64 y] 23)).heap.size ((w.alloc (Obj.cells #[.int .i64 m, .int .i64 c, .int .i64 s, .int .i64 p, .int .i64 a, .int .i64 b, .slice A us.length uc] 26)).alloc (Obj.cells #[.int .i64 x, .int .i64 y] 23)) (((w.alloc (Obj.cells #[.int .i64 m, .int .i64 c, .int .i64 s, .int .i64 p, .int .i64 a, .int .i64 b, .slice A us.length uc] 26)).alloc (Obj.cells #[.int .i64 x, .int .i64 y] 23)).alloc (Obj.cells #[.int .i64 m, .int .i64 c, .int .i64 s, .int .i64 p, .int .i64 a, .int .i64 b, .slice A us.length uc] 26)) := (Below.refl _ _).alloc (Nat.le_refl _) _
  have HP1 := Lib.hid (HP.out.below ha1)
  have HF1 := Lib.hid (HF.out.below ha1)
  have HQ1 := Lib.hid (show Q7 (((w.alloc (Obj.cells #[.int .i64 m, .int .i64 c, .int .i64 s, .int .i64 p, .int .i64 a, .int .i64 b, .slice A us.length uc] 26)).alloc (Obj.cells #[.int .i64 x, .int .i64 y] 23)).alloc (Obj.cells #[.int .i64 m, .int .i64 c, .int .i64 s, .int .i64 p, .int .i64 a, .int .i64 b, .slice A us.length uc] 26)) (w.heap.size + 1 + 1) (.int .i64 m) (.int .i64 c) (.int .i64 s) (.int .i64 p) (.int .i64 a) (.int .i64 b) (.slice A us.length uc) from by have q := Q7.alloc ((w.alloc (Obj.cells #[.int .i64 m, .int .i64 c, .int .i64 s, .int .i64 p, .int .i64 a, .int .i64 b, .slice A us.length uc] 26)).alloc (Obj.cells #[.int .i64 x, .int .i64 y] 23)) (.int .i64 m) (.int .i64 c) (.int .i64 s) (.int .i64 p) (.int .i64 a) (.int .i64 b) (.slice A us.length uc) 26; rwa [hs2] at q)
  have HB1 := Lib.hid (HB0.out.trans (ha1.mono HB0.out.size))
  clear ha1
  have ha2 : Below ((w.alloc (Obj.cells #[.int .i64 m, .int .i64 c, .int .i64 s, .int .i64 p, .int .i64 a, .int .i64 b, .slice A us.length uc] 26)).alloc (Obj.cells #[.int .i64 x, .int .i64 y] 23)).heap.size ((w.alloc (Obj.cells #[.int .i64 m, .int .i64 c, .int .i64 s, .int .i64 p, .int .i64 a, .int .i64 b, .slice A us.length uc] 26)).alloc (Obj.cells #[.int .i64 x, .int .i64 y] 23)) (((w.alloc (Obj.cells #[.int .i64 m, .int .i64 c, .int .i64 s, .int .i64 p, .int .i64 a, .int .i64 b, .slice A us.length uc] 26)).alloc (Obj.cells #[.int .i64 x, .int .i64 y] 23)).alloc (Obj.cells #[.int .i64 m, .int .i64 c, .int .i64 s, .int .i64 p, .int .i64 x, .int .i64 y, .slice A us.length uc] 26)) := (Below.refl _ _).alloc (Nat.le_refl _) _
  have HP2 := Lib.hid (HP.out.below ha2)
  have HF2 := Lib.hid (HF.out.below ha2)
  have HQ2 := Lib.hid (show Q7 (((w.alloc (Obj.cells #[.int .i64 m, .int .i64 c, .int .i64 s, .int .i64 p, .int .i64 a, .int .i64 b, .slice A us.length uc] 26)).alloc (Obj.cells #[.int .i64 x, .int .i64 y] 23)).alloc (Obj.cells #[.int .i64 m, .int .i64 c, .int .i64 s, .int .i64 p, .int .i64 x, .int .i64 y, .slice A us.length uc] 26)) (w.heap.size + 1 + 1) (.int .i64 m) (.int .i64 c) (.int .i64 s) (.int .i64 p) (.int .i64 x) (.int .i64 y) (.slice A us.length uc) from by have q := Q7.alloc ((w.alloc (Obj.cells #[.int .i64 m, .int .i64 c, .int .i64 s, .int .i64 p, .int .i64 a, .int .i64 b, .slice A us.length uc] 26)).alloc (Obj.cells #[.int .i64 x, .int .i64 y] 23)) (.int .i64 m) (.int .i64 c) (.int .i64 s) (.int .i64 p) (.int .i64 x) (.int .i64 y) (.slice A us.length uc) 26; rwa [hs2] at q)
  have HB2 := Lib.hid (HB0.out.trans (ha2.mono HB0.out.size))
  clear ha2
  have ha3 : Below ((w.alloc (Obj.cells #[.int .i64 m, .int .i64 c, .int .i64 s, .int .i64 p, .int .i64 a, .int .i64 b, .slice A us.length uc] 26)).alloc (Obj.cells #[.int .i64 x, .int .i64 y] 23)).heap.size ((w.alloc (Obj.cells #[.int .i64 m, .int .i64 c, .int .i64 s, .int .i64 p, .int .i64 a, .int .i64 b, .slice A us.length uc] 26)).alloc (Obj.cells #[.int .i64 x, .int .i64 y] 23)) (((w.alloc (Obj.cells #[.int .i64 m, .int .i64 c, .int .i64 s, .int .i64 p, .int .i64 a, .int .i64 b, .slice A us.length uc] 26)).alloc (Obj.cells #[.int .i64 x, .int .i64 y] 23)).alloc (Obj.cells #[.int .i64 m, .int .i64 c, .int .i64 s, .int .i64 p, .int .i64 x, .int .i64 y, .slice A2 vs.length uc2] 26)) := (Below.refl _ _).alloc (Nat.le_refl _) _
  have HP3 := Lib.hid (HP.out.below ha3)
  have HF3 := Lib.hid (HF.out.below ha3)
  have HQ3 := Lib.hid (show Q7 (((w.alloc (Obj.cells #[.int .i64 m, .int .i64 c, .int .i64 s, .int .i64 p, .int .i64 a, .int .i64 b, .slice A us.length uc] 26)).alloc (Obj.cells #[.int .i64 x, .int .i64 y] 23)).alloc (Obj.cells #[.int .i64 m, .int .i64 c, .int .i64 s, .int .i64 p, .int .i64 x, .int .i64 y, .slice A2 vs.length uc2] 26)) (w.heap.size + 1 + 1) (.int .i64 m) (.int .i64 c) (.int .i64 s) (.int .i64 p) (.int .i64 x) (.int .i64 y) (.slice A2 vs.length uc2) from by have q := Q7.alloc ((w.alloc (Obj.cells #[.int .i64 m, .int .i64 c, .int .i64 s, .int .i64 p, .int .i64 a, .int .i64 b, .slice A us.length uc] 26)).alloc (Obj.cells #[.int .i64 x, .int .i64 y] 23)) (.int .i64 m) (.int .i64 c) (.int .i64 s) (.int .i64 p) (.int .i64 x) (.int .i64 y) (.slice A2 vs.length uc2) 26; rwa [hs2] at q)
  have HB3 := Lib.hid (HB0.out.trans (ha3.mono HB0.out.size))
  clear ha3
  go_enter Try.func8, Try.ntmps8
  have z0 := HP.out.c0
  have z1 := HP.out.c1
  have z2 := HP.out.c2
  have z3 := HP.out.c3
  have z4 := HP.out.c4
  have z5 := HP.out.c5
  have z6 := HP.out.c6
  have p10 := HP1.out.c0
  have q10 := HQ1.out.c0
  have r10 := HQ1.out.f0
  have p11 := HP1.out.c1
  have q11 := HQ1.out.c1
  have r11 := HQ1.out.f1
  have p12 := HP1.out.c2
  have q12 := HQ1.out.c2
  have r12 := HQ1.out.f2
  have p13 := HP1.out.c3
  have q13 := HQ1.out.c3
  have r13 := HQ1.out.f3
  have p14 := HP1.out.c4
  have q14 := HQ1.out.c4
  have r14 := HQ1.out.f4
  have p15 := HP1.out.c5
  have q15 := HQ1.out.c5
  have r15 := HQ1.out.f5
  have p16 := HP1.out.c6
  have q16 := HQ1.out.c6
  have r16 := HQ1.out.f6
  have s10 := HF1.out.c0
  have s11 := HF1.out.c1
  have p20 := HP2.out.c0
  have q20 := HQ2.out.c0
  have r20 := HQ2.out.f0
  have p21 := HP2.out.c1
  have q21 := HQ2.out.c1
  have r21 := HQ2.out.f1
  have p22 := HP2.out.c2
  have q22 := HQ2.out.c2
  have r22 := HQ2.out.f2
  have p23 := HP2.out.c3
  have q23 := HQ2.out.c3
  have r23 := HQ2.out.f3
  have p24 := HP2.out.c4
  have q24 := HQ2.out.c4
  have r24 := HQ2.out.f4
  have p25 := HP2.out.c5
  have q25 := HQ2.out.c5
  have r25 := HQ2.out.f5
  have p26 := HP2.out.c6
  have q26 := HQ2.out.c6
  have r26 := HQ2.out.f6
  have s20 := HF2.out.c0
  have s21 := HF2.out.c1
  have p30 := HP3.out.c0
  have q30 := HQ3.out.c0
  have r30 := HQ3.out.f0
  have p31 := HP3.out.c1
  have q31 := HQ3.out.c1
  have r31 := HQ3.out.f1
  have p32 := HP3.out.c2
  have q32 := HQ3.out.c2
  have r32 := HQ3.out.f2
  have p33 := HP3.out.c3
  have q33 := HQ3.out.c3
  have r33 := HQ3.out.f3
  have p34 := HP3.out.c4
  have q34 := HQ3.out.c4
  have r34 := HQ3.out.f4
  have p35 := HP3.out.c5
  have q35 := HQ3.out.c5
  have r35 := HQ3.out.f5
  have p36 := HP3.out.c6
  have q36 := HQ3.out.c6
  have r36 := HQ3.out.f6
  have s30 := HF3.out.c0
  have s31 := HF3.out.c1
  go_wp2_with fail
  refine (H1.out _ (HRb.out _ HB3.out)).mono ?_
  rintro e w5 ⟨ho, A5, rfl, hr, hb⟩
  clear p10 q10 r10 p11 q11 r11 p12 q12 r12 p13 q13 r13 p14 q14 r14 p15 q15 r15 p16 q16 r16 s10 s11 p20 q20 r20 p21 q21 r21 p22 q22 r22 p23 q23 r23 p24 q24 r24 p25 q25 r25 p26 q26 r26 s20 s21 p30 q30 r30 p31 q31 r31 p32 q32 r32 p33 q33 r33 p34 q34 r34 p35 q35 r35 p36 q36 r36 s30 s31 z0 z1 z2 z3 z4 z5 z6
  have HB5 := Lib.hid (HB3.out.trans (hb.mono HB3.out.size))
  have HP5 := Lib.hid (HP3.out.below hb)
  have HQ5 := Lib.hid (HQ3.out.below hb)
  have HS5 := Lib.hid hr
  have HO := Lib.hid ho
  clear hb hr ho
  have x0 := HP5.out.c0
  have x1 := HP5.out.c1
  have x2 := HP5.out.c2
  have x3 := HP5.out.c3
  have x4 := HP5.out.c4
  have x5 := HP5.out.c5
  have x6 := HP5.out.c6
  have y0 := HQ5.out.c0
  have y1 := HQ5.out.c1
  have y2 := HQ5.out.c2
  have y3 := HQ5.out.c3
  have y4 := HQ5.out.c4
  have y5 := HQ5.out.c5
  have y6 := HQ5.out.c6
  go_wp2_with fail
  refine (H2.out _ (HRq.out _ HB5.out)).mono ?_
  rintro e w6 ⟨A6, rfl, hr, hb⟩
  clear x0 x1 x2 x3 x4 x5 x6 y0 y1 y2 y3 y4 y5 y6
  have HB6 := Lib.hid (HB5.out.trans (hb.mono HB5.out.size))
  have HP6 := Lib.hid (HP5.out.below hb)
  have HQ6 := Lib.hid (HQ5.out.below hb)
  have HS6 := Lib.hid (row_b HS5.out hb)
  have HT6 := Lib.hid hr
  clear hb hr HP5 HQ5 HS5 HB5
  go_wp2_with fail
  have C1 : ∀ dd os, Calls Try.prog 14 #[.slice A5 L.length L.length, .slice A6 L.length L.length] (grow (redrawn w6 dd) os) fun e w'' => e = .returned (.bool true) ∧ ∃ rg : Regrown, w'' = grow (redrawn w6 rg.d) rg.os := fun dd os => Calls.regrown_of ((same_any A5 A6 L.length L.length L L _ (row_b HS6.out (below_regrown w6 dd os)) (row_b HT6.out (below_regrown w6 dd os)) (by have := H3.out HO.out; omega) (by have := H3.out HO.out; omega)).mono (fun e w' q => by rw [decide_eq_true (rfl : L = L)] at q; exact q))
  have C2 : ∀ dd os, Calls Try.prog 10 #[.agg #[.int .i64 m, .int .i64 c, .int .i64 s, .int .i64 p, .int .i64 a, .int .i64 b, .slice A us.length uc]] (grow (redrawn w6 dd) os) fun e w'' => e = .returned (.int .i64 er) ∧ ∃ rg : Regrown, w'' = grow (redrawn w6 rg.d) rg.os := fun dd os => Calls.regrown_of (H5.out _ ((HRb.out _ HB6.out).below (below_regrown w6 dd os)))
  have C3 : ∀ dd os, Calls Try.prog 10 #[.agg #[.int .i64 m, .int .i64 c, .int .i64 s, .int .i64 p, .int .i64 x, .int .i64 y, .slice A2 vs.length uc2]] (grow (redrawn w6 dd) os) fun e w'' => e = .returned (.int .i64 er) ∧ ∃ rg : Regrown, w'' = grow (redrawn w6 rg.d) rg.os := fun dd os => Calls.regrown_of (H6.out _ ((HRq.out _ HB6.out).below (below_regrown w6 dd os)))
  have C4 : ∀ dd os, Calls Try.prog 9 #[] (grow (redrawn w6 dd) os) fun e w'' => e = .returned (.bool true) ∧ ∃ rg : Regrown, w'' = grow (redrawn w6 rg.d) rg.os := fun dd os => Calls.regrown_of (HLi.out _)
  have m0 := cell_regrown HP6.out.c0
  have n0 := cell_regrown HQ6.out.c0
  have m1 := cell_regrown HP6.out.c1
  have n1 := cell_regrown HQ6.out.c1
  have m2 := cell_regrown HP6.out.c2
  have n2 := cell_regrown HQ6.out.c2
  have m3 := cell_regrown HP6.out.c3
  have n3 := cell_regrown HQ6.out.c3
  have m4 := cell_regrown HP6.out.c4
  have n4 := cell_regrown HQ6.out.c4
  have m5 := cell_regrown HP6.out.c5
  have n5 := cell_regrown HQ6.out.c5
  have m6 := cell_regrown HP6.out.c6
  have n6 := cell_regrown HQ6.out.c6
  refine wp_region_quiet_below (l := _) (by kernel_rfl) (by kernel_rfl) ?_
  repeat (first | go_big_quiet_step (first | (go_at_call 14; with_reducible exact C1 _ _) | (go_at_call 10; first | with_reducible exact C2 _ _ | with_reducible exact C3 _ _) | (go_at_call 9; with_reducible exact C4 _ _)))
  refine wpQuiet_nil ?_
  intro w7 hw'
  obtain ⟨⟨dq2, osq2⟩, hw''⟩ := hw'
  have hb2 := below_regrown w6 dq2 osq2
  rw [← hw''] at hb2
  clear hw'' C1 C2 C3 C4 m0 n0 m1 n1 m2 n2 m3 n3 m4 n4 m5 n5 m6 n6
  go_wp2
  go_ret
  exact ⟨rfl, HB6.out.trans (hb2.mono HB6.out.size)⟩
end Go.Proofs.Ytmehihfdfpnfjaa
