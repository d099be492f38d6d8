/- The laws on deprec, but for their frames: DeprecSums, DeprecStraight, DeprecOther. Written by wip/mk_dpl.py. -/
import Derived.Test.YtmehihfdfpnfjaaDpM
namespace Go.Proofs.Ytmehihfdfpnfjaa
open Go.RowKit Go.Sort
set_option linter.unusedVariables false
set_option linter.unusedSimpArgs false

set_option maxRecDepth 100000 in
set_option maxHeartbeats 4000000 in
theorem deprecSums_walk (m c s p a b : Int) (A : Option Addr) (len uc : Nat) (us : List Int) (w : World) (h : PlIn w m c s p a b A len us) :
    Calls Try.prog 6 #[.agg #[.int .i64 m, .int .i64 c, .int .i64 s, .int .i64 p, .int .i64 a, .int .i64 b, .slice A len uc]] w fun e w' => e = .returned (.bool true) ∧ Below w.heap.size w w' := by
  obtain ⟨rfl, hR, hl'⟩ := h
  have HLi := Lib.hid lives_any
  have HP := Lib.hid (Q7.alloc w (.int .i64 m) (.int .i64 c) (.int .i64 s) (.int .i64 p) (.int .i64 a) (.int .i64 b) (.slice A us.length uc) 26)
  have HB0 := Lib.hid ((Below.refl w.heap.size w).alloc (Nat.le_refl _) (Obj.cells #[.int .i64 m, .int .i64 c, .int .i64 s, .int .i64 p, .int .i64 a, .int .i64 b, .slice A us.length uc] 26))
  have HR := Lib.hid (hR.below ((Below.refl w.heap.size w).alloc (Nat.le_refl _) (Obj.cells #[.int .i64 m, .int .i64 c, .int .i64 s, .int .i64 p, .int .i64 a, .int .i64 b, .slice A us.length uc] 26)))
  clear hR
  by_cases g : 250 < us.length
  · have g' : (250 : Int) < (us.length : Int) := by omega
    go_enter Try.func6, Try.ntmps6
    have xP0 := HP.out.c0
    have xP1 := HP.out.c1
    have xP2 := HP.out.c2
    have xP3 := HP.out.c3
    have xP4 := HP.out.c4
    have xP5 := HP.out.c5
    have xP6 := HP.out.c6
    go_wp2_with fail
    refine (HLi.out _).mono ?_
    rintro e w1 ⟨rfl, hb⟩
    clear xP0 xP1 xP2 xP3 xP4 xP5 xP6
    have HB1 := Lib.hid (HB0.out.trans ((hb).mono HB0.out.size))
    have P_1 := Lib.hid (HP.out.below hb)
    have R_1 := Lib.hid (HR.out.below hb)
    clear hb HP HR
    have xP0 := P_1.out.c0
    have xP1 := P_1.out.c1
    have xP2 := P_1.out.c2
    have xP3 := P_1.out.c3
    have xP4 := P_1.out.c4
    have xP5 := P_1.out.c5
    have xP6 := P_1.out.c6
    go_wp2
    go_ret
    exact ⟨rfl, HB1.out⟩
  have g' : ¬ (250 : Int) < (us.length : Int) := by omega
  have hn : us.length ≤ 250 := by omega
  by_cases hk : ckE m c s p a b us = 0
  case neg =>
    have H1 := Lib.hid (fun W (hr : PlF W m c s p a b A us) => show Calls Try.prog 12 #[.agg #[.int .i64 m, .int .i64 c, .int .i64 s, .int .i64 p, .int .i64 a, .int .i64 b, .slice A us.length uc]] W (fun e w' => ∃ A, e = .returned (.tuple #[.slice A 0 0, .int .i64 (ckE m c s p a b us)]) ∧ Below W.heap.size W w') from by
      refine (schedule_any m c s p a b A uc us W hr hn).mono ?_
      rintro e w' ⟨_, A2, rfl, _, h2⟩
      rw [scL_bad hk]
      exact ⟨A2, rfl, h2⟩)
    have hk' : (ckE m c s p a b us != 0) = true := by simpa using hk
    generalize ckE m c s p a b us = er at *
    clear hk
    go_enter Try.func6, Try.ntmps6
    have xP0 := HP.out.c0
    have xP1 := HP.out.c1
    have xP2 := HP.out.c2
    have xP3 := HP.out.c3
    have xP4 := HP.out.c4
    have xP5 := HP.out.c5
    have xP6 := HP.out.c6
    go_wp2_with fail
    refine (H1.out _ HR.out).mono ?_
    rintro e w1 ⟨A2, rfl, hb⟩
    clear xP0 xP1 xP2 xP3 xP4 xP5 xP6
    have HB1 := Lib.hid (HB0.out.trans ((hb).mono HB0.out.size))
    have P_1 := Lib.hid (HP.out.below hb)
    have R_1 := Lib.hid (HR.out.below hb)
    clear hb HP HR
    have xP0 := P_1.out.c0
    have xP1 := P_1.out.c1
    have xP2 := P_1.out.c2
    have xP3 := P_1.out.c3
    have xP4 := P_1.out.c4
    have xP5 := P_1.out.c5
    have xP6 := P_1.out.c6
    go_wp2_with fail
    refine (HLi.out _).mono ?_
    rintro e w2 ⟨rfl, hb⟩
    clear xP0 xP1 xP2 xP3 xP4 xP5 xP6
    have HB2 := Lib.hid (HB1.out.trans ((hb).mono HB1.out.size))
    have P_2 := Lib.hid (P_1.out.below hb)
    have R_2 := Lib.hid (R_1.out.below hb)
    clear hb HB1 P_1 R_1
    have xP0 := P_2.out.c0
    have xP1 := P_2.out.c1
    have xP2 := P_2.out.c2
    have xP3 := P_2.out.c3
    have xP4 := P_2.out.c4
    have xP5 := P_2.out.c5
    have xP6 := P_2.out.c6
    go_wp2
    go_ret
    exact ⟨rfl, HB2.out⟩
  have g0 := good_of hk
  have g1 := g0.sc; have g2 := g0.c2; have g3 := g0.s0; have g4 := g0.p1; have g5 := g0.p2; have g6 := g0.c1
  have H1 := Lib.hid (fun W (hr : PlF W m c s p a b A us) => show Calls Try.prog 12 #[.agg #[.int .i64 m, .int .i64 c, .int .i64 s, .int .i64 p, .int .i64 a, .int .i64 b, .slice A us.length uc]] W (fun e w' => OrdS m c s p us ∧ ∃ A, e = .returned (.tuple #[.slice A (scL m c s p a b us).length (scL m c s p a b us).length, .int .i64 0]) ∧ Row w' A (scL m c s p a b us) ∧ Below W.heap.size W w') from schedule_good m c s p a b A uc us W hr hn hk)
  have HSc := Lib.hid (fun ho => scF_of hk ho)
  have H2 := Lib.hid (fun (k : Nat) W (hkp : (k : Int) + 1 ≤ p) (hr : PlF W m c s p a b A us) => show Calls Try.prog 15 #[.agg #[.int .i64 m, .int .i64 c, .int .i64 s, .int .i64 p, .int .i64 a, .int .i64 b, .slice A us.length uc], .int .i64 ((k : Int) + 1)] W (fun e w' => e = .returned (.tuple #[.int .i64 (c - ((scL m c s p a b us).take (k + 1)).sum), .int .i64 0]) ∧ Below W.heap.size W w') from by
    refine (after_any m c s p a b A uc us ((k : Int) + 1) W hr hn ⟨by omega, by omega⟩).mono ?_
    rintro e w' ⟨_, rfl, h2⟩
    refine ⟨?_, h2⟩
    unfold afB afE
    rw [if_pos hk, if_pos hk, if_pos ⟨by omega, by omega⟩, if_pos ⟨by omega, by omega⟩, show ((k : Int) + 1).toNat = k + 1 by omega])
  generalize scL m c s p a b us = l at *
  clear hk g0
  go_enter Try.func6, Try.ntmps6
  have xP0 := HP.out.c0
  have xP1 := HP.out.c1
  have xP2 := HP.out.c2
  have xP3 := HP.out.c3
  have xP4 := HP.out.c4
  have xP5 := HP.out.c5
  have xP6 := HP.out.c6
  go_wp2_with fail
  refine (H1.out _ HR.out).mono ?_
  rintro e w1 ⟨ho, A2, rfl, hr, hb⟩
  clear xP0 xP1 xP2 xP3 xP4 xP5 xP6
  have HB1 := Lib.hid (HB0.out.trans ((hb).mono HB0.out.size))
  have P_1 := Lib.hid (HP.out.below hb)
  have R_1 := Lib.hid (HR.out.below hb)
  have S_1 := Lib.hid hr
  clear hb HP HR hr
  have xP0 := P_1.out.c0
  have xP1 := P_1.out.c1
  have xP2 := P_1.out.c2
  have xP3 := P_1.out.c3
  have xP4 := P_1.out.c4
  have xP5 := P_1.out.c5
  have xP6 := P_1.out.c6
  have hf := HSc.out ho
  have HF := Lib.hid hf
  have HLe := Lib.hid hf.len
  clear ho hf HSc H1
  go_wp2
  go_loopw [5, 6] (fun bk x wr => ∃ k : Nat, k ≤ l.length ∧ x = .int .i64 k ∧ bk = .int .i64 (c - (l.take k).sum) ∧ Hid (Q7 wr w.heap.size (.int .i64 m) (.int .i64 c) (.int .i64 s) (.int .i64 p) (.int .i64 a) (.int .i64 b) (.slice A us.length uc)) ∧ Hid (PlF wr m c s p a b A us) ∧ Hid (Row wr A2 l) ∧ Hid (Below w.heap.size w wr)) (fun _ x _ => l.length - (intOf x).toNat)
  case atStart => exact ⟨0, Nat.zero_le _, rfl, by simp, P_1, R_1, S_1, HB1⟩
  case round =>
    clear xP0 xP1 xP2 xP3 xP4 xP5 xP6 P_1 R_1 S_1 HB1
    obtain ⟨k, hk, rfl, rfl, HP, HR, HS, HB⟩ := hrel
    by_cases hlt : k < l.length
    · have hlt' : (k : Int) < (l.length : Int) := by omega
      have hkp : (k : Int) + 1 ≤ p := by have := HLe.out; omega
      obtain ⟨bA, oA, rfl, hc⟩ := HS.out.at_ hlt
      have HSn := Lib.hid (sum_snoc l hlt)
      have b0 := HF.out.le k
      have b1 := HF.out.at hlt
      have b2 := HF.out.le (k + 1)
      have HA := Lib.hid (fun W hr => H2.out k W hkp hr)
      rw [HSn.out] at b2 HA
      obtain ⟨sm, hsm⟩ : ∃ x, (l.take k).sum = x := ⟨_, rfl⟩
      obtain ⟨z, hz⟩ : ∃ x, l[k] = x := ⟨_, rfl⟩
      have HSm := Lib.hid (And.intro hsm hz)
      rw [hsm] at b0 b2 HA
      rw [hz] at b1 b2 HA hc
      rw [hsm]
      obtain ⟨b01, b02⟩ := b0
      obtain ⟨b11, b12⟩ := b1
      obtain ⟨b21, b22⟩ := b2
      obtain ⟨bk, hbk⟩ : ∃ x, c - sm = x := ⟨_, rfl⟩
      rw [hbk]
      obtain ⟨bn, hbn⟩ : ∃ x, bk - z = x := ⟨_, rfl⟩
      rw [show c - (sm + z) = bn by omega] at HA
      have HBk := Lib.hid (show bn = c - (sm + z) by omega)
      have q1 : decide (z < 0) = false := decide_eq_false (by omega)
      have q2 : decide (bn < s) = false := decide_eq_false (by omega)
      have hb1 : 0 ≤ bk := by omega
      have hb2 : bk ≤ 1000000000000 := by omega
      have hb3 : 0 ≤ bn := by omega
      have hb4 : bn ≤ 1000000000000 := by omega
      clear hsm hz b01 b02 b21 b22
      have x0 := HP.out.c0
      have x1 := HP.out.c1
      have x2 := HP.out.c2
      have x3 := HP.out.c3
      have x4 := HP.out.c4
      have x5 := HP.out.c5
      have x6 := HP.out.c6
      go_wp2_with fail
      refine (HA.out _ HR.out).mono ?_
      rintro e w1 ⟨rfl, hb⟩
      clear x0 x1 x2 x3 x4 x5 x6
      have HP1 := Lib.hid (HP.out.below hb)
      have HR1 := Lib.hid (HR.out.below hb)
      have HS1 := Lib.hid (row_b HS.out hb)
      have HB1 := Lib.hid (HB.out.trans (hb.mono HB.out.size))
      clear hb HP HR HS HB
      have x0 := HP1.out.c0
      have x1 := HP1.out.c1
      have x2 := HP1.out.c2
      have x3 := HP1.out.c3
      have x4 := HP1.out.c4
      have x5 := HP1.out.c5
      have x6 := HP1.out.c6
      go_wp2
      go_roundw
      case rel => exact ⟨k + 1, by omega, by go_num, by rw [HSn.out, HSm.out.1, HSm.out.2, ← HBk.out], HP1, HR1, HS1, HB1⟩
      case measure => simp [intOf]; omega
    · have hlt' : ¬ (k : Int) < (l.length : Int) := by omega
      obtain rfl : k = l.length := by omega
      have hsm : c - (l.take l.length).sum = s := by rw [List.take_length, HF.out.sum]; omega
      rw [hsm]
      have hlp : ((l.length : Int) == p) = true := by have := HLe.out; simp; omega
      have x0 := HP.out.c0
      have x1 := HP.out.c1
      have x2 := HP.out.c2
      have x3 := HP.out.c3
      have x4 := HP.out.c4
      have x5 := HP.out.c5
      have x6 := HP.out.c6
      go_wp2_with fail
      refine (HLi.out _).mono ?_
      rintro e w1 ⟨rfl, hb⟩
      have HB1 := Lib.hid (HB.out.trans (hb.mono HB.out.size))
      clear hb
      go_wp2
      go_ret
      exact ⟨rfl, HB1.out⟩
theorem st_near {c s p : Int} (hk : ckE 1 c s p 0 0 [] = 0) {i : Nat} (hi : i < (scL 1 c s p 0 0 []).length) (h0 : 0 < (scL 1 c s p 0 0 []).length) :
    -1 ≤ (scL 1 c s p 0 0 [])[i] - (scL 1 c s p 0 0 [])[0] ∧ (scL 1 c s p 0 0 [])[i] - (scL 1 c s p 0 0 [])[0] ≤ 1 := by
  have g := good_of hk
  have g1 := g.sc; have g2 := g.c2; have g3 := g.s0; have g4 := g.p1; have g5 := g.p2
  have e : scL 1 c s p 0 0 [] = dfL (stG c s p) p.toNat := by unfold scL; rw [if_pos hk, if_pos rfl]
  have hi' : i < p.toNat := by rw [e, dfL_len] at hi; exact hi
  have h := rE_even (D := c - s) (p := p) (by omega) (by omega) g4 g5 (k := i) (by omega)
  have hz := stG_zero (c := c) (s := s) (p := p) g4
  have a1 : (scL 1 c s p 0 0 [])[i] = stG c s p (i + 1) - stG c s p i := by simp only [e]; exact dfL_at _ _ _
  have a2 : (scL 1 c s p 0 0 [])[0] = stG c s p 1 - stG c s p 0 := by simp only [e]; exact dfL_at _ _ _
  rw [a1, a2, hz]
  have q : ∀ j : Nat, stG c s p j = rE (c - s) (j : Int) p := fun _ => rfl
  rw [q, q, q, show ((i + 1 : Nat) : Int) = (i : Int) + 1 by omega, show ((1 : Nat) : Int) = 1 from rfl]
  omega
set_option maxRecDepth 100000 in
set_option maxHeartbeats 4000000 in
theorem deprecStraight_walk (c s p : Int) (w : World) (hc : (Lit.int .i64 c).wf = true) (hs : (Lit.int .i64 s).wf = true) (hp : (Lit.int .i64 p).wf = true) :
    Calls Try.prog 7 #[.int .i64 c, .int .i64 s, .int .i64 p] w fun e w' => e = .returned (.bool true) ∧ Below w.heap.size w w' := by
  have HLi := Lib.hid lives_any
  have hpl := fun W => plf_none (m := 1) (a := 0) (b := 0) W (r64_small (by omega) (by omega)) (wf64' hc) (wf64' hs) (wf64' hp) (r64_small (by omega) (by omega)) (r64_small (by omega) (by omega))
  by_cases hk : ckE 1 c s p 0 0 [] = 0
  case neg =>
    have H1 := Lib.hid (fun W => show Calls Try.prog 12 #[.agg #[.int .i64 1, .int .i64 c, .int .i64 s, .int .i64 p, .int .i64 0, .int .i64 0, .slice none 0 0]] W (fun e w' => ∃ A, e = .returned (.tuple #[.slice A 0 0, .int .i64 (ckE 1 c s p 0 0 [])]) ∧ Below W.heap.size W w') from by
      refine (schedule_any 1 c s p 0 0 none 0 [] W (hpl W) (by simp)).mono ?_
      rintro e w' ⟨_, A2, rfl, _, h2⟩
      rw [scL_bad hk]
      exact ⟨A2, rfl, h2⟩)
    have hk' : (ckE 1 c s p 0 0 [] != 0) = true := by simpa using hk
    generalize ckE 1 c s p 0 0 [] = er at *
    clear hk hpl
    go_enter Try.func7, Try.ntmps7
    go_wp2_with fail
    refine (H1.out _).mono ?_
    rintro e w1 ⟨A2, rfl, hb⟩
    have HB1 := Lib.hid hb
    clear hb
    go_wp2_with fail
    refine (HLi.out _).mono ?_
    rintro e w2 ⟨rfl, hb⟩
    have HB2 := Lib.hid (HB1.out.trans (hb.mono HB1.out.size))
    clear hb
    go_wp2
    go_ret
    exact ⟨rfl, HB2.out⟩
  have H1 := Lib.hid (fun W => show Calls Try.prog 12 #[.agg #[.int .i64 1, .int .i64 c, .int .i64 s, .int .i64 p, .int .i64 0, .int .i64 0, .slice none 0 0]] W (fun e w' => OrdS 1 c s p [] ∧ ∃ A, e = .returned (.tuple #[.slice A (scL 1 c s p 0 0 []).length (scL 1 c s p 0 0 []).length, .int .i64 0]) ∧ Row w' A (scL 1 c s p 0 0 []) ∧ Below W.heap.size W w') from schedule_good 1 c s p 0 0 none 0 [] W (hpl W) (by simp) hk)
  have HSc := Lib.hid (fun ho => scF_of hk ho)
  have HN := Lib.hid (fun i hi h0 => st_near hk (i := i) hi h0)
  have g0 := good_of hk
  have g1 := g0.sc; have g2 := g0.c2; have g3 := g0.s0; have g4 := g0.p1; have g5 := g0.p2; have g6 := g0.c1
  generalize scL 1 c s p 0 0 [] = l at *
  clear hk g0 hpl
  go_enter Try.func7, Try.ntmps7
  go_wp2_with fail
  refine (H1.out _).mono ?_
  rintro e w1 ⟨ho, A2, rfl, hr, hb⟩
  have hf := HSc.out ho
  have HF := Lib.hid hf
  have HLe := Lib.hid hf.len
  have HS0 := Lib.hid hr
  have HB0 := Lib.hid hb
  clear ho hf HSc H1 hr hb
  go_wp2
  go_loopw [9] (fun x wr => ∃ k : Nat, k ≤ l.length ∧ x = .int .i64 k ∧ Hid (Row wr A2 l) ∧ Hid (Below w.heap.size w wr)) (fun x _ => l.length - (intOf x).toNat)
  case atStart => exact ⟨0, Nat.zero_le _, rfl, HS0, HB0⟩
  case round =>
    clear HS0 HB0
    obtain ⟨k, hk, rfl, HS, HB⟩ := hrel
    by_cases hlt : k < l.length
    · have hlt' : (k : Int) < (l.length : Int) := by omega
      have hl2 : (l.length : Int) ≤ 200 := by have := HLe.out; omega
      have h0 : 0 < l.length := by omega
      have h0' : (0 : Int) < (l.length : Int) := by omega
      obtain ⟨bA, oA, rfl, hbl, hcl⟩ := HS.out.1 h0
      have c1 := hcl k hlt
      have c2 := hcl 0 h0
      rw [Nat.add_zero] at c2
      have hn := HN.out k hlt h0
      have b1 := HF.out.at hlt
      have b2 := HF.out.at h0
      generalize l[k] = z at *
      generalize l[0] = y at *
      obtain ⟨n1, n2⟩ := hn
      obtain ⟨b11, b12⟩ := b1
      obtain ⟨b21, b22⟩ := b2
      obtain ⟨d, hd⟩ : ∃ x, z - y = x := ⟨_, rfl⟩
      rw [hd] at n1 n2
      have q1 : decide (d < -1) = false := decide_eq_false (by omega)
      have q2 : decide (1 < d) = false := decide_eq_false (by omega)
      clear hcl hbl
      go_wp2_with fail
      go_quiet (fail)
      have HB1 := Lib.hid (below_drewN HB.out nq)
      have HS1 := Lib.hid (row_b HS.out (below_drewN (Below.refl wr.heap.size wr) nq))
      clear HB HS c1 c2
      generalize wr.drewN nq = w2 at *
      go_wp2
      go_roundw
      case rel => exact ⟨k + 1, by omega, by go_num, HS1, HB1⟩
      case measure => simp [intOf]; omega
    · have hlt' : ¬ (k : Int) < (l.length : Int) := by omega
      have hlp : ((l.length : Int) == p) = true := by have := HLe.out; simp; omega
      go_wp2_with fail
      refine (HLi.out _).mono ?_
      rintro e w2 ⟨rfl, hb⟩
      have HB2 := Lib.hid (HB.out.trans (hb.mono HB.out.size))
      clear hb
      go_wp2
      go_ret
      exact ⟨rfl, HB2.out⟩
end Go.Proofs.Ytmehihfdfpnfjaa
