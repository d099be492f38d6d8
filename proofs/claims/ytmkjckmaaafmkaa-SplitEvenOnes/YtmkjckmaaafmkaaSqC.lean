/- The law SplitEvenOnes returns true. Written by wip/mk_spw.py. -/
import Derived.Test.YtmkjckmaaafmkaaSqB
import Derived.Lib.QuietBelow
namespace Go.Proofs.Ytmkjckmaaafmkaa
open Go.RowKit Go.Sort
set_option linter.unusedVariables false
set_option linter.unusedSimpArgs false

theorem ev_near {x : Int} {n i k : Nat} (h : shE x (List.replicate n 1) = 0) (ho : Ord1 x.natAbs (List.replicate n (1 : Int)).sum.toNat (wtN (List.replicate n 1)) (List.replicate n (1 : Int)).length) (hi : i ≤ k) (hk : k < n) :
    0 ≤ abI (shV x (List.replicate n 1) i) - abI (shV x (List.replicate n 1) k) ∧ abI (shV x (List.replicate n 1) i) - abI (shV x (List.replicate n 1) k) ≤ 1 := by
  have e : ∀ j, j < n → wtN (List.replicate n 1) j = 1 := fun j hj => by unfold wtN; simp [List.getD, hj]
  have ab : ∀ j, abI (shV x (List.replicate n 1) j) = (shN x.natAbs (List.replicate n (1 : Int)).sum.toNat (wtN (List.replicate n 1)) (List.replicate n (1 : Int)).length j : Int) := fun j => by
    unfold abI shV; split <;> split <;> omega
  have h2 : ∀ j, j < n → shN x.natAbs (List.replicate n (1 : Int)).sum.toNat (wtN (List.replicate n 1)) (List.replicate n (1 : Int)).length j ≤ x.natAbs * 1 / (List.replicate n (1 : Int)).sum.toNat + 1 ∧ x.natAbs * 1 / (List.replicate n (1 : Int)).sum.toNat ≤ shN x.natAbs (List.replicate n (1 : Int)).sum.toNat (wtN (List.replicate n 1)) (List.replicate n (1 : Int)).length j := fun j hj => by
    unfold shN flo; rw [e j hj]; split <;> omega
  rw [ab, ab]
  have q1 := h2 i (by omega)
  have q2 := h2 k hk
  by_cases hik : i = k
  · subst hik; omega
  · have hf := fine_of h
    have m := shN_mono hf.g.t0 hf.g.sum ho (i := i) (k := k) (by simp; omega) (by simp; omega) (.inr ⟨by rw [e i (by omega), e k hk], by omega⟩)
    omega
theorem rep_scale (n : Nat) (c : Int) : List.replicate n c = (List.replicate n (1 : Int)).map (fun z => z * c) := by simp
set_option maxRecDepth 100000 in
set_option maxHeartbeats 8000000 in
theorem splitEvenOnes_walk (a0 a1 a2 : Int) (w : World) (w0 : (Lit.int .i64 a0).wf = true) (w1 : (Lit.int .i64 a1).wf = true) (w2 : (Lit.int .i64 a2).wf = true) :
    Calls Try.prog 10 #[.int .i64 a0, .int .i64 a1, .int .i64 a2] w fun e w' => e = .returned (.bool true) ∧ Below w.heap.size w w' := by
  obtain ⟨x1, x2⟩ := i64_bd' w0
  clear w0 w1 w2
  have HL := Lib.hid (fun W => lives_any W)
  have CE := Lib.hid (even_all a0 a1 w x1 x2)
  have HEr := Lib.hid (show ¬ evE a0 a1 = 0 → evO a0 a1 = [] from fun q => by
    unfold evE at q
    unfold evO
    by_cases h1 : a1 < 1
    · rw [if_pos h1]
    · rw [if_neg h1] at q ⊢
      by_cases h2 : 200 < a1
      · rw [if_pos h2]
      · rw [if_neg h2] at q ⊢
        exact shO_err q)
  by_cases k1 : a1 < 1
  · have k1' : decide (a1 < 1) = true := decide_eq_true k1
    by_cases q : evE a0 a1 = 0
    · have q' : (evE a0 a1 == 0) = true := by simpa using q
      have q'' : (evE a0 a1 != 0) = false := by simpa using q
      go_enter Try.func10, Try.ntmps10
      go_wp2_with fail
      refine CE.out.mono ?_
      rintro e w3 ⟨_, A, rfl, _, hb⟩
      have HB := Lib.hid hb
      clear hb
      generalize (evO a0 a1).length = m at *
      generalize evE a0 a1 = er at *
      go_wp2_with fail
      refine (HL.out _).mono ?_
      rintro e w4 ⟨rfl, hb4⟩
      go_wp2
      go_ret
      exact ⟨rfl, HB.out.trans (hb4.mono HB.out.size)⟩
    · have q' : (evE a0 a1 == 0) = false := by simpa using q
      have q'' : (evE a0 a1 != 0) = true := by simpa using q
      have hm : (((evO a0 a1).length : Int) == 0) = true := by rw [HEr.out q]; rfl
      go_enter Try.func10, Try.ntmps10
      go_wp2_with fail
      refine CE.out.mono ?_
      rintro e w3 ⟨_, A, rfl, _, hb⟩
      have HB := Lib.hid hb
      clear hb
      generalize (evO a0 a1).length = m at *
      generalize evE a0 a1 = er at *
      go_wp2_with fail
      refine (HL.out _).mono ?_
      rintro e w4 ⟨rfl, hb4⟩
      go_wp2
      go_ret
      exact ⟨rfl, HB.out.trans (hb4.mono HB.out.size)⟩
  have k1' : decide (a1 < 1) = false := decide_eq_false k1
  by_cases k2 : 200 < a1
  · have k2' : decide (200 < a1) = true := decide_eq_true k2
    by_cases q : evE a0 a1 = 0
    · have q' : (evE a0 a1 == 0) = true := by simpa using q
      have q'' : (evE a0 a1 != 0) = false := by simpa using q
      go_enter Try.func10, Try.ntmps10
      go_wp2_with fail
      refine CE.out.mono ?_
      rintro e w3 ⟨_, A, rfl, _, hb⟩
      have HB := Lib.hid hb
      clear hb
      generalize (evO a0 a1).length = m at *
      generalize evE a0 a1 = er at *
      go_wp2_with fail
      refine (HL.out _).mono ?_
      rintro e w4 ⟨rfl, hb4⟩
      go_wp2
      go_ret
      exact ⟨rfl, HB.out.trans (hb4.mono HB.out.size)⟩
    · have q' : (evE a0 a1 == 0) = false := by simpa using q
      have q'' : (evE a0 a1 != 0) = true := by simpa using q
      have hm : (((evO a0 a1).length : Int) == 0) = true := by rw [HEr.out q]; rfl
      go_enter Try.func10, Try.ntmps10
      go_wp2_with fail
      refine CE.out.mono ?_
      rintro e w3 ⟨_, A, rfl, _, hb⟩
      have HB := Lib.hid hb
      clear hb
      generalize (evO a0 a1).length = m at *
      generalize evE a0 a1 = er at *
      go_wp2_with fail
      refine (HL.out _).mono ?_
      rintro e w4 ⟨rfl, hb4⟩
      go_wp2
      go_ret
      exact ⟨rfl, HB.out.trans (hb4.mono HB.out.size)⟩
  have k2' : decide (200 < a1) = false := decide_eq_false k2
  by_cases k3 : a2 < 1
  · have k3' : decide (a2 < 1) = true := decide_eq_true k3
    by_cases q : evE a0 a1 = 0
    · have q' : (evE a0 a1 == 0) = true := by simpa using q
      have q'' : (evE a0 a1 != 0) = false := by simpa using q
      go_enter Try.func10, Try.ntmps10
      go_wp2_with fail
      refine CE.out.mono ?_
      rintro e w3 ⟨_, A, rfl, _, hb⟩
      have HB := Lib.hid hb
      clear hb
      generalize (evO a0 a1).length = m at *
      generalize evE a0 a1 = er at *
      go_wp2_with fail
      refine (HL.out _).mono ?_
      rintro e w4 ⟨rfl, hb4⟩
      go_wp2
      go_ret
      exact ⟨rfl, HB.out.trans (hb4.mono HB.out.size)⟩
    · have q' : (evE a0 a1 == 0) = false := by simpa using q
      have q'' : (evE a0 a1 != 0) = true := by simpa using q
      have hm : (((evO a0 a1).length : Int) == 0) = true := by rw [HEr.out q]; rfl
      go_enter Try.func10, Try.ntmps10
      go_wp2_with fail
      refine CE.out.mono ?_
      rintro e w3 ⟨_, A, rfl, _, hb⟩
      have HB := Lib.hid hb
      clear hb
      generalize (evO a0 a1).length = m at *
      generalize evE a0 a1 = er at *
      go_wp2_with fail
      refine (HL.out _).mono ?_
      rintro e w4 ⟨rfl, hb4⟩
      go_wp2
      go_ret
      exact ⟨rfl, HB.out.trans (hb4.mono HB.out.size)⟩
  have k3' : decide (a2 < 1) = false := decide_eq_false k3
  by_cases k4 : 1000000 < a2
  · have k4' : decide (1000000 < a2) = true := decide_eq_true k4
    by_cases q : evE a0 a1 = 0
    · have q' : (evE a0 a1 == 0) = true := by simpa using q
      have q'' : (evE a0 a1 != 0) = false := by simpa using q
      go_enter Try.func10, Try.ntmps10
      go_wp2_with fail
      refine CE.out.mono ?_
      rintro e w3 ⟨_, A, rfl, _, hb⟩
      have HB := Lib.hid hb
      clear hb
      generalize (evO a0 a1).length = m at *
      generalize evE a0 a1 = er at *
      go_wp2_with fail
      refine (HL.out _).mono ?_
      rintro e w4 ⟨rfl, hb4⟩
      go_wp2
      go_ret
      exact ⟨rfl, HB.out.trans (hb4.mono HB.out.size)⟩
    · have q' : (evE a0 a1 == 0) = false := by simpa using q
      have q'' : (evE a0 a1 != 0) = true := by simpa using q
      have hm : (((evO a0 a1).length : Int) == 0) = true := by rw [HEr.out q]; rfl
      go_enter Try.func10, Try.ntmps10
      go_wp2_with fail
      refine CE.out.mono ?_
      rintro e w3 ⟨_, A, rfl, _, hb⟩
      have HB := Lib.hid hb
      clear hb
      generalize (evO a0 a1).length = m at *
      generalize evE a0 a1 = er at *
      go_wp2_with fail
      refine (HL.out _).mono ?_
      rintro e w4 ⟨rfl, hb4⟩
      go_wp2
      go_ret
      exact ⟨rfl, HB.out.trans (hb4.mono HB.out.size)⟩
  have k4' : decide (1000000 < a2) = false := decide_eq_false k4
  by_cases q : evE a0 a1 = 0
  rotate_left
  · have q' : (evE a0 a1 == 0) = false := by simpa using q
    have q'' : (evE a0 a1 != 0) = true := by simpa using q
    have hm : (((evO a0 a1).length : Int) == 0) = true := by rw [HEr.out q]; rfl
    go_enter Try.func10, Try.ntmps10
    go_wp2_with fail
    refine CE.out.mono ?_
    rintro e w3 ⟨_, A, rfl, _, hb⟩
    have HB := Lib.hid hb
    clear hb
    generalize (evO a0 a1).length = m at *
    generalize evE a0 a1 = er at *
    go_wp2_with fail
    refine (HL.out _).mono ?_
    rintro e w4 ⟨rfl, hb4⟩
    go_wp2
    go_ret
    exact ⟨rfl, HB.out.trans (hb4.mono HB.out.size)⟩
  obtain ⟨n, rfl⟩ := Int.eq_ofNat_of_zero_le (show 0 ≤ a1 by omega)
  have e1 : evE a0 n = shE a0 (List.replicate n 1) := by unfold evE; rw [if_neg k1, if_neg k2, Int.toNat_natCast]
  have e2 : evO a0 n = shO a0 (List.replicate n 1) := by unfold evO; rw [if_neg k1, if_neg k2, Int.toNat_natCast]
  rw [e1] at q
  have HQ := Lib.hid q
  have hn1 : 1 ≤ n := by omega
  have hn2 : n ≤ 200 := by omega
  have hw1 : 1 ≤ a2 := by omega
  have hw2 : a2 ≤ 1000000 := by omega
  clear k1 k2 k3 k4 HEr
  have hsl := shO_len q
  rw [List.length_replicate] at hsl
  have CE := Lib.hid (show Calls Try.prog 16 #[.int .i64 a0, .int .i64 n] w fun e w' => ∃ A, e = .returned (.tuple #[.slice A n n, .int .i64 0]) ∧ Row w' A (shO a0 (List.replicate n 1)) ∧ Ord1 a0.natAbs (List.replicate n (1 : Int)).sum.toNat (wtN (List.replicate n 1)) (List.replicate n (1 : Int)).length ∧ Below w.heap.size w w' from CE.out.mono fun e w' h => by
    obtain ⟨ho, A, h1, h2, h3⟩ := h
    rw [e1, q, e2, hsl] at h1
    rw [e2] at h2
    rw [e1, Int.toNat_natCast] at ho
    exact ⟨A, h1, h2, ho q, h3⟩)
  have hsum : (List.replicate n (1 : Int)).length ≤ 200 → (List.replicate n (1 : Int)).sum * a2 ≤ 1000000000000000 := fun _ => by
    have q1 := sum_le 1 (List.replicate n (1 : Int)) (fun z hz => by have := List.eq_of_mem_replicate hz; omega)
    rw [List.length_replicate] at q1
    have q0 := sum_pos (all_pos (zs := List.replicate n (1 : Int)) (fun z hz => by have := List.eq_of_mem_replicate hz; omega))
    have q3 := Int.mul_le_mul (show (List.replicate n (1 : Int)).sum ≤ 200 by omega) hw2 (by omega) (by omega)
    omega
  have hpos : ∀ z ∈ List.replicate n (1 : Int), 0 ≤ z := fun z hz => by have := List.eq_of_mem_replicate hz; omega
  have HEs := Lib.hid (show shE a0 (List.replicate n a2) = 0 by rw [rep_scale, shE_scale hpos hw1 hsum]; exact q)
  have HOs := Lib.hid (show shO a0 (List.replicate n a2) = shO a0 (List.replicate n 1) by rw [rep_scale, shO_scale hpos hw1 hsum])
  have HSm := Lib.hid (fun A B W (hA : Row W A (shO a0 (List.replicate n 1))) (hB : Row W B (shO a0 (List.replicate n 1))) => same_any A B n n (shO a0 (List.replicate n 1)) (shO a0 (List.replicate n 1)) W hA hB (by omega) (by omega))
  have hd : decide (shO a0 (List.replicate n 1) = shO a0 (List.replicate n 1)) = true := by simp
  rw [hd, hsl] at HSm
  have HSl := Lib.hid hsl
  have HF := Lib.hid (fine_of q)
  clear hd hsum hpos e1 e2 q hsl
  go_enter Try.func10, Try.ntmps10
  go_wp2_with fail
  refine CE.out.mono ?_
  rintro e w1 ⟨A, rfl, hr, ho, hb⟩
  have HRa := Lib.hid hr
  have HO := Lib.hid ho
  have HB1 := Lib.hid hb
  clear hr ho hb CE
  have HOw := Lib.hid (show OwnV (w1.alloc (.cells #[] 3)) w1.heap.size 3 (.slice (some ⟨w1.heap.size, 0, none⟩) 0 0) ((List.replicate 0 a2).map (Value.int .i64)) by simpa using own_none w1 3)
  have HBw := Lib.hid ((Below.refl w1.heap.size w1).alloc (Nat.le_refl _) (.cells #[] 3))
  go_wp2_with fail
  go_loopw [9, 10] (fun v y wr => ∃ j : Nat, j ≤ n ∧ y = .int .i64 j ∧ Hid (OwnV wr w1.heap.size 3 v ((List.replicate j a2).map (Value.int .i64))) ∧ Hid (Below w1.heap.size w1 wr)) (fun _ y _ => n - (intOf y).toNat)
  case atStart => exact ⟨0, Nat.zero_le _, rfl, HOw, HBw⟩
  case round =>
    clear HOw HBw
    obtain ⟨j, hj, rfl, HO1, HB⟩ := hrel
    by_cases h : j < n
    · have h' : (j : Int) < (n : Int) := by omega
      have HSz := Lib.hid HB.out.size
      go_wp2_with (at_builtin; refine app_one rfl (.tmp 53) (.tmp 55) rfl w1.heap.size _ (List.replicate j a2) a2 rfl (OwnV.below HO1.out ((Below.refl _ _).alloc (Nat.le_refl _) _)) wr rfl rfl (by simp; omega) HSz.out ?_; intro v' w5 hown hbel; rw [← List.replicate_succ'] at hown; have HO2 := Lib.hid hown; have HB2 := Lib.hid (HB.out.trans hbel); clear hown hbel)
      go_wp2
      go_roundw
      case rel => exact ⟨j + 1, by omega, by go_num, HO2, HB2⟩
      case measure => simp [intOf]; omega
    · have h' : ¬ (j : Int) < (n : Int) := by omega
      obtain rfl : n = j := by omega
      obtain ⟨C, c, rfl, hrow⟩ := row_own HO1.out (fun y hy => by have := List.eq_of_mem_replicate hy; omega)
      rw [List.length_replicate]
      have C2 := Lib.hid (show Calls Try.prog 12 #[.int .i64 a0, .slice C n c] wr fun e w' => ∃ D, e = .returned (.tuple #[.slice D n n, .int .i64 0]) ∧ Row w' D (shO a0 (List.replicate n 1)) ∧ Below wr.heap.size wr w' by
        have q := sh_ok a0 C c (List.replicate n a2) wr hrow (by simp; omega) x1 x2 HEs.out
        rw [List.length_replicate, HOs.out] at q
        exact q.mono fun e w' h => by
          obtain ⟨D, h1, h2, _, h3⟩ := h
          exact ⟨D, h1, h2, h3⟩)
      have HRa := Lib.hid (row_b HRa.out HB.out)
      have HB := Lib.hid (HB1.out.trans (HB.out.mono HB1.out.size))
      clear hrow HO1 HEs HOs HB1
      go_wp2_with fail
      refine C2.out.mono ?_
      rintro e w5 ⟨D, rfl, hr, hb⟩
      have CS := Lib.hid (HSm.out A D w5 (row_b HRa.out hb) hr)
      have HRa := Lib.hid (row_b HRa.out hb)
      have HB := Lib.hid (HB.out.trans (hb.mono HB.out.size))
      clear hr hb C2 HSm
      go_wp2_with fail
      refine CS.out.mono ?_
      rintro e w6 ⟨rfl, hb⟩
      have HRa := Lib.hid (row_b HRa.out hb)
      have HB := Lib.hid (HB.out.trans (hb.mono HB.out.size))
      clear hb CS
      obtain ⟨k, hk⟩ : ∃ k, n = k + 1 := ⟨n - 1, by omega⟩
      have hidx : (n : Int) - 1 = (k : Int) := by omega
      have hkn : k < n := by omega
      have hkn' : (k : Int) < (n : Int) := by omega
      have h0n' : (0 : Int) < (n : Int) := by omega
      obtain ⟨b1, off1, e1, _, cs⟩ := HRa.out.1 (by rw [HSl.out]; omega)
      subst e1
      have c1 := cs 0 (by rw [HSl.out]; omega)
      have c2 := cs k (by rw [HSl.out]; omega)
      rw [shO_at HQ.out] at c1 c2
      rw [Nat.add_zero] at c1
      obtain ⟨v1, v2⟩ := HF.out.v (k := 0) (by simp; omega)
      obtain ⟨v3, v4⟩ := HF.out.v (k := k) (by simp; omega)
      obtain ⟨g1, g2⟩ := ev_near HQ.out HO.out (Nat.zero_le k) hkn
      clear cs hk HRa HQ HO HF
      generalize shV a0 (List.replicate n 1) 0 = s1 at *
      generalize shV a0 (List.replicate n 1) k = s2 at *
      have C1 := Lib.hid (fun V => size_any s1 V (by omega) (by omega))
      have C2 := Lib.hid (fun V => size_any s2 V (by omega) (by omega))
      have u1b : 0 ≤ abI s1 ∧ abI s1 ≤ 2000000000000000 := by unfold abI; split <;> omega
      have u2b : 0 ≤ abI s2 ∧ abI s2 ≤ 2000000000000000 := by unfold abI; split <;> omega
      generalize abI s1 = u1 at *
      generalize abI s2 = u2 at *
      have g1' : decide (0 ≤ u1 - u2) = true := decide_eq_true g1
      have g3' : decide (u2 ≤ u1) = true := decide_eq_true (by omega)
      have g4' : decide (u1 ≤ 1 + u2) = true := decide_eq_true (by omega)
      have g5' : decide (u1 ≤ u2 + 1) = true := decide_eq_true (by omega)
      have g2' : decide (u1 - u2 ≤ 1) = true := decide_eq_true g2
      have l1 := cell_regrown c1
      have l2 := cell_regrown c2
      have K1 : ∀ dd os, Calls Try.prog 20 #[.int .i64 s1] (grow (redrawn w6 dd) os) fun e w'' => e = .returned (.int .i64 u1) ∧ ∃ p : Regrown, w'' = grow (redrawn w6 p.d) p.os := fun dd os => Calls.regrown_of ((C1.out _).mono fun e w' h => ⟨h.1, h.2 ▸ Below.refl _ _⟩)
      have K2 : ∀ dd os, Calls Try.prog 20 #[.int .i64 s2] (grow (redrawn w6 dd) os) fun e w'' => e = .returned (.int .i64 u2) ∧ ∃ p : Regrown, w'' = grow (redrawn w6 p.d) p.os := fun dd os => Calls.regrown_of ((C2.out _).mono fun e w' h => ⟨h.1, h.2 ▸ Below.refl _ _⟩)
      have K3 : ∀ dd os, Calls Try.prog 13 #[] (grow (redrawn w6 dd) os) fun e w'' => e = .returned (.bool true) ∧ ∃ p : Regrown, w'' = grow (redrawn w6 p.d) p.os := fun dd os => Calls.regrown_of (HL.out _)
      clear c1 c2 C1 C2
      go_wp2_with fail
      refine wp_region_quiet_below (l := _) (by kernel_rfl) (by kernel_rfl) ?_
      repeat (first | go_big_quiet_step (first | (go_at_call 20; first | with_reducible exact K1 _ _ | with_reducible exact K2 _ _) | (go_at_call 13; exact K3 _ _)))
      refine wpQuiet_nil ?_
      intro w7 hw'
      obtain ⟨⟨dq2, osq2⟩, hw''⟩ := hw'
      have hb2 := below_regrown w6 dq2 osq2
      rw [← hw''] at hb2
      clear hw'' K1 K2 K3 l1 l2
      go_wp2
      go_ret
      exact ⟨rfl, HB.out.trans (hb2.mono HB.out.size)⟩
end Go.Proofs.Ytmkjckmaaafmkaa
