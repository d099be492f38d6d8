/- The law SplitNear returns true. Written by wip/mk_spw.py. -/
import Derived.Test.YtmkjckmaaafmkaaSpW
import Derived.Lib.QuietBelow
namespace Go.Proofs.Ytmkjckmaaafmkaa
open Go.RowKit Go.Sort
set_option linter.unusedVariables false
set_option linter.unusedSimpArgs false

set_option maxRecDepth 100000 in
set_option maxHeartbeats 4000000 in
theorem splitNear_walk (a0 : Int) (a1 : Option Addr) (len1 cap1 : Nat) (z1 : List Int) (w : World) (w0 : (Lit.int .i64 a0).wf = true) (w1 : IsRow .i64 w a1 len1 cap1 z1) :
    Calls Try.prog 6 #[.int .i64 a0, .slice a1 len1 cap1] w fun e w' => e = .returned (.bool true) ∧ Below w.heap.size w w' := by
  obtain ⟨x1, x2⟩ := i64_bd' w0
  obtain ⟨zs, rfl, hR, hnil, hlen⟩ := row_of w1
  clear w0 w1
  have hlen' : (zs.length : Int) ≤ 9223372036854775807 := by omega
  have HL := Lib.hid (fun W => lives_any W)
  have HM := Lib.hid (fun W => many_any a1 cap1 zs.length W)
  by_cases q : shE a0 zs = 0
  rotate_left
  · have CE := Lib.hid (sh_err a0 a1 cap1 zs w hR hlen' x1 x2 q)
    have q' : (shE a0 zs != 0) = true := by simpa using q
    generalize shE a0 zs = er at *
    clear q hR
    by_cases hm : 260 < zs.length
    · rw [show decide (260 < zs.length) = true from decide_eq_true hm] at HM
      clear hm
      go_enter Try.func6, Try.ntmps6
      go_wp2_with fail
      refine CE.out.mono ?_
      rintro e w2 ⟨B, rfl, hb⟩
      have HB := Lib.hid hb
      clear hb
      go_wp2_with fail
      refine (HM.out _).mono ?_
      rintro e w3 ⟨rfl, rfl⟩
      go_wp2_with fail
      refine (HL.out _).mono ?_
      rintro e w4 ⟨rfl, hb4⟩
      go_wp2
      go_ret
      exact ⟨rfl, HB.out.trans (hb4.mono HB.out.size)⟩
    · rw [show decide (260 < zs.length) = false from decide_eq_false hm] at HM
      clear hm
      go_enter Try.func6, Try.ntmps6
      go_wp2_with fail
      refine CE.out.mono ?_
      rintro e w2 ⟨B, rfl, hb⟩
      have HB := Lib.hid hb
      clear hb
      go_wp2_with fail
      refine (HM.out _).mono ?_
      rintro e w3 ⟨rfl, rfl⟩
      go_wp2_with fail
      refine (HL.out _).mono ?_
      rintro e w4 ⟨rfl, hb4⟩
      go_wp2
      go_ret
      exact ⟨rfl, HB.out.trans (hb4.mono HB.out.size)⟩
  have hf := fine_of q
  have hn2 := hf.n2
  have hx1 := hf.x1
  have hx2 := hf.x2
  rw [show decide (260 < zs.length) = false from decide_eq_false (by omega)] at HM
  have CS := Lib.hid (sh_ok a0 a1 cap1 zs w hR hlen' x1 x2 q)
  have HR0 := Lib.hid hR
  have HQ := Lib.hid q
  have HF := Lib.hid hf
  clear q hf hR hnil
  go_enter Try.func6, Try.ntmps6
  go_wp2_with fail
  refine CS.out.mono ?_
  rintro e w2 ⟨B, rfl, hr, ho, hb⟩
  have HRz := Lib.hid (row_b HR0.out hb)
  have HRa := Lib.hid hr
  have HO := Lib.hid ho
  have HB := Lib.hid hb
  clear hr ho hb HR0 CS
  have CU := Lib.hid (lsum_wt (c := cap1) HQ.out HRz.out)
  have HTb := Lib.hid (show 0 ≤ zs.sum ∧ zs.sum ≤ 1000000000000000 by have := HF.out.g.t0; have := HF.out.g.t1; omega)
  go_wp2_with fail
  refine (HM.out _).mono ?_
  rintro e w3 ⟨rfl, rfl⟩
  go_wp2_with fail
  refine CU.out.mono ?_
  rintro e w4 ⟨rfl, rfl⟩
  have HNe := Lib.hid (fun k (hk : k < zs.length) => shO_near HQ.out HO.out hk)
  have HBd := Lib.hid (fun k (hk : k < zs.length) => (HRz.out.bd hk))
  have HTb := HTb.out
  generalize zs.sum = T at *
  clear CU
  go_wp2_with fail
  go_loopw [8] (fun x wr => ∃ k : Nat, k ≤ zs.length ∧ x = .int .i64 k ∧ Hid (Below w2.heap.size w2 wr)) (fun x _ => zs.length - (intOf x).toNat)
  case atStart => exact ⟨0, Nat.zero_le _, rfl, Lib.hid (Below.refl _ _)⟩
  case round =>
    obtain ⟨k, hk, rfl, HW⟩ := hrel
    by_cases h : k < zs.length
    · have h' : (k : Int) < (zs.length : Int) := by omega
      have hk1 : k < (shO a0 zs).length := by rw [shO_len HQ.out]; exact h
      obtain ⟨b1, off1, e1, c1⟩ := (row_b HRa.out HW.out).at_ hk1
      obtain ⟨b2, off2, e2, c2⟩ := (row_b HRz.out HW.out).at_ h
      subst e1 e2
      rw [shO_at HQ.out] at c1
      have hv := HF.out.v h
      obtain ⟨n1, n2, n3⟩ := HNe.out k h
      obtain ⟨z1, z2⟩ := HBd.out k h
      generalize shV a0 zs k = s at *
      generalize zs[k] = z at *
      have C1 := Lib.hid (fun V => show Calls Try.prog 19 #[.int .i64 (s - 1), .int .i64 T, .int .i64 a0, .int .i64 z] V fun e w' => e = .returned (.int .i64 (-1)) ∧ Below V.heap.size V w' by
        have q := cmp_any (s - 1) T a0 z V (by omega) (by omega) (by omega) (by omega) x1 x2 z1 z2
        rwa [show cmpI ((s - 1) * T) (a0 * z) = -1 by unfold cmpI; rw [if_pos n1]] at q)
      have C2 := Lib.hid (fun V => show Calls Try.prog 19 #[.int .i64 (s + 1), .int .i64 T, .int .i64 a0, .int .i64 z] V fun e w' => e = .returned (.int .i64 1) ∧ Below V.heap.size V w' by
        have q := cmp_any (s + 1) T a0 z V (by omega) (by omega) (by omega) (by omega) x1 x2 z1 z2
        rwa [show cmpI ((s + 1) * T) (a0 * z) = 1 by unfold cmpI; rw [if_neg (by omega), if_pos n2]] at q)
      have l1 := cell_regrown c1
      have l2 := cell_regrown c2
      have K1 : ∀ dd os, Calls Try.prog 19 #[.int .i64 (s - 1), .int .i64 T, .int .i64 a0, .int .i64 z] (grow (redrawn wr dd) os) fun e w'' => e = .returned (.int .i64 (-1)) ∧ ∃ p : Regrown, w'' = grow (redrawn wr p.d) p.os := fun dd os => Calls.regrown_of (C1.out _)
      have K2 : ∀ dd os, Calls Try.prog 19 #[.int .i64 (s + 1), .int .i64 T, .int .i64 a0, .int .i64 z] (grow (redrawn wr dd) os) fun e w'' => e = .returned (.int .i64 1) ∧ ∃ p : Regrown, w'' = grow (redrawn wr p.d) p.os := fun dd os => Calls.regrown_of (C2.out _)
      clear n1 n2 c1 c2 C1 C2
      by_cases hz : z = 0
      · have hz' : (z == 0) = true := by simpa using hz
        have hs' : (s != 0) = false := by simpa using n3 hz
        clear n3 hz
        go_wp2_with fail
        refine wp_region_quiet_below (l := _) (by kernel_rfl) (by kernel_rfl) ?_
        repeat (first | go_big_quiet_step (first | (go_at_call 19; first | with_reducible exact K1 _ _ | with_reducible exact K2 _ _)))
        refine wpQuiet_nil ?_
        intro w5 hw'
        obtain ⟨⟨dq2, osq2⟩, hw''⟩ := hw'
        have hb2 := below_regrown wr dq2 osq2
        rw [← hw''] at hb2
        clear hw'' K1 K2 l1 l2
        have HW2 := Lib.hid (HW.out.trans (hb2.mono HW.out.size))
        clear hb2
        go_wp2
        go_roundw
        case rel => exact ⟨k + 1, by omega, by go_num, HW2⟩
        case measure => simp [intOf]; omega
      · have hz' : (z == 0) = false := by simpa using hz
        clear n3 hz
        go_wp2_with fail
        refine wp_region_quiet_below (l := _) (by kernel_rfl) (by kernel_rfl) ?_
        repeat (first | go_big_quiet_step (first | (go_at_call 19; first | with_reducible exact K1 _ _ | with_reducible exact K2 _ _)))
        refine wpQuiet_nil ?_
        intro w5 hw'
        obtain ⟨⟨dq2, osq2⟩, hw''⟩ := hw'
        have hb2 := below_regrown wr dq2 osq2
        rw [← hw''] at hb2
        clear hw'' K1 K2 l1 l2
        have HW2 := Lib.hid (HW.out.trans (hb2.mono HW.out.size))
        clear hb2
        go_wp2
        go_roundw
        case rel => exact ⟨k + 1, by omega, by go_num, HW2⟩
        case measure => simp [intOf]; omega
    · have h' : ¬ (k : Int) < (zs.length : Int) := by omega
      have HB := Lib.hid (HB.out.trans (HW.out.mono HB.out.size))
      go_wp2_with fail
      refine (HL.out _).mono ?_
      rintro e w5 ⟨rfl, hb5⟩
      go_wp2
      go_ret
      exact ⟨rfl, HB.out.trans (hb5.mono HB.out.size)⟩
end Go.Proofs.Ytmkjckmaaafmkaa
