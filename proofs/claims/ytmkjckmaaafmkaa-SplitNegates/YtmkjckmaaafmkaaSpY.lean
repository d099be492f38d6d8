/- The law SplitNegates returns true. Written by wip/mk_spw.py. -/
import Derived.Test.YtmkjckmaaafmkaaSpW
import Derived.Lib.QuietBelow
namespace Go.Proofs.Ytmkjckmaaafmkaa
open Go.RowKit Go.Sort
set_option linter.unusedVariables false
set_option linter.unusedSimpArgs false

set_option maxRecDepth 100000 in
set_option maxHeartbeats 4000000 in
theorem splitNegates_walk (a0 : Int) (a1 : Option Addr) (len1 cap1 : Nat) (z1 : List Int) (w : World) (w0 : (Lit.int .i64 a0).wf = true) (w1 : IsRow .i64 w a1 len1 cap1 z1) :
    Calls Try.prog 8 #[.int .i64 a0, .slice a1 len1 cap1] w fun e w' => e = .returned (.bool true) ∧ Below w.heap.size w w' := by
  obtain ⟨x1, x2⟩ := i64_bd' w0
  obtain ⟨zs, rfl, hR, hnil, hlen⟩ := row_of w1
  clear w0 w1
  have hlen' : (zs.length : Int) ≤ 9223372036854775807 := by omega
  have HL := Lib.hid (fun W => lives_any W)
  have HM := Lib.hid (fun W => many_any a1 cap1 zs.length W)
  by_cases q : shE a0 zs = 0
  rotate_left
  · have CE := Lib.hid (sh_err a0 a1 cap1 zs w hR hlen' x1 x2 q)
    have q' : (shE a0 zs != 0) = true := by simpa using q
    have HR0 := Lib.hid hR
    generalize shE a0 zs = er at *
    clear q hR
    by_cases hx : a0 = -9223372036854775808
    · subst hx
      have CG := Lib.hid (fun W (hb : Below w.heap.size w W) => sh_gen (wrap64 9223372036854775808) a1 cap1 zs W (row_b HR0.out hb) hlen' (by unfold wrap64; omega) (by unfold wrap64; omega))
      by_cases hm : 260 < zs.length
      · rw [show decide (260 < zs.length) = true from decide_eq_true hm] at HM
        clear hm
        go_enter Try.func8, Try.ntmps8
        go_wp2_with fail
        refine CE.out.mono ?_
        rintro e w2 ⟨B, rfl, hb⟩
        have HB := Lib.hid hb
        clear hb
        go_wp2_with fail
        refine (CG.out _ HB.out).mono ?_
        rintro e w2b ⟨B2, m2, er2, rfl, hb⟩
        have HB := Lib.hid (HB.out.trans (hb.mono HB.out.size))
        clear hb
        go_wp2_with fail
        refine (HM.out _).mono ?_
        rintro e w3 ⟨rfl, rfl⟩
        go_wp2_with fail
        refine (HL.out _).mono ?_
        rintro e w4 ⟨rfl, hb4⟩
        go_wp2
        go_ret
        exact ⟨rfl, HB.out.trans (hb4.mono HB.out.size)⟩
      · rw [show decide (260 < zs.length) = false from decide_eq_false hm] at HM
        clear hm
        go_enter Try.func8, Try.ntmps8
        go_wp2_with fail
        refine CE.out.mono ?_
        rintro e w2 ⟨B, rfl, hb⟩
        have HB := Lib.hid hb
        clear hb
        go_wp2_with fail
        refine (CG.out _ HB.out).mono ?_
        rintro e w2b ⟨B2, m2, er2, rfl, hb⟩
        have HB := Lib.hid (HB.out.trans (hb.mono HB.out.size))
        clear hb
        go_wp2_with fail
        refine (HM.out _).mono ?_
        rintro e w3 ⟨rfl, rfl⟩
        go_wp2_with fail
        refine (HL.out _).mono ?_
        rintro e w4 ⟨rfl, hb4⟩
        go_wp2
        go_ret
        exact ⟨rfl, HB.out.trans (hb4.mono HB.out.size)⟩
    · have y1 : -9223372036854775808 ≤ -a0 := by omega
      have y2 : -a0 ≤ 9223372036854775807 := by omega
      have CG := Lib.hid (fun W (hb : Below w.heap.size w W) => sh_gen (-a0) a1 cap1 zs W (row_b HR0.out hb) hlen' (by omega) (by omega))
      by_cases hm : 260 < zs.length
      · rw [show decide (260 < zs.length) = true from decide_eq_true hm] at HM
        clear hm
        go_enter Try.func8, Try.ntmps8
        go_wp2_with fail
        refine CE.out.mono ?_
        rintro e w2 ⟨B, rfl, hb⟩
        have HB := Lib.hid hb
        clear hb
        go_wp2_with fail
        refine (CG.out _ HB.out).mono ?_
        rintro e w2b ⟨B2, m2, er2, rfl, hb⟩
        have HB := Lib.hid (HB.out.trans (hb.mono HB.out.size))
        clear hb
        go_wp2_with fail
        refine (HM.out _).mono ?_
        rintro e w3 ⟨rfl, rfl⟩
        go_wp2_with fail
        refine (HL.out _).mono ?_
        rintro e w4 ⟨rfl, hb4⟩
        go_wp2
        go_ret
        exact ⟨rfl, HB.out.trans (hb4.mono HB.out.size)⟩
      · rw [show decide (260 < zs.length) = false from decide_eq_false hm] at HM
        clear hm
        go_enter Try.func8, Try.ntmps8
        go_wp2_with fail
        refine CE.out.mono ?_
        rintro e w2 ⟨B, rfl, hb⟩
        have HB := Lib.hid hb
        clear hb
        go_wp2_with fail
        refine (CG.out _ HB.out).mono ?_
        rintro e w2b ⟨B2, m2, er2, rfl, hb⟩
        have HB := Lib.hid (HB.out.trans (hb.mono HB.out.size))
        clear hb
        go_wp2_with fail
        refine (HM.out _).mono ?_
        rintro e w3 ⟨rfl, rfl⟩
        go_wp2_with fail
        refine (HL.out _).mono ?_
        rintro e w4 ⟨rfl, hb4⟩
        go_wp2
        go_ret
        exact ⟨rfl, HB.out.trans (hb4.mono HB.out.size)⟩
  have hf := fine_of q
  have hn2 := hf.n2
  have hx1 := hf.x1
  have hx2 := hf.x2
  rw [show decide (260 < zs.length) = false from decide_eq_false (by omega)] at HM
  have CS := Lib.hid (sh_ok a0 a1 cap1 zs w hR hlen' x1 x2 q)
  have HR0 := Lib.hid hR
  have HQ := Lib.hid q
  have HF := Lib.hid hf
  clear q hf hR hnil
  have HQn := Lib.hid (show shE (-a0) zs = 0 by rw [wgV_neg]; exact HQ.out)
  have HNg := Lib.hid (shO_neg a0 zs)
  go_enter Try.func8, Try.ntmps8
  go_wp2_with fail
  refine CS.out.mono ?_
  rintro e w2 ⟨B, rfl, hr, ho, hb⟩
  have HRz := Lib.hid (row_b HR0.out hb)
  have HRa := Lib.hid hr
  have HO := Lib.hid ho
  have HB := Lib.hid hb
  clear hr ho hb HR0 CS
  have CN := Lib.hid (sh_ok (-a0) a1 cap1 zs w2 HRz.out hlen' (by omega) (by omega) HQn.out)
  go_wp2_with fail
  refine CN.out.mono ?_
  rintro e w2b ⟨C, rfl, hr, _, hb⟩
  have HRa := Lib.hid (row_b HRa.out hb)
  have HRn := Lib.hid hr
  have HB := Lib.hid (HB.out.trans (hb.mono HB.out.size))
  clear hr hb HRz HO CN
  go_wp2_with fail
  refine (HM.out _).mono ?_
  rintro e w3 ⟨rfl, rfl⟩
  go_wp2_with fail
  go_loopw [9] (fun x wr => ∃ k : Nat, k ≤ zs.length ∧ x = .int .i64 k ∧ Hid (Below w2b.heap.size w2b wr)) (fun x _ => zs.length - (intOf x).toNat)
  case atStart => exact ⟨0, Nat.zero_le _, rfl, Lib.hid (Below.refl _ _)⟩
  case round =>
    obtain ⟨k, hk, rfl, HW⟩ := hrel
    by_cases h : k < zs.length
    · have h' : (k : Int) < (zs.length : Int) := by omega
      have hk1 : k < (shO a0 zs).length := by rw [shO_len HQ.out]; exact h
      have hk2 : k < (shO (-a0) zs).length := by rw [shO_len HQn.out]; exact h
      obtain ⟨b1, off1, e1, c1⟩ := (row_b HRa.out HW.out).at_ hk1
      obtain ⟨b2, off2, e2, c2⟩ := (row_b HRn.out HW.out).at_ hk2
      subst e1 e2
      rw [shO_at HQ.out] at c1
      rw [shO_at HQn.out, shV_neg] at c2
      have hv := HF.out.v h
      generalize shV a0 zs k = s at *
      go_wp2_with fail
      go_quiet (fail)
      have HW2 := Lib.hid (below_drewN HW.out nq)
      generalize wr.drewN nq = w4 at *
      go_wp2
      go_roundw
      case rel => exact ⟨k + 1, by omega, by go_num, HW2⟩
      case measure => simp [intOf]; omega
    · have h' : ¬ (k : Int) < (zs.length : Int) := by omega
      have HB := Lib.hid (HB.out.trans (HW.out.mono HB.out.size))
      go_wp2_with fail
      refine (HL.out _).mono ?_
      rintro e w5 ⟨rfl, hb5⟩
      go_wp2
      go_ret
      exact ⟨rfl, HB.out.trans (hb5.mono HB.out.size)⟩
end Go.Proofs.Ytmkjckmaaafmkaa
