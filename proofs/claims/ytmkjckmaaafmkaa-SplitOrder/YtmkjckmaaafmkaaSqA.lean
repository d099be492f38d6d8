/- The law SplitOrder returns true. Written by wip/mk_spw.py. -/
import Derived.Test.YtmkjckmaaafmkaaSpW
import Derived.Lib.QuietBelow
namespace Go.Proofs.Ytmkjckmaaafmkaa
open Go.RowKit Go.Sort
set_option linter.unusedVariables false
set_option linter.unusedSimpArgs false

set_option maxRecDepth 100000 in
set_option maxHeartbeats 4000000 in
theorem splitOrder_walk (a0 : Int) (a1 : Option Addr) (len1 cap1 : Nat) (z1 : List Int) (w : World) (w0 : (Lit.int .i64 a0).wf = true) (w1 : IsRow .i64 w a1 len1 cap1 z1) :
    Calls Try.prog 7 #[.int .i64 a0, .slice a1 len1 cap1] w fun e w' => e = .returned (.bool true) ∧ Below w.heap.size w w' := by
  obtain ⟨x1, x2⟩ := i64_bd' w0
  obtain ⟨zs, rfl, hR, hnil, hlen⟩ := row_of w1
  clear w0 w1
  have hlen' : (zs.length : Int) ≤ 9223372036854775807 := by omega
  have HL := Lib.hid (fun W => lives_any W)
  have HM := Lib.hid (fun W => many_any a1 cap1 zs.length W)
  by_cases q : shE a0 zs = 0
  rotate_left
  · have CE := Lib.hid (sh_err a0 a1 cap1 zs w hR hlen' x1 x2 q)
    have q' : (shE a0 zs != 0) = true := by simpa using q
    generalize shE a0 zs = er at *
    clear q hR
    by_cases hm : 260 < zs.length
    · rw [show decide (260 < zs.length) = true from decide_eq_true hm] at HM
      clear hm
      go_enter Try.func7, Try.ntmps7
      go_wp2_with fail
      refine CE.out.mono ?_
      rintro e w2 ⟨B, rfl, hb⟩
      have HB := Lib.hid hb
      clear hb
      go_wp2_with fail
      refine (HM.out _).mono ?_
      rintro e w3 ⟨rfl, rfl⟩
      go_wp2_with fail
      refine (HL.out _).mono ?_
      rintro e w4 ⟨rfl, hb4⟩
      go_wp2
      go_ret
      exact ⟨rfl, HB.out.trans (hb4.mono HB.out.size)⟩
    · rw [show decide (260 < zs.length) = false from decide_eq_false hm] at HM
      clear hm
      go_enter Try.func7, Try.ntmps7
      go_wp2_with fail
      refine CE.out.mono ?_
      rintro e w2 ⟨B, rfl, hb⟩
      have HB := Lib.hid hb
      clear hb
      go_wp2_with fail
      refine (HM.out _).mono ?_
      rintro e w3 ⟨rfl, rfl⟩
      go_wp2_with fail
      refine (HL.out _).mono ?_
      rintro e w4 ⟨rfl, hb4⟩
      go_wp2
      go_ret
      exact ⟨rfl, HB.out.trans (hb4.mono HB.out.size)⟩
  have hf := fine_of q
  have hn2 := hf.n2
  have hx1 := hf.x1
  have hx2 := hf.x2
  rw [show decide (260 < zs.length) = false from decide_eq_false (by omega)] at HM
  have CS := Lib.hid (sh_ok a0 a1 cap1 zs w hR hlen' x1 x2 q)
  have HR0 := Lib.hid hR
  have HQ := Lib.hid q
  have HF := Lib.hid hf
  clear q hf hR hnil
  go_enter Try.func7, Try.ntmps7
  go_wp2_with fail
  refine CS.out.mono ?_
  rintro e w2 ⟨B, rfl, hr, ho, hb⟩
  have HRz := Lib.hid (row_b HR0.out hb)
  have HRa := Lib.hid hr
  have HO := Lib.hid ho
  have HB := Lib.hid hb
  clear hr ho hb HR0 CS
  go_wp2_with fail
  refine (HM.out _).mono ?_
  rintro e w3 ⟨rfl, rfl⟩
  have HMo := Lib.hid (fun i k (hi : i < zs.length) (hk : k < zs.length) => shO_mono HQ.out HO.out hi hk)
  go_wp2_with fail
  go_loopw [7] (fun x wr => ∃ k : Nat, k ≤ zs.length ∧ x = .int .i64 k ∧ Hid (Below w2.heap.size w2 wr)) (fun x _ => zs.length - (intOf x).toNat)
  case atStart => exact ⟨0, Nat.zero_le _, rfl, Lib.hid (Below.refl _ _)⟩
  case round =>
    obtain ⟨i, hi, rfl, HV⟩ := hrel
    by_cases h : i < zs.length
    · have h' : (i : Int) < (zs.length : Int) := by omega
      go_wp2_with fail
      go_loopw [8] (fun x wr => ∃ k : Nat, k ≤ zs.length ∧ x = .int .i64 k ∧ Hid (Below w2.heap.size w2 wr)) (fun x _ => zs.length - (intOf x).toNat)
      case atStart => exact ⟨0, Nat.zero_le _, rfl, HV⟩
      case round =>
        clear HV
        obtain ⟨k, hk, rfl, HW⟩ := hrel
        by_cases g : k < zs.length
        · have g' : (k : Int) < (zs.length : Int) := by omega
          have hi1 : i < (shO a0 zs).length := by rw [shO_len HQ.out]; exact h
          have hk1 : k < (shO a0 zs).length := by rw [shO_len HQ.out]; exact g
          obtain ⟨b1, off1, e1, _, cs⟩ := (row_b HRa.out HW.out).1 (by omega)
          obtain ⟨b2, off2, e2, _, cz⟩ := (row_b HRz.out HW.out).1 (by omega)
          subst e1 e2
          have c1 := cs i hi1
          have c2 := cs k hk1
          have c3 := cz i h
          have c4 := cz k g
          rw [shO_at HQ.out] at c1 c2
          have v1 := HF.out.v h
          have v2 := HF.out.v g
          have hmo := HMo.out i k h g
          clear cs cz
          generalize shV a0 zs i = s1 at *
          generalize shV a0 zs k = s2 at *
          generalize zs[i] = z1 at *
          generalize zs[k] = z2 at *
          have C1 := Lib.hid (fun V => size_any s1 V (by omega) (by omega))
          have C2 := Lib.hid (fun V => size_any s2 V (by omega) (by omega))
          generalize abI s1 = u1 at *
          generalize abI s2 = u2 at *
          have l1 := cell_regrown c1
          have l2 := cell_regrown c2
          have l3 := cell_regrown c3
          have l4 := cell_regrown c4
          have K1 : ∀ dd os, Calls Try.prog 20 #[.int .i64 s1] (grow (redrawn wr dd) os) fun e w'' => e = .returned (.int .i64 u1) ∧ ∃ p : Regrown, w'' = grow (redrawn wr p.d) p.os := fun dd os => Calls.regrown_of ((C1.out _).mono fun e w' h => ⟨h.1, h.2 ▸ Below.refl _ _⟩)
          have K2 : ∀ dd os, Calls Try.prog 20 #[.int .i64 s2] (grow (redrawn wr dd) os) fun e w'' => e = .returned (.int .i64 u2) ∧ ∃ p : Regrown, w'' = grow (redrawn wr p.d) p.os := fun dd os => Calls.regrown_of ((C2.out _).mono fun e w' h => ⟨h.1, h.2 ▸ Below.refl _ _⟩)
          clear c1 c2 c3 c4 C1 C2 v1 v2
          by_cases p1 : z2 < z1
          · have p1' : decide (z2 < z1) = true := decide_eq_true p1
            have p5 : decide (u1 < u2) = false := decide_eq_false (by have := hmo (.inl p1); omega)
            clear hmo
            go_wp2_with fail
            refine wp_region_quiet_below (l := _) (by kernel_rfl) (by kernel_rfl) ?_
            repeat (first | go_big_quiet_step (first | (go_at_call 20; first | exact K1 _ _ | exact K2 _ _)))
            refine wpQuiet_nil ?_
            intro w5 hw'
            obtain ⟨⟨dq2, osq2⟩, hw''⟩ := hw'
            have hb2 := below_regrown wr dq2 osq2
            rw [← hw''] at hb2
            clear hw'' K1 K2 l1 l2 l3 l4
            have HW2 := Lib.hid (HW.out.trans (hb2.mono HW.out.size))
            clear hb2
            go_wp2
            go_roundw
            case rel => exact ⟨k + 1, by omega, by go_num, HW2⟩
            case measure => simp [intOf]; omega
          · have p1' : decide (z2 < z1) = false := decide_eq_false p1
            by_cases p2 : z1 = z2
            · have p2' : (z1 == z2) = true := by simpa using p2
              by_cases p3 : i < k
              · have p3' : decide ((i : Int) < (k : Int)) = true := decide_eq_true (by omega)
                have p5 : decide (u1 < u2) = false := decide_eq_false (by have := hmo (.inr ⟨p2, p3⟩); omega)
                clear hmo
                go_wp2_with fail
                refine wp_region_quiet_below (l := _) (by kernel_rfl) (by kernel_rfl) ?_
                repeat (first | go_big_quiet_step (first | (go_at_call 20; first | exact K1 _ _ | exact K2 _ _)))
                refine wpQuiet_nil ?_
                intro w5 hw'
                obtain ⟨⟨dq2, osq2⟩, hw''⟩ := hw'
                have hb2 := below_regrown wr dq2 osq2
                rw [← hw''] at hb2
                clear hw'' K1 K2 l1 l2 l3 l4
                have HW2 := Lib.hid (HW.out.trans (hb2.mono HW.out.size))
                clear hb2
                go_wp2
                go_roundw
                case rel => exact ⟨k + 1, by omega, by go_num, HW2⟩
                case measure => simp [intOf]; omega
              · have p3' : decide ((i : Int) < (k : Int)) = false := decide_eq_false (by omega)
                clear hmo
                go_wp2_with fail
                refine wp_region_quiet_below (l := _) (by kernel_rfl) (by kernel_rfl) ?_
                repeat (first | go_big_quiet_step (first | (go_at_call 20; first | exact K1 _ _ | exact K2 _ _)))
                refine wpQuiet_nil ?_
                intro w5 hw'
                obtain ⟨⟨dq2, osq2⟩, hw''⟩ := hw'
                have hb2 := below_regrown wr dq2 osq2
                rw [← hw''] at hb2
                clear hw'' K1 K2 l1 l2 l3 l4
                have HW2 := Lib.hid (HW.out.trans (hb2.mono HW.out.size))
                clear hb2
                go_wp2
                go_roundw
                case rel => exact ⟨k + 1, by omega, by go_num, HW2⟩
                case measure => simp [intOf]; omega
            · have p2' : (z1 == z2) = false := by simpa using p2
              clear hmo
              go_wp2_with fail
              refine wp_region_quiet_below (l := _) (by kernel_rfl) (by kernel_rfl) ?_
              repeat (first | go_big_quiet_step (first | (go_at_call 20; first | exact K1 _ _ | exact K2 _ _)))
              refine wpQuiet_nil ?_
              intro w5 hw'
              obtain ⟨⟨dq2, osq2⟩, hw''⟩ := hw'
              have hb2 := below_regrown wr dq2 osq2
              rw [← hw''] at hb2
              clear hw'' K1 K2 l1 l2 l3 l4
              have HW2 := Lib.hid (HW.out.trans (hb2.mono HW.out.size))
              clear hb2
              go_wp2
              go_roundw
              case rel => exact ⟨k + 1, by omega, by go_num, HW2⟩
              case measure => simp [intOf]; omega
        · have g' : ¬ (k : Int) < (zs.length : Int) := by omega
          go_wp2
          go_roundw
          case rel => exact ⟨i + 1, by omega, by go_num, HW⟩
          case measure => simp [intOf]; omega
    · have h' : ¬ (i : Int) < (zs.length : Int) := by omega
      have HB := Lib.hid (HB.out.trans (HV.out.mono HB.out.size))
      go_wp2_with fail
      refine (HL.out _).mono ?_
      rintro e w5 ⟨rfl, hb5⟩
      go_wp2
      go_ret
      exact ⟨rfl, HB.out.trans (hb5.mono HB.out.size)⟩
end Go.Proofs.Ytmkjckmaaafmkaa
