/- Which lists are sheets, by the reference. Written by wip/mk_sid.py. -/
import Derived.Test.YtenhnnfemehbcaaShV
import Derived.Test.YtenhnnfemehbcaaShR
namespace Go.Proofs.Ytenhnnfemehbcaa
open Go.RowKit Go.Sort
set_option linter.unusedVariables false
set_option linter.unusedSimpArgs false

set_option maxRecDepth 100000 in
set_option maxHeartbeats 6000000 in
theorem rRight_any (A : Option Addr) (c : Nat) (L : List Cl) (w : World) (hR : RowS w A L) (hBd : BdS L) (hl : L.length ≤ 2000) :
    Calls Try.prog 22 #[.slice A L.length c] w fun e w' => e = .returned (.bool (rightB L)) ∧ Below w.heap.size w w' := by
  have HR := Lib.hid hR
  have HF := Lib.hid (show ∀ (x : Int) (b : Bool), okSum x = b → ∀ W, Calls Try.prog 47 #[.int .i64 x] W fun e w' => e = .returned (.bool b) ∧ Below W.heap.size W w' from fun x b hx W => by
    refine (rFits_any x W).mono ?_
    rintro e w' ⟨rfl, rfl⟩
    exact ⟨by rw [hx], Below.refl _ _⟩)
  obtain ⟨rB, hrB⟩ : ∃ x, rightB L = x := ⟨_, rfl⟩
  have HRb := Lib.hid (show ∀ i, i < L.length → okC L i = false → rB = false from fun i hi h => by rw [← hrB]; exact right_bad hi h)
  have HRo := Lib.hid (show (∀ i, i < L.length → okC L i = true) → rB = true from fun h => by rw [← hrB]; exact right_ok h)
  rw [hrB]
  clear hR hBd hrB
  go_enter Try.func22, Try.ntmps22
  go_wp2
  go_loopw [3] (fun x wr => ∃ k : Nat, k ≤ L.length ∧ x = .int .i64 k ∧ Hid (∀ i, i < k → okC L i = true) ∧ Hid (Below w.heap.size w wr)) (fun x _ => L.length - (intOf x).toNat)
  case atStart => exact ⟨0, Nat.zero_le _, rfl, Lib.hid (fun i hi => absurd hi (by omega)), Lib.hid (Below.refl _ _)⟩
  case round =>
    obtain ⟨k, hk, rfl, HK, HB⟩ := hrel
    by_cases h : k < L.length
    · have h' : (k : Int) < (L.length : Int) := by omega
      have h'' : (0 : Int) ≤ (k : Int) := by omega
      obtain ⟨b, off, rfl, hbl, c0, c1, c2, c3, c4, c5, c6⟩ := (HR.out.below HB.out).at h
      have HBad := Lib.hid (fun z => HRb.out k h z)
      have hLk : L[k]! = L[k] := getElem!_pos L k h
      obtain ⟨x, hx⟩ : ∃ x, L[k] = x := ⟨_, rfl⟩
      rw [hx] at c0 c1 c2 c3 c4 c5 c6 hLk
      have HLk := Lib.hid hLk
      have HOk := Lib.hid (show okC L k = (orC L k && ((!emp x) && (okSum x.2.1 && okSum x.2.2))) from by unfold okC; rw [hLk])
      clear hx hLk
      obtain ⟨⟨a1, a2, a3, a4, a5⟩, m, n⟩ := x
      dsimp only at c0 c1 c2 c3 c4 c5 c6 HOk
      have x0 := cell_regrown c0
      have x1 := cell_regrown c1
      have x2 := cell_regrown c2
      have x3 := cell_regrown c3
      have x4 := cell_regrown c4
      have x5 := cell_regrown c5
      have x6 := cell_regrown c6
      by_cases hm0 : m = 0
      · subst hm0
        by_cases hn0 : n = 0
        · subst hn0
          have hem : emp ((a1, a2, a3, a4, a5), 0, 0) = true := rfl
          go_wp2_with fail
          refine wp_region_quiet_below (l := _) (by kernel_rfl) (by kernel_rfl) ?_
          repeat (first | go_big_quiet_step (first | (go_at_call 47; first | exact CM _ _ | exact CN _ _) | (go_at_call 13; exact CC _ _)))
          refine wpQuiet_nil ?_
          intro w5 hw'
          obtain ⟨⟨dq2, osq2⟩, hw''⟩ := hw'
          have hb2 := below_regrown wr dq2 osq2
          rw [← hw''] at hb2
          clear hw''
          have HBe := Lib.hid (HB.out.trans (hb2.mono HB.out.size))
          clear hb2
          have HV := Lib.hid (HBad.out (by rw [HOk.out, hem]; simp))
          go_wp2
          go_ret
          exact ⟨ret_boolS HV.out.symm, HBe.out⟩
        · have hn1 : (n == 0) = false := by simp [hn0]
          have hem : emp ((a1, a2, a3, a4, a5), 0, n) = false := by unfold emp; simp [hn0]
          have hom : okSum 0 = true := by decide
          have CM : ∀ dd os, Calls Try.prog 47 #[.int .i64 0] (grow (redrawn wr dd) os) fun e w'' => e = .returned (.bool true) ∧ ∃ p : Regrown, w'' = grow (redrawn wr p.d) p.os := fun dd os => Calls.regrown_of (HF.out 0 _ hom _)
          have CN : ∀ dd os, Calls Try.prog 47 #[.int .i64 n] (grow (redrawn wr dd) os) fun e w'' => e = .returned (.bool (okSum n)) ∧ ∃ p : Regrown, w'' = grow (redrawn wr p.d) p.os := fun dd os => Calls.regrown_of (HF.out n _ rfl _)
          go_wp2_with fail
          refine wp_region_quiet_below (l := _) (by kernel_rfl) (by kernel_rfl) ?_
          iterate 21 (go_big_quiet_step (first | (go_at_call 47; first | exact CM _ _ | exact CN _ _) | (go_at_call 13; exact CC _ _)))
          iterate 9 (go_big_quiet_step (first | (go_at_call 47; first | exact CM _ _ | exact CN _ _) | (go_at_call 13; exact CC _ _)))
          cases hon : okSum n
          · skip
            repeat (first | go_big_quiet_step (first | (go_at_call 47; first | exact CM _ _ | exact CN _ _) | (go_at_call 13; exact CC _ _)))
            refine wpQuiet_nil ?_
            intro w5 hw'
            obtain ⟨⟨dq2, osq2⟩, hw''⟩ := hw'
            have hb2 := below_regrown wr dq2 osq2
            rw [← hw''] at hb2
            clear hw''
            have HBe := Lib.hid (HB.out.trans (hb2.mono HB.out.size))
            clear hb2
            have HV := Lib.hid (HBad.out (by rw [HOk.out, hon]; simp))
            go_wp2
            go_ret
            exact ⟨ret_boolS HV.out.symm, HBe.out⟩
          iterate 4 (go_big_quiet_step (first | (go_at_call 47; first | exact CM _ _ | exact CN _ _) | (go_at_call 13; exact CC _ _)))
          cases k with
          | zero =>
            have hor : orC L 0 = true := rfl
            repeat (first | go_big_quiet_step (first | (go_at_call 47; first | exact CM _ _ | exact CN _ _) | (go_at_call 13; exact CC _ _)))
            refine wpQuiet_nil ?_
            intro w5 hw'
            obtain ⟨⟨dq2, osq2⟩, hw''⟩ := hw'
            have hb2 := below_regrown wr dq2 osq2
            rw [← hw''] at hb2
            clear hw''
            have HBe := Lib.hid (HB.out.trans (hb2.mono HB.out.size))
            clear hb2
            have HX := Lib.hid (okC_snoc HK.out (show okC L 0 = true from by rw [HOk.out, hor, hem, hom, hon]; rfl))
            go_wp2
            go_roundw
            case rel => exact ⟨0 + 1, by omega, by go_num, HX, HBe⟩
            case measure => simp [intOf]; omega
          | succ B =>
            have hBL : B < L.length := by omega
            obtain ⟨b', off', e1, _, d0, d1, d2, d3, d4, _, _⟩ := (HR.out.below HB.out).at hBL
            simp only [Option.some.injEq, Addr.mk.injEq, and_true] at e1
            obtain ⟨rfl, rfl⟩ := e1
            have hLj : L[B + 1 - 1]! = L[B] := getElem!_pos L B hBL
            obtain ⟨y, hy⟩ : ∃ y, L[B] = y := ⟨_, rfl⟩
            rw [hy] at d0 d1 d2 d3 d4 hLj
            obtain ⟨⟨b1, b2, b3, b4, b5⟩, r, s⟩ := y
            dsimp only at d0 d1 d2 d3 d4
            clear hy
            obtain ⟨cv, hcv⟩ : ∃ cv, cmpK (b1, b2, b3, b4, b5) (a1, a2, a3, a4, a5) = cv := ⟨_, rfl⟩
            have HOr := Lib.hid (show orC L (B + 1) = decide (cv < 0) from by unfold orC; rw [hLj, HLk.out, ← hcv]; simp)
            have HC := Lib.hid (show ∀ W, Calls Try.prog 13 #[.agg #[.string b1, .string b2, .string b3, .string b4, .string b5], .agg #[.string a1, .string a2, .string a3, .string a4, .string a5]] W fun e w' => e = .returned (.int .i64 cv) ∧ Below W.heap.size W w' from fun W => by
              refine (rCmp5_any b1 b2 b3 b4 b5 a1 a2 a3 a4 a5 W).mono ?_
              rintro e w' ⟨rfl, hg⟩
              exact ⟨ret_int hcv, hg.b⟩)
            have CC : ∀ dd os, Calls Try.prog 13 #[.agg #[.string b1, .string b2, .string b3, .string b4, .string b5], .agg #[.string a1, .string a2, .string a3, .string a4, .string a5]] (grow (redrawn wr dd) os) fun e w'' => e = .returned (.int .i64 cv) ∧ ∃ p : Regrown, w'' = grow (redrawn wr p.d) p.os := fun dd os => Calls.regrown_of (HC.out _)
            clear hcv hLj
            have y0 := cell_regrown d0
            have y1 := cell_regrown d1
            have y2 := cell_regrown d2
            have y3 := cell_regrown d3
            have y4 := cell_regrown d4
            clear d0 d1 d2 d3 d4
            have z0 : decide ((0 : Int) < ((B + 1 : Nat) : Int)) = true := decide_eq_true (by omega)
            have z1 : (0 : Int) < ((B + 1 : Nat) : Int) := by omega
            have z2 : ((B + 1 : Nat) : Int) - 1 = (B : Int) := by omega
            have z3 : (0 : Int) ≤ (B : Int) := by omega
            have z4 : (B : Int) < (L.length : Int) := by omega
            iterate 14 (go_big_quiet_step (first | (go_at_call 47; first | exact CM _ _ | exact CN _ _) | (go_at_call 13; exact CC _ _)))
            by_cases hcp : cv < 0
            · have hor : orC L (B + 1) = true := by rw [HOr.out, decide_eq_true hcp]
              have g1 : decide ((0 : Int) ≤ cv) = false := decide_eq_false (by omega)
              have g2 : ¬ ((0 : Int) ≤ cv) := by omega
              repeat (first | go_big_quiet_step (first | (go_at_call 47; first | exact CM _ _ | exact CN _ _) | (go_at_call 13; exact CC _ _)))
              refine wpQuiet_nil ?_
              intro w5 hw'
              obtain ⟨⟨dq2, osq2⟩, hw''⟩ := hw'
              have hb2 := below_regrown wr dq2 osq2
              rw [← hw''] at hb2
              clear hw''
              have HBe := Lib.hid (HB.out.trans (hb2.mono HB.out.size))
              clear hb2
              have HX := Lib.hid (okC_snoc HK.out (show okC L (B + 1) = true from by rw [HOk.out, hor, hem, hom, hon]; rfl))
              go_wp2
              go_roundw
              case rel => exact ⟨(B + 1) + 1, by omega, by go_num, HX, HBe⟩
              case measure => simp [intOf]; omega
            · have hor : orC L (B + 1) = false := by rw [HOr.out, decide_eq_false hcp]
              have g1 : decide ((0 : Int) ≤ cv) = true := decide_eq_true (by omega)
              have g2 : (0 : Int) ≤ cv := by omega
              repeat (first | go_big_quiet_step (first | (go_at_call 47; first | exact CM _ _ | exact CN _ _) | (go_at_call 13; exact CC _ _)))
              refine wpQuiet_nil ?_
              intro w5 hw'
              obtain ⟨⟨dq2, osq2⟩, hw''⟩ := hw'
              have hb2 := below_regrown wr dq2 osq2
              rw [← hw''] at hb2
              clear hw''
              have HBe := Lib.hid (HB.out.trans (hb2.mono HB.out.size))
              clear hb2
              have HV := Lib.hid (HBad.out (by rw [HOk.out, hor]; simp))
              go_wp2
              go_ret
              exact ⟨ret_boolS HV.out.symm, HBe.out⟩
      · have hm1 : (m == 0) = false := by simp [hm0]
        have hem : emp ((a1, a2, a3, a4, a5), m, n) = false := by unfold emp; simp [hm0]
        have CM : ∀ dd os, Calls Try.prog 47 #[.int .i64 m] (grow (redrawn wr dd) os) fun e w'' => e = .returned (.bool (okSum m)) ∧ ∃ p : Regrown, w'' = grow (redrawn wr p.d) p.os := fun dd os => Calls.regrown_of (HF.out m _ rfl _)
        have CN : ∀ dd os, Calls Try.prog 47 #[.int .i64 n] (grow (redrawn wr dd) os) fun e w'' => e = .returned (.bool (okSum n)) ∧ ∃ p : Regrown, w'' = grow (redrawn wr p.d) p.os := fun dd os => Calls.regrown_of (HF.out n _ rfl _)
        go_wp2_with fail
        refine wp_region_quiet_below (l := _) (by kernel_rfl) (by kernel_rfl) ?_
        iterate 21 (go_big_quiet_step (first | (go_at_call 47; first | exact CM _ _ | exact CN _ _) | (go_at_call 13; exact CC _ _)))
        cases hom : okSum m
        · skip
          repeat (first | go_big_quiet_step (first | (go_at_call 47; first | exact CM _ _ | exact CN _ _) | (go_at_call 13; exact CC _ _)))
          refine wpQuiet_nil ?_
          intro w5 hw'
          obtain ⟨⟨dq2, osq2⟩, hw''⟩ := hw'
          have hb2 := below_regrown wr dq2 osq2
          rw [← hw''] at hb2
          clear hw''
          have HBe := Lib.hid (HB.out.trans (hb2.mono HB.out.size))
          clear hb2
          have HV := Lib.hid (HBad.out (by rw [HOk.out, hom]; simp))
          go_wp2
          go_ret
          exact ⟨ret_boolS HV.out.symm, HBe.out⟩
        iterate 9 (go_big_quiet_step (first | (go_at_call 47; first | exact CM _ _ | exact CN _ _) | (go_at_call 13; exact CC _ _)))
        cases hon : okSum n
        · skip
          repeat (first | go_big_quiet_step (first | (go_at_call 47; first | exact CM _ _ | exact CN _ _) | (go_at_call 13; exact CC _ _)))
          refine wpQuiet_nil ?_
          intro w5 hw'
          obtain ⟨⟨dq2, osq2⟩, hw''⟩ := hw'
          have hb2 := below_regrown wr dq2 osq2
          rw [← hw''] at hb2
          clear hw''
          have HBe := Lib.hid (HB.out.trans (hb2.mono HB.out.size))
          clear hb2
          have HV := Lib.hid (HBad.out (by rw [HOk.out, hon]; simp))
          go_wp2
          go_ret
          exact ⟨ret_boolS HV.out.symm, HBe.out⟩
        iterate 4 (go_big_quiet_step (first | (go_at_call 47; first | exact CM _ _ | exact CN _ _) | (go_at_call 13; exact CC _ _)))
        cases k with
        | zero =>
          have hor : orC L 0 = true := rfl
          repeat (first | go_big_quiet_step (first | (go_at_call 47; first | exact CM _ _ | exact CN _ _) | (go_at_call 13; exact CC _ _)))
          refine wpQuiet_nil ?_
          intro w5 hw'
          obtain ⟨⟨dq2, osq2⟩, hw''⟩ := hw'
          have hb2 := below_regrown wr dq2 osq2
          rw [← hw''] at hb2
          clear hw''
          have HBe := Lib.hid (HB.out.trans (hb2.mono HB.out.size))
          clear hb2
          have HX := Lib.hid (okC_snoc HK.out (show okC L 0 = true from by rw [HOk.out, hor, hem, hom, hon]; rfl))
          go_wp2
          go_roundw
          case rel => exact ⟨0 + 1, by omega, by go_num, HX, HBe⟩
          case measure => simp [intOf]; omega
        | succ B =>
          have hBL : B < L.length := by omega
          obtain ⟨b', off', e1, _, d0, d1, d2, d3, d4, _, _⟩ := (HR.out.below HB.out).at hBL
          simp only [Option.some.injEq, Addr.mk.injEq, and_true] at e1
          obtain ⟨rfl, rfl⟩ := e1
          have hLj : L[B + 1 - 1]! = L[B] := getElem!_pos L B hBL
          obtain ⟨y, hy⟩ : ∃ y, L[B] = y := ⟨_, rfl⟩
          rw [hy] at d0 d1 d2 d3 d4 hLj
          obtain ⟨⟨b1, b2, b3, b4, b5⟩, r, s⟩ := y
          dsimp only at d0 d1 d2 d3 d4
          clear hy
          obtain ⟨cv, hcv⟩ : ∃ cv, cmpK (b1, b2, b3, b4, b5) (a1, a2, a3, a4, a5) = cv := ⟨_, rfl⟩
          have HOr := Lib.hid (show orC L (B + 1) = decide (cv < 0) from by unfold orC; rw [hLj, HLk.out, ← hcv]; simp)
          have HC := Lib.hid (show ∀ W, Calls Try.prog 13 #[.agg #[.string b1, .string b2, .string b3, .string b4, .string b5], .agg #[.string a1, .string a2, .string a3, .string a4, .string a5]] W fun e w' => e = .returned (.int .i64 cv) ∧ Below W.heap.size W w' from fun W => by
            refine (rCmp5_any b1 b2 b3 b4 b5 a1 a2 a3 a4 a5 W).mono ?_
            rintro e w' ⟨rfl, hg⟩
            exact ⟨ret_int hcv, hg.b⟩)
          have CC : ∀ dd os, Calls Try.prog 13 #[.agg #[.string b1, .string b2, .string b3, .string b4, .string b5], .agg #[.string a1, .string a2, .string a3, .string a4, .string a5]] (grow (redrawn wr dd) os) fun e w'' => e = .returned (.int .i64 cv) ∧ ∃ p : Regrown, w'' = grow (redrawn wr p.d) p.os := fun dd os => Calls.regrown_of (HC.out _)
          clear hcv hLj
          have y0 := cell_regrown d0
          have y1 := cell_regrown d1
          have y2 := cell_regrown d2
          have y3 := cell_regrown d3
          have y4 := cell_regrown d4
          clear d0 d1 d2 d3 d4
          have z0 : decide ((0 : Int) < ((B + 1 : Nat) : Int)) = true := decide_eq_true (by omega)
          have z1 : (0 : Int) < ((B + 1 : Nat) : Int) := by omega
          have z2 : ((B + 1 : Nat) : Int) - 1 = (B : Int) := by omega
          have z3 : (0 : Int) ≤ (B : Int) := by omega
          have z4 : (B : Int) < (L.length : Int) := by omega
          iterate 14 (go_big_quiet_step (first | (go_at_call 47; first | exact CM _ _ | exact CN _ _) | (go_at_call 13; exact CC _ _)))
          by_cases hcp : cv < 0
          · have hor : orC L (B + 1) = true := by rw [HOr.out, decide_eq_true hcp]
            have g1 : decide ((0 : Int) ≤ cv) = false := decide_eq_false (by omega)
            have g2 : ¬ ((0 : Int) ≤ cv) := by omega
            repeat (first | go_big_quiet_step (first | (go_at_call 47; first | exact CM _ _ | exact CN _ _) | (go_at_call 13; exact CC _ _)))
            refine wpQuiet_nil ?_
            intro w5 hw'
            obtain ⟨⟨dq2, osq2⟩, hw''⟩ := hw'
            have hb2 := below_regrown wr dq2 osq2
            rw [← hw''] at hb2
            clear hw''
            have HBe := Lib.hid (HB.out.trans (hb2.mono HB.out.size))
            clear hb2
            have HX := Lib.hid (okC_snoc HK.out (show okC L (B + 1) = true from by rw [HOk.out, hor, hem, hom, hon]; rfl))
            go_wp2
            go_roundw
            case rel => exact ⟨(B + 1) + 1, by omega, by go_num, HX, HBe⟩
            case measure => simp [intOf]; omega
          · have hor : orC L (B + 1) = false := by rw [HOr.out, decide_eq_false hcp]
            have g1 : decide ((0 : Int) ≤ cv) = true := decide_eq_true (by omega)
            have g2 : (0 : Int) ≤ cv := by omega
            repeat (first | go_big_quiet_step (first | (go_at_call 47; first | exact CM _ _ | exact CN _ _) | (go_at_call 13; exact CC _ _)))
            refine wpQuiet_nil ?_
            intro w5 hw'
            obtain ⟨⟨dq2, osq2⟩, hw''⟩ := hw'
            have hb2 := below_regrown wr dq2 osq2
            rw [← hw''] at hb2
            clear hw''
            have HBe := Lib.hid (HB.out.trans (hb2.mono HB.out.size))
            clear hb2
            have HV := Lib.hid (HBad.out (by rw [HOk.out, hor]; simp))
            go_wp2
            go_ret
            exact ⟨ret_boolS HV.out.symm, HBe.out⟩
    · have h' : ¬ (k : Int) < (L.length : Int) := by omega
      have HV := Lib.hid (HRo.out (fun i hi => HK.out i (by omega)))
      go_wp2
      go_ret
      exact ⟨ret_boolS HV.out.symm, HB.out⟩
end Go.Proofs.Ytenhnnfemehbcaa
