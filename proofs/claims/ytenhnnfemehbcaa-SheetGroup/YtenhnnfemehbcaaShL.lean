/- Right of package sheet. Written by wip/mk_shl.py. -/
import Derived.Test.YtenhnnfemehbcaaShK
namespace Go.Proofs.Ytenhnnfemehbcaa
open Go.RowKit Go.Sort
set_option linter.unusedVariables false
set_option linter.unusedSimpArgs false

/-- the order of the cell i and the one ahead of it. -/
def orC (L : List Cl) (i : Nat) : Bool := decide (i = 0) || decide (cmpK (L[i - 1]!).1 (L[i]!).1 < 0)
/-- the cell i of a sheet. -/
def okC (L : List Cl) (i : Nat) : Bool := orC L i && ((!emp L[i]!) && (okSum (L[i]!).2.1 && okSum (L[i]!).2.2))
def rightB (L : List Cl) : Bool := (List.range L.length).all (okC L)
theorem right_bad {L : List Cl} {i : Nat} (hi : i < L.length) (h : okC L i = false) : rightB L = false := by
  unfold rightB
  rw [List.all_eq_false]
  exact ⟨i, List.mem_range.2 hi, by rw [h]; simp⟩
theorem right_ok {L : List Cl} (h : ∀ i, i < L.length → okC L i = true) : rightB L = true := by
  unfold rightB
  rw [List.all_eq_true]
  exact fun i hi => h i (List.mem_range.1 hi)
theorem right_at {L : List Cl} (h : rightB L = true) (i : Nat) (hi : i < L.length) : okC L i = true := by
  unfold rightB at h
  rw [List.all_eq_true] at h
  exact h i (List.mem_range.2 hi)
theorem okC_snoc {L : List Cl} {k : Nat} (h : ∀ i, i < k → okC L i = true) (hk : okC L k = true) : ∀ i, i < k + 1 → okC L i = true := by
  intro i hi
  rcases Nat.lt_or_ge i k with q | q
  · exact h i q
  · have e : i = k := by omega
    subst e; exact hk
set_option maxRecDepth 100000 in
set_option maxHeartbeats 1000000 in
theorem right_any (A : Option Addr) (c : Nat) (L : List Cl) (w : World) (hR : RowS w A L) (hBd : BdS L) (hl : L.length ≤ 2000) :
    Calls Try.prog 21 #[.slice A L.length c] w fun e w' => e = .returned (.bool (rightB L)) ∧ Below w.heap.size w w' := by
  have HR := Lib.hid hR
  have HBd := Lib.hid hBd
  have HI := Lib.hid isSum_any
  obtain ⟨rB, hrB⟩ : ∃ x, rightB L = x := ⟨_, rfl⟩
  have HRb := Lib.hid (show ∀ i, i < L.length → okC L i = false → rB = false from fun i hi h => by rw [← hrB]; exact right_bad hi h)
  have HRo := Lib.hid (show (∀ i, i < L.length → okC L i = true) → rB = true from fun h => by rw [← hrB]; exact right_ok h)
  rw [hrB]
  clear hR hBd hrB
  go_enter Try.func21, Try.ntmps21
  go_wp2
  go_loopw [7] (fun x wr => ∃ k : Nat, k ≤ L.length ∧ x = .int .i64 k ∧ Hid (∀ i, i < k → okC L i = true) ∧ Hid (Below w.heap.size w wr)) (fun x _ => L.length - (intOf x).toNat)
  case atStart => exact ⟨0, Nat.zero_le _, rfl, Lib.hid (fun i hi => absurd hi (by omega)), Lib.hid (Below.refl _ _)⟩
  case round =>
    obtain ⟨k, hk, rfl, HK, HB⟩ := hrel
    by_cases h : k < L.length
    · have h' : (k : Int) < (L.length : Int) := by omega
      obtain ⟨b, off, rfl, hbl, c0, c1, c2, c3, c4, c5, c6⟩ := (HR.out.below HB.out).at h
      obtain ⟨r1, r2⟩ := HBd.out L[k] (List.getElem_mem h)
      have HBad := Lib.hid (fun z => HRb.out k h z)
      have hLk : L[k]! = L[k] := getElem!_pos L k h
      obtain ⟨x, hx⟩ : ∃ x, L[k] = x := ⟨_, rfl⟩
      rw [hx] at c0 c1 c2 c3 c4 c5 c6 r1 r2 hLk
      have HLk := Lib.hid hLk
      have HOk := Lib.hid (show okC L k = (orC L k && ((!emp x) && (okSum x.2.1 && okSum x.2.2))) from by unfold okC; rw [hLk])
      clear hx hLk
      obtain ⟨⟨a1, a2, a3, a4, a5⟩, m, n⟩ := x
      dsimp only at c0 c1 c2 c3 c4 c5 c6 r1 r2
      obtain ⟨r3, r4⟩ := r1
      obtain ⟨r5, r6⟩ := r2
      have ha : Below wr.heap.size wr (wr.alloc (Obj.cells #[.string a1, .string a2, .string a3, .string a4, .string a5, .int .i64 m, .int .i64 n] 37)) := (Below.refl _ _).alloc (Nat.le_refl _) _
      have HQ := Lib.hid (Q7.alloc wr (.string a1) (.string a2) (.string a3) (.string a4) (.string a5) (.int .i64 m) (.int .i64 n) 37)
      have HBa := Lib.hid (HB.out.trans (ha.mono HB.out.size))
      have HE := Lib.hid (fun W => isEmpty_any a1 a2 a3 a4 a5 m n W)
      cases k with
      | zero =>
        have HOrd := Lib.hid (show orC L 0 = true from rfl)
        simp only [Nat.zero_mul, Nat.add_zero] at c0 c1 c2 c3 c4 c5 c6
        clear ha HB
        go_wp2_with fail
        refine wp_region_quiet_below (l := _) (by kernel_rfl) (by kernel_rfl) ?_
        repeat (first | go_big_quiet_step (fail))
        refine wpQuiet_nil ?_
        intro w5 hw'
        obtain ⟨⟨dq2, osq2⟩, hw''⟩ := hw'
        have hb2 := below_regrown (wr.alloc (Obj.cells #[.string a1, .string a2, .string a3, .string a4, .string a5, .int .i64 m, .int .i64 n] 37)) dq2 osq2
        rw [← hw''] at hb2
        clear hw'' c0 c1 c2 c3 c4 c5 c6
        have HQ5 := Lib.hid (HQ.out.below hb2)
        have HB5 := Lib.hid (HBa.out.trans (hb2.mono HBa.out.size))
        clear hb2
        cases hem : emp ((a1, a2, a3, a4, a5), m, n)
        · rw [hem] at HE
          have y0 := HQ5.out.c0
          have y1 := HQ5.out.c1
          have y2 := HQ5.out.c2
          have y3 := HQ5.out.c3
          have y4 := HQ5.out.c4
          have y5 := HQ5.out.c5
          have y6 := HQ5.out.c6
          go_wp2_with fail
          refine (HE.out _).mono ?_
          rintro e w7 ⟨rfl, hb⟩
          have HQ7 := Lib.hid (HQ5.out.below hb)
          have HB7 := Lib.hid (HB5.out.trans (hb.mono HB5.out.size))
          clear hb y0 y1 y2 y3 y4 y5 y6
          cases hom : okSum m
          · have HM := Lib.hid (fun W => HI.out m W)
            rw [hom] at HM
            have HV := Lib.hid (HBad.out (by rw [HOk.out, hem, hom]; simp))
            clear hem hom
            have y0 := HQ7.out.c0
            have y1 := HQ7.out.c1
            have y2 := HQ7.out.c2
            have y3 := HQ7.out.c3
            have y4 := HQ7.out.c4
            have y5 := HQ7.out.c5
            have y6 := HQ7.out.c6
            go_wp2_with fail
            refine (HM.out _).mono ?_
            rintro e w_ ⟨rfl, rfl⟩
            clear y0 y1 y2 y3 y4 y5 y6
            go_wp2
            go_ret
            exact ⟨ret_boolS HV.out.symm, HB7.out⟩
          · have HM := Lib.hid (fun W => HI.out m W)
            rw [hom] at HM
            cases hon : okSum n
            · have HN := Lib.hid (fun W => HI.out n W)
              rw [hon] at HN
              have HV := Lib.hid (HBad.out (by rw [HOk.out, hem, hom, hon]; simp))
              clear hem hom hon
              have y0 := HQ7.out.c0
              have y1 := HQ7.out.c1
              have y2 := HQ7.out.c2
              have y3 := HQ7.out.c3
              have y4 := HQ7.out.c4
              have y5 := HQ7.out.c5
              have y6 := HQ7.out.c6
              go_wp2_with fail
              refine (HM.out _).mono ?_
              rintro e w_ ⟨rfl, rfl⟩
              clear y0 y1 y2 y3 y4 y5 y6
              have y0 := HQ7.out.c0
              have y1 := HQ7.out.c1
              have y2 := HQ7.out.c2
              have y3 := HQ7.out.c3
              have y4 := HQ7.out.c4
              have y5 := HQ7.out.c5
              have y6 := HQ7.out.c6
              go_wp2_with fail
              refine (HN.out _).mono ?_
              rintro e w_ ⟨rfl, rfl⟩
              clear y0 y1 y2 y3 y4 y5 y6
              go_wp2
              go_ret
              exact ⟨ret_boolS HV.out.symm, HB7.out⟩
            · have HN := Lib.hid (fun W => HI.out n W)
              rw [hon] at HN
              have HX := Lib.hid (okC_snoc HK.out (show okC L 0 = true from by rw [HOk.out, HOrd.out, hem, hom, hon]; rfl))
              clear hem hom hon
              have y0 := HQ7.out.c0
              have y1 := HQ7.out.c1
              have y2 := HQ7.out.c2
              have y3 := HQ7.out.c3
              have y4 := HQ7.out.c4
              have y5 := HQ7.out.c5
              have y6 := HQ7.out.c6
              go_wp2_with fail
              refine (HM.out _).mono ?_
              rintro e w_ ⟨rfl, rfl⟩
              clear y0 y1 y2 y3 y4 y5 y6
              have y0 := HQ7.out.c0
              have y1 := HQ7.out.c1
              have y2 := HQ7.out.c2
              have y3 := HQ7.out.c3
              have y4 := HQ7.out.c4
              have y5 := HQ7.out.c5
              have y6 := HQ7.out.c6
              go_wp2_with fail
              refine (HN.out _).mono ?_
              rintro e w_ ⟨rfl, rfl⟩
              clear y0 y1 y2 y3 y4 y5 y6
              go_wp2
              go_roundw
              case rel => exact ⟨0 + 1, by omega, by go_num, HX, HB7⟩
              case measure => simp [intOf]; omega
        · rw [hem] at HE
          have HV := Lib.hid (HBad.out (by rw [HOk.out, hem]; simp))
          clear hem
          have y0 := HQ5.out.c0
          have y1 := HQ5.out.c1
          have y2 := HQ5.out.c2
          have y3 := HQ5.out.c3
          have y4 := HQ5.out.c4
          have y5 := HQ5.out.c5
          have y6 := HQ5.out.c6
          go_wp2_with fail
          refine (HE.out _).mono ?_
          rintro e w7 ⟨rfl, hb⟩
          have HQ7 := Lib.hid (HQ5.out.below hb)
          have HB7 := Lib.hid (HB5.out.trans (hb.mono HB5.out.size))
          clear hb y0 y1 y2 y3 y4 y5 y6
          go_wp2
          go_ret
          exact ⟨ret_boolS HV.out.symm, HB7.out⟩
      | succ j =>
        have hj : j < L.length := by omega
        obtain ⟨b', off', e1, _, d0, d1, d2, d3, d4, d5, d6⟩ := (HR.out.below HBa.out).at hj
        simp only [Option.some.injEq, Addr.mk.injEq, and_true] at e1
        obtain ⟨rfl, rfl⟩ := e1
        have hLj : L[j + 1 - 1]! = L[j] := getElem!_pos L j hj
        obtain ⟨y, hy⟩ : ∃ y, L[j] = y := ⟨_, rfl⟩
        rw [hy] at d0 d1 d2 d3 d4 d5 d6 hLj
        obtain ⟨cv, hv⟩ : ∃ cv, cmpK y.1 (a1, a2, a3, a4, a5) = cv := ⟨_, rfl⟩
        have HOr := Lib.hid (show orC L (j + 1) = decide (cv < 0) from by unfold orC; rw [hLj, HLk.out, ← hv]; simp)
        have HF2 := Lib.hid (show ∀ W, Calls Try.prog 42 #[.agg #[.string y.1.1, .string y.1.2.1, .string y.1.2.2.1, .string y.1.2.2.2.1, .string y.1.2.2.2.2, .int .i64 y.2.1, .int .i64 y.2.2], .agg #[.string a1, .string a2, .string a3, .string a4, .string a5, .int .i64 m, .int .i64 n]] W fun e w' => e = .returned (.int .i64 cv) ∧ Below W.heap.size W w' from fun W => by
          refine (byKey_any y ((a1, a2, a3, a4, a5), m, n) W).mono ?_
          rintro e w' ⟨rfl, hg⟩
          exact ⟨ret_int hv, hg.b⟩)
        clear hv hy hLj
        have C1 : ∀ dd os, Calls Try.prog 42 #[.agg #[.string y.1.1, .string y.1.2.1, .string y.1.2.2.1, .string y.1.2.2.2.1, .string y.1.2.2.2.2, .int .i64 y.2.1, .int .i64 y.2.2], .agg #[.string a1, .string a2, .string a3, .string a4, .string a5, .int .i64 m, .int .i64 n]] (grow (redrawn (wr.alloc (Obj.cells #[.string a1, .string a2, .string a3, .string a4, .string a5, .int .i64 m, .int .i64 n] 37)) dd) os) fun e w'' => e = .returned (.int .i64 cv) ∧ ∃ p : Regrown, w'' = grow (redrawn (wr.alloc (Obj.cells #[.string a1, .string a2, .string a3, .string a4, .string a5, .int .i64 m, .int .i64 n] 37)) p.d) p.os := fun dd os => Calls.regrown_of (HF2.out _)
        have z0 : decide ((0 : Int) < ((j + 1 : Nat) : Int)) = true := decide_eq_true (by omega)
        have z1 : (0 : Int) < ((j + 1 : Nat) : Int) := by omega
        have z2 : ((j + 1 : Nat) : Int) - 1 = (j : Int) := by omega
        have z3 : (0 : Int) ≤ (j : Int) := by omega
        have z4 : (j : Int) < (L.length : Int) := by omega
        clear ha HB
        have m0 := cell_regrown HQ.out.c0
        have m1 := cell_regrown HQ.out.c1
        have m2 := cell_regrown HQ.out.c2
        have m3 := cell_regrown HQ.out.c3
        have m4 := cell_regrown HQ.out.c4
        have m5 := cell_regrown HQ.out.c5
        have m6 := cell_regrown HQ.out.c6
        have n0 := cell_regrown d0
        have n1 := cell_regrown d1
        have n2 := cell_regrown d2
        have n3 := cell_regrown d3
        have n4 := cell_regrown d4
        have n5 := cell_regrown d5
        have n6 := cell_regrown d6
        clear d0 d1 d2 d3 d4 d5 d6
        go_wp2_with fail
        refine wp_region_quiet_below (l := _) (by kernel_rfl) (by kernel_rfl) ?_
        repeat (first | go_big_quiet_step (first | (go_at_call 42; exact C1 _ _)))
        refine wpQuiet_nil ?_
        intro w5 hw'
        obtain ⟨⟨dq2, osq2⟩, hw''⟩ := hw'
        have hb2 := below_regrown (wr.alloc (Obj.cells #[.string a1, .string a2, .string a3, .string a4, .string a5, .int .i64 m, .int .i64 n] 37)) dq2 osq2
        rw [← hw''] at hb2
        clear hw'' C1 c0 c1 c2 c3 c4 c5 c6 m0 n0 m1 n1 m2 n2 m3 n3 m4 n4 m5 n5 m6 n6
        have HQ5 := Lib.hid (HQ.out.below hb2)
        have HB5 := Lib.hid (HBa.out.trans (hb2.mono HBa.out.size))
        clear hb2
        by_cases hcv : cv < 0
        · have g1 : decide (0 ≤ cv) = false := decide_eq_false (by omega)
          have g2 : ¬ (0 ≤ cv) := by omega
          have HOrd := Lib.hid (show orC L (j + 1) = true from by rw [HOr.out]; exact decide_eq_true hcv)
          cases hem : emp ((a1, a2, a3, a4, a5), m, n)
          · rw [hem] at HE
            have y0 := HQ5.out.c0
            have y1 := HQ5.out.c1
            have y2 := HQ5.out.c2
            have y3 := HQ5.out.c3
            have y4 := HQ5.out.c4
            have y5 := HQ5.out.c5
            have y6 := HQ5.out.c6
            go_wp2_with fail
            refine (HE.out _).mono ?_
            rintro e w7 ⟨rfl, hb⟩
            have HQ7 := Lib.hid (HQ5.out.below hb)
            have HB7 := Lib.hid (HB5.out.trans (hb.mono HB5.out.size))
            clear hb y0 y1 y2 y3 y4 y5 y6
            cases hom : okSum m
            · have HM := Lib.hid (fun W => HI.out m W)
              rw [hom] at HM
              have HV := Lib.hid (HBad.out (by rw [HOk.out, hem, hom]; simp))
              clear hem hom
              have y0 := HQ7.out.c0
              have y1 := HQ7.out.c1
              have y2 := HQ7.out.c2
              have y3 := HQ7.out.c3
              have y4 := HQ7.out.c4
              have y5 := HQ7.out.c5
              have y6 := HQ7.out.c6
              go_wp2_with fail
              refine (HM.out _).mono ?_
              rintro e w_ ⟨rfl, rfl⟩
              clear y0 y1 y2 y3 y4 y5 y6
              go_wp2
              go_ret
              exact ⟨ret_boolS HV.out.symm, HB7.out⟩
            · have HM := Lib.hid (fun W => HI.out m W)
              rw [hom] at HM
              cases hon : okSum n
              · have HN := Lib.hid (fun W => HI.out n W)
                rw [hon] at HN
                have HV := Lib.hid (HBad.out (by rw [HOk.out, hem, hom, hon]; simp))
                clear hem hom hon
                have y0 := HQ7.out.c0
                have y1 := HQ7.out.c1
                have y2 := HQ7.out.c2
                have y3 := HQ7.out.c3
                have y4 := HQ7.out.c4
                have y5 := HQ7.out.c5
                have y6 := HQ7.out.c6
                go_wp2_with fail
                refine (HM.out _).mono ?_
                rintro e w_ ⟨rfl, rfl⟩
                clear y0 y1 y2 y3 y4 y5 y6
                have y0 := HQ7.out.c0
                have y1 := HQ7.out.c1
                have y2 := HQ7.out.c2
                have y3 := HQ7.out.c3
                have y4 := HQ7.out.c4
                have y5 := HQ7.out.c5
                have y6 := HQ7.out.c6
                go_wp2_with fail
                refine (HN.out _).mono ?_
                rintro e w_ ⟨rfl, rfl⟩
                clear y0 y1 y2 y3 y4 y5 y6
                go_wp2
                go_ret
                exact ⟨ret_boolS HV.out.symm, HB7.out⟩
              · have HN := Lib.hid (fun W => HI.out n W)
                rw [hon] at HN
                have HX := Lib.hid (okC_snoc HK.out (show okC L (j + 1) = true from by rw [HOk.out, HOrd.out, hem, hom, hon]; rfl))
                clear hem hom hon
                have y0 := HQ7.out.c0
                have y1 := HQ7.out.c1
                have y2 := HQ7.out.c2
                have y3 := HQ7.out.c3
                have y4 := HQ7.out.c4
                have y5 := HQ7.out.c5
                have y6 := HQ7.out.c6
                go_wp2_with fail
                refine (HM.out _).mono ?_
                rintro e w_ ⟨rfl, rfl⟩
                clear y0 y1 y2 y3 y4 y5 y6
                have y0 := HQ7.out.c0
                have y1 := HQ7.out.c1
                have y2 := HQ7.out.c2
                have y3 := HQ7.out.c3
                have y4 := HQ7.out.c4
                have y5 := HQ7.out.c5
                have y6 := HQ7.out.c6
                go_wp2_with fail
                refine (HN.out _).mono ?_
                rintro e w_ ⟨rfl, rfl⟩
                clear y0 y1 y2 y3 y4 y5 y6
                go_wp2
                go_roundw
                case rel => exact ⟨(j + 1) + 1, by omega, by go_num, HX, HB7⟩
                case measure => simp [intOf]; omega
          · rw [hem] at HE
            have HV := Lib.hid (HBad.out (by rw [HOk.out, hem]; simp))
            clear hem
            have y0 := HQ5.out.c0
            have y1 := HQ5.out.c1
            have y2 := HQ5.out.c2
            have y3 := HQ5.out.c3
            have y4 := HQ5.out.c4
            have y5 := HQ5.out.c5
            have y6 := HQ5.out.c6
            go_wp2_with fail
            refine (HE.out _).mono ?_
            rintro e w7 ⟨rfl, hb⟩
            have HQ7 := Lib.hid (HQ5.out.below hb)
            have HB7 := Lib.hid (HB5.out.trans (hb.mono HB5.out.size))
            clear hb y0 y1 y2 y3 y4 y5 y6
            go_wp2
            go_ret
            exact ⟨ret_boolS HV.out.symm, HB7.out⟩
        · have g1 : decide (0 ≤ cv) = true := decide_eq_true (by omega)
          have g2 : 0 ≤ cv := by omega
          have HV := Lib.hid (HBad.out (by rw [HOk.out, HOr.out, decide_eq_false hcv]; rfl))
          go_wp2
          go_ret
          exact ⟨ret_boolS HV.out.symm, HB5.out⟩
    · have h' : ¬ (k : Int) < (L.length : Int) := by omega
      have HV := Lib.hid (HRo.out (fun i hi => HK.out i (by omega)))
      go_wp2
      go_ret
      exact ⟨ret_boolS HV.out.symm, HB.out⟩
end Go.Proofs.Ytenhnnfemehbcaa
