/- What notation of packages words and accountingref06 returns. -/
import Derived.Test.YtfccpkjjbbmmaaaWdK
namespace Go.Proofs.Ytfccpkjjbbmmaaa
open Go.RowKit
set_option linter.unusedVariables false
set_option linter.unusedSimpArgs false

theorem eqWd (a x c z : Int) (b y : ByteArray) (w : World) : (Op.equalIn 10000 39 (.agg #[.int .i64 a, .string b, .int .i64 c]) (.agg #[.int .i64 x, .string y, .int .i64 z])).run Try.prog w = .ok (a == x && (b.toList == y.toList && c == z)) w := by
  have u3 := Try.underlying3
  have a3 := Try.isAgg3
  have z3 := Try.sizeOf3
  have u9 := Try.underlying9
  have a9 := Try.isAgg9
  have z9 := Try.sizeOf9
  have hS : Try.prog.underlying 39 = some (.struct (Try.prog.fieldsOf 39)) := by kernel_rfl
  rw [show (10000 : Nat) = 9999 + 1 from rfl, run_equalIn_agg w 9999 39 _ _ hS (by kernel_rfl)]
  simp only [Program.fieldsOf, Try.underlying39]
  go_simp
  by_cases h1 : a = x <;> by_cases h2 : b.toList = y.toList <;> by_cases h3 : c = z <;> simp [h1, h2, h3]
theorem OwnW.one {w : World} {base : Nat} {v : Value} {x : Int × List UInt8 × Nat} (h : OwnW w base v [x]) : ∃ g cap, v = .slice (some ⟨g, 0, none⟩) 1 cap ∧ g < w.heap.size ∧ w.cell? ⟨g, 0, none⟩ = some (.int .i64 x.1) ∧ w.cell? ⟨g, 1, none⟩ = some (.string (bs x.2.1)) ∧ w.cell? ⟨g, 2, none⟩ = some (.int .i64 (x.2.2 : Int)) := by
  rcases h.2 with ⟨e, n⟩ | ⟨g, cap, cur, e, _, e3, _⟩
  · simp at n
  · subst e
    have c := h.cells (g := g) rfl
    have d0 := c 0 (.int .i64 x.1) (by simp [wdCs, wdC])
    have d1 := c 1 (.string (bs x.2.1)) (by simp [wdCs, wdC])
    have d2 := c 2 (.int .i64 (x.2.2 : Int)) (by simp [wdCs, wdC])
    exact ⟨g, cap, rfl, lt_of_block e3, by simpa [Addr.add] using d0, by simpa [Addr.add] using d1, by simpa [Addr.add] using d2⟩
theorem crit_yes {kd : Int} {l : List UInt8} {T : ByteArray} (hT : T.toList = noL kd l) (h : goodW kd l) : cuR T = (0, [(kd, l, 0)], T.size) := by
  have h1 := good_len h
  rw [← hT, bytes_len] at h1
  exact cuR_ok (p := 0) (by omega) (by rw [hT]; exact good_cut h)
theorem crit_no {kd : Int} {l : List UInt8} {T : ByteArray} (hT : T.toList = noL kd l) (hp : kd = 3 → plainB l = true) (h : ¬ goodW kd l) {x : Int × List UInt8 × Nat} {p : Nat} (hc : cuR T = (0, [x], p)) : ¬ (x.1 = kd ∧ x.2.1 = l) := by
  rintro ⟨e1, e2⟩
  apply h
  unfold cuR at hc
  split at hc
  · simp at hc
  · split at hc
    · rename_i h0
      simp only [Prod.mk.injEq] at hc
      have : cuV (noL kd l) 0 = ((cuV T.toList 0).1, (kd, l, x.2.2) :: [], (cuV T.toList 0).2.2) := by
        rw [← hT]
        rw [show (kd, l, x.2.2) = x by rw [← e1, ← e2]]
        rw [← hc.2.1]
      exact good_of hp this
    · rename_i h0
      simp only [Prod.mk.injEq] at hc
      exact absurd hc.1 h0
/-- what notation returns. -/
def ntB (kd : Int) (S : ByteArray) : Bool := decide (goodW kd S.toList)
def ntV (kd : Int) (S : ByteArray) : List UInt8 := if goodW kd S.toList then noL kd S.toList else []
def NtP (kd : Int) (S : ByteArray) (e : Ending) : Prop := e = .returned (.tuple #[.string (bs (ntV kd S)), .bool (ntB kd S)])
def RnP (kd : Int) (S : ByteArray) (e : Ending) : Prop := ∃ T, e = .returned (.tuple #[.string T, .bool (ntB kd S)]) ∧ (ntB kd S = true → T = bs (noL kd S.toList))
theorem nt_no {kd : Int} {S : ByteArray} (h : ¬ goodW kd S.toList) : NtP kd S (.returned (.tuple #[.string ⟨#[]⟩, .bool false])) := by
  unfold NtP ntV ntB; rw [if_neg h, decide_eq_false h]; rfl
theorem nt_yes {kd : Int} {S T : ByteArray} (hT : T.toList = noL kd S.toList) (h : goodW kd S.toList) : NtP kd S (.returned (.tuple #[.string T, .bool true])) := by
  unfold NtP ntV ntB; rw [if_pos h, decide_eq_true h, ← hT, bs_of]
theorem rn_no {kd : Int} {S : ByteArray} (T : ByteArray) (h : ¬ goodW kd S.toList) : RnP kd S (.returned (.tuple #[.string T, .bool false])) := by
  unfold RnP ntB; rw [decide_eq_false h]; exact ⟨T, rfl, fun x => absurd x (by decide)⟩
theorem rn_yes {kd : Int} {S T : ByteArray} (hT : T.toList = noL kd S.toList) (h : goodW kd S.toList) : RnP kd S (.returned (.tuple #[.string T, .bool true])) := by
  unfold RnP ntB; rw [decide_eq_true h, ← hT, bs_of]; exact ⟨T, rfl, fun _ => rfl⟩
def Pl3 (kd : Int) (l : List UInt8) : Prop := kd = 3 → plainB l = true
theorem good_not3 {l : List UInt8} (h : plainB l = false) : ¬ goodW 3 l := by unfold goodW; rw [if_pos rfl, h]; decide
set_option maxHeartbeats 8000000 in
theorem notation_any (kd A : Int) (S : ByteArray) (w : World) (hs : S.size ≤ 1000) :
    Calls Try.prog 29 #[.agg #[.int .i64 kd, .string S, .int .i64 A]] w fun e w' => NtP kd S e ∧ Below w.heap.size w w' := by
  by_cases h3 : kd = 3
  · subst h3
    have H1 := Lib.hid (fun w => quote_any S w hs)
    cases hp : plainB S.toList
    · have e1 : quV S = [] := by unfold quV plaB; rw [hp]; rfl
      have e2 : quE S = 5 := by unfold quE plaB; rw [hp]; rfl
      rw [e1, e2] at H1
      have HN := Lib.hid (nt_no (good_not3 hp))
      clear e1 e2 hp
      have HB0 := Lib.hid ((Below.refl w.heap.size w).alloc (Nat.le_refl _) (Obj.cells #[.int .i64 3, .string S, .int .i64 A] 39))
      have HBs := Lib.hid (show (w.alloc (Obj.cells #[.int .i64 3, .string S, .int .i64 A] 39)).heap.size = w.heap.size + 1 by simp)
      go_enter Try.func29, Try.ntmps29
      go_wp2_with fail
      generalize w.alloc (Obj.cells #[.int .i64 3, .string S, .int .i64 A] 39) = W0 at *
      refine (H1.out _).mono ?_
      rintro e W1 ⟨rfl, hb1⟩
      have HB1 := Lib.hid (HB0.out.trans (hb1.mono (by rw [HBs.out]; omega)))
      clear hb1
      go_wp2
      go_ret2
      exact ⟨HN.out, HB1.out⟩
    · have e1 : quV S = quL S.toList := by unfold quV plaB; rw [hp]; rfl
      have e2 : quE S = 0 := by unfold quE plaB; rw [hp]; rfl
      rw [e1, e2] at H1
      have HT := Lib.hid (show (bs (quL S.toList)).toList = noL 3 S.toList from bs_list _)
      have HT3 := Lib.hid (show Pl3 3 S.toList from fun _ => hp)
      have HTs := Lib.hid (show (bs (quL S.toList)).size ≤ 1000 by
        rw [bs_size]
        have h1 : goodW 3 S.toList := by unfold goodW; rw [if_pos rfl]; exact hp
        have h2 := good_len h1
        have h3 : noL 3 S.toList = quL S.toList := if_pos rfl
        rw [h3] at h2; omega)
      clear e1 e2 hp
      generalize bs (quL S.toList) = T at *
      have HC0 := Lib.hid (Cell3.alloc w (.int .i64 3) (.string S) (.int .i64 A) 39)
      have HB0 := Lib.hid ((Below.refl w.heap.size w).alloc (Nat.le_refl _) (Obj.cells #[.int .i64 3, .string S, .int .i64 A] 39))
      have HBs := Lib.hid (show (w.alloc (Obj.cells #[.int .i64 3, .string S, .int .i64 A] 39)).heap.size = w.heap.size + 1 by simp)
      go_enter Try.func29, Try.ntmps29
      go_wp2_with fail
      generalize w.alloc (Obj.cells #[.int .i64 3, .string S, .int .i64 A] 39) = W0 at *
      refine (H1.out _).mono ?_
      rintro e W1 ⟨rfl, hb1⟩
      have HC3 := Lib.hid (HC0.out.below hb1 (by rw [HBs.out]; omega))
      have HB3 := Lib.hid (HB0.out.trans (hb1.mono (by rw [HBs.out]; omega)))
      clear hb1
      have cy0 := HC3.out.c0
      have cy1 := HC3.out.c1
      have cy2 := HC3.out.c2
      have fy2 := HC3.out.f2
      go_wp2_with fail
      clear cy0 cy1 cy2 fy2
      have HC1 := Lib.hid (HC3.out.set2 (.int .i64 0))
      have HB1 := Lib.hid (HB3.out.setCell (p := ⟨w.heap.size, 2, none⟩) (by simp) (.int .i64 0))
      generalize W1.setCell ⟨w.heap.size, 2, none⟩ (.int .i64 0) = W3 at *
      clear HC3 HB3 HC0 HB0
      have H5 := Lib.hid (fun w => cut_any T w HTs.out)
      refine (H5.out _).mono ?_
      rintro e W2 ⟨v, he, ho, hb⟩
      have HC2 := Lib.hid (HC1.out.below hb HC1.out.lt)
      have HB2 := Lib.hid (HB1.out.trans (hb.mono HB1.out.size))
      have HO := Lib.hid ho
      clear hb ho
      have cz0 := cell_regrown HC2.out.c0
      have cz1 := cell_regrown HC2.out.c1
      have cz2 := cell_regrown HC2.out.c2
      by_cases hg : goodW 3 S.toList
      · have HY := Lib.hid (nt_yes HT.out hg)
        have hc := crit_yes HT.out hg
        rw [hc] at he HO
        clear hc
        obtain ⟨g, cap, hv, hlt, d0, d1, d2⟩ := HO.out.one
        subst hv
        subst he
        have d2 : W2.cell? ⟨g, 2, none⟩ = some (.int .i64 0) := d2
        have l0 := cell_regrown d0
        have l1 := cell_regrown d1
        have l2 := cell_regrown d2
        have hq := fun w => (eqWd 3 3 0 0 (bs S.toList) S w).trans (congrArg (fun b => Result.ok b w) (show ((3 : Int) == 3 && ((bs S.toList).toList == S.toList && (0 : Int) == 0)) = true by rw [bs_list]; simp))
        clear hg HO d0 d1 d2
        go_wp2_with fail
        refine wp_region_quiet_below (l := _) (by kernel_rfl) (by kernel_rfl) ?_
        repeat (first | go_big_quiet_step (fail))
        refine wpQuiet_nil ?_
        intro w2 hw'
        obtain ⟨⟨dq2, osq2⟩, hw''⟩ := hw'
        have hb2 := below_regrown W2 dq2 osq2
        rw [← hw''] at hb2
        clear hw''
        go_wp2
        go_ret2
        exact ⟨HY.out, HB2.out.trans (hb2.mono HB2.out.size)⟩
      · have HN := Lib.hid (nt_no hg)
        have HX := Lib.hid (fun x p => crit_no (x := x) (p := p) HT.out HT3.out hg)
        obtain ⟨er, L, p, hr⟩ : ∃ er L p, cuR T = (er, L, p) := ⟨_, _, _, rfl⟩
        rw [hr] at he HO
        simp only at he HO
        by_cases her : er = 0
        · subst her
          by_cases hL : L.length = 1
          · obtain ⟨x, rfl⟩ := List.length_eq_one_iff.1 hL
            have hne := HX.out x p hr
            clear HX hr
            obtain ⟨g, cap, hv, hlt, d0, d1, d2⟩ := HO.out.one
            subst hv
            subst he
            have l0 := cell_regrown d0
            have l1 := cell_regrown d1
            have l2 := cell_regrown d2
            have HQ := Lib.hid (show (x.1 == 3 && ((bs x.2.1).toList == S.toList && (x.2.2 : Int) == 0)) = false by
              rw [bs_list]
              by_cases k1 : x.1 = 3
              · have k2 : ¬ x.2.1 = S.toList := fun k => hne ⟨k1, k⟩
                simp [k2]
              · simp [k1])
            clear hne
            have hq := fun w => (eqWd x.1 3 (x.2.2 : Int) 0 (bs x.2.1) S w).trans (congrArg (fun b => Result.ok b w) HQ.out)
            clear hg HO d0 d1 d2 hL
            go_wp2_with fail
            refine wp_region_quiet_below (l := _) (by kernel_rfl) (by kernel_rfl) ?_
            repeat (first | go_big_quiet_step (fail))
            refine wpQuiet_nil ?_
            intro w2 hw'
            obtain ⟨⟨dq2, osq2⟩, hw''⟩ := hw'
            have hb2 := below_regrown W2 dq2 osq2
            rw [← hw''] at hb2
            clear hw''
            go_wp2
            go_ret2
            exact ⟨HN.out, HB2.out.trans (hb2.mono HB2.out.size)⟩
          · obtain ⟨ao, cap, hv⟩ := HO.out.shape
            subst hv
            subst he
            have q1 : ((L.length : Int) != 1) = true := by simp; omega
            have q2 : ((L.length : Int) == 1) = false := by simp; omega
            clear hg HO HX hr hL
            go_wp2_with fail
            refine wp_region_quiet_below (l := _) (by kernel_rfl) (by kernel_rfl) ?_
            repeat (first | go_big_quiet_step (fail))
            refine wpQuiet_nil ?_
            intro w2 hw'
            obtain ⟨⟨dq2, osq2⟩, hw''⟩ := hw'
            have hb2 := below_regrown W2 dq2 osq2
            rw [← hw''] at hb2
            clear hw''
            go_wp2
            go_ret2
            exact ⟨HN.out, HB2.out.trans (hb2.mono HB2.out.size)⟩
        · obtain ⟨ao, cap, hv⟩ := HO.out.shape
          subst hv
          subst he
          have q1 : (er != 0) = true := by simp [her]
          have q2 : (er == 0) = false := by simp [her]
          clear hg HO HX hr her
          go_wp2_with fail
          refine wp_region_quiet_below (l := _) (by kernel_rfl) (by kernel_rfl) ?_
          repeat (first | go_big_quiet_step (fail))
          refine wpQuiet_nil ?_
          intro w2 hw'
          obtain ⟨⟨dq2, osq2⟩, hw''⟩ := hw'
          have hb2 := below_regrown W2 dq2 osq2
          rw [← hw''] at hb2
          clear hw''
          go_wp2
          go_ret2
          exact ⟨HN.out, HB2.out.trans (hb2.mono HB2.out.size)⟩
  · have q3 : (kd == 3) = false := by simpa using h3
    have HT := Lib.hid (show S.toList = noL kd S.toList by unfold noL; rw [if_neg h3])
    have HT3 := Lib.hid (show Pl3 kd S.toList from fun x => absurd x h3)
    have HTs := Lib.hid hs
    clear h3
    have HC1 := Lib.hid (Cell3.alloc w (.int .i64 kd) (.string S) (.int .i64 0) 39)
    have HB1 := Lib.hid ((Below.refl w.heap.size w).alloc (Nat.le_refl _) (Obj.cells #[.int .i64 kd, .string S, .int .i64 0] 39))
    go_enter Try.func29, Try.ntmps29
    go_wp2_with fail
    generalize w.alloc (Obj.cells #[.int .i64 kd, .string S, .int .i64 0] 39) = W1 at *
    have H5 := Lib.hid (fun w => cut_any S w HTs.out)
    refine (H5.out _).mono ?_
    rintro e W2 ⟨v, he, ho, hb⟩
    have HC2 := Lib.hid (HC1.out.below hb HC1.out.lt)
    have HB2 := Lib.hid (HB1.out.trans (hb.mono HB1.out.size))
    have HO := Lib.hid ho
    clear hb ho
    have cz0 := cell_regrown HC2.out.c0
    have cz1 := cell_regrown HC2.out.c1
    have cz2 := cell_regrown HC2.out.c2
    by_cases hg : goodW kd S.toList
    · have HY := Lib.hid (nt_yes HT.out hg)
      have hc := crit_yes HT.out hg
      rw [hc] at he HO
      clear hc
      obtain ⟨g, cap, hv, hlt, d0, d1, d2⟩ := HO.out.one
      subst hv
      subst he
      have d2 : W2.cell? ⟨g, 2, none⟩ = some (.int .i64 0) := d2
      have l0 := cell_regrown d0
      have l1 := cell_regrown d1
      have l2 := cell_regrown d2
      have hq := fun w => (eqWd kd kd 0 0 (bs S.toList) S w).trans (congrArg (fun b => Result.ok b w) (show (kd == kd && ((bs S.toList).toList == S.toList && (0 : Int) == 0)) = true by rw [bs_list]; simp))
      clear hg HO d0 d1 d2
      go_wp2_with fail
      refine wp_region_quiet_below (l := _) (by kernel_rfl) (by kernel_rfl) ?_
      repeat (first | go_big_quiet_step (fail))
      refine wpQuiet_nil ?_
      intro w2 hw'
      obtain ⟨⟨dq2, osq2⟩, hw''⟩ := hw'
      have hb2 := below_regrown W2 dq2 osq2
      rw [← hw''] at hb2
      clear hw''
      go_wp2
      go_ret2
      exact ⟨HY.out, HB2.out.trans (hb2.mono HB2.out.size)⟩
    · have HN := Lib.hid (nt_no hg)
      have HX := Lib.hid (fun x p => crit_no (x := x) (p := p) HT.out HT3.out hg)
      obtain ⟨er, L, p, hr⟩ : ∃ er L p, cuR S = (er, L, p) := ⟨_, _, _, rfl⟩
      rw [hr] at he HO
      simp only at he HO
      by_cases her : er = 0
      · subst her
        by_cases hL : L.length = 1
        · obtain ⟨x, rfl⟩ := List.length_eq_one_iff.1 hL
          have hne := HX.out x p hr
          clear HX hr
          obtain ⟨g, cap, hv, hlt, d0, d1, d2⟩ := HO.out.one
          subst hv
          subst he
          have l0 := cell_regrown d0
          have l1 := cell_regrown d1
          have l2 := cell_regrown d2
          have HQ := Lib.hid (show (x.1 == kd && ((bs x.2.1).toList == S.toList && (x.2.2 : Int) == 0)) = false by
            rw [bs_list]
            by_cases k1 : x.1 = kd
            · have k2 : ¬ x.2.1 = S.toList := fun k => hne ⟨k1, k⟩
              simp [k2]
            · simp [k1])
          clear hne
          have hq := fun w => (eqWd x.1 kd (x.2.2 : Int) 0 (bs x.2.1) S w).trans (congrArg (fun b => Result.ok b w) HQ.out)
          clear hg HO d0 d1 d2 hL
          go_wp2_with fail
          refine wp_region_quiet_below (l := _) (by kernel_rfl) (by kernel_rfl) ?_
          repeat (first | go_big_quiet_step (fail))
          refine wpQuiet_nil ?_
          intro w2 hw'
          obtain ⟨⟨dq2, osq2⟩, hw''⟩ := hw'
          have hb2 := below_regrown W2 dq2 osq2
          rw [← hw''] at hb2
          clear hw''
          go_wp2
          go_ret2
          exact ⟨HN.out, HB2.out.trans (hb2.mono HB2.out.size)⟩
        · obtain ⟨ao, cap, hv⟩ := HO.out.shape
          subst hv
          subst he
          have q1 : ((L.length : Int) != 1) = true := by simp; omega
          have q2 : ((L.length : Int) == 1) = false := by simp; omega
          clear hg HO HX hr hL
          go_wp2_with fail
          refine wp_region_quiet_below (l := _) (by kernel_rfl) (by kernel_rfl) ?_
          repeat (first | go_big_quiet_step (fail))
          refine wpQuiet_nil ?_
          intro w2 hw'
          obtain ⟨⟨dq2, osq2⟩, hw''⟩ := hw'
          have hb2 := below_regrown W2 dq2 osq2
          rw [← hw''] at hb2
          clear hw''
          go_wp2
          go_ret2
          exact ⟨HN.out, HB2.out.trans (hb2.mono HB2.out.size)⟩
      · obtain ⟨ao, cap, hv⟩ := HO.out.shape
        subst hv
        subst he
        have q1 : (er != 0) = true := by simp [her]
        have q2 : (er == 0) = false := by simp [her]
        clear hg HO HX hr her
        go_wp2_with fail
        refine wp_region_quiet_below (l := _) (by kernel_rfl) (by kernel_rfl) ?_
        repeat (first | go_big_quiet_step (fail))
        refine wpQuiet_nil ?_
        intro w2 hw'
        obtain ⟨⟨dq2, osq2⟩, hw''⟩ := hw'
        have hb2 := below_regrown W2 dq2 osq2
        rw [← hw''] at hb2
        clear hw''
        go_wp2
        go_ret2
        exact ⟨HN.out, HB2.out.trans (hb2.mono HB2.out.size)⟩
set_option maxHeartbeats 8000000 in
theorem rNotation_any (kd A : Int) (S : ByteArray) (w : World) (hs : S.size ≤ 1000) :
    Calls Try.prog 31 #[.agg #[.int .i64 kd, .string S, .int .i64 A]] w fun e w' => RnP kd S e ∧ Below w.heap.size w w' := by
  by_cases h3 : kd = 3
  · subst h3
    have H1 := Lib.hid (fun w => rQuote_any S w hs)
    cases hp : plainB S.toList
    · have e1 : quV S = [] := by unfold quV plaB; rw [hp]; rfl
      have e2 : quE S = 5 := by unfold quE plaB; rw [hp]; rfl
      rw [e1, e2] at H1
      have HN := Lib.hid (rn_no ⟨#[]⟩ (good_not3 hp))
      clear e1 e2 hp
      have HB0 := Lib.hid ((Below.refl w.heap.size w).alloc (Nat.le_refl _) (Obj.cells #[.int .i64 3, .string S, .int .i64 A] 39))
      have HBs := Lib.hid (show (w.alloc (Obj.cells #[.int .i64 3, .string S, .int .i64 A] 39)).heap.size = w.heap.size + 1 by simp)
      go_enter Try.func31, Try.ntmps31
      go_wp2_with fail
      generalize w.alloc (Obj.cells #[.int .i64 3, .string S, .int .i64 A] 39) = W0 at *
      refine (H1.out _).mono ?_
      rintro e W1 ⟨rfl, hb1⟩
      have HB1 := Lib.hid (HB0.out.trans (hb1.mono (by rw [HBs.out]; omega)))
      clear hb1
      go_wp2
      go_ret2
      exact ⟨HN.out, HB1.out⟩
    · have e1 : quV S = quL S.toList := by unfold quV plaB; rw [hp]; rfl
      have e2 : quE S = 0 := by unfold quE plaB; rw [hp]; rfl
      rw [e1, e2] at H1
      have HT := Lib.hid (show (bs (quL S.toList)).toList = noL 3 S.toList from bs_list _)
      have HT3 := Lib.hid (show Pl3 3 S.toList from fun _ => hp)
      have HTs := Lib.hid (show (bs (quL S.toList)).size ≤ 1000 by
        rw [bs_size]
        have h1 : goodW 3 S.toList := by unfold goodW; rw [if_pos rfl]; exact hp
        have h2 := good_len h1
        have h3 : noL 3 S.toList = quL S.toList := if_pos rfl
        rw [h3] at h2; omega)
      clear e1 e2 hp
      generalize bs (quL S.toList) = T at *
      have HC0 := Lib.hid (Cell3.alloc w (.int .i64 3) (.string S) (.int .i64 A) 39)
      have HB0 := Lib.hid ((Below.refl w.heap.size w).alloc (Nat.le_refl _) (Obj.cells #[.int .i64 3, .string S, .int .i64 A] 39))
      have HBs := Lib.hid (show (w.alloc (Obj.cells #[.int .i64 3, .string S, .int .i64 A] 39)).heap.size = w.heap.size + 1 by simp)
      go_enter Try.func31, Try.ntmps31
      go_wp2_with fail
      generalize w.alloc (Obj.cells #[.int .i64 3, .string S, .int .i64 A] 39) = W0 at *
      refine (H1.out _).mono ?_
      rintro e W1 ⟨rfl, hb1⟩
      have HC3 := Lib.hid (HC0.out.below hb1 (by rw [HBs.out]; omega))
      have HB3 := Lib.hid (HB0.out.trans (hb1.mono (by rw [HBs.out]; omega)))
      clear hb1
      have cy0 := HC3.out.c0
      have cy1 := HC3.out.c1
      have cy2 := HC3.out.c2
      have fy2 := HC3.out.f2
      go_wp2_with fail
      clear cy0 cy1 cy2 fy2
      have HC1 := HC3
      have HB1 := HB3
      clear HC3 HB3 HC0 HB0
      have H5 := Lib.hid (fun w => rCut_any T w HTs.out)
      refine (H5.out _).mono ?_
      rintro e W2 ⟨v, he, ho, hb⟩
      have HC2 := Lib.hid (HC1.out.below hb HC1.out.lt)
      have HB2 := Lib.hid (HB1.out.trans (hb.mono HB1.out.size))
      have HO := Lib.hid ho
      clear hb ho
      have cz0 := cell_regrown HC2.out.c0
      have cz1 := cell_regrown HC2.out.c1
      have cz2 := cell_regrown HC2.out.c2
      by_cases hg : goodW 3 S.toList
      · have HY := Lib.hid (rn_yes HT.out hg)
        have hc := crit_yes HT.out hg
        rw [hc] at he HO
        clear hc
        obtain ⟨g, cap, hv, hlt, d0, d1, d2⟩ := HO.out.one
        subst hv
        subst he
        have d2 : W2.cell? ⟨g, 2, none⟩ = some (.int .i64 0) := d2
        have l0 := cell_regrown d0
        have l1 := cell_regrown d1
        have l2 := cell_regrown d2
        have e1 : ((3 : Int) == 3) = true := by simp
        have e2 : ((bs S.toList).toList == S.toList) = true := by rw [bs_list]; simp
        clear hg HO d0 d1 d2
        go_wp2_with fail
        refine wp_region_quiet_below (l := _) (by kernel_rfl) (by kernel_rfl) ?_
        repeat (first | go_big_quiet_step (fail))
        refine wpQuiet_nil ?_
        intro w2 hw'
        obtain ⟨⟨dq2, osq2⟩, hw''⟩ := hw'
        have hb2 := below_regrown W2 dq2 osq2
        rw [← hw''] at hb2
        clear hw''
        go_wp2
        go_ret2
        exact ⟨HY.out, HB2.out.trans (hb2.mono HB2.out.size)⟩
      · have HN := Lib.hid (rn_no T hg)
        have HX := Lib.hid (fun x p => crit_no (x := x) (p := p) HT.out HT3.out hg)
        obtain ⟨er, L, p, hr⟩ : ∃ er L p, cuR T = (er, L, p) := ⟨_, _, _, rfl⟩
        rw [hr] at he HO
        simp only at he HO
        by_cases her : er = 0
        · subst her
          by_cases hL : L.length = 1
          · obtain ⟨x, rfl⟩ := List.length_eq_one_iff.1 hL
            have hne := HX.out x p hr
            clear HX hr
            obtain ⟨g, cap, hv, hlt, d0, d1, d2⟩ := HO.out.one
            subst hv
            subst he
            have l0 := cell_regrown d0
            have l1 := cell_regrown d1
            have l2 := cell_regrown d2
            obtain ⟨t1, e1⟩ : ∃ t, (x.1 == 3) = t := ⟨_, rfl⟩
            obtain ⟨t2, e2⟩ : ∃ t, ((bs x.2.1).toList == S.toList) = t := ⟨_, rfl⟩
            have HQ := Lib.hid (show (t1 && t2) = false by
              rw [← e1, ← e2, bs_list]
              by_cases k1 : x.1 = 3
              · have k2 : ¬ x.2.1 = S.toList := fun k => hne ⟨k1, k⟩
                simp [k2]
              · simp [k1])
            clear hne
            clear hg HO d0 d1 d2 hL
            cases t1
            · go_wp2_with fail
              refine wp_region_quiet_below (l := _) (by kernel_rfl) (by kernel_rfl) ?_
              repeat (first | go_big_quiet_step (fail))
              refine wpQuiet_nil ?_
              intro w2 hw'
              obtain ⟨⟨dq2, osq2⟩, hw''⟩ := hw'
              have hb2 := below_regrown W2 dq2 osq2
              rw [← hw''] at hb2
              clear hw''
              go_wp2
              go_ret2
              exact ⟨HN.out, HB2.out.trans (hb2.mono HB2.out.size)⟩
            · cases t2
              · go_wp2_with fail
                refine wp_region_quiet_below (l := _) (by kernel_rfl) (by kernel_rfl) ?_
                repeat (first | go_big_quiet_step (fail))
                refine wpQuiet_nil ?_
                intro w2 hw'
                obtain ⟨⟨dq2, osq2⟩, hw''⟩ := hw'
                have hb2 := below_regrown W2 dq2 osq2
                rw [← hw''] at hb2
                clear hw''
                go_wp2
                go_ret2
                exact ⟨HN.out, HB2.out.trans (hb2.mono HB2.out.size)⟩
              · exact absurd HQ.out (by decide)
          · obtain ⟨ao, cap, hv⟩ := HO.out.shape
            subst hv
            subst he
            have q1 : ((L.length : Int) != 1) = true := by simp; omega
            have q2 : ((L.length : Int) == 1) = false := by simp; omega
            clear hg HO HX hr hL
            go_wp2_with fail
            refine wp_region_quiet_below (l := _) (by kernel_rfl) (by kernel_rfl) ?_
            repeat (first | go_big_quiet_step (fail))
            refine wpQuiet_nil ?_
            intro w2 hw'
            obtain ⟨⟨dq2, osq2⟩, hw''⟩ := hw'
            have hb2 := below_regrown W2 dq2 osq2
            rw [← hw''] at hb2
            clear hw''
            go_wp2
            go_ret2
            exact ⟨HN.out, HB2.out.trans (hb2.mono HB2.out.size)⟩
        · obtain ⟨ao, cap, hv⟩ := HO.out.shape
          subst hv
          subst he
          have q1 : (er != 0) = true := by simp [her]
          have q2 : (er == 0) = false := by simp [her]
          clear hg HO HX hr her
          go_wp2_with fail
          refine wp_region_quiet_below (l := _) (by kernel_rfl) (by kernel_rfl) ?_
          repeat (first | go_big_quiet_step (fail))
          refine wpQuiet_nil ?_
          intro w2 hw'
          obtain ⟨⟨dq2, osq2⟩, hw''⟩ := hw'
          have hb2 := below_regrown W2 dq2 osq2
          rw [← hw''] at hb2
          clear hw''
          go_wp2
          go_ret2
          exact ⟨HN.out, HB2.out.trans (hb2.mono HB2.out.size)⟩
  · have q3 : (kd == 3) = false := by simpa using h3
    have HT := Lib.hid (show S.toList = noL kd S.toList by unfold noL; rw [if_neg h3])
    have HT3 := Lib.hid (show Pl3 kd S.toList from fun x => absurd x h3)
    have HTs := Lib.hid hs
    clear h3
    have HC1 := Lib.hid (Cell3.alloc w (.int .i64 kd) (.string S) (.int .i64 A) 39)
    have HB1 := Lib.hid ((Below.refl w.heap.size w).alloc (Nat.le_refl _) (Obj.cells #[.int .i64 kd, .string S, .int .i64 A] 39))
    go_enter Try.func31, Try.ntmps31
    go_wp2_with fail
    generalize w.alloc (Obj.cells #[.int .i64 kd, .string S, .int .i64 A] 39) = W1 at *
    have H5 := Lib.hid (fun w => rCut_any S w HTs.out)
    refine (H5.out _).mono ?_
    rintro e W2 ⟨v, he, ho, hb⟩
    have HC2 := Lib.hid (HC1.out.below hb HC1.out.lt)
    have HB2 := Lib.hid (HB1.out.trans (hb.mono HB1.out.size))
    have HO := Lib.hid ho
    clear hb ho
    have cz0 := cell_regrown HC2.out.c0
    have cz1 := cell_regrown HC2.out.c1
    have cz2 := cell_regrown HC2.out.c2
    by_cases hg : goodW kd S.toList
    · have HY := Lib.hid (rn_yes HT.out hg)
      have hc := crit_yes HT.out hg
      rw [hc] at he HO
      clear hc
      obtain ⟨g, cap, hv, hlt, d0, d1, d2⟩ := HO.out.one
      subst hv
      subst he
      have d2 : W2.cell? ⟨g, 2, none⟩ = some (.int .i64 0) := d2
      have l0 := cell_regrown d0
      have l1 := cell_regrown d1
      have l2 := cell_regrown d2
      have e1 : (kd == kd) = true := by simp
      have e2 : ((bs S.toList).toList == S.toList) = true := by rw [bs_list]; simp
      clear hg HO d0 d1 d2
      go_wp2_with fail
      refine wp_region_quiet_below (l := _) (by kernel_rfl) (by kernel_rfl) ?_
      repeat (first | go_big_quiet_step (fail))
      refine wpQuiet_nil ?_
      intro w2 hw'
      obtain ⟨⟨dq2, osq2⟩, hw''⟩ := hw'
      have hb2 := below_regrown W2 dq2 osq2
      rw [← hw''] at hb2
      clear hw''
      go_wp2
      go_ret2
      exact ⟨HY.out, HB2.out.trans (hb2.mono HB2.out.size)⟩
    · have HN := Lib.hid (rn_no S hg)
      have HX := Lib.hid (fun x p => crit_no (x := x) (p := p) HT.out HT3.out hg)
      obtain ⟨er, L, p, hr⟩ : ∃ er L p, cuR S = (er, L, p) := ⟨_, _, _, rfl⟩
      rw [hr] at he HO
      simp only at he HO
      by_cases her : er = 0
      · subst her
        by_cases hL : L.length = 1
        · obtain ⟨x, rfl⟩ := List.length_eq_one_iff.1 hL
          have hne := HX.out x p hr
          clear HX hr
          obtain ⟨g, cap, hv, hlt, d0, d1, d2⟩ := HO.out.one
          subst hv
          subst he
          have l0 := cell_regrown d0
          have l1 := cell_regrown d1
          have l2 := cell_regrown d2
          obtain ⟨t1, e1⟩ : ∃ t, (x.1 == kd) = t := ⟨_, rfl⟩
          obtain ⟨t2, e2⟩ : ∃ t, ((bs x.2.1).toList == S.toList) = t := ⟨_, rfl⟩
          have HQ := Lib.hid (show (t1 && t2) = false by
            rw [← e1, ← e2, bs_list]
            by_cases k1 : x.1 = kd
            · have k2 : ¬ x.2.1 = S.toList := fun k => hne ⟨k1, k⟩
              simp [k2]
            · simp [k1])
          clear hne
          clear hg HO d0 d1 d2 hL
          cases t1
          · go_wp2_with fail
            refine wp_region_quiet_below (l := _) (by kernel_rfl) (by kernel_rfl) ?_
            repeat (first | go_big_quiet_step (fail))
            refine wpQuiet_nil ?_
            intro w2 hw'
            obtain ⟨⟨dq2, osq2⟩, hw''⟩ := hw'
            have hb2 := below_regrown W2 dq2 osq2
            rw [← hw''] at hb2
            clear hw''
            go_wp2
            go_ret2
            exact ⟨HN.out, HB2.out.trans (hb2.mono HB2.out.size)⟩
          · cases t2
            · go_wp2_with fail
              refine wp_region_quiet_below (l := _) (by kernel_rfl) (by kernel_rfl) ?_
              repeat (first | go_big_quiet_step (fail))
              refine wpQuiet_nil ?_
              intro w2 hw'
              obtain ⟨⟨dq2, osq2⟩, hw''⟩ := hw'
              have hb2 := below_regrown W2 dq2 osq2
              rw [← hw''] at hb2
              clear hw''
              go_wp2
              go_ret2
              exact ⟨HN.out, HB2.out.trans (hb2.mono HB2.out.size)⟩
            · exact absurd HQ.out (by decide)
        · obtain ⟨ao, cap, hv⟩ := HO.out.shape
          subst hv
          subst he
          have q1 : ((L.length : Int) != 1) = true := by simp; omega
          have q2 : ((L.length : Int) == 1) = false := by simp; omega
          clear hg HO HX hr hL
          go_wp2_with fail
          refine wp_region_quiet_below (l := _) (by kernel_rfl) (by kernel_rfl) ?_
          repeat (first | go_big_quiet_step (fail))
          refine wpQuiet_nil ?_
          intro w2 hw'
          obtain ⟨⟨dq2, osq2⟩, hw''⟩ := hw'
          have hb2 := below_regrown W2 dq2 osq2
          rw [← hw''] at hb2
          clear hw''
          go_wp2
          go_ret2
          exact ⟨HN.out, HB2.out.trans (hb2.mono HB2.out.size)⟩
      · obtain ⟨ao, cap, hv⟩ := HO.out.shape
        subst hv
        subst he
        have q1 : (er != 0) = true := by simp [her]
        have q2 : (er == 0) = false := by simp [her]
        clear hg HO HX hr her
        go_wp2_with fail
        refine wp_region_quiet_below (l := _) (by kernel_rfl) (by kernel_rfl) ?_
        repeat (first | go_big_quiet_step (fail))
        refine wpQuiet_nil ?_
        intro w2 hw'
        obtain ⟨⟨dq2, osq2⟩, hw''⟩ := hw'
        have hb2 := below_regrown W2 dq2 osq2
        rw [← hw''] at hb2
        clear hw''
        go_wp2
        go_ret2
        exact ⟨HN.out, HB2.out.trans (hb2.mono HB2.out.size)⟩
end Go.Proofs.Ytfccpkjjbbmmaaa
