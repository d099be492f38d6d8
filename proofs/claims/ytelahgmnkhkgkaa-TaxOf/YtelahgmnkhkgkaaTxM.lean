/- The laws TaxOn, TaxIn, TaxReturns: their walks. Written by wip/mk_txm.py. -/
import Derived.Test.YtelahgmnkhkgkaaTxL
import Derived.OpenShut
namespace Go.Proofs.Ytelahgmnkhkgkaa
open Go.RowKit Go.Sort
set_option linter.unusedVariables false
set_option linter.unusedSimpArgs false

theorem i64_bd {a : Int} (h : (Lit.int .i64 a).wf = true) : -9223372036854775808 ≤ a ∧ a ≤ 9223372036854775807 := by
  simp [Lit.wf, IntKind.min, IntKind.max, IntKind.signed, IntKind.bits] at h; omega
theorem abs_le {x y M : Int} (h : absI x ≤ absI y) (h1 : -M ≤ y) (h2 : y ≤ M) : -M ≤ x ∧ x ≤ M := by
  unfold absI at h
  split at h <;> split at h <;> omega
theorem arg_bd {x n d m : Int} (ha : argE x n d m = 0) :
    ((mdV x n d m).2 = 0 ∧ -1000000000000000 ≤ (mdV x n d m).1 ∧ (mdV x n d m).1 ≤ 1000000000000000) ∧ (-1000000000000000 ≤ (mdV x n (n + d) m).1 ∧ (mdV x n (n + d) m).1 ≤ 1000000000000000) := by
  obtain ⟨⟨m1, m2⟩, ⟨e1, e2, e3, e4⟩, e5, e6⟩ := arg_ok ha
  have q1 := md_rate (x := x) (n := n) (c := d) m1 m2 e1 e3 e4 (by omega) (by omega)
  have q2 := (md_rate (x := x) (n := n) (c := n + d) m1 m2 (by omega) e3 (by omega) (by omega) (by omega)).2.1
  exact ⟨⟨q1.1, abs_le q1.2.1 e5 e6⟩, abs_le q2 e5 e6⟩
theorem in_sum {x n d m : Int} (h : (inV x n d m).2.2 = 0) : (inV x n d m).1 + (inV x n d m).2.1 = x ∧ (-2000000000000000 ≤ (inV x n d m).1 ∧ (inV x n d m).1 ≤ 2000000000000000) ∧ (-2000000000000000 ≤ (inV x n d m).2.1 ∧ (inV x n d m).2.1 ≤ 2000000000000000) := by
  by_cases ha : argE x n d m = 0
  · have e : inV x n d m = (x - (mdV x n (n + d) m).1, (mdV x n (n + d) m).1, 0) := if_pos ha
    obtain ⟨_, h3, h4⟩ := arg_bd ha
    obtain ⟨_, _, e5, e6⟩ := arg_ok ha
    rw [e]
    simp only []
    omega
  · have e : inV x n d m = (0, 0, argE x n d m) := if_neg ha
    rw [e] at h
    exact absurd h ha
theorem near {D c E E' : Int} (c1 : 1 ≤ c) (h : D * c = E - E') (h1 : -c < E) (h2 : E < c) (h3 : -c < E') (h4 : E' < c) : -1 ≤ D ∧ D ≤ 1 := by
  refine ⟨?_, ?_⟩
  · rcases Int.lt_or_le D (-1) with k | k
    · have : D * c ≤ -2 * c := Int.mul_le_mul_of_nonneg_right (by omega) (by omega)
      omega
    · exact k
  · rcases Int.lt_or_le 1 D with k | k
    · have : 2 * c ≤ D * c := Int.mul_le_mul_of_nonneg_right (by omega) (by omega)
      omega
    · exact k
theorem returns {x n d m : Int} (ha : argE x n d m = 0) : (-1000000000000000 ≤ x ∧ x ≤ 1000000000000000) ∧
    ((inV (x + (mdV x n d m).1) n d m).2.2 = 4 ∨ (inV (x + (mdV x n d m).1) n d m).2.2 = 0 ∧ -1 ≤ (inV (x + (mdV x n d m).1) n d m).1 - x ∧ (inV (x + (mdV x n d m).1) n d m).1 - x ≤ 1) := by
  obtain ⟨⟨m1, m2⟩, ⟨e1, e2, e3, e4⟩, e5, e6⟩ := arg_ok ha
  refine ⟨⟨e5, e6⟩, ?_⟩
  obtain ⟨p1, p2, p3, p4⟩ := md_rate (x := x) (n := n) (c := d) m1 m2 e1 e3 e4 (by omega) (by omega)
  obtain ⟨t1, t2⟩ := abs_le p2 e5 e6
  generalize (mdV x n d m).1 = t at *
  by_cases hb : argE (x + t) n d m = 0
  · right
    have e : inV (x + t) n d m = (x + t - (mdV (x + t) n (n + d) m).1, (mdV (x + t) n (n + d) m).1, 0) := if_pos hb
    obtain ⟨_, _, f5, f6⟩ := arg_ok hb
    obtain ⟨q1, q2, q3, q4⟩ := md_rate (x := x + t) (n := n) (c := n + d) m1 m2 (by omega) e3 (by omega) (by omega) (by omega)
    rw [e]
    simp only []
    generalize (mdV (x + t) n (n + d) m).1 = T at *
    have key : (t - T) * (n + d) = (t * d - x * n) - (T * (n + d) - (x + t) * n) := by
      rw [Int.sub_mul, Int.add_mul x t n, Int.mul_add t n d]
      omega
    obtain ⟨g1, g2⟩ := near (by omega) key (by omega) (by omega) q3 q4
    have g3 : x + t - T - x = t - T := by omega
    exact ⟨trivial, by rw [g3]; exact g1, by rw [g3]; exact g2⟩
  · left
    have e : inV (x + t) n d m = (0, 0, argE (x + t) n d m) := if_neg hb
    rw [e]
    simp only []
    have hA : argE (x + t) n d m = if withB (x + t) 1000000000000000 = false then 4 else 0 := by
      have hm : modeB m = true := by unfold modeB; simp; omega
      have hr : rateB n d = true := by
        cases q : rateB n d
        · unfold argE at ha; rw [hm, q, if_neg (by decide), if_pos rfl] at ha; omega
        · rfl
      unfold argE
      rw [hm, hr, if_neg (by decide), if_neg (by decide)]
    rw [hA] at hb ⊢
    split at hb
    · rw [if_pos (by assumption)]
    · exact absurd rfl hb
set_option maxHeartbeats 4000000 in
theorem taxOn_walk (a b c m : Int) (w : World) (wa : (Lit.int .i64 a).wf = true) (wb : (Lit.int .i64 b).wf = true) (wc : (Lit.int .i64 c).wf = true) (wm : (Lit.int .i64 m).wf = true) :
    Calls Try.prog 3 #[.int .i64 a, .agg #[.int .i64 b, .int .i64 c], .int .i64 m] w fun e w' => e = .returned (.bool true) ∧ Below w.heap.size w w' := by
  obtain ⟨a1, a2⟩ := i64_bd wa
  obtain ⟨b1, b2⟩ := i64_bd wb
  obtain ⟨c1, c2⟩ := i64_bd wc
  obtain ⟨m1, m2⟩ := i64_bd wm
  have HB0 := Lib.hid ((Below.refl w.heap.size w).alloc (Nat.le_refl _) (Obj.cells #[.int .i64 b, .int .i64 c] 23))
  have HQ0 := Lib.hid (Q2.alloc w (.int .i64 b) (.int .i64 c) 23)
  have HL := Lib.hid lives_any
  have H1 := Lib.hid (fun W => on_any a b c m W a1 a2 b1 b2 c1 c2)
  have H2 := Lib.hid (fun W => rOn_any a b c m W a1 a2 b1 b2 c1 c2)
  generalize onV a b c m = ov at *
  obtain ⟨t, g⟩ := ov
  go_enter Try.func3, Try.ntmps3
  have l0 := HQ0.out.c0
  have l1 := HQ0.out.c1
  go_wp2_with fail
  clear l0 l1
  refine (H1.out _).mono ?_
  rintro e u1 ⟨rfl, hb⟩
  have HB1 := Lib.hid (HB0.out.trans (hb.mono HB0.out.size))
  have HQ1 := Lib.hid (HQ0.out.below hb)
  clear hb
  have l0 := HQ1.out.c0
  have l1 := HQ1.out.c1
  go_wp2_with fail
  clear l0 l1
  refine (H2.out _).mono ?_
  rintro e u2 ⟨rfl, hb⟩
  have HB2 := Lib.hid (HB1.out.trans (hb.mono HB1.out.size))
  have HQ2 := Lib.hid (HQ1.out.below hb)
  clear hb
  have l0 := HQ2.out.c0
  have l1 := HQ2.out.c1
  go_wp2_with fail
  clear l0 l1
  refine (HL.out _).mono ?_
  rintro e u3 ⟨rfl, hb⟩
  have HB3 := Lib.hid (HB2.out.trans (hb.mono HB2.out.size))
  have HQ3 := Lib.hid (HQ2.out.below hb)
  clear hb
  go_wp2
  go_ret
  exact ⟨rfl, HB3.out⟩
set_option maxHeartbeats 4000000 in
theorem taxIn_walk (a b c m : Int) (w : World) (wa : (Lit.int .i64 a).wf = true) (wb : (Lit.int .i64 b).wf = true) (wc : (Lit.int .i64 c).wf = true) (wm : (Lit.int .i64 m).wf = true) :
    Calls Try.prog 4 #[.int .i64 a, .agg #[.int .i64 b, .int .i64 c], .int .i64 m] w fun e w' => e = .returned (.bool true) ∧ Below w.heap.size w w' := by
  obtain ⟨a1, a2⟩ := i64_bd wa
  obtain ⟨b1, b2⟩ := i64_bd wb
  obtain ⟨c1, c2⟩ := i64_bd wc
  obtain ⟨m1, m2⟩ := i64_bd wm
  have HB0 := Lib.hid ((Below.refl w.heap.size w).alloc (Nat.le_refl _) (Obj.cells #[.int .i64 b, .int .i64 c] 23))
  have HQ0 := Lib.hid (Q2.alloc w (.int .i64 b) (.int .i64 c) 23)
  have HL := Lib.hid lives_any
  have H1 := Lib.hid (fun W => in_any a b c m W a1 a2 b1 b2 c1 c2)
  have H2 := Lib.hid (fun W => rIn_any a b c m W a1 a2 b1 b2 c1 c2)
  have HS := Lib.hid (in_sum (x := a) (n := b) (d := c) (m := m))
  generalize inV a b c m = iv at *
  obtain ⟨n, t, g⟩ := iv
  by_cases h : g = 0
  · obtain ⟨s1, ⟨s2, s3⟩, s4, s5⟩ := HS.out h
    have s1 : n + t = a := s1
    have s2 : -2000000000000000 ≤ n := s2
    have s3 : n ≤ 2000000000000000 := s3
    have s4 : -2000000000000000 ≤ t := s4
    have s5 : t ≤ 2000000000000000 := s5
    subst h
    clear HS
    go_enter Try.func4, Try.ntmps4
    have l0 := HQ0.out.c0
    have l1 := HQ0.out.c1
    go_wp2_with fail
    clear l0 l1
    refine (H1.out _).mono ?_
    rintro e u1 ⟨rfl, hb⟩
    have HB1 := Lib.hid (HB0.out.trans (hb.mono HB0.out.size))
    have HQ1 := Lib.hid (HQ0.out.below hb)
    clear hb
    have l0 := HQ1.out.c0
    have l1 := HQ1.out.c1
    go_wp2_with fail
    clear l0 l1
    refine (H2.out _).mono ?_
    rintro e u2 ⟨rfl, hb⟩
    have HB2 := Lib.hid (HB1.out.trans (hb.mono HB1.out.size))
    have HQ2 := Lib.hid (HQ1.out.below hb)
    clear hb
    have l0 := HQ2.out.c0
    have l1 := HQ2.out.c1
    go_wp2_with fail
    clear l0 l1
    refine (HL.out _).mono ?_
    rintro e u3 ⟨rfl, hb⟩
    have HB3 := Lib.hid (HB2.out.trans (hb.mono HB2.out.size))
    have HQ3 := Lib.hid (HQ2.out.below hb)
    clear hb
    go_wp2
    go_ret
    exact ⟨rfl, HB3.out⟩
  · have h' : (g != 0) = true := by simpa using h
    clear HS
    go_enter Try.func4, Try.ntmps4
    have l0 := HQ0.out.c0
    have l1 := HQ0.out.c1
    go_wp2_with fail
    clear l0 l1
    refine (H1.out _).mono ?_
    rintro e u1 ⟨rfl, hb⟩
    have HB1 := Lib.hid (HB0.out.trans (hb.mono HB0.out.size))
    have HQ1 := Lib.hid (HQ0.out.below hb)
    clear hb
    have l0 := HQ1.out.c0
    have l1 := HQ1.out.c1
    go_wp2_with fail
    clear l0 l1
    refine (H2.out _).mono ?_
    rintro e u2 ⟨rfl, hb⟩
    have HB2 := Lib.hid (HB1.out.trans (hb.mono HB1.out.size))
    have HQ2 := Lib.hid (HQ1.out.below hb)
    clear hb
    have l0 := HQ2.out.c0
    have l1 := HQ2.out.c1
    go_wp2_with fail
    clear l0 l1
    refine (HL.out _).mono ?_
    rintro e u3 ⟨rfl, hb⟩
    have HB3 := Lib.hid (HB2.out.trans (hb.mono HB2.out.size))
    have HQ3 := Lib.hid (HQ2.out.below hb)
    clear hb
    go_wp2
    go_ret
    exact ⟨rfl, HB3.out⟩
set_option maxHeartbeats 4000000 in
theorem taxReturns_walk (a b c m : Int) (w : World) (wa : (Lit.int .i64 a).wf = true) (wb : (Lit.int .i64 b).wf = true) (wc : (Lit.int .i64 c).wf = true) (wm : (Lit.int .i64 m).wf = true) :
    Calls Try.prog 5 #[.int .i64 a, .agg #[.int .i64 b, .int .i64 c], .int .i64 m] w fun e w' => e = .returned (.bool true) ∧ Below w.heap.size w w' := by
  obtain ⟨a1, a2⟩ := i64_bd wa
  obtain ⟨b1, b2⟩ := i64_bd wb
  obtain ⟨c1, c2⟩ := i64_bd wc
  obtain ⟨m1, m2⟩ := i64_bd wm
  have HB0 := Lib.hid ((Below.refl w.heap.size w).alloc (Nat.le_refl _) (Obj.cells #[.int .i64 b, .int .i64 c] 23))
  have HQ0 := Lib.hid (Q2.alloc w (.int .i64 b) (.int .i64 c) 23)
  have HL := Lib.hid lives_any
  by_cases ha : argE a b c m = 0
  · obtain ⟨⟨x1, x2⟩, hr⟩ := returns ha
    obtain ⟨⟨p0, p1, p2⟩, _⟩ := arg_bd ha
    have H1 := Lib.hid (fun W => on_any a b c m W a1 a2 b1 b2 c1 c2)
    have ho : onV a b c m = ((mdV a b c m).1, 0) := by unfold onV; rw [if_pos ha]; exact Prod.ext rfl p0
    rw [ho] at H1
    clear ho p0 ha
    generalize (mdV a b c m).1 = t at *
    have H2 := Lib.hid (fun W => in_any (a + t) b c m W (by omega) (by omega) b1 b2 c1 c2)
    have HS := Lib.hid (in_sum (x := a + t) (n := b) (d := c) (m := m))
    generalize inV (a + t) b c m = iv at *
    obtain ⟨n, s, g⟩ := iv
    rcases hr with h | ⟨h, h1, h2⟩
    · have h : g = 4 := h
      subst h
      clear HS
      go_enter Try.func5, Try.ntmps5
      have l0 := HQ0.out.c0
      have l1 := HQ0.out.c1
      go_wp2_with fail
      clear l0 l1
      refine (H1.out _).mono ?_
      rintro e u1 ⟨rfl, hb⟩
      have HB1 := Lib.hid (HB0.out.trans (hb.mono HB0.out.size))
      have HQ1 := Lib.hid (HQ0.out.below hb)
      clear hb
      have l0 := HQ1.out.c0
      have l1 := HQ1.out.c1
      go_wp2_with fail
      clear l0 l1
      refine (H2.out _).mono ?_
      rintro e u2 ⟨rfl, hb⟩
      have HB2 := Lib.hid (HB1.out.trans (hb.mono HB1.out.size))
      have HQ2 := Lib.hid (HQ1.out.below hb)
      clear hb
      have l0 := HQ2.out.c0
      have l1 := HQ2.out.c1
      go_wp2_with fail
      clear l0 l1
      refine (HL.out _).mono ?_
      rintro e u3 ⟨rfl, hb⟩
      have HB3 := Lib.hid (HB2.out.trans (hb.mono HB2.out.size))
      have HQ3 := Lib.hid (HQ2.out.below hb)
      clear hb
      go_wp2
      go_ret
      exact ⟨rfl, HB3.out⟩
    · have h : g = 0 := h
      subst h
      obtain ⟨_, ⟨s2, s3⟩, _⟩ := HS.out rfl
      have s2 : -2000000000000000 ≤ n := s2
      have s3 : n ≤ 2000000000000000 := s3
      have h1 : -1 ≤ n - a := h1
      have h2 : n - a ≤ 1 := h2
      have h3 : a - n ≤ 1 := by omega
      clear HS
      go_enter Try.func5, Try.ntmps5
      have l0 := HQ0.out.c0
      have l1 := HQ0.out.c1
      go_wp2_with fail
      clear l0 l1
      refine (H1.out _).mono ?_
      rintro e u1 ⟨rfl, hb⟩
      have HB1 := Lib.hid (HB0.out.trans (hb.mono HB0.out.size))
      have HQ1 := Lib.hid (HQ0.out.below hb)
      clear hb
      have l0 := HQ1.out.c0
      have l1 := HQ1.out.c1
      go_wp2_with fail
      clear l0 l1
      refine (H2.out _).mono ?_
      rintro e u2 ⟨rfl, hb⟩
      have HB2 := Lib.hid (HB1.out.trans (hb.mono HB1.out.size))
      have HQ2 := Lib.hid (HQ1.out.below hb)
      clear hb
      have l0 := HQ2.out.c0
      have l1 := HQ2.out.c1
      go_wp2_with fail
      clear l0 l1
      refine (HL.out _).mono ?_
      rintro e u3 ⟨rfl, hb⟩
      have HB3 := Lib.hid (HB2.out.trans (hb.mono HB2.out.size))
      have HQ3 := Lib.hid (HQ2.out.below hb)
      clear hb
      go_wp2
      go_ret
      exact ⟨rfl, HB3.out⟩
  · have H1 := Lib.hid (fun W => on_any a b c m W a1 a2 b1 b2 c1 c2)
    have ho : onV a b c m = (0, argE a b c m) := if_neg ha
    rw [ho] at H1
    clear ho
    generalize argE a b c m = g at *
    have h' : (g != 0) = true := by simpa using ha
    have h2' : (g == 0) = false := by simpa using ha
    go_enter Try.func5, Try.ntmps5
    have l0 := HQ0.out.c0
    have l1 := HQ0.out.c1
    go_wp2_with fail
    clear l0 l1
    refine (H1.out _).mono ?_
    rintro e u1 ⟨rfl, hb⟩
    have HB1 := Lib.hid (HB0.out.trans (hb.mono HB0.out.size))
    have HQ1 := Lib.hid (HQ0.out.below hb)
    clear hb
    have l0 := HQ1.out.c0
    have l1 := HQ1.out.c1
    go_wp2_with fail
    clear l0 l1
    refine (HL.out _).mono ?_
    rintro e u2 ⟨rfl, hb⟩
    have HB2 := Lib.hid (HB1.out.trans (hb.mono HB1.out.size))
    have HQ2 := Lib.hid (HQ1.out.below hb)
    clear hb
    go_wp2
    go_ret
    exact ⟨rfl, HB2.out⟩
end Go.Proofs.Ytelahgmnkhkgkaa
