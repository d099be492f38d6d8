/- Check of package accountingref30. Written by wip/mk_dpg.py. -/
import Derived.Test.YtmehihfdfpnfjaaDpE
namespace Go.Proofs.Ytmehihfdfpnfjaa
open Go.RowKit Go.Sort
set_option linter.unusedVariables false
set_option linter.unusedSimpArgs false

theorem un_bad {us : List Int} {p : Int} {k : Nat} (hk : k < us.length) (h : us[k] < 0 ∨ 1000000000 < us[k]) : unB us p = false := by
  unfold unB
  rw [show us.all (fun z => decide (0 ≤ z) && decide (z ≤ 1000000000)) = false from List.all_eq_false.2 ⟨us[k], List.getElem_mem hk, by simp; omega⟩]
  rfl
theorem un_all {us : List Int} {p : Int} (h : ∀ j, (hj : j < us.length) → 0 ≤ us[j] ∧ us[j] ≤ 1000000000) : unB us p = (us.any usF && decide ((us.length : Int) = p)) := by
  unfold unB
  rw [show us.all (fun z => decide (0 ≤ z) && decide (z ≤ 1000000000)) = true from List.all_eq_true.2 (fun z hz => by obtain ⟨j, hj, rfl⟩ := List.getElem_of_mem hz; simpa using h j hj)]
  rfl
theorem any_snoc {us : List Int} {k : Nat} (hk : k < us.length) : (us.take (k + 1)).any usF = ((us.take k).any usF || usF us[k]) := by
  rw [List.take_succ_eq_append_getElem hk, List.any_append]; simp
set_option maxRecDepth 100000 in
set_option maxHeartbeats 4000000 in
theorem rUnits_any (m c s p a b : Int) (A : Option Addr) (uc : Nat) (us : List Int) (w : World) (h : PlF w m c s p a b A us) (hn : us.length ≤ 250) :
    Calls Try.prog 21 #[.agg #[.int .i64 m, .int .i64 c, .int .i64 s, .int .i64 p, .int .i64 a, .int .i64 b, .slice A us.length uc]] w fun e w' => e = .returned (.bool (unB us p)) ∧ Below w.heap.size w w' := by
  have HP := Lib.hid (Q7.alloc w (.int .i64 m) (.int .i64 c) (.int .i64 s) (.int .i64 p) (.int .i64 a) (.int .i64 b) (.slice A us.length uc) 26)
  have HB0 := Lib.hid ((Below.refl w.heap.size w).alloc (Nat.le_refl _) (Obj.cells #[.int .i64 m, .int .i64 c, .int .i64 s, .int .i64 p, .int .i64 a, .int .i64 b, .slice A us.length uc] 26))
  have HR := Lib.hid (row_b h.u ((Below.refl w.heap.size w).alloc (Nat.le_refl _) (Obj.cells #[.int .i64 m, .int .i64 c, .int .i64 s, .int .i64 p, .int .i64 a, .int .i64 b, .slice A us.length uc] 26)))
  clear h
  go_enter Try.func21, Try.ntmps21
  have x0 := HP.out.c0
  have x1 := HP.out.c1
  have x2 := HP.out.c2
  have x3 := HP.out.c3
  have x4 := HP.out.c4
  have x5 := HP.out.c5
  have x6 := HP.out.c6
  go_wp2
  go_loop [3, 4] (fun sm x => ∃ k : Nat, k ≤ us.length ∧ x = .int .i64 k ∧ sm = .bool ((us.take k).any usF) ∧ Hid (∀ j, j < k → ∀ hj : j < us.length, 0 ≤ us[j] ∧ us[j] ≤ 1000000000)) (fun _ x => us.length - (intOf x).toNat)
  case atStart => exact ⟨0, Nat.zero_le _, rfl, rfl, Lib.hid (fun i hi => by omega)⟩
  case round =>
    obtain ⟨k, hk, rfl, rfl, HG⟩ := hrel
    by_cases hlt : k < us.length
    · have hlt' : (k : Int) < (us.length : Int) := by omega
      obtain ⟨g, off, rfl, hc⟩ := HR.out.at_ hlt
      have HA := Lib.hid (any_snoc hlt)
      have HU := Lib.hid (fun q => un_bad (p := p) hlt q)
      have HG2 := Lib.hid (fun (q : 0 ≤ us[k] ∧ us[k] ≤ 1000000000) => show ∀ i, i < k + 1 → ∀ hi : i < us.length, 0 ≤ us[i] ∧ us[i] ≤ 1000000000 from fun i h1 hi => by
        by_cases e : i = k
        · subst e; exact q
        · exact HG.out i (by omega) hi)
      generalize us[k] = z at *
      by_cases z0 : z < 0
      · have q0 : decide (z < 0) = true := decide_eq_true z0
        have HV := Lib.hid (HU.out (.inl z0))
        go_wp2
        go_ret
        exact ⟨by first | (rw [HV.out]; done) | (rw [HV.out]; rfl), HB0.out⟩
      have q0 : decide (z < 0) = false := decide_eq_false z0
      by_cases z1 : 1000000000 < z
      · have q1 : decide (1000000000 < z) = true := decide_eq_true z1
        have HV := Lib.hid (HU.out (.inr z1))
        go_wp2
        go_ret
        exact ⟨by first | (rw [HV.out]; done) | (rw [HV.out]; rfl), HB0.out⟩
      have q1 : decide (1000000000 < z) = false := decide_eq_false z1
      have HG3 := Lib.hid (HG2.out (by omega))
      clear HU HG2 HG
      cases qs : (us.take k).any usF
      · rw [qs] at HA
        by_cases z2 : 0 < z
        · have q2 : decide (0 < z) = true := decide_eq_true z2
          have HA2 := Lib.hid (show (us.take (k + 1)).any usF = true by rw [HA.out]; unfold usF; simpa using z2)
          go_wp2
          go_round
          case rel => exact ⟨k + 1, by omega, by go_num, by rw [HA2.out], HG3⟩
          case measure => simp [intOf]; omega
        · have q2 : decide (0 < z) = false := decide_eq_false z2
          have HA2 := Lib.hid (show (us.take (k + 1)).any usF = false by rw [HA.out]; unfold usF; simpa using z2)
          go_wp2
          go_round
          case rel => exact ⟨k + 1, by omega, by go_num, by rw [HA2.out], HG3⟩
          case measure => simp [intOf]; omega
      · rw [qs] at HA
        have HA2 := Lib.hid (show (us.take (k + 1)).any usF = true by rw [HA.out]; rfl)
        go_wp2
        go_round
        case rel => exact ⟨k + 1, by omega, by go_num, by rw [HA2.out], HG3⟩
        case measure => simp [intOf]; omega
    · have hlt' : ¬ (k : Int) < (us.length : Int) := by omega
      have HV := Lib.hid (un_all (p := p) (fun j hj => HG.out j (by omega) hj))
      rw [List.take_of_length_le (show us.length ≤ k by omega)]
      clear HG
      cases qs : us.any usF
      · rw [qs] at HV
        go_wp2
        go_ret
        exact ⟨by first | (rw [HV.out]; done) | (rw [HV.out]; rfl), HB0.out⟩
      · rw [qs] at HV
        by_cases hl : (us.length : Int) = p
        · subst hl
          rw [decide_eq_true rfl] at HV
          go_wp2
          go_ret
          exact ⟨by first | (rw [HV.out]; done) | (rw [HV.out]; rfl), HB0.out⟩
        · have hl' : ((us.length : Int) == p) = false := by simpa using hl
          rw [decide_eq_false hl] at HV
          go_wp2
          go_ret
          exact ⟨by first | (rw [HV.out]; done) | (rw [HV.out]; rfl), HB0.out⟩

set_option maxRecDepth 100000 in
set_option maxHeartbeats 8000000 in
theorem rCheck_low (m c s p a b : Int) (A : Option Addr) (uc : Nat) (us : List Int) (w : World) (h : PlF w m c s p a b A us) (hn : us.length ≤ 250) (hb : (m < 1 ∨ 4 < m) ∨ (c < 1 ∨ 1000000000000 < c ∨ s < 0 ∨ c < s ∨ p < 1 ∨ 200 < p)) :
    Calls Try.prog 11 #[.agg #[.int .i64 m, .int .i64 c, .int .i64 s, .int .i64 p, .int .i64 a, .int .i64 b, .slice A us.length uc]] w fun e w' => e = .returned (.int .i64 (ckE m c s p a b us)) ∧ Below w.heap.size w w' := by
  have HP0 := Lib.hid (Q7.alloc w (.int .i64 m) (.int .i64 c) (.int .i64 s) (.int .i64 p) (.int .i64 a) (.int .i64 b) (.slice A us.length uc) 26)
  have ha0 : Below w.heap.size w (w.alloc (Obj.cells #[.int .i64 m, .int .i64 c, .int .i64 s, .int .i64 p, .int .i64 a, .int .i64 b, .slice A us.length uc] 26)) := (Below.refl w.heap.size w).alloc (Nat.le_refl _) _
  have ha1 : Below (w.alloc (Obj.cells #[.int .i64 m, .int .i64 c, .int .i64 s, .int .i64 p, .int .i64 a, .int .i64 b, .slice A us.length uc] 26)).heap.size (w.alloc (Obj.cells #[.int .i64 m, .int .i64 c, .int .i64 s, .int .i64 p, .int .i64 a, .int .i64 b, .slice A us.length uc] 26)) ((w.alloc (Obj.cells #[.int .i64 m, .int .i64 c, .int .i64 s, .int .i64 p, .int .i64 a, .int .i64 b, .slice A us.length uc] 26)).alloc (Obj.cells #[.int .i64 a, .int .i64 b] 23)) := (Below.refl _ _).alloc (Nat.le_refl _) _
  have HP := Lib.hid (HP0.out.below ha1)
  have HF := Lib.hid (show Q2 ((w.alloc (Obj.cells #[.int .i64 m, .int .i64 c, .int .i64 s, .int .i64 p, .int .i64 a, .int .i64 b, .slice A us.length uc] 26)).alloc (Obj.cells #[.int .i64 a, .int .i64 b] 23)) (w.heap.size + 1) (.int .i64 a) (.int .i64 b) from by have q := Q2.alloc (w.alloc (Obj.cells #[.int .i64 m, .int .i64 c, .int .i64 s, .int .i64 p, .int .i64 a, .int .i64 b, .slice A us.length uc] 26)) (.int .i64 a) (.int .i64 b) 23; rwa [show (w.alloc (Obj.cells #[.int .i64 m, .int .i64 c, .int .i64 s, .int .i64 p, .int .i64 a, .int .i64 b, .slice A us.length uc] 26)).heap.size = w.heap.size + 1 by simp] at q)
  have HB0 := Lib.hid (ha0.trans (ha1.mono ha0.size))
  have HPl := Lib.hid ((h.below ha0).below ha1)
  clear ha0 ha1 h
  by_cases h1 : m < 1 ∨ 4 < m
  · have HV := Lib.hid (ck_kind (c := c) (s := s) (p := p) (a := a) (b := b) (us := us) h1)
    rcases h1 with h1 | h1
    · have q1 : decide (m < 1) = true := decide_eq_true h1
      go_enter Try.func11, Try.ntmps11
      have z0 := HP0.out.c0
      have z1 := HP0.out.c1
      have z2 := HP0.out.c2
      have z3 := HP0.out.c3
      have z4 := HP0.out.c4
      have z5 := HP0.out.c5
      have z6 := HP0.out.c6
      have x0 := HP.out.c0
      have x1 := HP.out.c1
      have x2 := HP.out.c2
      have x3 := HP.out.c3
      have x4 := HP.out.c4
      have x5 := HP.out.c5
      have x6 := HP.out.c6
      have y0 := HF.out.c0
      have y1 := HF.out.c1
      go_wp2
      go_ret
      exact ⟨by first | (rw [HV.out]; done) | (rw [HV.out]; rfl), HB0.out⟩
    · have q1 : decide (m < 1) = false := decide_eq_false (by omega)
      have q2 : decide (4 < m) = true := decide_eq_true h1
      go_enter Try.func11, Try.ntmps11
      have z0 := HP0.out.c0
      have z1 := HP0.out.c1
      have z2 := HP0.out.c2
      have z3 := HP0.out.c3
      have z4 := HP0.out.c4
      have z5 := HP0.out.c5
      have z6 := HP0.out.c6
      have x0 := HP.out.c0
      have x1 := HP.out.c1
      have x2 := HP.out.c2
      have x3 := HP.out.c3
      have x4 := HP.out.c4
      have x5 := HP.out.c5
      have x6 := HP.out.c6
      have y0 := HF.out.c0
      have y1 := HF.out.c1
      go_wp2
      go_ret
      exact ⟨by first | (rw [HV.out]; done) | (rw [HV.out]; rfl), HB0.out⟩
  have p1 : decide (m < 1) = false := decide_eq_false (by omega)
  have p2 : decide (4 < m) = false := decide_eq_false (by omega)
  by_cases d1 : c < 1
  · have d1' : decide (c < 1) = true := decide_eq_true d1
    have HV := Lib.hid (ck_range (m := m) (c := c) (s := s) (p := p) (a := a) (b := b) (us := us) h1 (by omega))
    go_enter Try.func11, Try.ntmps11
    have z0 := HP0.out.c0
    have z1 := HP0.out.c1
    have z2 := HP0.out.c2
    have z3 := HP0.out.c3
    have z4 := HP0.out.c4
    have z5 := HP0.out.c5
    have z6 := HP0.out.c6
    have x0 := HP.out.c0
    have x1 := HP.out.c1
    have x2 := HP.out.c2
    have x3 := HP.out.c3
    have x4 := HP.out.c4
    have x5 := HP.out.c5
    have x6 := HP.out.c6
    have y0 := HF.out.c0
    have y1 := HF.out.c1
    go_wp2
    go_ret
    exact ⟨by first | (rw [HV.out]; done) | (rw [HV.out]; rfl), HB0.out⟩
  have d1' : decide (c < 1) = false := decide_eq_false d1
  by_cases d2 : 1000000000000 < c
  · have d2' : decide (1000000000000 < c) = true := decide_eq_true d2
    have HV := Lib.hid (ck_range (m := m) (c := c) (s := s) (p := p) (a := a) (b := b) (us := us) h1 (by omega))
    go_enter Try.func11, Try.ntmps11
    have z0 := HP0.out.c0
    have z1 := HP0.out.c1
    have z2 := HP0.out.c2
    have z3 := HP0.out.c3
    have z4 := HP0.out.c4
    have z5 := HP0.out.c5
    have z6 := HP0.out.c6
    have x0 := HP.out.c0
    have x1 := HP.out.c1
    have x2 := HP.out.c2
    have x3 := HP.out.c3
    have x4 := HP.out.c4
    have x5 := HP.out.c5
    have x6 := HP.out.c6
    have y0 := HF.out.c0
    have y1 := HF.out.c1
    go_wp2
    go_ret
    exact ⟨by first | (rw [HV.out]; done) | (rw [HV.out]; rfl), HB0.out⟩
  have d2' : decide (1000000000000 < c) = false := decide_eq_false d2
  by_cases d3 : s < 0
  · have d3' : decide (s < 0) = true := decide_eq_true d3
    have HV := Lib.hid (ck_range (m := m) (c := c) (s := s) (p := p) (a := a) (b := b) (us := us) h1 (by omega))
    go_enter Try.func11, Try.ntmps11
    have z0 := HP0.out.c0
    have z1 := HP0.out.c1
    have z2 := HP0.out.c2
    have z3 := HP0.out.c3
    have z4 := HP0.out.c4
    have z5 := HP0.out.c5
    have z6 := HP0.out.c6
    have x0 := HP.out.c0
    have x1 := HP.out.c1
    have x2 := HP.out.c2
    have x3 := HP.out.c3
    have x4 := HP.out.c4
    have x5 := HP.out.c5
    have x6 := HP.out.c6
    have y0 := HF.out.c0
    have y1 := HF.out.c1
    go_wp2
    go_ret
    exact ⟨by first | (rw [HV.out]; done) | (rw [HV.out]; rfl), HB0.out⟩
  have d3' : decide (s < 0) = false := decide_eq_false d3
  by_cases d4 : c < s
  · have d4' : decide (c < s) = true := decide_eq_true d4
    have HV := Lib.hid (ck_range (m := m) (c := c) (s := s) (p := p) (a := a) (b := b) (us := us) h1 (by omega))
    go_enter Try.func11, Try.ntmps11
    have z0 := HP0.out.c0
    have z1 := HP0.out.c1
    have z2 := HP0.out.c2
    have z3 := HP0.out.c3
    have z4 := HP0.out.c4
    have z5 := HP0.out.c5
    have z6 := HP0.out.c6
    have x0 := HP.out.c0
    have x1 := HP.out.c1
    have x2 := HP.out.c2
    have x3 := HP.out.c3
    have x4 := HP.out.c4
    have x5 := HP.out.c5
    have x6 := HP.out.c6
    have y0 := HF.out.c0
    have y1 := HF.out.c1
    go_wp2
    go_ret
    exact ⟨by first | (rw [HV.out]; done) | (rw [HV.out]; rfl), HB0.out⟩
  have d4' : decide (c < s) = false := decide_eq_false d4
  by_cases d5 : p < 1
  · have d5' : decide (p < 1) = true := decide_eq_true d5
    have HV := Lib.hid (ck_range (m := m) (c := c) (s := s) (p := p) (a := a) (b := b) (us := us) h1 (by omega))
    go_enter Try.func11, Try.ntmps11
    have z0 := HP0.out.c0
    have z1 := HP0.out.c1
    have z2 := HP0.out.c2
    have z3 := HP0.out.c3
    have z4 := HP0.out.c4
    have z5 := HP0.out.c5
    have z6 := HP0.out.c6
    have x0 := HP.out.c0
    have x1 := HP.out.c1
    have x2 := HP.out.c2
    have x3 := HP.out.c3
    have x4 := HP.out.c4
    have x5 := HP.out.c5
    have x6 := HP.out.c6
    have y0 := HF.out.c0
    have y1 := HF.out.c1
    go_wp2
    go_ret
    exact ⟨by first | (rw [HV.out]; done) | (rw [HV.out]; rfl), HB0.out⟩
  have d5' : decide (p < 1) = false := decide_eq_false d5
  by_cases d6 : 200 < p
  · have d6' : decide (200 < p) = true := decide_eq_true d6
    have HV := Lib.hid (ck_range (m := m) (c := c) (s := s) (p := p) (a := a) (b := b) (us := us) h1 (by omega))
    go_enter Try.func11, Try.ntmps11
    have z0 := HP0.out.c0
    have z1 := HP0.out.c1
    have z2 := HP0.out.c2
    have z3 := HP0.out.c3
    have z4 := HP0.out.c4
    have z5 := HP0.out.c5
    have z6 := HP0.out.c6
    have x0 := HP.out.c0
    have x1 := HP.out.c1
    have x2 := HP.out.c2
    have x3 := HP.out.c3
    have x4 := HP.out.c4
    have x5 := HP.out.c5
    have x6 := HP.out.c6
    have y0 := HF.out.c0
    have y1 := HF.out.c1
    go_wp2
    go_ret
    exact ⟨by first | (rw [HV.out]; done) | (rw [HV.out]; rfl), HB0.out⟩
  have d6' : decide (200 < p) = false := decide_eq_false d6
  exact absurd hb (by omega)
set_option maxRecDepth 100000 in
set_option maxHeartbeats 8000000 in
theorem rCheck_rate (c s p a b : Int) (A : Option Addr) (uc : Nat) (us : List Int) (w : World) (h : PlF w 2 c s p a b A us) (hk : ¬ (c < 1 ∨ 1000000000000 < c ∨ s < 0 ∨ c < s ∨ p < 1 ∨ 200 < p)) :
    Calls Try.prog 11 #[.agg #[.int .i64 2, .int .i64 c, .int .i64 s, .int .i64 p, .int .i64 a, .int .i64 b, .slice A us.length uc]] w fun e w' => e = .returned (.int .i64 (ckE 2 c s p a b us)) ∧ Below w.heap.size w w' := by
  have HV := Lib.hid (ck_rate (c := c) (s := s) (p := p) (a := a) (b := b) (us := us) (m := 2) rfl hk)
  have ha := h.a
  have hb := h.b
  have HP0 := Lib.hid (Q7.alloc w (.int .i64 2) (.int .i64 c) (.int .i64 s) (.int .i64 p) (.int .i64 a) (.int .i64 b) (.slice A us.length uc) 26)
  have ha0 : Below w.heap.size w (w.alloc (Obj.cells #[.int .i64 2, .int .i64 c, .int .i64 s, .int .i64 p, .int .i64 a, .int .i64 b, .slice A us.length uc] 26)) := (Below.refl w.heap.size w).alloc (Nat.le_refl _) _
  have ha1 : Below (w.alloc (Obj.cells #[.int .i64 2, .int .i64 c, .int .i64 s, .int .i64 p, .int .i64 a, .int .i64 b, .slice A us.length uc] 26)).heap.size (w.alloc (Obj.cells #[.int .i64 2, .int .i64 c, .int .i64 s, .int .i64 p, .int .i64 a, .int .i64 b, .slice A us.length uc] 26)) ((w.alloc (Obj.cells #[.int .i64 2, .int .i64 c, .int .i64 s, .int .i64 p, .int .i64 a, .int .i64 b, .slice A us.length uc] 26)).alloc (Obj.cells #[.int .i64 a, .int .i64 b] 23)) := (Below.refl _ _).alloc (Nat.le_refl _) _
  have HP := Lib.hid (HP0.out.below ha1)
  have HF := Lib.hid (show Q2 ((w.alloc (Obj.cells #[.int .i64 2, .int .i64 c, .int .i64 s, .int .i64 p, .int .i64 a, .int .i64 b, .slice A us.length uc] 26)).alloc (Obj.cells #[.int .i64 a, .int .i64 b] 23)) (w.heap.size + 1) (.int .i64 a) (.int .i64 b) from by have q := Q2.alloc (w.alloc (Obj.cells #[.int .i64 2, .int .i64 c, .int .i64 s, .int .i64 p, .int .i64 a, .int .i64 b, .slice A us.length uc] 26)) (.int .i64 a) (.int .i64 b) 23; rwa [show (w.alloc (Obj.cells #[.int .i64 2, .int .i64 c, .int .i64 s, .int .i64 p, .int .i64 a, .int .i64 b, .slice A us.length uc] 26)).heap.size = w.heap.size + 1 by simp] at q)
  have HB0 := Lib.hid (ha0.trans (ha1.mono ha0.size))
  have HPl := Lib.hid ((h.below ha0).below ha1)
  clear ha0 ha1 h
  have d1' : decide (c < 1) = false := decide_eq_false (by omega)
  have d2' : decide (1000000000000 < c) = false := decide_eq_false (by omega)
  have d3' : decide (s < 0) = false := decide_eq_false (by omega)
  have d4' : decide (c < s) = false := decide_eq_false (by omega)
  have d5' : decide (p < 1) = false := decide_eq_false (by omega)
  have d6' : decide (200 < p) = false := decide_eq_false (by omega)
  cases q : rightB a b
  · have H := Lib.hid (fun W => rRight_val a b false q W ha.1 ha.2 hb.1 hb.2)
    have HV := Lib.hid (show ckE 2 c s p a b us = 2 by rw [HV.out, rt_no q]; rfl)
    clear q ha hb
    go_enter Try.func11, Try.ntmps11
    have z0 := HP0.out.c0
    have z1 := HP0.out.c1
    have z2 := HP0.out.c2
    have z3 := HP0.out.c3
    have z4 := HP0.out.c4
    have z5 := HP0.out.c5
    have z6 := HP0.out.c6
    have x0 := HP.out.c0
    have x1 := HP.out.c1
    have x2 := HP.out.c2
    have x3 := HP.out.c3
    have x4 := HP.out.c4
    have x5 := HP.out.c5
    have x6 := HP.out.c6
    have y0 := HF.out.c0
    have y1 := HF.out.c1
    go_wp2_with fail
    refine (H.out _).mono ?_
    rintro e w1 ⟨rfl, hb⟩
    clear x0 x1 x2 x3 x4 x5 x6 z0 z1 z2 z3 z4 z5 z6 y0 y1
    have HP1 := Lib.hid (HP.out.below hb)
    have HF1 := Lib.hid (HF.out.below hb)
    have HB1 := Lib.hid (HB0.out.trans (hb.mono HB0.out.size))
    clear hb HP HB0 HF
    have x0 := HP1.out.c0
    have x1 := HP1.out.c1
    have x2 := HP1.out.c2
    have x3 := HP1.out.c3
    have x4 := HP1.out.c4
    have x5 := HP1.out.c5
    have x6 := HP1.out.c6
    have y0 := HF1.out.c0
    have y1 := HF1.out.c1
    go_wp2
    go_ret
    exact ⟨by first | (rw [HV.out]; done) | (rw [HV.out]; rfl), HB1.out⟩
  have H := Lib.hid (fun W => rRight_val a b true q W ha.1 ha.2 hb.1 hb.2)
  clear ha hb
  by_cases h1 : 0 < a
  case neg =>
    have HV := Lib.hid (show ckE 2 c s p a b us = 2 by rw [HV.out, rt_neg h1]; rfl)
    have e1 : decide (a ≤ 0) = true := decide_eq_true (by omega)
    clear q
    go_enter Try.func11, Try.ntmps11
    have z0 := HP0.out.c0
    have z1 := HP0.out.c1
    have z2 := HP0.out.c2
    have z3 := HP0.out.c3
    have z4 := HP0.out.c4
    have z5 := HP0.out.c5
    have z6 := HP0.out.c6
    have x0 := HP.out.c0
    have x1 := HP.out.c1
    have x2 := HP.out.c2
    have x3 := HP.out.c3
    have x4 := HP.out.c4
    have x5 := HP.out.c5
    have x6 := HP.out.c6
    have y0 := HF.out.c0
    have y1 := HF.out.c1
    go_wp2_with fail
    refine (H.out _).mono ?_
    rintro e w1 ⟨rfl, hb⟩
    clear x0 x1 x2 x3 x4 x5 x6 z0 z1 z2 z3 z4 z5 z6 y0 y1
    have HP1 := Lib.hid (HP.out.below hb)
    have HF1 := Lib.hid (HF.out.below hb)
    have HB1 := Lib.hid (HB0.out.trans (hb.mono HB0.out.size))
    clear hb HP HB0 HF
    have x0 := HP1.out.c0
    have x1 := HP1.out.c1
    have x2 := HP1.out.c2
    have x3 := HP1.out.c3
    have x4 := HP1.out.c4
    have x5 := HP1.out.c5
    have x6 := HP1.out.c6
    have y0 := HF1.out.c0
    have y1 := HF1.out.c1
    go_wp2
    go_ret
    exact ⟨by first | (rw [HV.out]; done) | (rw [HV.out]; rfl), HB1.out⟩
  have e1 : decide (a ≤ 0) = false := decide_eq_false (by omega)
  by_cases h2 : a < b
  case neg =>
    have HV := Lib.hid (show ckE 2 c s p a b us = 2 by rw [HV.out, rt_big h2]; rfl)
    have e2 : decide (b ≤ a) = true := decide_eq_true (by omega)
    clear q
    go_enter Try.func11, Try.ntmps11
    have z0 := HP0.out.c0
    have z1 := HP0.out.c1
    have z2 := HP0.out.c2
    have z3 := HP0.out.c3
    have z4 := HP0.out.c4
    have z5 := HP0.out.c5
    have z6 := HP0.out.c6
    have x0 := HP.out.c0
    have x1 := HP.out.c1
    have x2 := HP.out.c2
    have x3 := HP.out.c3
    have x4 := HP.out.c4
    have x5 := HP.out.c5
    have x6 := HP.out.c6
    have y0 := HF.out.c0
    have y1 := HF.out.c1
    go_wp2_with fail
    refine (H.out _).mono ?_
    rintro e w1 ⟨rfl, hb⟩
    clear x0 x1 x2 x3 x4 x5 x6 z0 z1 z2 z3 z4 z5 z6 y0 y1
    have HP1 := Lib.hid (HP.out.below hb)
    have HF1 := Lib.hid (HF.out.below hb)
    have HB1 := Lib.hid (HB0.out.trans (hb.mono HB0.out.size))
    clear hb HP HB0 HF
    have x0 := HP1.out.c0
    have x1 := HP1.out.c1
    have x2 := HP1.out.c2
    have x3 := HP1.out.c3
    have x4 := HP1.out.c4
    have x5 := HP1.out.c5
    have x6 := HP1.out.c6
    have y0 := HF1.out.c0
    have y1 := HF1.out.c1
    go_wp2
    go_ret
    exact ⟨by first | (rw [HV.out]; done) | (rw [HV.out]; rfl), HB1.out⟩
  have e2 : decide (b ≤ a) = false := decide_eq_false (by omega)
  have HV := Lib.hid (show ckE 2 c s p a b us = 0 by rw [HV.out, rt_yes q h1 h2]; rfl)
  clear q
  go_enter Try.func11, Try.ntmps11
  have z0 := HP0.out.c0
  have z1 := HP0.out.c1
  have z2 := HP0.out.c2
  have z3 := HP0.out.c3
  have z4 := HP0.out.c4
  have z5 := HP0.out.c5
  have z6 := HP0.out.c6
  have x0 := HP.out.c0
  have x1 := HP.out.c1
  have x2 := HP.out.c2
  have x3 := HP.out.c3
  have x4 := HP.out.c4
  have x5 := HP.out.c5
  have x6 := HP.out.c6
  have y0 := HF.out.c0
  have y1 := HF.out.c1
  go_wp2_with fail
  refine (H.out _).mono ?_
  rintro e w1 ⟨rfl, hb⟩
  clear x0 x1 x2 x3 x4 x5 x6 z0 z1 z2 z3 z4 z5 z6 y0 y1
  have HP1 := Lib.hid (HP.out.below hb)
  have HF1 := Lib.hid (HF.out.below hb)
  have HB1 := Lib.hid (HB0.out.trans (hb.mono HB0.out.size))
  clear hb HP HB0 HF
  have x0 := HP1.out.c0
  have x1 := HP1.out.c1
  have x2 := HP1.out.c2
  have x3 := HP1.out.c3
  have x4 := HP1.out.c4
  have x5 := HP1.out.c5
  have x6 := HP1.out.c6
  have y0 := HF1.out.c0
  have y1 := HF1.out.c1
  go_wp2
  go_ret
  exact ⟨by first | (rw [HV.out]; done) | (rw [HV.out]; rfl), HB1.out⟩
set_option maxRecDepth 100000 in
set_option maxHeartbeats 8000000 in
theorem rCheck_unit (c s p a b : Int) (A : Option Addr) (uc : Nat) (us : List Int) (w : World) (h : PlF w 4 c s p a b A us) (hn : us.length ≤ 250) (hk : ¬ (c < 1 ∨ 1000000000000 < c ∨ s < 0 ∨ c < s ∨ p < 1 ∨ 200 < p)) :
    Calls Try.prog 11 #[.agg #[.int .i64 4, .int .i64 c, .int .i64 s, .int .i64 p, .int .i64 a, .int .i64 b, .slice A us.length uc]] w fun e w' => e = .returned (.int .i64 (ckE 4 c s p a b us)) ∧ Below w.heap.size w w' := by
  have HV := Lib.hid (ck_unit (c := c) (s := s) (p := p) (a := a) (b := b) (us := us) (m := 4) rfl hk)
  have HP0 := Lib.hid (Q7.alloc w (.int .i64 4) (.int .i64 c) (.int .i64 s) (.int .i64 p) (.int .i64 a) (.int .i64 b) (.slice A us.length uc) 26)
  have ha0 : Below w.heap.size w (w.alloc (Obj.cells #[.int .i64 4, .int .i64 c, .int .i64 s, .int .i64 p, .int .i64 a, .int .i64 b, .slice A us.length uc] 26)) := (Below.refl w.heap.size w).alloc (Nat.le_refl _) _
  have ha1 : Below (w.alloc (Obj.cells #[.int .i64 4, .int .i64 c, .int .i64 s, .int .i64 p, .int .i64 a, .int .i64 b, .slice A us.length uc] 26)).heap.size (w.alloc (Obj.cells #[.int .i64 4, .int .i64 c, .int .i64 s, .int .i64 p, .int .i64 a, .int .i64 b, .slice A us.length uc] 26)) ((w.alloc (Obj.cells #[.int .i64 4, .int .i64 c, .int .i64 s, .int .i64 p, .int .i64 a, .int .i64 b, .slice A us.length uc] 26)).alloc (Obj.cells #[.int .i64 a, .int .i64 b] 23)) := (Below.refl _ _).alloc (Nat.le_refl _) _
  have HP := Lib.hid (HP0.out.below ha1)
  have HF := Lib.hid (show Q2 ((w.alloc (Obj.cells #[.int .i64 4, .int .i64 c, .int .i64 s, .int .i64 p, .int .i64 a, .int .i64 b, .slice A us.length uc] 26)).alloc (Obj.cells #[.int .i64 a, .int .i64 b] 23)) (w.heap.size + 1) (.int .i64 a) (.int .i64 b) from by have q := Q2.alloc (w.alloc (Obj.cells #[.int .i64 4, .int .i64 c, .int .i64 s, .int .i64 p, .int .i64 a, .int .i64 b, .slice A us.length uc] 26)) (.int .i64 a) (.int .i64 b) 23; rwa [show (w.alloc (Obj.cells #[.int .i64 4, .int .i64 c, .int .i64 s, .int .i64 p, .int .i64 a, .int .i64 b, .slice A us.length uc] 26)).heap.size = w.heap.size + 1 by simp] at q)
  have HB0 := Lib.hid (ha0.trans (ha1.mono ha0.size))
  have HPl := Lib.hid ((h.below ha0).below ha1)
  clear ha0 ha1 h
  have H := Lib.hid (rUnits_any 4 c s p a b A uc us _ HPl.out hn)
  have d1' : decide (c < 1) = false := decide_eq_false (by omega)
  have d2' : decide (1000000000000 < c) = false := decide_eq_false (by omega)
  have d3' : decide (s < 0) = false := decide_eq_false (by omega)
  have d4' : decide (c < s) = false := decide_eq_false (by omega)
  have d5' : decide (p < 1) = false := decide_eq_false (by omega)
  have d6' : decide (200 < p) = false := decide_eq_false (by omega)
  cases q : unB us p <;>
  · rw [q] at H HV
    clear q HPl
    go_enter Try.func11, Try.ntmps11
    have z0 := HP0.out.c0
    have z1 := HP0.out.c1
    have z2 := HP0.out.c2
    have z3 := HP0.out.c3
    have z4 := HP0.out.c4
    have z5 := HP0.out.c5
    have z6 := HP0.out.c6
    have x0 := HP.out.c0
    have x1 := HP.out.c1
    have x2 := HP.out.c2
    have x3 := HP.out.c3
    have x4 := HP.out.c4
    have x5 := HP.out.c5
    have x6 := HP.out.c6
    have y0 := HF.out.c0
    have y1 := HF.out.c1
    go_wp2_with fail
    refine (H.out).mono ?_
    rintro e w1 ⟨rfl, hb⟩
    clear x0 x1 x2 x3 x4 x5 x6 z0 z1 z2 z3 z4 z5 z6 y0 y1
    have HP1 := Lib.hid (HP.out.below hb)
    have HF1 := Lib.hid (HF.out.below hb)
    have HB1 := Lib.hid (HB0.out.trans (hb.mono HB0.out.size))
    clear hb HP HB0 HF
    have x0 := HP1.out.c0
    have x1 := HP1.out.c1
    have x2 := HP1.out.c2
    have x3 := HP1.out.c3
    have x4 := HP1.out.c4
    have x5 := HP1.out.c5
    have x6 := HP1.out.c6
    have y0 := HF1.out.c0
    have y1 := HF1.out.c1
    go_wp2
    go_ret
    exact ⟨by first | (rw [HV.out]; done) | (rw [HV.out]; rfl), HB1.out⟩
set_option maxRecDepth 100000 in
set_option maxHeartbeats 8000000 in
theorem rCheck_else (m c s p a b : Int) (A : Option Addr) (uc : Nat) (us : List Int) (w : World) (h : PlF w m c s p a b A us) (hm : m = 1 ∨ m = 3) (hk : ¬ (c < 1 ∨ 1000000000000 < c ∨ s < 0 ∨ c < s ∨ p < 1 ∨ 200 < p)) :
    Calls Try.prog 11 #[.agg #[.int .i64 m, .int .i64 c, .int .i64 s, .int .i64 p, .int .i64 a, .int .i64 b, .slice A us.length uc]] w fun e w' => e = .returned (.int .i64 (ckE m c s p a b us)) ∧ Below w.heap.size w w' := by
  have HV := Lib.hid (ck_ok (c := c) (s := s) (p := p) (a := a) (b := b) (us := us) hm hk)
  have HP0 := Lib.hid (Q7.alloc w (.int .i64 m) (.int .i64 c) (.int .i64 s) (.int .i64 p) (.int .i64 a) (.int .i64 b) (.slice A us.length uc) 26)
  have ha0 : Below w.heap.size w (w.alloc (Obj.cells #[.int .i64 m, .int .i64 c, .int .i64 s, .int .i64 p, .int .i64 a, .int .i64 b, .slice A us.length uc] 26)) := (Below.refl w.heap.size w).alloc (Nat.le_refl _) _
  have ha1 : Below (w.alloc (Obj.cells #[.int .i64 m, .int .i64 c, .int .i64 s, .int .i64 p, .int .i64 a, .int .i64 b, .slice A us.length uc] 26)).heap.size (w.alloc (Obj.cells #[.int .i64 m, .int .i64 c, .int .i64 s, .int .i64 p, .int .i64 a, .int .i64 b, .slice A us.length uc] 26)) ((w.alloc (Obj.cells #[.int .i64 m, .int .i64 c, .int .i64 s, .int .i64 p, .int .i64 a, .int .i64 b, .slice A us.length uc] 26)).alloc (Obj.cells #[.int .i64 a, .int .i64 b] 23)) := (Below.refl _ _).alloc (Nat.le_refl _) _
  have HP := Lib.hid (HP0.out.below ha1)
  have HF := Lib.hid (show Q2 ((w.alloc (Obj.cells #[.int .i64 m, .int .i64 c, .int .i64 s, .int .i64 p, .int .i64 a, .int .i64 b, .slice A us.length uc] 26)).alloc (Obj.cells #[.int .i64 a, .int .i64 b] 23)) (w.heap.size + 1) (.int .i64 a) (.int .i64 b) from by have q := Q2.alloc (w.alloc (Obj.cells #[.int .i64 m, .int .i64 c, .int .i64 s, .int .i64 p, .int .i64 a, .int .i64 b, .slice A us.length uc] 26)) (.int .i64 a) (.int .i64 b) 23; rwa [show (w.alloc (Obj.cells #[.int .i64 m, .int .i64 c, .int .i64 s, .int .i64 p, .int .i64 a, .int .i64 b, .slice A us.length uc] 26)).heap.size = w.heap.size + 1 by simp] at q)
  have HB0 := Lib.hid (ha0.trans (ha1.mono ha0.size))
  have HPl := Lib.hid ((h.below ha0).below ha1)
  clear ha0 ha1 h
  have d1' : decide (c < 1) = false := decide_eq_false (by omega)
  have d2' : decide (1000000000000 < c) = false := decide_eq_false (by omega)
  have d3' : decide (s < 0) = false := decide_eq_false (by omega)
  have d4' : decide (c < s) = false := decide_eq_false (by omega)
  have d5' : decide (p < 1) = false := decide_eq_false (by omega)
  have d6' : decide (200 < p) = false := decide_eq_false (by omega)
  have p1 : decide (m < 1) = false := decide_eq_false (by omega)
  have p2 : decide (4 < m) = false := decide_eq_false (by omega)
  have m2' : (m == 2) = false := by simp; omega
  have m4' : (m == 4) = false := by simp; omega
  go_enter Try.func11, Try.ntmps11
  have z0 := HP0.out.c0
  have z1 := HP0.out.c1
  have z2 := HP0.out.c2
  have z3 := HP0.out.c3
  have z4 := HP0.out.c4
  have z5 := HP0.out.c5
  have z6 := HP0.out.c6
  have x0 := HP.out.c0
  have x1 := HP.out.c1
  have x2 := HP.out.c2
  have x3 := HP.out.c3
  have x4 := HP.out.c4
  have x5 := HP.out.c5
  have x6 := HP.out.c6
  have y0 := HF.out.c0
  have y1 := HF.out.c1
  go_wp2
  go_ret
  exact ⟨by first | (rw [HV.out]; done) | (rw [HV.out]; rfl), HB0.out⟩
theorem rCheck_any (m c s p a b : Int) (A : Option Addr) (uc : Nat) (us : List Int) (w : World) (h : PlF w m c s p a b A us) (hn : us.length ≤ 250) :
    Calls Try.prog 11 #[.agg #[.int .i64 m, .int .i64 c, .int .i64 s, .int .i64 p, .int .i64 a, .int .i64 b, .slice A us.length uc]] w fun e w' => e = .returned (.int .i64 (ckE m c s p a b us)) ∧ Below w.heap.size w w' := by
  by_cases hb : (m < 1 ∨ 4 < m) ∨ (c < 1 ∨ 1000000000000 < c ∨ s < 0 ∨ c < s ∨ p < 1 ∨ 200 < p)
  · exact rCheck_low m c s p a b A uc us w h hn hb
  · by_cases m2 : m = 2
    · subst m2; exact rCheck_rate c s p a b A uc us w h (by omega)
    · by_cases m4 : m = 4
      · subst m4; exact rCheck_unit c s p a b A uc us w h hn (by omega)
      · exact rCheck_else m c s p a b A uc us w h (by omega) (by omega)
end Go.Proofs.Ytmehihfdfpnfjaa
