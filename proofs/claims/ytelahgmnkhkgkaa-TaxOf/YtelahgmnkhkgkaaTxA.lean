/- Plain facts on tax rates; what isWithin, isRate, isMode, argumentError, On, In of package tax return, and large, Rate, ask, On, In of package accountingref25. Written by wip/mk_tx.py. -/
import Derived.Test.YtelahgmnkhkgkaaMdS
import Derived.Test.YtelahgmnkhkgkaaFrB
import Derived.Test.YtelahgmnkhkgkaaWdB
import Derived.Test.YtelahgmnkhkgkaaRow1
namespace Go.Proofs.Ytelahgmnkhkgkaa
open Go.RowKit Go.Sort
set_option linter.unusedVariables false
set_option linter.unusedSimpArgs false

theorem up_rest {mode : Int} {odd : Bool} {r d : Int} {neg : Bool} (h : upB mode odd r d neg = true) (hd : 0 < d) (h0 : 0 ≤ r) : 0 < r := by
  unfold upB at h
  rcases Int.lt_or_eq_of_le h0 with q | q
  · exact q
  · subst q
    exfalso
    revert h
    split
    · simp
    · split
      · simp; omega
      · split
        · simp; omega
        · split <;> simp
/-- x n / c, rounded, for a rate from 0 to 1. -/
theorem md_rate {x n c m : Int} (m1 : 1 ≤ m) (m2 : m ≤ 5) (c1 : 1 ≤ c) (n1 : 0 ≤ n) (n2 : n ≤ c) (x1 : -1000000000000000000 ≤ x) (x2 : x ≤ 1000000000000000000) :
    (mdV x n c m).2 = 0 ∧ absI (mdV x n c m).1 ≤ absI x ∧ -c < (mdV x n c m).1 * c - x * n ∧ (mdV x n c m).1 * c - x * n < c := by
  unfold mdV
  rw [if_neg (by omega), if_neg (by omega)]
  have hn : absI n = n := by unfold absI; omega
  have hc : absI c = c := by unfold absI; omega
  have hx0 : 0 ≤ absI x := by unfold absI; omega
  have hx1 : absI x ≤ 1000000000000000000 := by unfold absI; omega
  rw [hn, hc]
  unfold mdW
  have hN0 : 0 ≤ absI x * n := Int.mul_nonneg hx0 n1
  have hN1 : absI x * n ≤ absI x * c := Int.mul_le_mul_of_nonneg_left n2 hx0
  have hdm := Int.emod_add_mul_ediv (absI x * n) c
  have hr0 := Int.emod_nonneg (absI x * n) (show c ≠ 0 by omega)
  have hr1 := Int.emod_lt_of_pos (absI x * n) (show 0 < c by omega)
  have hq0 : 0 ≤ absI x * n / c := Int.ediv_nonneg hN0 (by omega)
  have hxn : x * n = if x < 0 then -(absI x * n) else absI x * n := by
    unfold absI
    split
    · rw [Int.neg_mul, Int.neg_neg]
    · rfl
  have hneg : negB x n c = (decide (x < 0) && decide (0 < n)) := by
    unfold negB cmpI
    by_cases a1 : x < 0 <;> by_cases a2 : 0 < x <;> by_cases a3 : n < 0 <;> by_cases a4 : 0 < n <;> simp [a1, a2, a3, a4, show ¬ c < 0 by omega, show 0 < c by omega] <;> omega
  have hup := fun h => up_rest (mode := m) (odd := absI x * n / c % 2 != 0) (neg := negB x n c) h (show 0 < c by omega) hr0
  rw [hxn]
  obtain ⟨ng, hng⟩ : ∃ ng, negB x n c = ng := ⟨_, rfl⟩
  rw [hng] at hup hneg ⊢
  have hz : ng = false → x < 0 → absI x * n = 0 := by
    intro h1 h2
    rw [h1] at hneg
    have : n = 0 := by
      have q : ¬ 0 < n := by intro q; simp [h2, q] at hneg
      omega
    rw [this]; simp
  have hp : ng = true → x < 0 := by
    intro h1
    rw [h1] at hneg
    have := hneg.symm
    simp at this
    exact this.1
  obtain ⟨up, hu⟩ : ∃ up, upB m (absI x * n / c % 2 != 0) (absI x * n % c) c ng = up := ⟨_, rfl⟩
  rw [hu] at hup ⊢
  clear hu hneg hng
  obtain ⟨q, hq⟩ : ∃ q, absI x * n / c = q := ⟨_, rfl⟩
  obtain ⟨r, hr⟩ : ∃ r, absI x * n % c = r := ⟨_, rfl⟩
  obtain ⟨N, hN⟩ : ∃ N, absI x * n = N := ⟨_, rfl⟩
  obtain ⟨X, hX⟩ : ∃ X, absI x = X := ⟨_, rfl⟩
  rw [hq, hr] at hdm
  rw [hq] at hq0 ⊢
  rw [hr] at hr0 hr1 hup
  rw [hN] at hdm hN0 hN1 hz ⊢
  rw [hX] at hN1 hx0 hx1 ⊢
  have hqX : q + (if up then 1 else 0) ≤ X := by
    apply Classical.byContradiction
    intro k
    have k2 : X + 1 ≤ q + (if up = true then 1 else 0) := by omega
    cases up
    · have k3 : X + 1 ≤ q := by simpa using k2
      have := Int.mul_le_mul_of_nonneg_left k3 (show 0 ≤ c by omega)
      rw [Int.mul_add, Int.mul_comm c X] at this
      omega
    · have hr2 := hup rfl
      have k3 : X ≤ q := by simp at k2; omega
      have := Int.mul_le_mul_of_nonneg_left k3 (show 0 ≤ c by omega)
      rw [Int.mul_comm c X] at this
      omega
  have hQ0 : 0 ≤ q + (if up then 1 else 0) := by split <;> omega
  have hE : (q + (if up then 1 else 0)) * c - N = (if up then c else 0) - r := by
    rw [Int.add_mul, Int.mul_comm q c]
    split <;> simp <;> omega
  obtain ⟨u, hu⟩ : ∃ u : Int, (if up then 1 else 0) = u := ⟨_, rfl⟩
  rw [hu] at hqX hQ0 hE
  have hsg : sgV q up ng = (if ng then -(q + u) else q + u, 0) := by
    unfold sgV
    rw [hu, if_neg (by omega), if_neg (by omega)]
  rw [hsg]
  have hEb : -c < (q + u) * c - N ∧ (q + u) * c - N < c := by
    rw [hE]
    cases up
    · simp; omega
    · have := hup rfl
      simp; omega
  refine ⟨rfl, ?_, ?_⟩
  · show absI (if ng then -(q + u) else q + u) ≤ X
    unfold absI
    split <;> split <;> omega
  · show -c < (if ng = true then -(q + u) else q + u) * c - (if x < 0 then -N else N) ∧ (if ng = true then -(q + u) else q + u) * c - (if x < 0 then -N else N) < c
    cases ng
    · by_cases hx : x < 0
      · have := hz rfl hx
        rw [if_pos hx]; simp; subst this; simp at hEb; simpa using hEb
      · rw [if_neg hx]; simpa using hEb
    · rw [if_pos (hp rfl), if_pos rfl, Int.neg_mul]
      omega
def withB (n M : Int) : Bool := decide (-M ≤ n) && decide (n ≤ M)
def rateB (n d : Int) : Bool := rightB n d && (decide (0 ≤ n) && decide (n ≤ d))
def modeB (m : Int) : Bool := decide (1 ≤ m) && decide (m ≤ 5)
def argE (x n d m : Int) : Int := if modeB m = false then 10 else if rateB n d = false then 2 else if withB x 1000000000000000 = false then 4 else 0
def onV (x n d m : Int) : Int × Int := if argE x n d m = 0 then mdV x n d m else (0, argE x n d m)
def inV (x n d m : Int) : Int × Int × Int := if argE x n d m = 0 then (x - (mdV x n (n + d) m).1, (mdV x n (n + d) m).1, 0) else (0, 0, argE x n d m)
theorem rate_in {n d : Int} (h : rateB n d = true) : 1 ≤ d ∧ d ≤ 1000000 ∧ 0 ≤ n ∧ n ≤ d := by
  unfold rateB rightB at h
  simp at h
  obtain ⟨⟨h1, h2, _⟩, h3, h4⟩ := h
  omega
theorem arg_ok {x n d m : Int} (h : argE x n d m = 0) : (1 ≤ m ∧ m ≤ 5) ∧ (1 ≤ d ∧ d ≤ 1000000 ∧ 0 ≤ n ∧ n ≤ d) ∧ -1000000000000000 ≤ x ∧ x ≤ 1000000000000000 := by
  unfold argE at h
  split at h
  · omega
  · split at h
    · omega
    · split at h
      · omega
      · rename_i a b c
        refine ⟨?_, rate_in (by simpa using b), ?_⟩
        · unfold modeB at a; simp at a; omega
        · unfold withB at c; simp at c; omega
theorem arg_ne {x n d m : Int} : argE x n d m = 0 ∨ argE x n d m = 10 ∨ argE x n d m = 2 ∨ argE x n d m = 4 := by
  unfold argE; split
  · simp
  · split
    · simp
    · split <;> simp
theorem mode_md (m : Int) : decide ((mdV 0 1 1 m).2 = 0) = modeB m := by
  unfold modeB
  by_cases h : 1 ≤ m ∧ m ≤ 5
  · rw [(md_rate (x := 0) (n := 1) (c := 1) h.1 h.2 (by omega) (by omega) (by omega) (by omega) (by omega)).1, decide_eq_true h.1, decide_eq_true h.2]; rfl
  · have : (mdV 0 1 1 m).2 = 10 := by unfold mdV; rw [if_pos (by omega)]
    rw [this]
    by_cases h1 : 1 ≤ m
    · have h2 : ¬ m ≤ 5 := fun q => h ⟨h1, q⟩
      simp [h1, h2]
    · simp [h1]
set_option maxHeartbeats 2000000 in
theorem isWithin_any (n M : Int) (w : World) (M0 : 0 ≤ M) (M1 : M ≤ 1000000000000000000) (n1 : -9223372036854775808 ≤ n) (n2 : n ≤ 9223372036854775807) :
    Calls Try.prog 39 #[.int .i64 n, .int .i64 M] w fun e w' => e = .returned (.bool (withB n M)) ∧ w = w' := by
  by_cases a : -M ≤ n <;> by_cases b : n ≤ M
  all_goals
    have HE := Lib.hid (show withB n M = (decide (-M ≤ n) && decide (n ≤ M)) from rfl)
    simp only [a, b, decide_true, decide_false, Bool.and_true, Bool.and_false, Bool.true_and, Bool.false_and] at HE
    go_enter Try.func39, Try.ntmps39
    go_wp2
    go_ret
    exact ⟨ret_bool (by rw [HE.out] <;> first | rfl | (simp; done) | (simp; omega)), rfl⟩
set_option maxHeartbeats 2000000 in
theorem large_any (n M : Int) (w : World) (M0 : 0 ≤ M) (M1 : M ≤ 1000000000000000000) (n1 : -9223372036854775808 ≤ n) (n2 : n ≤ 9223372036854775807) :
    Calls Try.prog 47 #[.int .i64 n, .int .i64 M] w fun e w' => e = .returned (.bool (!(withB n M))) ∧ w = w' := by
  by_cases a : -M ≤ n <;> by_cases b : n ≤ M
  all_goals
    have HE := Lib.hid (show withB n M = (decide (-M ≤ n) && decide (n ≤ M)) from rfl)
    simp only [a, b, decide_true, decide_false, Bool.and_true, Bool.and_false, Bool.true_and, Bool.false_and] at HE
    go_enter Try.func47, Try.ntmps47
    go_wp2
    go_ret
    exact ⟨ret_bool (by rw [HE.out] <;> first | rfl | (simp; done) | (simp; omega)), rfl⟩
set_option maxHeartbeats 2000000 in
theorem isRate_any (n d : Int) (w : World) (n1 : -9223372036854775808 ≤ n) (n2 : n ≤ 9223372036854775807) (d1 : -9223372036854775808 ≤ d) (d2 : d ≤ 9223372036854775807) :
    Calls Try.prog 28 #[.agg #[.int .i64 n, .int .i64 d]] w fun e w' => e = .returned (.bool (rateB n d)) ∧ Below w.heap.size w w' := by
  have H := Lib.hid (fun W => right_any n d W n1 n2 d1 d2)
  have HE := Lib.hid (show rateB n d = (rightB n d && (decide (0 ≤ n) && decide (n ≤ d))) from rfl)
  have HB0 := Lib.hid ((Below.refl w.heap.size w).alloc (Nat.le_refl _) (Obj.cells #[.int .i64 n, .int .i64 d] 23))
  have P_0 := Lib.hid (Cell2.alloc w (.int .i64 n) (.int .i64 d) 23)
  cases hr : rightB n d
  · rw [hr] at H HE
    go_enter Try.func28, Try.ntmps28
    have xP0 := P_0.out.c0
    have xP1 := P_0.out.c1
    go_wp2_with fail
    refine (H.out _).mono ?_
    rintro e W1 ⟨rfl, hb⟩
    clear xP0 xP1
    have HB1 := Lib.hid (HB0.out.trans (hb.mono HB0.out.size))
    have P_1 := Lib.hid (P_0.out.below hb P_0.out.lt)
    clear hb
    have xP0 := P_1.out.c0
    have xP1 := P_1.out.c1
    go_wp2
    go_ret
    exact ⟨ret_bool (by rw [HE.out]; rfl), HB1.out⟩
  · rw [hr] at H HE
    by_cases a : 0 ≤ n <;> by_cases b : n ≤ d
    all_goals
      simp only [a, b, decide_true, decide_false, Bool.and_true, Bool.and_false, Bool.true_and, Bool.false_and] at HE
      go_enter Try.func28, Try.ntmps28
      have xP0 := P_0.out.c0
      have xP1 := P_0.out.c1
      go_wp2_with fail
      refine (H.out _).mono ?_
      rintro e W1 ⟨rfl, hb⟩
      clear xP0 xP1
      have HB1 := Lib.hid (HB0.out.trans (hb.mono HB0.out.size))
      have P_1 := Lib.hid (P_0.out.below hb P_0.out.lt)
      clear hb
      have xP0 := P_1.out.c0
      have xP1 := P_1.out.c1
      go_wp2
      go_ret
      exact ⟨ret_bool (by rw [HE.out] <;> first | rfl | (simp; done) | (simp; omega)), HB1.out⟩
set_option maxHeartbeats 2000000 in
theorem rate_any (n d : Int) (w : World) (n1 : -9223372036854775808 ≤ n) (n2 : n ≤ 9223372036854775807) (d1 : -9223372036854775808 ≤ d) (d2 : d ≤ 9223372036854775807) :
    Calls Try.prog 30 #[.agg #[.int .i64 n, .int .i64 d]] w fun e w' => e = .returned (.bool (rateB n d)) ∧ Below w.heap.size w w' := by
  have H := Lib.hid (fun W => rRight_any n d W n1 n2 d1 d2)
  have HE := Lib.hid (show rateB n d = (rightB n d && (decide (0 ≤ n) && decide (n ≤ d))) from rfl)
  have HB0 := Lib.hid ((Below.refl w.heap.size w).alloc (Nat.le_refl _) (Obj.cells #[.int .i64 n, .int .i64 d] 23))
  have P_0 := Lib.hid (Cell2.alloc w (.int .i64 n) (.int .i64 d) 23)
  cases hr : rightB n d
  · rw [hr] at H HE
    go_enter Try.func30, Try.ntmps30
    have xP0 := P_0.out.c0
    have xP1 := P_0.out.c1
    go_wp2_with fail
    refine (H.out _).mono ?_
    rintro e W1 ⟨rfl, hb⟩
    clear xP0 xP1
    have HB1 := Lib.hid (HB0.out.trans (hb.mono HB0.out.size))
    have P_1 := Lib.hid (P_0.out.below hb P_0.out.lt)
    clear hb
    have xP0 := P_1.out.c0
    have xP1 := P_1.out.c1
    go_wp2
    go_ret
    exact ⟨ret_bool (by rw [HE.out]; rfl), HB1.out⟩
  · rw [hr] at H HE
    by_cases a : 0 ≤ n <;> by_cases b : n ≤ d
    all_goals
      simp only [a, b, decide_true, decide_false, Bool.and_true, Bool.and_false, Bool.true_and, Bool.false_and] at HE
      go_enter Try.func30, Try.ntmps30
      have xP0 := P_0.out.c0
      have xP1 := P_0.out.c1
      go_wp2_with fail
      refine (H.out _).mono ?_
      rintro e W1 ⟨rfl, hb⟩
      clear xP0 xP1
      have HB1 := Lib.hid (HB0.out.trans (hb.mono HB0.out.size))
      have P_1 := Lib.hid (P_0.out.below hb P_0.out.lt)
      clear hb
      have xP0 := P_1.out.c0
      have xP1 := P_1.out.c1
      go_wp2
      go_ret
      exact ⟨ret_bool (by rw [HE.out] <;> first | rfl | (simp; done) | (simp; omega)), HB1.out⟩
set_option maxHeartbeats 2000000 in
theorem isMode_any (m : Int) (w : World) :
    Calls Try.prog 31 #[.int .i64 m] w fun e w' => e = .returned (.bool (modeB m)) ∧ Below w.heap.size w w' := by
  have H := Lib.hid (fun W => div_any 0 1 m W (by omega) (by omega) (by omega) (by omega))
  have HE := Lib.hid (mode_md m)
  have HB0 := Lib.hid (Below.refl w.heap.size w)
  generalize mdV 0 1 1 m = v at *
  obtain ⟨v1, v2⟩ := v
  go_enter Try.func31, Try.ntmps31
  go_wp2_with fail
  refine (H.out _).mono ?_
  rintro e W1 ⟨rfl, hb⟩
  have HB1 := Lib.hid (HB0.out.trans (hb.mono HB0.out.size))
  clear hb
  go_wp2
  go_ret
  exact ⟨ret_bool (by rw [← HE.out]; by_cases q : v2 = 0 <;> simp [q]), HB1.out⟩
set_option maxHeartbeats 2000000 in
theorem argError_any (x n d m : Int) (w : World) (x1 : -9223372036854775808 ≤ x) (x2 : x ≤ 9223372036854775807) (n1 : -9223372036854775808 ≤ n) (n2 : n ≤ 9223372036854775807) (d1 : -9223372036854775808 ≤ d) (d2 : d ≤ 9223372036854775807) :
    Calls Try.prog 22 #[.int .i64 x, .agg #[.int .i64 n, .int .i64 d], .int .i64 m] w fun e w' => e = .returned (.int .i64 (argE x n d m)) ∧ Below w.heap.size w w' := by
  have HR := Lib.hid (fun W => isRate_any n d W n1 n2 d1 d2)
  have HI := Lib.hid (fun W => isWithin_any x 1000000000000000 W (by omega) (by omega) x1 x2)
  have HM := Lib.hid (fun W => isMode_any m W)
  have HE := Lib.hid (show argE x n d m = if modeB m = false then 10 else if rateB n d = false then 2 else if withB x 1000000000000000 = false then 4 else 0 from rfl)
  have HB0 := Lib.hid ((Below.refl w.heap.size w).alloc (Nat.le_refl _) (Obj.cells #[.int .i64 n, .int .i64 d] 23))
  have P_0 := Lib.hid (Cell2.alloc w (.int .i64 n) (.int .i64 d) 23)
  cases hm : modeB m
  · rw [hm] at HM HE
    go_enter Try.func22, Try.ntmps22
    have xP0 := P_0.out.c0
    have xP1 := P_0.out.c1
    go_wp2_with fail
    refine (HM.out _).mono ?_
    rintro e W1 ⟨rfl, hb⟩
    clear xP0 xP1
    have HB1 := Lib.hid (HB0.out.trans (hb.mono HB0.out.size))
    have P_1 := Lib.hid (P_0.out.below hb P_0.out.lt)
    clear hb
    go_wp2
    go_ret
    exact ⟨ret_int (by rw [HE.out]; rfl), HB1.out⟩
  · rw [hm] at HM HE
    cases hr : rateB n d
    · rw [hr] at HR HE
      go_enter Try.func22, Try.ntmps22
      have xP0 := P_0.out.c0
      have xP1 := P_0.out.c1
      go_wp2_with fail
      refine (HM.out _).mono ?_
      rintro e W1 ⟨rfl, hb⟩
      clear xP0 xP1
      have HB1 := Lib.hid (HB0.out.trans (hb.mono HB0.out.size))
      have P_1 := Lib.hid (P_0.out.below hb P_0.out.lt)
      clear hb
      have xP0 := P_1.out.c0
      have xP1 := P_1.out.c1
      go_wp2_with fail
      refine (HR.out _).mono ?_
      rintro e W2 ⟨rfl, hb⟩
      clear xP0 xP1
      have HB2 := Lib.hid (HB1.out.trans (hb.mono HB1.out.size))
      have P_2 := Lib.hid (P_1.out.below hb P_1.out.lt)
      clear hb
      go_wp2
      go_ret
      exact ⟨ret_int (by rw [HE.out]; rfl), HB2.out⟩
    · rw [hr] at HR HE
      cases hi : withB x 1000000000000000
      · rw [hi] at HI HE
        go_enter Try.func22, Try.ntmps22
        have xP0 := P_0.out.c0
        have xP1 := P_0.out.c1
        go_wp2_with fail
        refine (HM.out _).mono ?_
        rintro e W1 ⟨rfl, hb⟩
        clear xP0 xP1
        have HB1 := Lib.hid (HB0.out.trans (hb.mono HB0.out.size))
        have P_1 := Lib.hid (P_0.out.below hb P_0.out.lt)
        clear hb
        have xP0 := P_1.out.c0
        have xP1 := P_1.out.c1
        go_wp2_with fail
        refine (HR.out _).mono ?_
        rintro e W2 ⟨rfl, hb⟩
        clear xP0 xP1
        have HB2 := Lib.hid (HB1.out.trans (hb.mono HB1.out.size))
        have P_2 := Lib.hid (P_1.out.below hb P_1.out.lt)
        clear hb
        have xP0 := P_2.out.c0
        have xP1 := P_2.out.c1
        go_wp2_with fail
        refine (HI.out _).mono ?_
        rintro e w_ ⟨rfl, rfl⟩
        go_wp2
        go_ret
        exact ⟨ret_int (by rw [HE.out]; rfl), HB2.out⟩
      · rw [hi] at HI HE
        go_enter Try.func22, Try.ntmps22
        have xP0 := P_0.out.c0
        have xP1 := P_0.out.c1
        go_wp2_with fail
        refine (HM.out _).mono ?_
        rintro e W1 ⟨rfl, hb⟩
        clear xP0 xP1
        have HB1 := Lib.hid (HB0.out.trans (hb.mono HB0.out.size))
        have P_1 := Lib.hid (P_0.out.below hb P_0.out.lt)
        clear hb
        have xP0 := P_1.out.c0
        have xP1 := P_1.out.c1
        go_wp2_with fail
        refine (HR.out _).mono ?_
        rintro e W2 ⟨rfl, hb⟩
        clear xP0 xP1
        have HB2 := Lib.hid (HB1.out.trans (hb.mono HB1.out.size))
        have P_2 := Lib.hid (P_1.out.below hb P_1.out.lt)
        clear hb
        have xP0 := P_2.out.c0
        have xP1 := P_2.out.c1
        go_wp2_with fail
        refine (HI.out _).mono ?_
        rintro e w_ ⟨rfl, rfl⟩
        go_wp2
        go_ret
        exact ⟨ret_int (by rw [HE.out]; rfl), HB2.out⟩
set_option maxHeartbeats 2000000 in
theorem ask_any (x n d m : Int) (w : World) (x1 : -9223372036854775808 ≤ x) (x2 : x ≤ 9223372036854775807) (n1 : -9223372036854775808 ≤ n) (n2 : n ≤ 9223372036854775807) (d1 : -9223372036854775808 ≤ d) (d2 : d ≤ 9223372036854775807) :
    Calls Try.prog 24 #[.int .i64 x, .agg #[.int .i64 n, .int .i64 d], .int .i64 m] w fun e w' => e = .returned (.int .i64 (argE x n d m)) ∧ Below w.heap.size w w' := by
  have HR := Lib.hid (fun W => rate_any n d W n1 n2 d1 d2)
  have HI := Lib.hid (fun W => large_any x 1000000000000000 W (by omega) (by omega) x1 x2)
  have HE := Lib.hid (show argE x n d m = if modeB m = false then 10 else if rateB n d = false then 2 else if withB x 1000000000000000 = false then 4 else 0 from rfl)
  have HB0 := Lib.hid ((Below.refl w.heap.size w).alloc (Nat.le_refl _) (Obj.cells #[.int .i64 n, .int .i64 d] 23))
  have P_0 := Lib.hid (Cell2.alloc w (.int .i64 n) (.int .i64 d) 23)
  by_cases hm : 1 ≤ m ∧ m ≤ 5
  rotate_left
  · have HE2 := Lib.hid (show modeB m = false by unfold modeB; by_cases q : 1 ≤ m <;> simp [q] <;> omega)
    rw [HE2.out] at HE
    clear HE2
    by_cases q : m < 1
    · go_enter Try.func24, Try.ntmps24
      have xP0 := P_0.out.c0
      have xP1 := P_0.out.c1
      go_wp2
      go_ret
      exact ⟨ret_int (by rw [HE.out]; rfl), HB0.out⟩
    · have q2 : 5 < m := by omega
      go_enter Try.func24, Try.ntmps24
      have xP0 := P_0.out.c0
      have xP1 := P_0.out.c1
      go_wp2
      go_ret
      exact ⟨ret_int (by rw [HE.out]; rfl), HB0.out⟩
  · obtain ⟨m1, m2⟩ := hm
    have HE2 := Lib.hid (show modeB m = true by unfold modeB; simp [m1, m2])
    rw [HE2.out] at HE
    clear HE2
    have q1 : ¬ m < 1 := by omega
    have q2 : ¬ 5 < m := by omega
    cases hr : rateB n d
    · rw [hr] at HR HE
      go_enter Try.func24, Try.ntmps24
      have xP0 := P_0.out.c0
      have xP1 := P_0.out.c1
      go_wp2_with fail
      refine (HR.out _).mono ?_
      rintro e W1 ⟨rfl, hb⟩
      clear xP0 xP1
      have HB1 := Lib.hid (HB0.out.trans (hb.mono HB0.out.size))
      have P_1 := Lib.hid (P_0.out.below hb P_0.out.lt)
      clear hb
      go_wp2
      go_ret
      exact ⟨ret_int (by rw [HE.out]; rfl), HB1.out⟩
    · rw [hr] at HR HE
      cases hi : withB x 1000000000000000
      · rw [hi] at HI HE
        go_enter Try.func24, Try.ntmps24
        have xP0 := P_0.out.c0
        have xP1 := P_0.out.c1
        go_wp2_with fail
        refine (HR.out _).mono ?_
        rintro e W1 ⟨rfl, hb⟩
        clear xP0 xP1
        have HB1 := Lib.hid (HB0.out.trans (hb.mono HB0.out.size))
        have P_1 := Lib.hid (P_0.out.below hb P_0.out.lt)
        clear hb
        have xP0 := P_1.out.c0
        have xP1 := P_1.out.c1
        go_wp2_with fail
        refine (HI.out _).mono ?_
        rintro e w_ ⟨rfl, rfl⟩
        go_wp2
        go_ret
        exact ⟨ret_int (by rw [HE.out]; rfl), HB1.out⟩
      · rw [hi] at HI HE
        go_enter Try.func24, Try.ntmps24
        have xP0 := P_0.out.c0
        have xP1 := P_0.out.c1
        go_wp2_with fail
        refine (HR.out _).mono ?_
        rintro e W1 ⟨rfl, hb⟩
        clear xP0 xP1
        have HB1 := Lib.hid (HB0.out.trans (hb.mono HB0.out.size))
        have P_1 := Lib.hid (P_0.out.below hb P_0.out.lt)
        clear hb
        have xP0 := P_1.out.c0
        have xP1 := P_1.out.c1
        go_wp2_with fail
        refine (HI.out _).mono ?_
        rintro e w_ ⟨rfl, rfl⟩
        go_wp2
        go_ret
        exact ⟨ret_int (by rw [HE.out]; rfl), HB1.out⟩
set_option maxHeartbeats 2000000 in
theorem on_any (x n d m : Int) (w : World) (x1 : -9223372036854775808 ≤ x) (x2 : x ≤ 9223372036854775807) (n1 : -9223372036854775808 ≤ n) (n2 : n ≤ 9223372036854775807) (d1 : -9223372036854775808 ≤ d) (d2 : d ≤ 9223372036854775807) :
    Calls Try.prog 10 #[.int .i64 x, .agg #[.int .i64 n, .int .i64 d], .int .i64 m] w fun e w' => e = .returned (.tuple #[.int .i64 (onV x n d m).1, .int .i64 (onV x n d m).2]) ∧ Below w.heap.size w w' := by
  have HA := Lib.hid (fun W => argError_any x n d m W x1 x2 n1 n2 d1 d2)
  have HB0 := Lib.hid ((Below.refl w.heap.size w).alloc (Nat.le_refl _) (Obj.cells #[.int .i64 n, .int .i64 d] 23))
  have P_0 := Lib.hid (Cell2.alloc w (.int .i64 n) (.int .i64 d) 23)
  by_cases h : argE x n d m = 0
  · obtain ⟨⟨m1, m2⟩, ⟨e1, e2, e3, e4⟩, e5, e6⟩ := arg_ok h
    have HV := Lib.hid (show onV x n d m = mdV x n d m from if_pos h)
    have HM := Lib.hid (fun W => mulDiv_any x n d m W x1 x2 n1 n2 (by omega) (by omega))
    have hmd := md_rate (x := x) (n := n) (c := d) m1 m2 (by omega) e3 (by omega) (by omega) (by omega)
    rw [h] at HA
    generalize mdV x n d m = v at *
    obtain ⟨v1, v2⟩ := v
    have hv2 : v2 = 0 := hmd.1
    have hv1 : absI v1 ≤ absI x := hmd.2.1
    have b1 : -1000000000000000 ≤ v1 ∧ v1 ≤ 1000000000000000 := by unfold absI at hv1; split at hv1 <;> split at hv1 <;> omega
    obtain ⟨b1, b2⟩ := b1
    subst hv2
    clear hmd hv1 h
    go_enter Try.func10, Try.ntmps10
    have xP0 := P_0.out.c0
    have xP1 := P_0.out.c1
    go_wp2_with fail
    refine (HA.out _).mono ?_
    rintro e W1 ⟨rfl, hb⟩
    clear xP0 xP1
    have HB1 := Lib.hid (HB0.out.trans (hb.mono HB0.out.size))
    have P_1 := Lib.hid (P_0.out.below hb P_0.out.lt)
    clear hb
    have xP0 := P_1.out.c0
    have xP1 := P_1.out.c1
    go_wp2_with fail
    refine (HM.out _).mono ?_
    rintro e W2 ⟨rfl, hb⟩
    clear xP0 xP1
    have HB2 := Lib.hid (HB1.out.trans (hb.mono HB1.out.size))
    have P_2 := Lib.hid (P_1.out.below hb P_1.out.lt)
    clear hb
    go_wp2
    go_ret2
    exact ⟨by rw [HV.out]; rfl, HB2.out⟩
  · have HV := Lib.hid (show onV x n d m = (0, argE x n d m) from if_neg h)
    have hne := h
    generalize argE x n d m = ae at *
    clear h
    go_enter Try.func10, Try.ntmps10
    have xP0 := P_0.out.c0
    have xP1 := P_0.out.c1
    go_wp2_with fail
    refine (HA.out _).mono ?_
    rintro e W1 ⟨rfl, hb⟩
    clear xP0 xP1
    have HB1 := Lib.hid (HB0.out.trans (hb.mono HB0.out.size))
    have P_1 := Lib.hid (P_0.out.below hb P_0.out.lt)
    clear hb
    have xP0 := P_1.out.c0
    have xP1 := P_1.out.c1
    go_wp2
    go_ret2
    exact ⟨by rw [HV.out]; rfl, HB1.out⟩
set_option maxHeartbeats 2000000 in
theorem in_any (x n d m : Int) (w : World) (x1 : -9223372036854775808 ≤ x) (x2 : x ≤ 9223372036854775807) (n1 : -9223372036854775808 ≤ n) (n2 : n ≤ 9223372036854775807) (d1 : -9223372036854775808 ≤ d) (d2 : d ≤ 9223372036854775807) :
    Calls Try.prog 13 #[.int .i64 x, .agg #[.int .i64 n, .int .i64 d], .int .i64 m] w fun e w' => e = .returned (.tuple #[.int .i64 (inV x n d m).1, .int .i64 (inV x n d m).2.1, .int .i64 (inV x n d m).2.2]) ∧ Below w.heap.size w w' := by
  have HA := Lib.hid (fun W => argError_any x n d m W x1 x2 n1 n2 d1 d2)
  have HB0 := Lib.hid ((Below.refl w.heap.size w).alloc (Nat.le_refl _) (Obj.cells #[.int .i64 n, .int .i64 d] 23))
  have P_0 := Lib.hid (Cell2.alloc w (.int .i64 n) (.int .i64 d) 23)
  by_cases h : argE x n d m = 0
  · obtain ⟨⟨m1, m2⟩, ⟨e1, e2, e3, e4⟩, e5, e6⟩ := arg_ok h
    have HV := Lib.hid (show inV x n d m = (x - (mdV x n (n + d) m).1, (mdV x n (n + d) m).1, 0) from if_pos h)
    have HM := Lib.hid (fun W => mulDiv_any x n (n + d) m W x1 x2 n1 n2 (by omega) (by omega))
    have hmd := md_rate (x := x) (n := n) (c := (n + d)) m1 m2 (by omega) e3 (by omega) (by omega) (by omega)
    rw [h] at HA
    generalize mdV x n (n + d) m = v at *
    obtain ⟨v1, v2⟩ := v
    have hv2 : v2 = 0 := hmd.1
    have hv1 : absI v1 ≤ absI x := hmd.2.1
    have b1 : -1000000000000000 ≤ v1 ∧ v1 ≤ 1000000000000000 := by unfold absI at hv1; split at hv1 <;> split at hv1 <;> omega
    obtain ⟨b1, b2⟩ := b1
    subst hv2
    clear hmd hv1 h
    go_enter Try.func13, Try.ntmps13
    have xP0 := P_0.out.c0
    have xP1 := P_0.out.c1
    go_wp2_with fail
    refine (HA.out _).mono ?_
    rintro e W1 ⟨rfl, hb⟩
    clear xP0 xP1
    have HB1 := Lib.hid (HB0.out.trans (hb.mono HB0.out.size))
    have P_1 := Lib.hid (P_0.out.below hb P_0.out.lt)
    clear hb
    have xP0 := P_1.out.c0
    have xP1 := P_1.out.c1
    go_wp2_with fail
    refine (HM.out _).mono ?_
    rintro e W2 ⟨rfl, hb⟩
    clear xP0 xP1
    have HB2 := Lib.hid (HB1.out.trans (hb.mono HB1.out.size))
    have P_2 := Lib.hid (P_1.out.below hb P_1.out.lt)
    clear hb
    go_wp2
    go_ret3
    exact ⟨by rw [HV.out]; rfl, HB2.out⟩
  · have HV := Lib.hid (show inV x n d m = (0, 0, argE x n d m) from if_neg h)
    have hne := h
    generalize argE x n d m = ae at *
    clear h
    go_enter Try.func13, Try.ntmps13
    have xP0 := P_0.out.c0
    have xP1 := P_0.out.c1
    go_wp2_with fail
    refine (HA.out _).mono ?_
    rintro e W1 ⟨rfl, hb⟩
    clear xP0 xP1
    have HB1 := Lib.hid (HB0.out.trans (hb.mono HB0.out.size))
    have P_1 := Lib.hid (P_0.out.below hb P_0.out.lt)
    clear hb
    have xP0 := P_1.out.c0
    have xP1 := P_1.out.c1
    go_wp2
    go_ret3
    exact ⟨by rw [HV.out]; rfl, HB1.out⟩
set_option maxHeartbeats 2000000 in
theorem rOn_any (x n d m : Int) (w : World) (x1 : -9223372036854775808 ≤ x) (x2 : x ≤ 9223372036854775807) (n1 : -9223372036854775808 ≤ n) (n2 : n ≤ 9223372036854775807) (d1 : -9223372036854775808 ≤ d) (d2 : d ≤ 9223372036854775807) :
    Calls Try.prog 11 #[.int .i64 x, .agg #[.int .i64 n, .int .i64 d], .int .i64 m] w fun e w' => e = .returned (.tuple #[.int .i64 (onV x n d m).1, .int .i64 (onV x n d m).2]) ∧ Below w.heap.size w w' := by
  have HA := Lib.hid (fun W => ask_any x n d m W x1 x2 n1 n2 d1 d2)
  have HB0 := Lib.hid ((Below.refl w.heap.size w).alloc (Nat.le_refl _) (Obj.cells #[.int .i64 n, .int .i64 d] 23))
  have P_0 := Lib.hid (Cell2.alloc w (.int .i64 n) (.int .i64 d) 23)
  by_cases h : argE x n d m = 0
  · obtain ⟨⟨m1, m2⟩, ⟨e1, e2, e3, e4⟩, e5, e6⟩ := arg_ok h
    have HV := Lib.hid (show onV x n d m = mdV x n d m from if_pos h)
    have HM := Lib.hid (fun W => rMulDiv_any x n d m W x1 x2 n1 n2 (by omega) (by omega))
    have hmd := md_rate (x := x) (n := n) (c := d) m1 m2 (by omega) e3 (by omega) (by omega) (by omega)
    rw [h] at HA
    generalize mdV x n d m = v at *
    obtain ⟨v1, v2⟩ := v
    have hv2 : v2 = 0 := hmd.1
    have hv1 : absI v1 ≤ absI x := hmd.2.1
    have b1 : -1000000000000000 ≤ v1 ∧ v1 ≤ 1000000000000000 := by unfold absI at hv1; split at hv1 <;> split at hv1 <;> omega
    obtain ⟨b1, b2⟩ := b1
    subst hv2
    clear hmd hv1 h
    go_enter Try.func11, Try.ntmps11
    have xP0 := P_0.out.c0
    have xP1 := P_0.out.c1
    go_wp2_with fail
    refine (HA.out _).mono ?_
    rintro e W1 ⟨rfl, hb⟩
    clear xP0 xP1
    have HB1 := Lib.hid (HB0.out.trans (hb.mono HB0.out.size))
    have P_1 := Lib.hid (P_0.out.below hb P_0.out.lt)
    clear hb
    have xP0 := P_1.out.c0
    have xP1 := P_1.out.c1
    go_wp2_with fail
    refine (HM.out _).mono ?_
    rintro e w_ ⟨rfl, rfl⟩
    go_wp2
    go_ret2
    exact ⟨by rw [HV.out]; rfl, HB1.out⟩
  · have HV := Lib.hid (show onV x n d m = (0, argE x n d m) from if_neg h)
    have hne := h
    generalize argE x n d m = ae at *
    clear h
    go_enter Try.func11, Try.ntmps11
    have xP0 := P_0.out.c0
    have xP1 := P_0.out.c1
    go_wp2_with fail
    refine (HA.out _).mono ?_
    rintro e W1 ⟨rfl, hb⟩
    clear xP0 xP1
    have HB1 := Lib.hid (HB0.out.trans (hb.mono HB0.out.size))
    have P_1 := Lib.hid (P_0.out.below hb P_0.out.lt)
    clear hb
    have xP0 := P_1.out.c0
    have xP1 := P_1.out.c1
    go_wp2
    go_ret2
    exact ⟨by rw [HV.out]; rfl, HB1.out⟩
set_option maxHeartbeats 2000000 in
theorem rIn_any (x n d m : Int) (w : World) (x1 : -9223372036854775808 ≤ x) (x2 : x ≤ 9223372036854775807) (n1 : -9223372036854775808 ≤ n) (n2 : n ≤ 9223372036854775807) (d1 : -9223372036854775808 ≤ d) (d2 : d ≤ 9223372036854775807) :
    Calls Try.prog 14 #[.int .i64 x, .agg #[.int .i64 n, .int .i64 d], .int .i64 m] w fun e w' => e = .returned (.tuple #[.int .i64 (inV x n d m).1, .int .i64 (inV x n d m).2.1, .int .i64 (inV x n d m).2.2]) ∧ Below w.heap.size w w' := by
  have HA := Lib.hid (fun W => ask_any x n d m W x1 x2 n1 n2 d1 d2)
  have HB0 := Lib.hid ((Below.refl w.heap.size w).alloc (Nat.le_refl _) (Obj.cells #[.int .i64 n, .int .i64 d] 23))
  have P_0 := Lib.hid (Cell2.alloc w (.int .i64 n) (.int .i64 d) 23)
  by_cases h : argE x n d m = 0
  · obtain ⟨⟨m1, m2⟩, ⟨e1, e2, e3, e4⟩, e5, e6⟩ := arg_ok h
    have HV := Lib.hid (show inV x n d m = (x - (mdV x n (n + d) m).1, (mdV x n (n + d) m).1, 0) from if_pos h)
    have HM := Lib.hid (fun W => rMulDiv_any x n (n + d) m W x1 x2 n1 n2 (by omega) (by omega))
    have hmd := md_rate (x := x) (n := n) (c := (n + d)) m1 m2 (by omega) e3 (by omega) (by omega) (by omega)
    rw [h] at HA
    generalize mdV x n (n + d) m = v at *
    obtain ⟨v1, v2⟩ := v
    have hv2 : v2 = 0 := hmd.1
    have hv1 : absI v1 ≤ absI x := hmd.2.1
    have b1 : -1000000000000000 ≤ v1 ∧ v1 ≤ 1000000000000000 := by unfold absI at hv1; split at hv1 <;> split at hv1 <;> omega
    obtain ⟨b1, b2⟩ := b1
    subst hv2
    clear hmd hv1 h
    go_enter Try.func14, Try.ntmps14
    have xP0 := P_0.out.c0
    have xP1 := P_0.out.c1
    go_wp2_with fail
    refine (HA.out _).mono ?_
    rintro e W1 ⟨rfl, hb⟩
    clear xP0 xP1
    have HB1 := Lib.hid (HB0.out.trans (hb.mono HB0.out.size))
    have P_1 := Lib.hid (P_0.out.below hb P_0.out.lt)
    clear hb
    have xP0 := P_1.out.c0
    have xP1 := P_1.out.c1
    go_wp2_with fail
    refine (HM.out _).mono ?_
    rintro e w_ ⟨rfl, rfl⟩
    go_wp2
    go_ret3
    exact ⟨by rw [HV.out]; rfl, HB1.out⟩
  · have HV := Lib.hid (show inV x n d m = (0, 0, argE x n d m) from if_neg h)
    have hne := h
    generalize argE x n d m = ae at *
    clear h
    go_enter Try.func14, Try.ntmps14
    have xP0 := P_0.out.c0
    have xP1 := P_0.out.c1
    go_wp2_with fail
    refine (HA.out _).mono ?_
    rintro e W1 ⟨rfl, hb⟩
    clear xP0 xP1
    have HB1 := Lib.hid (HB0.out.trans (hb.mono HB0.out.size))
    have P_1 := Lib.hid (P_0.out.below hb P_0.out.lt)
    clear hb
    have xP0 := P_1.out.c0
    have xP1 := P_1.out.c1
    go_wp2
    go_ret3
    exact ⟨by rw [HV.out]; rfl, HB1.out⟩
end Go.Proofs.Ytelahgmnkhkgkaa
