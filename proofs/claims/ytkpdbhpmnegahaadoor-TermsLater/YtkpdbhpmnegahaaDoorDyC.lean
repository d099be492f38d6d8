/- What isDay, Is, leapsBefore, yearStart, isBefore and exists return. -/
import Derived.Test.YtkpdbhpmnegahaaDoorDyM
namespace Go.Proofs.YtkpdbhpmnegahaaDoor
open Go.RowKit
set_option linter.unusedVariables false

set_option maxHeartbeats 400000 in
theorem isDay_any (n : Int) (w : World) (n1 : -9223372036854775808 ≤ n) (n2 : n ≤ 9223372036854775807) :
    Calls Tryd.prog 56 #[.int .i64 n] w fun e w' => e = .returned (.bool (decide (0 ≤ n ∧ n ≤ 109572))) ∧ w = w' := by
  by_cases h1 : n < 0
  · rw [decide_eq_false (by omega)]
    go_enter Tryd.func56, Tryd.ntmps56
    go_wp2
    go_ret
    exact ⟨rfl, rfl⟩
  by_cases h2 : n ≤ 109572
  · rw [decide_eq_true (by omega)]
    go_enter Tryd.func56, Tryd.ntmps56
    go_wp2
    go_ret
    exact ⟨rfl, rfl⟩
  · rw [decide_eq_false (by omega)]
    go_enter Tryd.func56, Tryd.ntmps56
    go_wp2
    go_ret
    exact ⟨rfl, rfl⟩

set_option maxHeartbeats 400000 in
theorem leapsBefore_any (y : Int) (w : World) (y1 : 1 ≤ y) (y2 : y ≤ 3000) :
    Calls Tryd.prog 76 #[.int .i64 y] w fun e w' => e = .returned (.int .i64 (leaps y)) ∧ w = w' := by
  have b1 : (y - 1).tdiv 4 = (y - 1) / 4 := Int.tdiv_eq_ediv_of_nonneg (by omega)
  have b2 : (y - 1).tdiv 100 = (y - 1) / 100 := Int.tdiv_eq_ediv_of_nonneg (by omega)
  have b3 : (y - 1).tdiv 400 = (y - 1) / 400 := Int.tdiv_eq_ediv_of_nonneg (by omega)
  have k1 : 0 ≤ (y - 1).tdiv 4 ∧ (y - 1).tdiv 4 ≤ 3000 := by omega
  have k2 : 0 ≤ (y - 1).tdiv 100 ∧ (y - 1).tdiv 100 ≤ 3000 := by omega
  have k3 : 0 ≤ (y - 1).tdiv 400 ∧ (y - 1).tdiv 400 ≤ 3000 := by omega
  clear b1 b2 b3
  obtain ⟨k11, k12⟩ := k1
  obtain ⟨k21, k22⟩ := k2
  obtain ⟨k31, k32⟩ := k3
  unfold leaps
  go_enter Tryd.func76, Tryd.ntmps76
  go_wp2
  go_ret
  exact ⟨rfl, rfl⟩

theorem leaps_b {y : Int} (y1 : 1 ≤ y) (y2 : y ≤ 3000) : 0 ≤ leaps y ∧ leaps y ≤ 3000 := by
  rw [leaps_of y1]; omega
set_option maxHeartbeats 400000 in
theorem yearStart_any (y : Int) (w : World) (y1 : 1900 ≤ y) (y2 : y ≤ 3000) :
    Calls Tryd.prog 57 #[.int .i64 y] w fun e w' => e = .returned (.int .i64 (startV y)) ∧ w = w' := by
  obtain ⟨b1, b2⟩ := leaps_b (y := y) (by omega) y2
  have H1 := Lib.hid (leapsBefore_any y w (by omega) y2)
  have H2 := Lib.hid (leapsBefore_any 1900 w (by omega) (by omega))
  have e0 : leaps 1900 = 460 := by decide
  rw [e0] at H2
  unfold startV
  generalize leaps y = z at *
  go_enter Tryd.func57, Tryd.ntmps57
  go_wp2_with fail
  refine H1.out.mono ?_
  rintro e w' ⟨rfl, rfl⟩
  go_wp2_with fail
  refine H2.out.mono ?_
  rintro e w' ⟨rfl, rfl⟩
  go_wp2
  go_ret
  exact ⟨rfl, rfl⟩

/-- a date of three integers is earlier than another. -/
def befV (a b c x y z : Int) : Bool := decide (a < x ∨ (a = x ∧ (b < y ∨ (b = y ∧ c < z))))
theorem two_cells (w : World) (A C : Array Value) (t u : TypeId) (j : Nat) :
    ((w.alloc (Obj.cells A t)).alloc (Obj.cells C u)).cell? ⟨w.heap.size, j, none⟩ = A[j]? ∧ ((w.alloc (Obj.cells A t)).alloc (Obj.cells C u)).cell? ⟨w.heap.size + 1, j, none⟩ = C[j]? := by
  constructor
  · rw [World.cell?_alloc_past _ _ _ (by simp), World.cell?_alloc_at _ _ _ _ rfl]
  · rw [World.cell?_alloc_at _ _ _ _ (by simp)]
theorem below_drewNy {B : Nat} {a w : World} (h : Below B a w) (n : Nat) : Below B a (w.drewN n) := ⟨h.os, h.tape, h.output, h.size, h.block⟩
def Three (w : World) (B : Nat) (a b c x y z : Int) : Prop :=
  w.cell? ⟨B, 0, none⟩ = some (.int .i64 a) ∧ w.cell? ⟨B, 1, none⟩ = some (.int .i64 b) ∧ w.cell? ⟨B, 2, none⟩ = some (.int .i64 c) ∧
  w.cell? ⟨B + 1, 0, none⟩ = some (.int .i64 x) ∧ w.cell? ⟨B + 1, 1, none⟩ = some (.int .i64 y) ∧ w.cell? ⟨B + 1, 2, none⟩ = some (.int .i64 z)
theorem bef_yes {a b c x y z : Int} (h : a < x ∨ (a = x ∧ (b < y ∨ (b = y ∧ c < z)))) : befV a b c x y z = true := by unfold befV; exact decide_eq_true h
theorem bef_no {a b c x y z : Int} (h : ¬ (a < x ∨ (a = x ∧ (b < y ∨ (b = y ∧ c < z))))) : befV a b c x y z = false := by unfold befV; exact decide_eq_false h
theorem bef_1 {a b c x y z : Int} (h : a ≠ x) : decide (a < x) = befV a b c x y z := by unfold befV; apply decide_eq_decide.2; omega
theorem bef_2 {a b c x y z : Int} (h : a = x) (h2 : b ≠ y) : decide (b < y) = befV a b c x y z := by unfold befV; apply decide_eq_decide.2; omega
theorem bef_3 {a b c x y z : Int} (h : a = x) (h2 : b = y) (h3 : c ≠ z) : decide (c < z) = befV a b c x y z := by unfold befV; apply decide_eq_decide.2; omega
set_option maxHeartbeats 400000 in
theorem isBefore_any (a b c x y z : Int) (w : World) :
    Calls Tryd.prog 77 #[.agg #[.int .i64 a, .int .i64 b, .int .i64 c], .agg #[.int .i64 x, .int .i64 y, .int .i64 z]] w fun e w' => e = .returned (.bool (befV a b c x y z)) ∧ Below w.heap.size w w' := by
  have h0 : Three ((w.alloc (Obj.cells #[.int .i64 a, .int .i64 b, .int .i64 c] 119)).alloc (Obj.cells #[.int .i64 x, .int .i64 y, .int .i64 z] 119)) w.heap.size a b c x y z := by
    refine ⟨?_, ?_, ?_, ?_, ?_, ?_⟩
    · rw [(two_cells w _ _ _ _ 0).1]; rfl
    · rw [(two_cells w _ _ _ _ 1).1]; rfl
    · rw [(two_cells w _ _ _ _ 2).1]; rfl
    · rw [(two_cells w _ _ _ _ 0).2]; rfl
    · rw [(two_cells w _ _ _ _ 1).2]; rfl
    · rw [(two_cells w _ _ _ _ 2).2]; rfl
  have hb0 : Below w.heap.size w ((w.alloc (Obj.cells #[.int .i64 a, .int .i64 b, .int .i64 c] 119)).alloc (Obj.cells #[.int .i64 x, .int .i64 y, .int .i64 z] 119)) :=
    ((Below.refl _ _).alloc (Nat.le_refl _) _).alloc (by simp) _
  have H0 := Lib.hid h0
  have HB := Lib.hid hb0
  clear h0 hb0
  go_enter Tryd.func77, Tryd.ntmps77
  go_wp2
  go_loopw [6] (fun i wr => ∃ k : Nat, k ≤ 3 ∧ i = .int .i64 k ∧ Hid (0 < k → a = x) ∧ Hid (1 < k → b = y) ∧ Hid (2 < k → c = z) ∧ Hid (Three wr w.heap.size a b c x y z) ∧ Hid (Below w.heap.size w wr)) (fun i _ => 3 - (intOf i).toNat)
  case atStart => exact ⟨0, by omega, rfl, Lib.hid (by omega), Lib.hid (by omega), Lib.hid (by omega), H0, HB⟩
  case round =>
    obtain ⟨k, hk, rfl, G1, G2, G3, HT, HW⟩ := hrel
    match k, hk with
    | 0, _ =>
      obtain ⟨c1, c2, c3, c4, c5, c6⟩ := HT.out
      clear c2 c3 c5 c6
      by_cases h : a = x
      · have hn : (a != x) = false := by simpa using h
        go_wp2
        go_quiet (fail)
        go_wp2
        go_roundw
        case rel => exact ⟨1, by omega, by go_num, Lib.hid (fun _ => h), Lib.hid (by omega), Lib.hid (by omega), HT, Lib.hid (below_drewNy HW.out _)⟩
        case measure => simp [intOf]
      · have hn : (a != x) = true := by simpa using h
        go_wp2
        go_quiet (fail)
        go_wp2
        go_quiet (fail)
        go_wp2
        go_ret
        exact ⟨by rw [← bef_1 h]; rfl, below_drewNy (below_drewNy HW.out _) _⟩
    | 1, _ =>
      obtain ⟨c1, c2, c3, c4, c5, c6⟩ := HT.out
      clear c1 c3 c4 c6
      have HG1 := Lib.hid (G1.out (by omega))
      by_cases h : b = y
      · have hn : (b != y) = false := by simpa using h
        go_wp2
        go_quiet (fail)
        go_wp2
        go_roundw
        case rel => exact ⟨2, by omega, by go_num, Lib.hid (fun _ => HG1.out), Lib.hid (fun _ => h), Lib.hid (by omega), HT, Lib.hid (below_drewNy HW.out _)⟩
        case measure => simp [intOf]
      · have hn : (b != y) = true := by simpa using h
        go_wp2
        go_quiet (fail)
        go_wp2
        go_quiet (fail)
        go_wp2
        go_ret
        exact ⟨by rw [← bef_2 HG1.out h]; rfl, below_drewNy (below_drewNy HW.out _) _⟩
    | 2, _ =>
      obtain ⟨c1, c2, c3, c4, c5, c6⟩ := HT.out
      clear c1 c2 c4 c5
      have HG1 := Lib.hid (G1.out (by omega))
      have HG2 := Lib.hid (G2.out (by omega))
      by_cases h : c = z
      · have hn : (c != z) = false := by simpa using h
        go_wp2
        go_quiet (fail)
        go_wp2
        go_roundw
        case rel => exact ⟨3, by omega, by go_num, Lib.hid (fun _ => HG1.out), Lib.hid (fun _ => HG2.out), Lib.hid (fun _ => h), HT, Lib.hid (below_drewNy HW.out _)⟩
        case measure => simp [intOf]
      · have hn : (c != z) = true := by simpa using h
        go_wp2
        go_quiet (fail)
        go_wp2
        go_quiet (fail)
        go_wp2
        go_ret
        exact ⟨by rw [← bef_3 HG1.out HG2.out h]; rfl, below_drewNy (below_drewNy HW.out _) _⟩
    | 3, _ =>
      go_wp2
      go_ret
      have h1 := G1.out (by omega)
      have h2 := G2.out (by omega)
      have h3 := G3.out (by omega)
      exact ⟨by rw [bef_no (by omega)]; rfl, HW.out⟩

theorem eqArr (a b c x y z : Int) (w : World) : (Op.equalIn 10000 119 (.agg #[.int .i64 a, .int .i64 b, .int .i64 c]) (.agg #[.int .i64 x, .int .i64 y, .int .i64 z])).run Tryd.prog w = .ok (a == x && b == y && c == z) w := by
  have u3 := Tryd.underlying3
  have a3 := Tryd.isAgg3
  have z3 := Tryd.sizeOf3
  rw [show (10000 : Nat) = 9999 + 1 from rfl, Op.equalIn]
  simp only [Sem.run_bind, run_underlying Tryd.underlying119, Result.andThen_ok]
  simp only [Std.Legacy.Range.forIn_eq_forIn_range', Std.Legacy.Range.size, Nat.sub_zero, Nat.add_sub_cancel, Nat.div_one, List.range'_succ, List.range'_zero, List.forIn_cons, List.forIn_nil]
  go_simp
  by_cases h1 : a = x <;> by_cases h2 : b = y <;> by_cases h3 : c = z <;> simp [h1, h2, h3]
theorem Tab.alloc {w : World} (h : Tab w) (o : Obj) : Tab (w.alloc o) := h.below ((Below.refl _ _).alloc (Nat.le_refl _) _)
theorem Tab.drewN {w : World} (h : Tab w) (n : Nat) : Tab (w.drewN n) := h.below (below_drewNy (Below.refl _ _) n)
theorem length_q (y m : Int) (w : World) (h : Tab w) (y1 : -9223372036854775808 ≤ y) (y2 : y ≤ 9223372036854775807) (m1 : -9223372036854775808 ≤ m) (m2 : m ≤ 9223372036854775807) :
    Calls Tryd.prog 38 #[.int .i64 y, .int .i64 m] w fun e w' => e = .returned (.int .i64 (lenV y m)) ∧ w' = w :=
  (length_any y m w h y1 y2 m1 m2).mono fun _ _ h => ⟨h.1, h.2.symm⟩

set_option maxHeartbeats 400000 in
theorem exists_any (y m d : Int) (w : World) (ht : Tab w) (y1 : -9223372036854775808 ≤ y) (y2 : y ≤ 9223372036854775807) (m1 : -9223372036854775808 ≤ m) (m2 : m ≤ 9223372036854775807) (d1 : -9223372036854775808 ≤ d) (d2 : d ≤ 9223372036854775807) :
    Calls Tryd.prog 59 #[.agg #[.int .i64 y, .int .i64 m, .int .i64 d]] w fun e w' => e = .returned (.bool (decide (Valid y m d))) ∧ Below w.heap.size w w' := by
  by_cases h1 : y < 1900
  · have k1 : decide (y < 1900) = true := decide_eq_true h1
    rw [decide_eq_false (p := Valid y m d) (by unfold Valid; omega)]
    go_enter Tryd.func59, Tryd.ntmps59
    go_wp2
    go_quiet (fail)
    go_wp2
    go_ret
    exact ⟨rfl, below_drewNy ((Below.refl _ _).alloc (Nat.le_refl _) _) _⟩
  have k1 : decide (y < 1900) = false := decide_eq_false h1
  by_cases h2 : d < 1
  · have k2 : decide (d < 1) = true := decide_eq_true h2
    rw [decide_eq_false (p := Valid y m d) (by unfold Valid; omega)]
    go_enter Tryd.func59, Tryd.ntmps59
    go_wp2
    go_quiet (fail)
    go_wp2
    go_ret
    exact ⟨rfl, below_drewNy ((Below.refl _ _).alloc (Nat.le_refl _) _) _⟩
  have k2 : decide (d < 1) = false := decide_eq_false h2
  by_cases h3 : lenV y m < d
  · have k3 : decide (lenV y m < d) = true := decide_eq_true h3
    rw [decide_eq_false (p := Valid y m d) (by unfold Valid; omega)]
    go_enter Tryd.func59, Tryd.ntmps59
    go_wp2
    go_quiet ((go_at_call 38; exact Calls.quiet_of_same (length_q _ _ _ ((ht.alloc _).drewN _) y1 y2 m1 m2)))
    go_wp2
    go_ret
    exact ⟨rfl, below_drewNy ((Below.refl _ _).alloc (Nat.le_refl _) _) _⟩
  have k3 : decide (lenV y m < d) = false := decide_eq_false h3
  have hm : 1 ≤ m ∧ m ≤ 12 := by
    rcases Decidable.em (m < 1 ∨ 12 < m) with k | k
    · rw [lenV_out k] at h3; omega
    · omega
  have hl := lenV_all y m
  have hq := fun w => eqArr y m d 2199 12 31 w
  have HV := Lib.hid (show decide (Valid y m d) = decide (y ≤ 2199) from decide_eq_decide.2 (by unfold Valid; omega))
  have HB := Lib.hid (fun w => isBefore_any y m d 2199 12 31 w)
  by_cases h4 : y = 2199 ∧ m = 12 ∧ d = 31
  · obtain ⟨rfl, rfl, rfl⟩ := h4
    rw [HV.out]
    clear HV
    go_enter Tryd.func59, Tryd.ntmps59
    go_wp2
    go_quiet ((go_at_call 38; exact Calls.quiet_of_same (length_q _ _ _ ((ht.alloc _).drewN _) y1 y2 m1 m2)))
    go_wp2
    go_ret
    exact ⟨rfl, ((below_drewNy ((Below.refl _ _).alloc (Nat.le_refl _) _) _).alloc (by simp [World.drewN]) _).alloc (by simp [World.drewN]; omega) _⟩
  · have k4 : (y == 2199 && m == 12 && d == 31) = false := by
      rw [Bool.eq_false_iff]; intro h; simp at h; exact h4 ⟨h.1.1, h.1.2, h.2⟩
    have HF := Lib.hid (show befV y m d 2199 12 31 = decide (Valid y m d) by rw [HV.out]; unfold befV; apply decide_eq_decide.2; omega)
    clear HV
    have hq2 : ∀ w, (Op.equalIn 10000 119 (.agg #[.int .i64 y, .int .i64 m, .int .i64 d]) (.agg #[.int .i64 2199, .int .i64 12, .int .i64 31])).run Tryd.prog w = .ok false w := fun w => by rw [hq w, k4]
    clear hq k4 h4
    go_enter Tryd.func59, Tryd.ntmps59
    go_wp2
    go_quiet ((go_at_call 38; exact Calls.quiet_of_same (length_q _ _ _ ((ht.alloc _).drewN _) y1 y2 m1 m2)))
    go_wp2_with fail
    refine (HB.out _).mono ?_
    rintro e w' ⟨rfl, hb⟩
    go_wp2
    go_ret
    refine ⟨by rw [← HF.out]; rfl, ?_⟩
    refine Below.trans ?_ (hb.mono (by simp [World.drewN]; omega))
    exact ((below_drewNy ((Below.refl _ _).alloc (Nat.le_refl _) _) _).alloc (by simp [World.drewN]) _).alloc (by simp [World.drewN]; omega) _
end Go.Proofs.YtkpdbhpmnegahaaDoor
