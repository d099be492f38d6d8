/- The laws MuldivDivides and MuldivModes return true, for all integers of 64 bits. -/
import Derived.Test.YtbmggfeneieglaaMdM
namespace Go.Proofs.Ytbmggfeneieglaa
open Go.RowKit
set_option linter.unusedVariables false

theorem wrap_sum (x r : Int) : wrap64 (wrap64 x + r) = wrap64 (x + r) := by unfold wrap64; omega

set_option maxRecDepth 100000 in
set_option maxHeartbeats 2000000 in
theorem muldivDivides_walk (a b c : Int) (w : World) (wa : (Lit.int .i64 a).wf = true) (wb : (Lit.int .i64 b).wf = true) (wc : (Lit.int .i64 c).wf = true) :
    Calls Try.prog 13 #[.int .i64 a, .int .i64 b, .int .i64 c] w fun e w' => e = .returned (.bool true) ∧ Below w.heap.size w w' := by
  obtain ⟨a1, a2⟩ := i64_range wa
  obtain ⟨b1, b2⟩ := i64_range wb
  obtain ⟨c1, c2⟩ := i64_range wc
  clear wa wb wc
  have C1 := Lib.hid (fun W => mulDiv_any a b c 5 W a1 a2 b1 b2 c1 c2)
  have C2 := Lib.hid (fun W => mod_any a b c W a1 a2 b1 b2 c1 c2)
  have C7 := Lib.hid (fun W => lives2_any W)
  have hF := fun hc => @floor_mod a b c hc
  obtain ⟨q1, q2⟩ := mdV_bd a b c 5
  generalize hq : (mdV a b c 5).1 = q at *
  generalize he : (mdV a b c 5).2 = e at *
  generalize hr : (moV a b c).1 = r at *
  generalize hf : (moV a b c).2 = f at *
  clear hq he hr hf
  by_cases hc : c < 1
  · have k1 : decide (c < 1) = true := by simpa using hc
    clear hF
    go_enter Try.func13, Try.ntmps13
    go_wp2_with fail
    refine (C1.out _).mono ?_
    rintro e w1 ⟨rfl, h1⟩
    go_wp2_with fail
    refine (C2.out _).mono ?_
    rintro e w2 ⟨rfl, h2⟩
    have g2 := below_next h1 h1.size h2
    go_wp2_with fail
    refine (C7.out _).mono ?_
    rintro e w3 ⟨rfl, h3⟩
    have g3 := below_next g2 g2.size h3
    go_wp2
    go_ret
    exact ⟨rfl, g3⟩
  · have k1 : decide (c < 1) = false := by simpa using hc
    by_cases hz : e = 0
    · obtain ⟨rfl, r0, rc, hP⟩ := hF (by omega) hz
      subst hz
      clear hF
      have k2 : decide (0 ≤ r) = true := by simpa using r0
      have k3 : decide (r < c) = true := by simpa using rc
      have k4 : (wrap64 (wrap64 (q * c) + r) == wrap64 (a * b)) = true := by rw [wrap_sum, hP]; simp
      have C3 := Lib.hid (fun W => cmp_any q c a b W q1 q2 c1 c2 a1 a2 b1 b2)
      have k5 : decide (cmpI (q * c) (a * b) ≤ 0) = true := by
        have : cmpI (q * c) (a * b) ≤ 0 := by
          unfold cmpI; split
          · omega
          · rw [if_neg (by omega)]; omega
        simpa using this
      generalize cmpI (q * c) (a * b) = t at *
      clear hP
      go_enter Try.func13, Try.ntmps13
      go_wp2_with fail
      refine (C1.out _).mono ?_
      rintro e w1 ⟨rfl, h1⟩
      go_wp2_with fail
      refine (C2.out _).mono ?_
      rintro e w2 ⟨rfl, h2⟩
      have g2 := below_next h1 h1.size h2
      go_wp2_with fail
      refine (C3.out _).mono ?_
      rintro e w3 ⟨rfl, h3⟩
      have g3 := below_next g2 g2.size h3
      go_wp2_with fail
      refine (C7.out _).mono ?_
      rintro e w4 ⟨rfl, h4⟩
      have g4 := below_next g3 g3.size h4
      go_wp2
      go_ret
      exact ⟨rfl, g4⟩
    · have k2 : (e != 0) = true := by simpa using hz
      clear hF
      go_enter Try.func13, Try.ntmps13
      go_wp2_with fail
      refine (C1.out _).mono ?_
      rintro e w1 ⟨rfl, h1⟩
      go_wp2_with fail
      refine (C2.out _).mono ?_
      rintro e w2 ⟨rfl, h2⟩
      have g2 := below_next h1 h1.size h2
      go_wp2_with fail
      refine (C7.out _).mono ?_
      rintro e w3 ⟨rfl, h3⟩
      have g3 := below_next g2 g2.size h3
      go_wp2
      go_ret
      exact ⟨rfl, g3⟩

/-- all modes before k gave q. -/
def SameTo (a b c q : Int) (k : Nat) (s : Bool) : Prop := s = true ↔ ∀ m : Nat, 1 ≤ m → m < k → (mdV a b c m).1 = q
theorem same_start (a b c q : Int) : SameTo a b c q 1 true := ⟨fun _ m h1 h2 => by omega, fun _ => rfl⟩
theorem same_step {a b c q : Int} {k : Nat} {s t : Bool} (hk : 1 ≤ k) (h : SameTo a b c q k s) (ht : t = true ↔ (mdV a b c k).1 = q) : SameTo a b c q (k + 1) (s && t) := by
  unfold SameTo at *
  rw [Bool.and_eq_true, h, ht]
  constructor
  · rintro ⟨h1, h2⟩ m m1 m2
    by_cases e : m = k
    · subst e; exact h2
    · exact h1 m m1 (by omega)
  · intro h1
    exact ⟨fun m m1 m2 => h1 m m1 (by omega), h1 k hk (by omega)⟩
theorem same_end {a b c q : Int} {s : Bool} (hc : c ≠ 0) (he : (mdV a b c 5).2 = 0) (hq : (mdV a b c 5).1 = q) (q1 : -1000000000000000 ≤ q) (q2 : q ≤ 1000000000000000) (h : SameTo a b c q 6 s) : (s == ((moV a b c).1 == 0)) = true := by
  obtain ⟨_, g2, g3⟩ := modes_all hc he hq q1 q2
  unfold SameTo at h
  rw [beq_iff_eq, Bool.eq_iff_iff, h, beq_iff_eq]
  constructor
  · intro h1
    by_cases hr : (moV a b c).1 = 0
    · exact hr
    · rcases g3 hr with g | g
      · exact absurd (h1 1 (by omega) (by omega)) g
      · exact absurd (h1 2 (by omega) (by omega)) g
  · intro hr m m1 m2
    exact g2 hr m (by omega) (by omega)

set_option maxRecDepth 100000 in
set_option maxHeartbeats 2000000 in
theorem muldivModes_lives (a b c q e r f : Int) (w : World)
    (C1 : Hid (∀ W, Calls Try.prog 34 #[.int .i64 a, .int .i64 b, .int .i64 c, .int .i64 5] W fun x w' => x = .returned (.tuple #[.int .i64 q, .int .i64 e]) ∧ Below W.heap.size W w'))
    (C2 : Hid (∀ W, Calls Try.prog 36 #[.int .i64 a, .int .i64 b, .int .i64 c] W fun x w' => x = .returned (.tuple #[.int .i64 r, .int .i64 f]) ∧ Below W.heap.size W w'))
    (h : (e != 0) = true ∨ (e != 0) = false ∧ (f != 0) = true ∨ (e != 0) = false ∧ (f != 0) = false ∧ decide (1000000000000000 < q) = true ∨ (e != 0) = false ∧ (f != 0) = false ∧ decide (1000000000000000 < q) = false ∧ decide (q < -1000000000000000) = true) :
    Calls Try.prog 14 #[.int .i64 a, .int .i64 b, .int .i64 c] w fun e w' => e = .returned (.bool true) ∧ Below w.heap.size w w' := by
  have C7 := Lib.hid (fun W => lives2_any W)
  rcases h with k1 | ⟨k1, k2⟩ | ⟨k1, k2, k3⟩ | ⟨k1, k2, k3, k4⟩
  all_goals
    go_enter Try.func14, Try.ntmps14
    go_wp2_with fail
    refine (C1.out _).mono ?_
    rintro e w1 ⟨rfl, h1⟩
    go_wp2_with fail
    refine (C2.out _).mono ?_
    rintro e w2 ⟨rfl, h2⟩
    have g2 := below_next h1 h1.size h2
    go_wp2_with fail
    refine (C7.out _).mono ?_
    rintro e w3 ⟨rfl, h3⟩
    have g3 := below_next g2 g2.size h3
    go_wp2
    go_ret
    exact ⟨rfl, g3⟩

set_option maxRecDepth 100000 in
set_option maxHeartbeats 2000000 in
theorem muldivModes_loop (a b c q r : Int) (w : World) (a1 : -9223372036854775808 ≤ a) (a2 : a ≤ 9223372036854775807) (b1 : -9223372036854775808 ≤ b) (b2 : b ≤ 9223372036854775807) (c1 : -9223372036854775808 ≤ c) (c2 : c ≤ 9223372036854775807)
    (C1 : Hid (∀ W, Calls Try.prog 34 #[.int .i64 a, .int .i64 b, .int .i64 c, .int .i64 5] W fun x w' => x = .returned (.tuple #[.int .i64 q, .int .i64 0]) ∧ Below W.heap.size W w'))
    (C2 : Hid (∀ W, Calls Try.prog 36 #[.int .i64 a, .int .i64 b, .int .i64 c] W fun x w' => x = .returned (.tuple #[.int .i64 r, .int .i64 0]) ∧ Below W.heap.size W w'))
    (q1 : -1000000000000000 ≤ q) (q2 : q ≤ 1000000000000000)
    (hall : ∀ mode, 1 ≤ mode → mode ≤ 5 → (mdV a b c mode).2 = 0 ∧ ((mdV a b c mode).1 = q ∨ (mdV a b c mode).1 = q + 1))
    (hend : ∀ s, SameTo a b c q 6 s → (s == (r == 0)) = true) :
    Calls Try.prog 14 #[.int .i64 a, .int .i64 b, .int .i64 c] w fun e w' => e = .returned (.bool true) ∧ Below w.heap.size w w' := by
  have C7 := Lib.hid (fun W => lives2_any W)
  have C3 := Lib.hid (fun (m : Int) W => mulDiv_any a b c m W a1 a2 b1 b2 c1 c2)
  have HA := Lib.hid hall
  have HE := Lib.hid hend
  have k3 : decide (1000000000000000 < q) = false := by simp; omega
  have k4 : decide (q < -1000000000000000) = false := by simp; omega
  clear hall hend a1 a2 b1 b2 c1 c2
  go_enter Try.func14, Try.ntmps14
  go_wp2_with fail
  refine (C1.out _).mono ?_
  rintro e w1 ⟨rfl, h1⟩
  go_wp2_with fail
  refine (C2.out _).mono ?_
  rintro e w2 ⟨rfl, h2⟩
  have g2 := below_next h1 h1.size h2
  clear h1 h2
  go_wp2_with fail
  go_loopw [11, 12] (fun s m wr => ∃ (k : Nat) (t : Bool), 1 ≤ k ∧ k ≤ 6 ∧ m = .int .i64 k ∧ s = .bool t ∧ SameTo a b c q k t ∧ Below w.heap.size w wr) (fun _ m _ => 6 - (intOf m).toNat)
  case atStart => exact ⟨1, true, by omega, by omega, rfl, rfl, same_start a b c q, g2⟩
  case round =>
    obtain ⟨k, t, k1, k6, rfl, rfl, hs, hb⟩ := hrel
    have HS := Lib.hid hs
    clear hs
    by_cases hk : (k : Int) ≤ 5
    · have kk : decide ((k : Int) ≤ 5) = true := by simpa using hk
      obtain ⟨e0, hn⟩ := HA.out k (by omega) hk
      have C := C3.out k wr
      rw [e0] at C
      have C := Lib.hid C
      have HN : Hid (∀ u : Bool, (u = true ↔ (mdV a b c k).1 = q) → SameTo a b c q (k + 1) (t && u)) := fun u hu => same_step k1 HS.out hu
      generalize (mdV a b c k).1 = n at *
      clear e0
      rcases hn with rfl | rfl
      · have n1 : (n != n) = false := by simp
        have n3 : (n == n) = true := by simp
        cases t
        all_goals
          go_wp2_with fail
          refine C.out.mono ?_
          rintro e w3 ⟨rfl, h3⟩
          have g3 := below_next hb hb.size h3
          go_wp2
          go_roundw
          case rel => exact ⟨k + 1, _, by omega, by omega, by go_num, rfl, HN.out true (by simp), g3⟩
          case measure => simp [intOf]; omega
      · have n1 : (q + 1 != q) = true := by simp; omega
        have n2 : (q + 1 != q + 1) = false := by simp
        have n3 : (q + 1 == q) = false := by simp; omega
        cases t
        all_goals
          go_wp2_with fail
          refine C.out.mono ?_
          rintro e w3 ⟨rfl, h3⟩
          have g3 := below_next hb hb.size h3
          go_wp2
          go_roundw
          case rel => exact ⟨k + 1, _, by omega, by omega, by go_num, rfl, HN.out false (by simp; omega), g3⟩
          case measure => simp [intOf]; omega
    · have kk : decide ((k : Int) ≤ 5) = false := by simpa using hk
      have e6 : k = 6 := by omega
      have he := HE.out t (by rw [← e6]; exact HS.out)
      clear e6
      go_wp2_with fail
      refine (C7.out _).mono ?_
      rintro e w3 ⟨rfl, h3⟩
      have g3 := below_next hb hb.size h3
      go_wp2
      go_ret
      exact ⟨rfl, g3⟩

theorem muldivModes_walk (a b c : Int) (w : World) (wa : (Lit.int .i64 a).wf = true) (wb : (Lit.int .i64 b).wf = true) (wc : (Lit.int .i64 c).wf = true) :
    Calls Try.prog 14 #[.int .i64 a, .int .i64 b, .int .i64 c] w fun e w' => e = .returned (.bool true) ∧ Below w.heap.size w w' := by
  obtain ⟨a1, a2⟩ := i64_range wa
  obtain ⟨b1, b2⟩ := i64_range wb
  obtain ⟨c1, c2⟩ := i64_range wc
  have C1 := Lib.hid (fun W => mulDiv_any a b c 5 W a1 a2 b1 b2 c1 c2)
  have C2 := Lib.hid (fun W => mod_any a b c W a1 a2 b1 b2 c1 c2)
  by_cases he : (mdV a b c 5).2 = 0
  · by_cases hf : (moV a b c).2 = 0
    · by_cases h1 : 1000000000000000 < (mdV a b c 5).1
      · exact muldivModes_lives a b c _ _ _ _ w C1 C2 (.inr (.inr (.inl ⟨by simpa using he, by simpa using hf, by simpa using h1⟩)))
      · by_cases h2 : (mdV a b c 5).1 < -1000000000000000
        · exact muldivModes_lives a b c _ _ _ _ w C1 C2 (.inr (.inr (.inr ⟨by simpa using he, by simpa using hf, by simpa using h1, by simpa using h2⟩)))
        · have hc : c ≠ 0 := by rintro rfl; unfold moV at hf; simp at hf
          have hm := modes_all hc he rfl (by omega) (by omega)
          rw [he] at C1
          rw [hf] at C2
          exact muldivModes_loop a b c _ _ w a1 a2 b1 b2 c1 c2 C1 C2 (by omega) (by omega) hm.1 (fun s hs => same_end hc he rfl (by omega) (by omega) hs)
    · exact muldivModes_lives a b c _ _ _ _ w C1 C2 (.inr (.inl ⟨by simpa using he, by simpa using hf⟩))
  · exact muldivModes_lives a b c _ _ _ _ w C1 C2 (.inl (by simpa using he))
end Go.Proofs.Ytbmggfeneieglaa
