/- The examples of package split: lives returns true. -/
import Derived.Test.YtmkjckmaaafmkaaSpU
namespace Go.Proofs.Ytmkjckmaaafmkaa
open Go.RowKit Go.Sort
set_option linter.unusedVariables false
set_option linter.unusedSimpArgs false

theorem shC (W : World) (x : Int) (zs ys : List Int) (n m : Nat) (er : Int) (hn : zs.length = n) (hE : shE x zs = er) (hO : shO x zs = ys) (hm : ys.length = m) (hz : ∀ z ∈ zs, -9223372036854775808 ≤ z ∧ z ≤ 9223372036854775807) (hl : n ≤ 1000) (x1 : -9223372036854775808 ≤ x) (x2 : x ≤ 9223372036854775807) :
    Calls Try.prog 12 #[.int .i64 x, .slice (some ⟨W.heap.size, 0, none⟩) n n] (W.alloc (.cells (zs.map (Value.int .i64)).toArray 3)) fun e w' => ∃ A, e = .returned (.tuple #[.slice A m m, .int .i64 er]) ∧ Row w' A ys ∧ Below W.heap.size W w' := by
  subst hn
  refine (shares_any x _ zs.length zs _ (row_lit W 3 zs hz) (by omega) x1 x2).mono ?_
  intro e w' h
  obtain ⟨_, A, rfl, h1, h2⟩ := shP_shQ h
  rw [hO] at h1
  refine ⟨A, by rw [hE, hO, hm], h1, ((Below.refl _ _).alloc (Nat.le_refl _) _).trans (h2.mono (by simp))⟩
theorem evC (W : World) (x n : Int) (ys : List Int) (m : Nat) (er : Int) (hE : evE x n = er) (hO : evO x n = ys) (hm : ys.length = m) (x1 : -9223372036854775808 ≤ x) (x2 : x ≤ 9223372036854775807) :
    Calls Try.prog 16 #[.int .i64 x, .int .i64 n] W fun e w' => ∃ A, e = .returned (.tuple #[.slice A m m, .int .i64 er]) ∧ Row w' A ys ∧ Below W.heap.size W w' := by
  refine (even_all x n W x1 x2).mono ?_
  rintro e w' ⟨_, A, rfl, h1, h2⟩
  rw [hO] at h1
  exact ⟨A, by rw [hE, hO, hm], h1, h2⟩
theorem smC (W : World) (A : Option Addr) (ys : List Int) (n : Nat) (hn : ys.length = n) (hl : n ≤ 1000) (hA : Row W A ys) :
    Calls Try.prog 15 #[.slice A n n, .slice (some ⟨W.heap.size, 0, none⟩) n n] (W.alloc (.cells (ys.map (Value.int .i64)).toArray 3)) fun e w' => e = .returned (.bool true) ∧ Below W.heap.size W w' := by
  subst hn
  refine (same_any A _ ys.length ys.length ys ys _ (row_b hA ((Below.refl _ _).alloc (Nat.le_refl _) _)) (row_lit W 3 ys hA.2) hl hl).mono ?_
  rintro e w' ⟨rfl, h⟩
  exact ⟨by simp, ((Below.refl _ _).alloc (Nat.le_refl _) _).trans (h.mono (by simp))⟩
theorem shL_1 : shE 100 [1, 1, 1] = 0 ∧ shO 100 [1, 1, 1] = [34, 33, 33] := by decide
theorem shL_2 : shE (-7) [3, 0, 1] = 0 ∧ shO (-7) [3, 0, 1] = [-5, 0, -2] := by decide
theorem shL_3 : shE 10 [3, 3, 1] = 0 ∧ shO 10 [3, 3, 1] = [4, 4, 2] := by decide
theorem shL_4 : shE 1 [0, 0] = 2 ∧ shO 1 [0, 0] = [] := by decide
theorem evL_1 : evE 5 3 = 0 ∧ evO 5 3 = [2, 2, 1] := by decide
theorem evL_2 : evE 1 0 = 2 ∧ evO 1 0 = [] := by decide
set_option maxRecDepth 100000 in
set_option maxHeartbeats 4000000 in
theorem lives_any (w : World) : Calls Try.prog 13 #[] w fun e w' => e = .returned (.bool true) ∧ Below w.heap.size w w' := by
  have C1 := Lib.hid (fun W => shC W 100 [1, 1, 1] [34, 33, 33] 3 3 0 rfl shL_1.1 shL_1.2 rfl (by simp) (by omega) (by omega) (by omega))
  have C2 := Lib.hid (fun W => shC W (-7) [3, 0, 1] [-5, 0, -2] 3 3 0 rfl shL_2.1 shL_2.2 rfl (by simp) (by omega) (by omega) (by omega))
  have C3 := Lib.hid (fun W => shC W 10 [3, 3, 1] [4, 4, 2] 3 3 0 rfl shL_3.1 shL_3.2 rfl (by simp) (by omega) (by omega) (by omega))
  have C4 := Lib.hid (fun W => evC W 5 3 [2, 2, 1] 3 0 evL_1.1 evL_1.2 rfl (by omega) (by omega))
  have C5 := Lib.hid (fun W => shC W 1 [0, 0] [] 2 0 2 rfl shL_4.1 shL_4.2 rfl (by simp) (by omega) (by omega) (by omega))
  have C6 := Lib.hid (fun W => evC W 1 0 [] 0 2 evL_2.1 evL_2.2 rfl (by omega) (by omega))
  have HS := Lib.hid (fun W A ys hn hA => smC W A ys 3 hn (by omega) hA)
  go_enter Try.func13, Try.ntmps13
  go_wp2_with fail
  refine (C1.out _).mono ?_
  rintro e w1 ⟨A1, rfl, r1, b1⟩
  have R1 := Lib.hid r1
  have B1 := Lib.hid b1
  clear r1 b1
  go_wp2_with fail
  refine (C2.out _).mono ?_
  rintro e w2 ⟨A2, rfl, r2, b2⟩
  have R1 := Lib.hid (row_b R1.out b2)
  have R2 := Lib.hid r2
  have B1 := Lib.hid (B1.out.trans (b2.mono B1.out.size))
  clear r2 b2
  go_wp2_with fail
  refine (C3.out _).mono ?_
  rintro e w3 ⟨A3, rfl, r3, b3⟩
  have R1 := Lib.hid (row_b R1.out b3)
  have R2 := Lib.hid (row_b R2.out b3)
  have R3 := Lib.hid r3
  have B1 := Lib.hid (B1.out.trans (b3.mono B1.out.size))
  clear r3 b3
  go_wp2_with fail
  refine (C4.out _).mono ?_
  rintro e w4 ⟨A4, rfl, r4, b4⟩
  have R1 := Lib.hid (row_b R1.out b4)
  have R2 := Lib.hid (row_b R2.out b4)
  have R3 := Lib.hid (row_b R3.out b4)
  have R4 := Lib.hid r4
  have B1 := Lib.hid (B1.out.trans (b4.mono B1.out.size))
  clear r4 b4
  go_wp2_with fail
  refine (C5.out _).mono ?_
  rintro e w5 ⟨A5, rfl, r5, b5⟩
  have R1 := Lib.hid (row_b R1.out b5)
  have R2 := Lib.hid (row_b R2.out b5)
  have R3 := Lib.hid (row_b R3.out b5)
  have R4 := Lib.hid (row_b R4.out b5)
  have B1 := Lib.hid (B1.out.trans (b5.mono B1.out.size))
  clear r5 b5
  go_wp2_with fail
  refine (C6.out _).mono ?_
  rintro e w6 ⟨A6, rfl, r6, b6⟩
  have R1 := Lib.hid (row_b R1.out b6)
  have R2 := Lib.hid (row_b R2.out b6)
  have R3 := Lib.hid (row_b R3.out b6)
  have R4 := Lib.hid (row_b R4.out b6)
  have B1 := Lib.hid (B1.out.trans (b6.mono B1.out.size))
  clear r6 b6
  go_wp2_with fail
  refine (HS.out _ A1 [34, 33, 33] rfl R1.out).mono ?_
  rintro e w7 ⟨rfl, b7⟩
  have R2 := Lib.hid (row_b R2.out b7)
  have R3 := Lib.hid (row_b R3.out b7)
  have R4 := Lib.hid (row_b R4.out b7)
  have B1 := Lib.hid (B1.out.trans (b7.mono B1.out.size))
  clear b7
  go_wp2_with fail
  refine (HS.out _ A2 [-5, 0, -2] rfl R2.out).mono ?_
  rintro e w8 ⟨rfl, b8⟩
  have R3 := Lib.hid (row_b R3.out b8)
  have R4 := Lib.hid (row_b R4.out b8)
  have B1 := Lib.hid (B1.out.trans (b8.mono B1.out.size))
  clear b8
  go_wp2_with fail
  refine (HS.out _ A3 [4, 4, 2] rfl R3.out).mono ?_
  rintro e w9 ⟨rfl, b9⟩
  have R4 := Lib.hid (row_b R4.out b9)
  have B1 := Lib.hid (B1.out.trans (b9.mono B1.out.size))
  clear b9
  go_wp2_with fail
  refine (HS.out _ A4 [2, 2, 1] rfl R4.out).mono ?_
  rintro e w10 ⟨rfl, b10⟩
  have B1 := Lib.hid (B1.out.trans (b10.mono B1.out.size))
  clear b10
  go_wp2
  go_ret
  exact ⟨rfl, B1.out⟩
end Go.Proofs.Ytmkjckmaaafmkaa
