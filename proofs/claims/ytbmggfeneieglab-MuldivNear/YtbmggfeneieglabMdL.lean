/- The chapter's examples hold: lives of package accountinglaw02 returns true. -/
import Derived.Test.YtbmggfeneieglabMdS
namespace Go.Proofs.Ytbmggfeneieglab
open Go.RowKit
set_option linter.unusedVariables false

theorem div_is (a c mode : Int) (w : World) (a1 : -9223372036854775808 ≤ a) (a2 : a ≤ 9223372036854775807) (c1 : -9223372036854775808 ≤ c) (c2 : c ≤ 9223372036854775807) (x y : Int) (h : mdV a 1 c mode = (x, y)) :
    Calls Try.prog 46 #[.int .i64 a, .int .i64 c, .int .i64 mode] w fun e w' => e = .returned (.tuple #[.int .i64 x, .int .i64 y]) ∧ Below w.heap.size w w' := by
  have k := div_any a c mode w a1 a2 c1 c2
  rw [h] at k; exact k
theorem mulDiv_is (a b c mode : Int) (w : World) (a1 : -9223372036854775808 ≤ a) (a2 : a ≤ 9223372036854775807) (b1 : -9223372036854775808 ≤ b) (b2 : b ≤ 9223372036854775807) (c1 : -9223372036854775808 ≤ c) (c2 : c ≤ 9223372036854775807) (x y : Int) (h : mdV a b c mode = (x, y)) :
    Calls Try.prog 15 #[.int .i64 a, .int .i64 b, .int .i64 c, .int .i64 mode] w fun e w' => e = .returned (.tuple #[.int .i64 x, .int .i64 y]) ∧ Below w.heap.size w w' := by
  have k := mulDiv_any a b c mode w a1 a2 b1 b2 c1 c2
  rw [h] at k; exact k
theorem mod_is (a b c : Int) (w : World) (a1 : -9223372036854775808 ≤ a) (a2 : a ≤ 9223372036854775807) (b1 : -9223372036854775808 ≤ b) (b2 : b ≤ 9223372036854775807) (c1 : -9223372036854775808 ≤ c) (c2 : c ≤ 9223372036854775807) (x y : Int) (h : moV a b c = (x, y)) :
    Calls Try.prog 17 #[.int .i64 a, .int .i64 b, .int .i64 c] w fun e w' => e = .returned (.tuple #[.int .i64 x, .int .i64 y]) ∧ Below w.heap.size w w' := by
  have k := mod_any a b c w a1 a2 b1 b2 c1 c2
  rw [h] at k; exact k
theorem cmp_is (a b c d : Int) (w : World) (a1 : -9223372036854775808 ≤ a) (a2 : a ≤ 9223372036854775807) (b1 : -9223372036854775808 ≤ b) (b2 : b ≤ 9223372036854775807) (c1 : -9223372036854775808 ≤ c) (c2 : c ≤ 9223372036854775807) (d1 : -9223372036854775808 ≤ d) (d2 : d ≤ 9223372036854775807) (x : Int) (h : cmpI (a * b) (c * d) = x) :
    Calls Try.prog 47 #[.int .i64 a, .int .i64 b, .int .i64 c, .int .i64 d] w fun e w' => e = .returned (.int .i64 x) ∧ Below w.heap.size w w' := by
  have k := cmp_any a b c d w a1 a2 b1 b2 c1 c2 d1 d2
  rw [h] at k; exact k
theorem below_next {a w w' : World} {B : Nat} (h : Below B a w) (hB : B ≤ w.heap.size) (k : Below w.heap.size w w') : Below B a w' := h.trans (k.mono hB)

set_option maxRecDepth 100000 in
set_option maxHeartbeats 1000000 in
theorem lives2_any (w : World) :
    Calls Try.prog 16 #[] w fun e w' => e = .returned (.bool true) ∧ Below w.heap.size w w' := by
  have C1 := Lib.hid (fun W => div_is (-7) 2 3 W (by omega) (by omega) (by omega) (by omega) (-4) 0 (by decide))
  have C2 := Lib.hid (fun W => div_is 5 2 4 W (by omega) (by omega) (by omega) (by omega) 2 0 (by decide))
  have C3 := Lib.hid (fun W => div_is (-7) 2 5 W (by omega) (by omega) (by omega) (by omega) (-4) 0 (by decide))
  have C4 := Lib.hid (fun W => mulDiv_is 1000000000000 1000000000000 (-3000000) 2 W (by omega) (by omega) (by omega) (by omega) (by omega) (by omega) (-333333333333333334) 0 (by decide))
  have C5 := Lib.hid (fun W => div_is 1 0 9 W (by omega) (by omega) (by omega) (by omega) 0 10 (by decide))
  have C6 := Lib.hid (fun W => div_is 1 0 1 W (by omega) (by omega) (by omega) (by omega) 0 2 (by decide))
  have C7 := Lib.hid (fun W => mulDiv_is 4611686018427387904 2 1 1 W (by omega) (by omega) (by omega) (by omega) (by omega) (by omega) 0 4 (by decide))
  have C8 := Lib.hid (fun W => mod_is (-7) 5 3 W (by omega) (by omega) (by omega) (by omega) (by omega) (by omega) 1 0 (by decide))
  have C9 := Lib.hid (fun W => cmp_is 2 3 7 1 W (by omega) (by omega) (by omega) (by omega) (by omega) (by omega) (by omega) (by omega) (-1) (by decide))
  go_enter Try.func16, Try.ntmps16
  go_wp2_with fail
  refine (C1.out _).mono ?_
  rintro e w1 ⟨rfl, h1⟩
  go_wp2_with fail
  refine (C2.out _).mono ?_
  rintro e w2 ⟨rfl, h2⟩
  go_wp2_with fail
  refine (C3.out _).mono ?_
  rintro e w3 ⟨rfl, h3⟩
  go_wp2_with fail
  refine (C4.out _).mono ?_
  rintro e w4 ⟨rfl, h4⟩
  go_wp2_with fail
  refine (C5.out _).mono ?_
  rintro e w5 ⟨rfl, h5⟩
  go_wp2_with fail
  refine (C6.out _).mono ?_
  rintro e w6 ⟨rfl, h6⟩
  go_wp2_with fail
  refine (C7.out _).mono ?_
  rintro e w7 ⟨rfl, h7⟩
  go_wp2_with fail
  refine (C8.out _).mono ?_
  rintro e w8 ⟨rfl, h8⟩
  go_wp2_with fail
  refine (C9.out _).mono ?_
  rintro e w9 ⟨rfl, h9⟩
  go_wp2
  go_ret
  have g2 := below_next h1 h1.size h2
  have g3 := below_next g2 g2.size h3
  have g4 := below_next g3 g3.size h4
  have g5 := below_next g4 g4.size h5
  have g6 := below_next g5 g5.size h6
  have g7 := below_next g6 g6.size h7
  have g8 := below_next g7 g7.size h8
  exact ⟨rfl, below_next g8 g8.size h9⟩
theorem i64_range {a : Int} (h : (Lit.int .i64 a).wf = true) : -9223372036854775808 ≤ a ∧ a ≤ 9223372036854775807 := by
  simp [Lit.wf, IntKind.min, IntKind.max, IntKind.signed, IntKind.bits] at h; omega
end Go.Proofs.Ytbmggfeneieglab
