/- What split of package chain returns. -/
import Derived.Test.YtacgjfgiikbjiaaChA
namespace Go.Proofs.Ytacgjfgiikbjiaa
open Go.RowKit
set_option linter.unusedVariables false
set_option linter.unusedSimpArgs false

theorem results_cell1 {fn : Func} {p : Tmp} {ty : TypeId} (h : fn.results = #[.cell p ty]) (tmps : Array Value) (P : Program) (w : World) :
    (results fn tmps).run P w = ((asAddr (tmps.getD p undef)).run P w).andThen fun a w₁ => (loadVar ty a).run P w₁ := by
  simp only [results, h]
  simp [Sem.run_bind, Result.andThen]
/-- the eight bytes of a number, j of them written. -/
def spA (n : Int) : Nat → Array Value
  | 0 => #[.int .u8 0, .int .u8 0, .int .u8 0, .int .u8 0, .int .u8 0, .int .u8 0, .int .u8 0, .int .u8 0]
  | 1 => #[.int .u8 0, .int .u8 0, .int .u8 0, .int .u8 0, .int .u8 0, .int .u8 0, .int .u8 0, .int .u8 (n % 256)]
  | 2 => #[.int .u8 0, .int .u8 0, .int .u8 0, .int .u8 0, .int .u8 0, .int .u8 0, .int .u8 (n / 256 % 256), .int .u8 (n % 256)]
  | 3 => #[.int .u8 0, .int .u8 0, .int .u8 0, .int .u8 0, .int .u8 0, .int .u8 (n / 65536 % 256), .int .u8 (n / 256 % 256), .int .u8 (n % 256)]
  | 4 => #[.int .u8 0, .int .u8 0, .int .u8 0, .int .u8 0, .int .u8 (n / 16777216 % 256), .int .u8 (n / 65536 % 256), .int .u8 (n / 256 % 256), .int .u8 (n % 256)]
  | 5 => #[.int .u8 0, .int .u8 0, .int .u8 0, .int .u8 (n / 4294967296 % 256), .int .u8 (n / 16777216 % 256), .int .u8 (n / 65536 % 256), .int .u8 (n / 256 % 256), .int .u8 (n % 256)]
  | 6 => #[.int .u8 0, .int .u8 0, .int .u8 (n / 1099511627776 % 256), .int .u8 (n / 4294967296 % 256), .int .u8 (n / 16777216 % 256), .int .u8 (n / 65536 % 256), .int .u8 (n / 256 % 256), .int .u8 (n % 256)]
  | 7 => #[.int .u8 0, .int .u8 (n / 281474976710656 % 256), .int .u8 (n / 1099511627776 % 256), .int .u8 (n / 4294967296 % 256), .int .u8 (n / 16777216 % 256), .int .u8 (n / 65536 % 256), .int .u8 (n / 256 % 256), .int .u8 (n % 256)]
  | _ => #[.int .u8 (n / 72057594037927936), .int .u8 (n / 281474976710656 % 256), .int .u8 (n / 1099511627776 % 256), .int .u8 (n / 4294967296 % 256), .int .u8 (n / 16777216 % 256), .int .u8 (n / 65536 % 256), .int .u8 (n / 256 % 256), .int .u8 (n % 256)]
/-- the eight bytes of a number. -/
def byI (x : Int) : UInt8 := x.toNat.toUInt8
def spL (n : Int) : List UInt8 := [byI (n / 72057594037927936), byI (n / 281474976710656 % 256), byI (n / 1099511627776 % 256), byI (n / 4294967296 % 256), byI (n / 16777216 % 256), byI (n / 65536 % 256), byI (n / 256 % 256), byI (n % 256)]
theorem byI_val {x : Int} (h0 : 0 ≤ x) (h1 : x < 256) : ((byI x).toNat : Int) = x := by
  unfold byI
  rw [Nat.toUInt8_eq, UInt8.toNat_ofNat']; omega
theorem spA_eq {n : Int} (n0 : 0 ≤ n) (n1 : n < 18446744073709551616) : spA n 8 = ((spL n).map byV).toArray := by
  unfold spL
  simp only [List.map_cons, List.map_nil, byV, spA]
  rw [byI_val (x := n / 72057594037927936) (by omega) (by omega), byI_val (x := n / 281474976710656 % 256) (by omega) (by omega), byI_val (x := n / 1099511627776 % 256) (by omega) (by omega), byI_val (x := n / 4294967296 % 256) (by omega) (by omega), byI_val (x := n / 16777216 % 256) (by omega) (by omega), byI_val (x := n / 65536 % 256) (by omega) (by omega), byI_val (x := n / 256 % 256) (by omega) (by omega), byI_val (x := n % 256) (by omega) (by omega)]
set_option maxHeartbeats 1000000 in
theorem split_any (n : Int) (w : World) (n0 : 0 ≤ n) (n1 : n < 18446744073709551616) :
    Calls Try.prog 28 #[.int .u64 n] w fun e w' => e = .returned (.agg (spA n 8)) ∧ Below w.heap.size w w' := by
  go_enter Try.func28, Try.ntmps28
  go_wp2
  go_loopw [4] (fun i wr => ∃ j : Nat, j ≤ 8 ∧ i = .int .i64 (j : Int) ∧ wr = w.alloc (.cells (spA n j) 50)) (fun i _ => 8 - (intOf i).toNat)
  case atStart => exact ⟨0, by omega, by go_num, rfl⟩
  case round =>
    obtain ⟨j, hj, rfl, rfl⟩ := hrel
    rcases (show j = 0 ∨ j = 1 ∨ j = 2 ∨ j = 3 ∨ j = 4 ∨ j = 5 ∨ j = 6 ∨ j = 7 ∨ j = 8 by omega) with rfl | rfl | rfl | rfl | rfl | rfl | rfl | rfl | rfl
    · simp only [spA]
      go_wp2
      go_round
      case rel => exact ⟨1, by omega, by go_num, rfl⟩
      case measure => simp [intOf]
    · simp only [spA]
      go_wp2
      go_round
      case rel => exact ⟨2, by omega, by go_num, rfl⟩
      case measure => simp [intOf]
    · simp only [spA]
      go_wp2
      go_round
      case rel => exact ⟨3, by omega, by go_num, rfl⟩
      case measure => simp [intOf]
    · simp only [spA]
      go_wp2
      go_round
      case rel => exact ⟨4, by omega, by go_num, rfl⟩
      case measure => simp [intOf]
    · simp only [spA]
      go_wp2
      go_round
      case rel => exact ⟨5, by omega, by go_num, rfl⟩
      case measure => simp [intOf]
    · simp only [spA]
      go_wp2
      go_round
      case rel => exact ⟨6, by omega, by go_num, rfl⟩
      case measure => simp [intOf]
    · simp only [spA]
      go_wp2
      go_round
      case rel => exact ⟨7, by omega, by go_num, rfl⟩
      case measure => simp [intOf]
    · simp only [spA]
      go_wp2
      go_round
      case rel => exact ⟨8, by omega, by go_num, rfl⟩
      case measure => simp [intOf]
    · simp only [spA]
      go_wp2
      refine bodyPost_ret (v := .agg (spA n 8)) ?_ rfl ⟨rfl, (Below.refl _ _).alloc (Nat.le_refl _) _⟩
      rw [results_cell1 rfl]
      go_simp
      rfl
end Go.Proofs.Ytacgjfgiikbjiaa
