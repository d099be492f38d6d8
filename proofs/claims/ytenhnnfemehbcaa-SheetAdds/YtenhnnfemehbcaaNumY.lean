/- What Sum of the reference of package num returns. -/
import Derived.Test.YtenhnnfemehbcaaNumX
namespace Go.Proofs.Ytenhnnfemehbcaa
open Go.RowKit
set_option linter.unusedVariables false

theorem and_mask (n : Int) : bits .and .i64 n 4294967295 = n % 4294967296 := by
  have hm : (BitVec.ofInt 64 4294967295).toNat = 2 ^ 32 - 1 := by decide
  have key : (BitVec.ofInt 64 n &&& BitVec.ofInt 64 4294967295).toNat = (n % ((2 ^ 64 : Nat) : Int)).toNat % 2 ^ 32 := by
    rw [BitVec.toNat_and, BitVec.toNat_ofInt, hm, Nat.and_two_pow_sub_one_eq_mod]
  show IntKind.i64.wrap ((BitVec.ofInt 64 n &&& BitVec.ofInt 64 4294967295).toNat : Nat) = n % 4294967296
  rw [key, IntKind.wrap_i64]
  omega

set_option maxHeartbeats 1000000 in
theorem rSum_any (A : Option Addr) (c : Nat) (zs : List Int) (w : World) (hR : Row w A zs) (hn : zs.length ≤ 2000) :
    Calls Try.prog 46 #[.slice A zs.length c] w fun e w' => e = .returned (.tuple #[.int .i64 (fit zs.sum), .bool (fits zs.sum)]) ∧ w = w' := by
  go_enter Try.func46, Try.ntmps46
  go_wp2
  go_loop [4, 5, 6] (fun h l i => ∃ (k : Nat) (x y : Int), k ≤ zs.length ∧ i = .int .i64 k ∧ h = .int .i64 x ∧ l = .int .i64 y ∧ (-2147483648 * k ≤ x ∧ x ≤ 2147483647 * k) ∧ (0 ≤ y ∧ y ≤ 4294967295 * k) ∧ (zs.take k).sum = x * 4294967296 + y) (fun _ _ i => zs.length - (intOf i).toNat)
  case atStart => exact ⟨0, 0, 0, Nat.zero_le _, rfl, rfl, rfl, by omega, by omega, by simp⟩
  case round =>
    obtain ⟨k, x, y, hk, rfl, rfl, rfl, ⟨x1, x2⟩, ⟨y1, y2⟩, hsum⟩ := hrel
    by_cases hlt : k < zs.length
    · obtain ⟨b, off, rfl, hc⟩ := hR.at_ hlt
      obtain ⟨z1, z2⟩ := hR.bd hlt
      have HS := Lib.hid ((sum_snoc zs hlt).trans (by rw [hsum]))
      clear hsum
      generalize zs[k] = z at *
      have hm := and_mask z
      go_wp2
      go_round
      case rel => exact ⟨k + 1, x + z / 4294967296, y + z % 4294967296, by omega, by go_num, rfl, rfl, by omega, by omega, by rw [HS.out]; omega⟩
      case measure => simp [intOf]; omega
    · have hf : (zs.take k).sum = zs.sum := by rw [List.take_of_length_le (by omega)]
      rw [hf] at hsum
      have HS := Lib.hid hsum
      clear hsum hf
      have hm := and_mask y
      by_cases c1 : x + y / 4294967296 < -2147483648
      · have b1 : decide (x + y / 4294967296 < -2147483648) = true := by simpa using c1
        go_wp2
        go_ret2
        have e := HS.out
        exact ⟨ret_intBool (by rw [fit_not (by omega)]) (by rw [fits_not (by omega)]), rfl⟩
      · have b1 : decide (x + y / 4294967296 < -2147483648) = false := by simpa using c1
        by_cases c2 : 2147483647 < x + y / 4294967296
        · have b2 : decide (2147483647 < x + y / 4294967296) = true := by simpa using c2
          go_wp2
          go_ret2
          have e := HS.out
          exact ⟨ret_intBool (by rw [fit_not (by omega)]) (by rw [fits_not (by omega)]), rfl⟩
        · have b2 : decide (2147483647 < x + y / 4294967296) = false := by simpa using c2
          go_wp2
          go_ret2
          have e := HS.out
          exact ⟨ret_intBool (by rw [fit_of (by omega) (by omega)]; omega) (by rw [fits_of (by omega) (by omega)]), rfl⟩
end Go.Proofs.Ytenhnnfemehbcaa
