/- What Sum of package num returns, for every list of at most 2000 integers of 64 bits. -/
import Derived.Test.YtenhnnfemehbcaaNumA
import Derived.Test.YtenhnnfemehbcaaStr
import Derived.Laws.BitsLemmas
import Derived.Below
namespace Go.Proofs.Ytenhnnfemehbcaa
open Go.RowKit
set_option linter.unusedVariables false

/-- the slice with address A reads as the integers zs. -/
def Row (w : World) (A : Option Addr) (zs : List Int) : Prop :=
  (0 < zs.length → ∃ b off, A = some ⟨b, off, none⟩ ∧ b < w.heap.size ∧ ∀ k, (h : k < zs.length) → w.cell? ⟨b, off + k, none⟩ = some (.int .i64 zs[k])) ∧ ∀ z ∈ zs, -9223372036854775808 ≤ z ∧ z ≤ 9223372036854775807

theorem Row.at_ {w : World} {A : Option Addr} {zs : List Int} (h : Row w A zs) {k : Nat} (hk : k < zs.length) :
    ∃ b off, A = some ⟨b, off, none⟩ ∧ w.cell? ⟨b, off + k, none⟩ = some (.int .i64 zs[k]) := by
  obtain ⟨b, off, e, _, hc⟩ := h.1 (by omega)
  exact ⟨b, off, e, hc k hk⟩
theorem Row.bd {w : World} {A : Option Addr} {zs : List Int} (h : Row w A zs) {k : Nat} (hk : k < zs.length) : -9223372036854775808 ≤ zs[k] ∧ zs[k] ≤ 9223372036854775807 :=
  h.2 _ (List.getElem_mem hk)
theorem sum_snoc (zs : List Int) {k : Nat} (hk : k < zs.length) : (zs.take (k + 1)).sum = (zs.take k).sum + zs[k] := by
  rw [List.take_succ_eq_append_getElem hk, List.sum_append]; simp

set_option maxHeartbeats 1000000 in
theorem sum_any (A : Option Addr) (c : Nat) (zs : List Int) (w : World) (hR : Row w A zs) (hn : zs.length ≤ 2000) :
    Calls Try.prog 60 #[.slice A zs.length c] w fun e w' => e = .returned (.tuple #[.int .i64 (fit zs.sum), .bool (fits zs.sum)]) ∧ w = w' := by
  go_enter Try.func60, Try.ntmps60
  go_wp2
  go_loop [2, 4, 10] (fun n v i => ∃ (k : Nat) (x W : Int), k ≤ zs.length ∧ i = .int .i64 k ∧ n = .int .i64 x ∧ v = .int .i64 W ∧ (-9223372036854775808 ≤ x ∧ x ≤ 9223372036854775807) ∧ (-k ≤ W ∧ W ≤ k) ∧ (zs.take k).sum = x + W * 18446744073709551616) (fun _ _ i => zs.length - (intOf i).toNat)
  case atStart => exact ⟨0, 0, 0, Nat.zero_le _, rfl, rfl, rfl, by omega, by omega, by simp⟩
  case round =>
    obtain ⟨k, x, W, hk, rfl, rfl, rfl, ⟨x1, x2⟩, ⟨W1, W2⟩, hsum⟩ := hrel
    by_cases hlt : k < zs.length
    · obtain ⟨b, off, rfl, hc⟩ := hR.at_ hlt
      obtain ⟨z1, z2⟩ := hR.bd hlt
      have HS := Lib.hid ((sum_snoc zs hlt).trans (by rw [hsum]))
      clear hsum
      generalize zs[k] = z at *
      by_cases hz : 0 < z
      · have b1 : decide (0 < z) = true := by simpa using hz
        have b2 : decide (z < 0) = false := by simp; omega
        by_cases ho : 9223372036854775807 < x + z
        · have e := wrap64_over ho (by omega)
          have b3 : decide (wrap64 (x + z) < x) = true := by rw [e]; simp; omega
          have E := Lib.hid e
          clear e
          go_wp2
          go_round
          case rel => exact ⟨k + 1, x + z - 18446744073709551616, W + 1, by omega, by go_num, by rw [E.out], by go_num, by omega, by omega, by rw [HS.out]; omega⟩
          case measure => simp [intOf]; omega
        · have b3 : decide (x + z < x) = false := by simp; omega
          go_wp2
          go_round
          case rel => exact ⟨k + 1, x + z, W, by omega, by go_num, rfl, rfl, by omega, by omega, by rw [HS.out]; omega⟩
          case measure => simp [intOf]; omega
      · have b1 : decide (0 < z) = false := by simpa using hz
        by_cases hz2 : z < 0
        · have b2 : decide (z < 0) = true := by simpa using hz2
          by_cases ho : x + z < -9223372036854775808
          · have e := wrap64_under ho (by omega)
            have b3 : decide (x < wrap64 (x + z)) = true := by rw [e]; simp; omega
            have E := Lib.hid e
            clear e
            go_wp2
            go_round
            case rel => exact ⟨k + 1, x + z + 18446744073709551616, W - 1, by omega, by go_num, by rw [E.out], by go_num, by omega, by omega, by rw [HS.out]; omega⟩
            case measure => simp [intOf]; omega
          · have b3 : decide (x < x + z) = false := by simp; omega
            go_wp2
            go_round
            case rel => exact ⟨k + 1, x + z, W, by omega, by go_num, rfl, rfl, by omega, by omega, by rw [HS.out]; omega⟩
            case measure => simp [intOf]; omega
        · have b2 : decide (z < 0) = false := by simpa using hz2
          go_wp2
          go_round
          case rel => exact ⟨k + 1, x + z, W, by omega, by go_num, rfl, rfl, by omega, by omega, by rw [HS.out]; omega⟩
          case measure => simp [intOf]; omega
    · have hf : (zs.take k).sum = zs.sum := by rw [List.take_of_length_le (by omega)]
      rw [hf] at hsum
      have HS := Lib.hid hsum
      clear hsum hf
      by_cases hW : W = 0
      · subst hW
        go_wp2
        go_ret2
        have e := HS.out
        exact ⟨ret_intBool (by rw [fit_of (by omega) (by omega)]; omega) (by rw [fits_of (by omega) (by omega)]), rfl⟩
      · have b1 : (W != 0) = true := by simpa using hW
        go_wp2
        go_ret2
        have e := HS.out
        exact ⟨ret_intBool (by rw [fit_not (by omega)]) (by rw [fits_not (by omega)]), rfl⟩

end Go.Proofs.Ytenhnnfemehbcaa
