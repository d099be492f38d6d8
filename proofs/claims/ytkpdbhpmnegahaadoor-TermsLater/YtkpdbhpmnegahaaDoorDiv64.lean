/- What bits.Len64, bits.LeadingZeros64 and bits.Div64 return, for all words of 64 bits (Div64: where the upper word is less than the divisor). -/
import Derived.Test.YtkpdbhpmnegahaaDoorDivSpec
import Derived.Test.YtkpdbhpmnegahaaDoorChecked
import Derived.WalkKit
import Derived.Lib.Hide
import Derived.WalkSpells
import Derived.WalkLawsBesides
import Derived.Deep.QuietTactic
import Derived.BigQuiet
import Derived.Deep.DeepCutAuto
import Derived.Deep.CutBlock
namespace Go.Proofs.YtkpdbhpmnegahaaDoor
open Go.RowKit
set_option linter.unusedVariables false

theorem ret_u64s {a b c d : Int} (h : a = b) (k : c = d) : Ending.returned (.tuple #[.int .u64 a, .int .u64 c]) = .returned (.tuple #[.int .u64 b, .int .u64 d]) := by rw [h, k]
theorem ret_int64 {a b : Int} (h : a = b) : Ending.returned (.int .i64 a) = .returned (.int .i64 b) := by rw [h]
theorem below_drewNd {B : Nat} {a w : World} (h : Below B a w) (n : Nat) : Below B a (w.drewN n) := ⟨h.os, h.tape, h.output, h.size, h.block⟩
theorem mul_split (x y : Int) : x * y = x / 4294967296 * (y / 4294967296) * 18446744073709551616 + (x / 4294967296 * (y % 4294967296) + x % 4294967296 * (y / 4294967296)) * 4294967296 + x % 4294967296 * (y % 4294967296) := by
  have hx := Int.emod_add_mul_ediv x 4294967296
  have hy := Int.emod_add_mul_ediv y 4294967296
  generalize x / 4294967296 = a at *
  generalize x % 4294967296 = b at *
  generalize y / 4294967296 = c at *
  generalize y % 4294967296 = d at *
  rw [← hx, ← hy, Int.add_mul, Int.mul_add, Int.mul_add]
  have r1 : b * (4294967296 * c) = b * c * 4294967296 := by rw [Int.mul_comm 4294967296, Int.mul_assoc]
  have r2 : 4294967296 * a * d = a * d * 4294967296 := by rw [Int.mul_comm 4294967296, Int.mul_assoc, Int.mul_comm 4294967296, Int.mul_assoc]
  have r3 : 4294967296 * a * (4294967296 * c) = a * c * 18446744073709551616 := by
    rw [Int.mul_comm 4294967296, Int.mul_comm 4294967296, Int.mul_assoc, ← Int.mul_assoc 4294967296, Int.mul_comm 4294967296 c, Int.mul_assoc c, ← Int.mul_assoc]; rfl
  rw [r1, r2, r3]
  generalize a * c = e at *
  generalize a * d = f at *
  generalize b * c = g at *
  omega
theorem half_le {a b : Int} (a0 : 0 ≤ a) (a1 : a ≤ 4294967295) (b0 : 0 ≤ b) (b1 : b ≤ 4294967295) : 0 ≤ a * b ∧ a * b ≤ 18446744065119617025 :=
  ⟨Int.mul_nonneg a0 b0, Int.mul_le_mul a1 b1 b0 (by omega)⟩
theorem rest_wrap {u d p : Int} (h0 : 0 ≤ u * 4294967296 + d - p) (h1 : u * 4294967296 + d - p ≤ 18446744073709551615) :
    IntKind.u64.wrap (IntKind.u64.wrap (IntKind.u64.wrap (u * 4294967296) + d) - IntKind.u64.wrap p) = u * 4294967296 + d - p := by
  simp only [IntKind.wrap_u64]; omega

/-- the table of the numbers of bits of a byte. -/
def lenTab : ByteArray := ⟨#[0, 1, 2, 2, 3, 3, 3, 3, 4, 4, 4, 4, 4, 4, 4, 4, 5, 5, 5, 5, 5, 5, 5, 5, 5, 5, 5, 5, 5, 5, 5, 5, 6, 6, 6, 6, 6, 6, 6, 6, 6, 6, 6, 6, 6, 6, 6, 6, 6, 6, 6, 6, 6, 6, 6, 6, 6, 6, 6, 6, 6, 6, 6, 6, 7, 7, 7, 7, 7, 7, 7, 7, 7, 7, 7, 7, 7, 7, 7, 7, 7, 7, 7, 7, 7, 7, 7, 7, 7, 7, 7, 7, 7, 7, 7, 7, 7, 7, 7, 7, 7, 7, 7, 7, 7, 7, 7, 7, 7, 7, 7, 7, 7, 7, 7, 7, 7, 7, 7, 7, 7, 7, 7, 7, 7, 7, 7, 7, 8, 8, 8, 8, 8, 8, 8, 8, 8, 8, 8, 8, 8, 8, 8, 8, 8, 8, 8, 8, 8, 8, 8, 8, 8, 8, 8, 8, 8, 8, 8, 8, 8, 8, 8, 8, 8, 8, 8, 8, 8, 8, 8, 8, 8, 8, 8, 8, 8, 8, 8, 8, 8, 8, 8, 8, 8, 8, 8, 8, 8, 8, 8, 8, 8, 8, 8, 8, 8, 8, 8, 8, 8, 8, 8, 8, 8, 8, 8, 8, 8, 8, 8, 8, 8, 8, 8, 8, 8, 8, 8, 8, 8, 8, 8, 8, 8, 8, 8, 8, 8, 8, 8, 8, 8, 8, 8, 8, 8, 8, 8, 8, 8, 8, 8, 8, 8, 8, 8, 8, 8, 8, 8, 8, 8, 8, 8, 8]⟩
set_option maxRecDepth 100000 in
theorem lenTab_size : lenTab.size = 256 := by decide +kernel
theorem bytes_getD (T : ByteArray) {z : Nat} (hz : z < T.size) : (T[z]'hz) = T.data.getD z 0 := by
  have h : z < T.data.size := hz
  simp only [Array.getD, h, dite_true]; rfl
set_option maxRecDepth 100000 in
theorem lenTab_spec : ∀ z : Fin 256, 0 < z.val → (lenTab.data.getD z.val 0).toNat ≤ 8 ∧ 128 ≤ z.val * 2 ^ (8 - (lenTab.data.getD z.val 0).toNat) ∧ (z.val + 1) * 2 ^ (8 - (lenTab.data.getD z.val 0).toNat) ≤ 256 := by decide +kernel
theorem len_core {x z m K C : Int} (hK : K * C = 72057594037927936) (hC : 0 < C) (hm : 0 < m) (h1 : z * K ≤ x) (h2 : x < (z + 1) * K) (h3 : 128 ≤ z * m) (h4 : (z + 1) * m ≤ 256) :
    9223372036854775808 ≤ x * (m * C) ∧ x * (m * C) ≤ 18446744073709551615 := by
  have hmc : 0 < m * C := Int.mul_pos hm hC
  have a1 := Int.mul_le_mul_of_nonneg_right h1 (Int.le_of_lt hmc)
  have a2 := Int.mul_lt_mul_of_pos_right h2 hmc
  have r1 : z * K * (m * C) = z * m * (K * C) := by rw [Int.mul_assoc, Int.mul_assoc, ← Int.mul_assoc K, Int.mul_comm K, Int.mul_assoc]
  have r2 : (z + 1) * K * (m * C) = (z + 1) * m * (K * C) := by rw [Int.mul_assoc, Int.mul_assoc, ← Int.mul_assoc K, Int.mul_comm K, Int.mul_assoc]
  rw [r1, hK] at a1
  rw [r2, hK] at a2
  omega
/-- what Len64 says of the word x. -/
def LenOf (x : Int) (w : World) (e : Ending) (w' : World) : Prop := ∃ n : Nat, e = .returned (.int .i64 n) ∧ 0 < n ∧ n ≤ 64 ∧ (9223372036854775808 ≤ x * 2 ^ (64 - n) ∧ x * 2 ^ (64 - n) ≤ 18446744073709551615) ∧ w = w'
theorem len_end {x z : Int} {k : Nat} {K C : Int} {w : World} (hz : z.toNat < lenTab.size) (z0 : 0 < z) (z1 : z < 256) (hk : k ≤ 56) (hKC : K * C = 72057594037927936) (hC : C = 2 ^ (56 - k)) (h1 : z * K ≤ x) (h2 : x < (z + 1) * K) :
    LenOf x w (.returned (.int .i64 (wrap64 (k + wrap64 (lenTab[z.toNat]'hz).toNat)))) w := by
  have hs := lenTab_spec ⟨z.toNat, by omega⟩ (by simp; omega)
  have ht := bytes_getD lenTab hz
  simp only at hs
  rw [← ht] at hs
  generalize (lenTab[z.toNat]'hz).toNat = t at *
  obtain ⟨s1, s2, s3⟩ := hs
  have t0 : 0 < t := by
    rcases Nat.eq_zero_or_pos t with h | h
    · subst h
      simp at s3
      omega
    · exact h
  refine ⟨k + t, ?_, by omega, by omega, ?_, rfl⟩
  · rw [IntWalk.wrap64_in (t : Int) ⟨by omega, by omega⟩, IntWalk.wrap64_in _ ⟨by omega, by omega⟩]; simp
  · have e : (2 : Int) ^ (64 - (k + t)) = 2 ^ (8 - t) * C := by rw [hC, ← Int.pow_add]; congr 1; omega
    rw [e]
    have em : ((2 ^ (8 - t) : Nat) : Int) = (2 : Int) ^ (8 - t) := by simp
    have hz' : ((z.toNat : Nat) : Int) = z := by omega
    refine len_core hKC (by rw [hC]; exact pow_pos' _) (pow_pos' _) h1 h2 ?_ ?_
    · have : (128 : Int) ≤ ((z.toNat * 2 ^ (8 - t) : Nat) : Int) := by omega
      rw [Int.natCast_mul, em, hz'] at this; exact this
    · have : (((z.toNat + 1) * 2 ^ (8 - t) : Nat) : Int) ≤ 256 := by omega
      rw [Int.natCast_mul, em, Int.natCast_add, hz'] at this; exact this

set_option maxHeartbeats 400000 in
theorem mul64_any (x y : Int) (w : World) (x0 : 0 ≤ x) (x1 : x ≤ 18446744073709551615) (y0 : 0 ≤ y) (y1 : y ≤ 18446744073709551615) :
    Calls Tryd.prog 81 #[.int .u64 x, .int .u64 y] w fun e w' => e = .returned (.tuple #[.int .u64 (x * y / 18446744073709551616), .int .u64 (x * y % 18446744073709551616)]) ∧ w = w' := by
  have e1 := u64_and_mask x0 x1
  have e2 := u64_and_mask y0 y1
  have hm := mul_split x y
  have hw : IntKind.u64.wrap (x * y) = x * y % 18446744073709551616 := IntKind.wrap_u64 _
  have ha := half_le (a := x / 4294967296) (b := y / 4294967296) (by omega) (by omega) (by omega) (by omega)
  have hb := half_le (a := x / 4294967296) (b := y % 4294967296) (by omega) (by omega) (by omega) (by omega)
  have hc := half_le (a := x % 4294967296) (b := y / 4294967296) (by omega) (by omega) (by omega) (by omega)
  have hd := half_le (a := x % 4294967296) (b := y % 4294967296) (by omega) (by omega) (by omega) (by omega)
  have HM := Lib.hid hm
  clear hm
  obtain ⟨ha0, ha1⟩ := ha
  obtain ⟨hb0, hb1⟩ := hb
  obtain ⟨hc0, hc1⟩ := hc
  obtain ⟨hd0, hd1⟩ := hd
  have e3 := u64_and_mask (n := x / 4294967296 * (y % 4294967296) + x % 4294967296 * (y % 4294967296) / 4294967296) (by omega) (by omega)
  go_enter Tryd.func81, Tryd.ntmps81
  go_wp2
  go_ret2
  refine ⟨ret_u64s ?_ rfl, rfl⟩
  rw [HM.out]
  generalize (x / 4294967296) * (y / 4294967296) = a at *
  generalize (x / 4294967296) * (y % 4294967296) = b at *
  generalize (x % 4294967296) * (y / 4294967296) = c at *
  generalize (x % 4294967296) * (y % 4294967296) = d at *
  clear hw e1 e2 e3 x0 x1 y0 y1
  omega
end Go.Proofs.YtkpdbhpmnegahaaDoor
