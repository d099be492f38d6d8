/- What bits.Len64, bits.LeadingZeros64 and bits.Div64 return, for all words of 64 bits (Div64: where the upper word is less than the divisor). -/
import Derived.Test.YtmehihfdfpnfjaaDivSpec
import Derived.Test.YtmehihfdfpnfjaaChecked
import Derived.WalkKit
import Derived.Lib.Hide
import Derived.WalkSpells
import Derived.WalkLawsBesides
import Derived.Deep.QuietTactic
import Derived.BigQuiet
import Derived.Deep.DeepCutAuto
import Derived.Deep.CutBlock
namespace Go.Proofs.Ytmehihfdfpnfjaa
open Go.RowKit
set_option linter.unusedVariables false

theorem ret_u64s {a b c d : Int} (h : a = b) (k : c = d) : Ending.returned (.tuple #[.int .u64 a, .int .u64 c]) = .returned (.tuple #[.int .u64 b, .int .u64 d]) := by rw [h, k]
theorem ret_int64 {a b : Int} (h : a = b) : Ending.returned (.int .i64 a) = .returned (.int .i64 b) := by rw [h]
theorem below_drewNd {B : Nat} {a w : World} (h : Below B a w) (n : Nat) : Below B a (w.drewN n) := ⟨h.os, h.tape, h.output, h.size, h.block⟩
theorem mul_split (x y : Int) : x * y = x / 4294967296 * (y / 4294967296) * 18446744073709551616 + (x / 4294967296 * (y % 4294967296) + x % 4294967296 * (y / 4294967296)) * 4294967296 + x % 4294967296 * (y % 4294967296) := by
  have hx := Int.emod_add_mul_ediv x 4294967296
  have hy := Int.emod_add_mul_ediv y 4294967296
  generalize x / 4294967296 = a at *
  generalize x % 4294967296 = b at *
  generalize y / 4294967296 = c at *
  generalize y % 4294967296 = d at *
  rw [← hx, ← hy, Int.add_mul, Int.mul_add, Int.mul_add]
  have r1 : b * (4294967296 * c) = b * c * 4294967296 := by rw [Int.mul_comm 4294967296, Int.mul_assoc]
  have r2 : 4294967296 * a * d = a * d * 4294967296 := by rw [Int.mul_comm 4294967296, Int.mul_assoc, Int.mul_comm 4294967296, Int.mul_assoc]
  have r3 : 4294967296 * a * (4294967296 * c) = a * c * 18446744073709551616 := by
    rw [Int.mul_comm 4294967296, Int.mul_comm 4294967296, Int.mul_assoc, ← Int.mul_assoc 4294967296, Int.mul_comm 4294967296 c, Int.mul_assoc c, ← Int.mul_assoc]; rfl
  rw [r1, r2, r3]
  generalize a * c = e at *
  generalize a * d = f at *
  generalize b * c = g at *
  omega
theorem half_le {a b : Int} (a0 : 0 ≤ a) (a1 : a ≤ 4294967295) (b0 : 0 ≤ b) (b1 : b ≤ 4294967295) : 0 ≤ a * b ∧ a * b ≤ 18446744065119617025 :=
  ⟨Int.mul_nonneg a0 b0, Int.mul_le_mul a1 b1 b0 (by omega)⟩
theorem rest_wrap {u d p : Int} (h0 : 0 ≤ u * 4294967296 + d - p) (h1 : u * 4294967296 + d - p ≤ 18446744073709551615) :
    IntKind.u64.wrap (IntKind.u64.wrap (IntKind.u64.wrap (u * 4294967296) + d) - IntKind.u64.wrap p) = u * 4294967296 + d - p := by
  simp only [IntKind.wrap_u64]; omega

/-- the table of the numbers of bits of a byte. -/
def lenTab : ByteArray := ⟨#[0, 1, 2, 2, 3, 3, 3, 3, 4, 4, 4, 4, 4, 4, 4, 4, 5, 5, 5, 5, 5, 5, 5, 5, 5, 5, 5, 5, 5, 5, 5, 5, 6, 6, 6, 6, 6, 6, 6, 6, 6, 6, 6, 6, 6, 6, 6, 6, 6, 6, 6, 6, 6, 6, 6, 6, 6, 6, 6, 6, 6, 6, 6, 6, 7, 7, 7, 7, 7, 7, 7, 7, 7, 7, 7, 7, 7, 7, 7, 7, 7, 7, 7, 7, 7, 7, 7, 7, 7, 7, 7, 7, 7, 7, 7, 7, 7, 7, 7, 7, 7, 7, 7, 7, 7, 7, 7, 7, 7, 7, 7, 7, 7, 7, 7, 7, 7, 7, 7, 7, 7, 7, 7, 7, 7, 7, 7, 7, 8, 8, 8, 8, 8, 8, 8, 8, 8, 8, 8, 8, 8, 8, 8, 8, 8, 8, 8, 8, 8, 8, 8, 8, 8, 8, 8, 8, 8, 8, 8, 8, 8, 8, 8, 8, 8, 8, 8, 8, 8, 8, 8, 8, 8, 8, 8, 8, 8, 8, 8, 8, 8, 8, 8, 8, 8, 8, 8, 8, 8, 8, 8, 8, 8, 8, 8, 8, 8, 8, 8, 8, 8, 8, 8, 8, 8, 8, 8, 8, 8, 8, 8, 8, 8, 8, 8, 8, 8, 8, 8, 8, 8, 8, 8, 8, 8, 8, 8, 8, 8, 8, 8, 8, 8, 8, 8, 8, 8, 8, 8, 8, 8, 8, 8, 8, 8, 8, 8, 8, 8, 8, 8, 8, 8, 8, 8, 8]⟩
set_option maxRecDepth 100000 in
theorem lenTab_size : lenTab.size = 256 := by decide +kernel
theorem bytes_getD (T : ByteArray) {z : Nat} (hz : z < T.size) : (T[z]'hz) = T.data.getD z 0 := by
  have h : z < T.data.size := hz
  simp only [Array.getD, h, dite_true]; rfl
set_option maxRecDepth 100000 in
theorem lenTab_spec : ∀ z : Fin 256, 0 < z.val → (lenTab.data.getD z.val 0).toNat ≤ 8 ∧ 128 ≤ z.val * 2 ^ (8 - (lenTab.data.getD z.val 0).toNat) ∧ (z.val + 1) * 2 ^ (8 - (lenTab.data.getD z.val 0).toNat) ≤ 256 := by decide +kernel
theorem len_core {x z m K C : Int} (hK : K * C = 72057594037927936) (hC : 0 < C) (hm : 0 < m) (h1 : z * K ≤ x) (h2 : x < (z + 1) * K) (h3 : 128 ≤ z * m) (h4 : (z + 1) * m ≤ 256) :
    9223372036854775808 ≤ x * (m * C) ∧ x * (m * C) ≤ 18446744073709551615 := by
  have hmc : 0 < m * C := Int.mul_pos hm hC
  have a1 := Int.mul_le_mul_of_nonneg_right h1 (Int.le_of_lt hmc)
  have a2 := Int.mul_lt_mul_of_pos_right h2 hmc
  have r1 : z * K * (m * C) = z * m * (K * C) := by rw [Int.mul_assoc, Int.mul_assoc, ← Int.mul_assoc K, Int.mul_comm K, Int.mul_assoc]
  have r2 : (z + 1) * K * (m * C) = (z + 1) * m * (K * C) := by rw [Int.mul_assoc, Int.mul_assoc, ← Int.mul_assoc K, Int.mul_comm K, Int.mul_assoc]
  rw [r1, hK] at a1
  rw [r2, hK] at a2
  omega
/-- what Len64 says of the word x. -/
def LenOf (x : Int) (w : World) (e : Ending) (w' : World) : Prop := ∃ n : Nat, e = .returned (.int .i64 n) ∧ 0 < n ∧ n ≤ 64 ∧ (9223372036854775808 ≤ x * 2 ^ (64 - n) ∧ x * 2 ^ (64 - n) ≤ 18446744073709551615) ∧ w = w'
theorem len_end {x z : Int} {k : Nat} {K C : Int} {w : World} (hz : z.toNat < lenTab.size) (z0 : 0 < z) (z1 : z < 256) (hk : k ≤ 56) (hKC : K * C = 72057594037927936) (hC : C = 2 ^ (56 - k)) (h1 : z * K ≤ x) (h2 : x < (z + 1) * K) :
    LenOf x w (.returned (.int .i64 (wrap64 (k + wrap64 (lenTab[z.toNat]'hz).toNat)))) w := by
  have hs := lenTab_spec ⟨z.toNat, by omega⟩ (by simp; omega)
  have ht := bytes_getD lenTab hz
  simp only at hs
  rw [← ht] at hs
  generalize (lenTab[z.toNat]'hz).toNat = t at *
  obtain ⟨s1, s2, s3⟩ := hs
  have t0 : 0 < t := by
    rcases Nat.eq_zero_or_pos t with h | h
    · subst h
      simp at s3
      omega
    · exact h
  refine ⟨k + t, ?_, by omega, by omega, ?_, rfl⟩
  · rw [IntWalk.wrap64_in (t : Int) ⟨by omega, by omega⟩, IntWalk.wrap64_in _ ⟨by omega, by omega⟩]; simp
  · have e : (2 : Int) ^ (64 - (k + t)) = 2 ^ (8 - t) * C := by rw [hC, ← Int.pow_add]; congr 1; omega
    rw [e]
    have em : ((2 ^ (8 - t) : Nat) : Int) = (2 : Int) ^ (8 - t) := by simp
    have hz' : ((z.toNat : Nat) : Int) = z := by omega
    refine len_core hKC (by rw [hC]; exact pow_pos' _) (pow_pos' _) h1 h2 ?_ ?_
    · have : (128 : Int) ≤ ((z.toNat * 2 ^ (8 - t) : Nat) : Int) := by omega
      rw [Int.natCast_mul, em, hz'] at this; exact this
    · have : (((z.toNat + 1) * 2 ^ (8 - t) : Nat) : Int) ≤ 256 := by omega
      rw [Int.natCast_mul, em, Int.natCast_add, hz'] at this; exact this

set_option maxRecDepth 100000 in
set_option maxHeartbeats 800000 in
theorem len64_0 (x : Int) (w : World) (h0 : 0 < x) (h1 : x ≤ 18446744073709551615) (c1 : x < 4294967296) (c2 : x < 65536) (c3 : x < 256) :
    Calls Try.prog 77 #[.int .u64 x] w (LenOf x w) := by
  have HE := Lib.hid (len_end (x := x) (z := x) (k := 0) (K := 1) (C := 72057594037927936) (w := w) (by rw [lenTab_size]; omega) (by omega) (by omega) (by omega) (by decide) (by decide) (by omega) (by omega))
  go_enter Try.func77, Try.ntmps77
  go_wp2
  go_ret
  have h := HE.out
  rw [show ((0 : Nat) : Int) + wrap64 (lenTab[x.toNat]'(by rw [lenTab_size]; omega)).toNat = wrap64 (lenTab[x.toNat]'(by rw [lenTab_size]; omega)).toNat from Int.zero_add _] at h
  exact h
set_option maxRecDepth 100000 in
set_option maxHeartbeats 800000 in
theorem len64_1 (x : Int) (w : World) (h0 : 0 < x) (h1 : x ≤ 18446744073709551615) (c1 : x < 4294967296) (c2 : x < 65536) (c3 : 256 ≤ x) :
    Calls Try.prog 77 #[.int .u64 x] w (LenOf x w) := by
  have HE := Lib.hid (len_end (x := x) (z := x / 256) (k := 8) (K := 256) (C := 281474976710656) (w := w) (by rw [lenTab_size]; omega) (by omega) (by omega) (by omega) (by decide) (by decide) (by omega) (by omega))
  go_enter Try.func77, Try.ntmps77
  go_wp2
  go_ret
  exact HE.out
set_option maxRecDepth 100000 in
set_option maxHeartbeats 800000 in
theorem len64_2 (x : Int) (w : World) (h0 : 0 < x) (h1 : x ≤ 18446744073709551615) (c1 : x < 4294967296) (c2 : 65536 ≤ x) (c3 : x / 65536 < 256) :
    Calls Try.prog 77 #[.int .u64 x] w (LenOf x w) := by
  have HE := Lib.hid (len_end (x := x) (z := x / 65536) (k := 16) (K := 65536) (C := 1099511627776) (w := w) (by rw [lenTab_size]; omega) (by omega) (by omega) (by omega) (by decide) (by decide) (by omega) (by omega))
  go_enter Try.func77, Try.ntmps77
  go_wp2
  go_ret
  exact HE.out
set_option maxRecDepth 100000 in
set_option maxHeartbeats 800000 in
theorem len64_3 (x : Int) (w : World) (h0 : 0 < x) (h1 : x ≤ 18446744073709551615) (c1 : x < 4294967296) (c2 : 65536 ≤ x) (c3 : 256 ≤ x / 65536) :
    Calls Try.prog 77 #[.int .u64 x] w (LenOf x w) := by
  have HE := Lib.hid (len_end (x := x) (z := x / 65536 / 256) (k := 24) (K := 16777216) (C := 4294967296) (w := w) (by rw [lenTab_size]; omega) (by omega) (by omega) (by omega) (by decide) (by decide) (by omega) (by omega))
  go_enter Try.func77, Try.ntmps77
  go_wp2
  go_ret
  exact HE.out
set_option maxRecDepth 100000 in
set_option maxHeartbeats 800000 in
theorem len64_4 (x : Int) (w : World) (h0 : 0 < x) (h1 : x ≤ 18446744073709551615) (c1 : 4294967296 ≤ x) (c2 : x / 4294967296 < 65536) (c3 : x / 4294967296 < 256) :
    Calls Try.prog 77 #[.int .u64 x] w (LenOf x w) := by
  have HE := Lib.hid (len_end (x := x) (z := x / 4294967296) (k := 32) (K := 4294967296) (C := 16777216) (w := w) (by rw [lenTab_size]; omega) (by omega) (by omega) (by omega) (by decide) (by decide) (by omega) (by omega))
  go_enter Try.func77, Try.ntmps77
  go_wp2
  go_ret
  exact HE.out
set_option maxRecDepth 100000 in
set_option maxHeartbeats 800000 in
theorem len64_5 (x : Int) (w : World) (h0 : 0 < x) (h1 : x ≤ 18446744073709551615) (c1 : 4294967296 ≤ x) (c2 : x / 4294967296 < 65536) (c3 : 256 ≤ x / 4294967296) :
    Calls Try.prog 77 #[.int .u64 x] w (LenOf x w) := by
  have HE := Lib.hid (len_end (x := x) (z := x / 4294967296 / 256) (k := 40) (K := 1099511627776) (C := 65536) (w := w) (by rw [lenTab_size]; omega) (by omega) (by omega) (by omega) (by decide) (by decide) (by omega) (by omega))
  go_enter Try.func77, Try.ntmps77
  go_wp2
  go_ret
  exact HE.out
set_option maxRecDepth 100000 in
set_option maxHeartbeats 800000 in
theorem len64_6 (x : Int) (w : World) (h0 : 0 < x) (h1 : x ≤ 18446744073709551615) (c1 : 4294967296 ≤ x) (c2 : 65536 ≤ x / 4294967296) (c3 : x / 4294967296 / 65536 < 256) :
    Calls Try.prog 77 #[.int .u64 x] w (LenOf x w) := by
  have HE := Lib.hid (len_end (x := x) (z := x / 4294967296 / 65536) (k := 48) (K := 281474976710656) (C := 256) (w := w) (by rw [lenTab_size]; omega) (by omega) (by omega) (by omega) (by decide) (by decide) (by omega) (by omega))
  go_enter Try.func77, Try.ntmps77
  go_wp2
  go_ret
  exact HE.out
set_option maxRecDepth 100000 in
set_option maxHeartbeats 800000 in
theorem len64_7 (x : Int) (w : World) (h0 : 0 < x) (h1 : x ≤ 18446744073709551615) (c1 : 4294967296 ≤ x) (c2 : 65536 ≤ x / 4294967296) (c3 : 256 ≤ x / 4294967296 / 65536) :
    Calls Try.prog 77 #[.int .u64 x] w (LenOf x w) := by
  have HE := Lib.hid (len_end (x := x) (z := x / 4294967296 / 65536 / 256) (k := 56) (K := 72057594037927936) (C := 1) (w := w) (by rw [lenTab_size]; omega) (by omega) (by omega) (by omega) (by decide) (by decide) (by omega) (by omega))
  go_enter Try.func77, Try.ntmps77
  go_wp2
  go_ret
  exact HE.out
theorem len64_any (x : Int) (w : World) (h0 : 0 < x) (h1 : x ≤ 18446744073709551615) : Calls Try.prog 77 #[.int .u64 x] w (LenOf x w) := by
  by_cases c1 : 4294967296 ≤ x
  · by_cases c2 : 65536 ≤ x / 4294967296
    · by_cases c3 : 256 ≤ x / 4294967296 / 65536
      · exact len64_7 x w h0 h1 c1 c2 c3
      · exact len64_6 x w h0 h1 c1 c2 (by omega)
    · by_cases c3 : 256 ≤ x / 4294967296
      · exact len64_5 x w h0 h1 c1 (by omega) c3
      · exact len64_4 x w h0 h1 c1 (by omega) (by omega)
  · by_cases c2 : 65536 ≤ x
    · by_cases c3 : 256 ≤ x / 65536
      · exact len64_3 x w h0 h1 (by omega) c2 c3
      · exact len64_2 x w h0 h1 (by omega) c2 (by omega)
    · by_cases c3 : 256 ≤ x
      · exact len64_1 x w h0 h1 (by omega) (by omega) c3
      · exact len64_0 x w h0 h1 (by omega) (by omega) (by omega)
set_option maxHeartbeats 400000 in
theorem lz_any (y : Int) (w : World) (h0 : 0 < y) (h1 : y ≤ 18446744073709551615) :
    Calls Try.prog 72 #[.int .u64 y] w fun e w' => ∃ s : Nat, e = .returned (.int .i64 s) ∧ s < 64 ∧ (9223372036854775808 ≤ y * 2 ^ s ∧ y * 2 ^ s ≤ 18446744073709551615) ∧ w = w' := by
  have HL := Lib.hid (len64_any y w h0 h1)
  go_enter Try.func72, Try.ntmps72
  go_wp2_with fail
  refine HL.out.mono ?_
  rintro e w' ⟨n, rfl, n0, n1, hb, rfl⟩
  have HB := Lib.hid hb
  clear hb
  go_wp2
  go_ret
  exact ⟨64 - n, ret_int64 (by omega), by omega, HB.out, rfl⟩

set_option maxRecDepth 100000 in
set_option maxHeartbeats 1600000 in
theorem div64_big (hi lo y : Int) (w : World) (h0 : 0 < hi) (h1 : hi < y) (h2 : y ≤ 18446744073709551615) (l0 : 0 ≤ lo) (l1 : lo ≤ 18446744073709551615) :
    Calls Try.prog 66 #[.int .u64 hi, .int .u64 lo, .int .u64 y] w fun e w' => e = .returned (.tuple #[.int .u64 ((hi * 18446744073709551616 + lo) / y), .int .u64 ((hi * 18446744073709551616 + lo) % y)]) ∧ w = w' := by
  have HLZ := Lib.hid (lz_any y w (by omega) h2)
  have b0 : (y == 0) = false := by simp; omega
  have b1 : decide (y ≤ hi) = false := by simp; omega
  have b2 : (hi == 0) = false := by simp; omega
  go_enter Try.func66, Try.ntmps66
  go_wp2_with fail
  refine HLZ.out.mono ?_
  rintro e w' ⟨s, rfl, hs, ⟨n1, n2⟩, rfl⟩
  have hp := pow_pos' s
  have hp2 := pow_pos' (64 - s)
  have hsp := pow_split (s := s) (by omega)
  have hhi : hi * 2 ^ s + 2 ^ s ≤ y * 2 ^ s := by
    have := Int.mul_le_mul_of_nonneg_right (show hi + 1 ≤ y by omega) (show (0 : Int) ≤ 2 ^ s by omega)
    rw [Int.add_mul, Int.one_mul] at this; exact this
  have hh0 : 0 ≤ hi * 2 ^ s := Int.mul_nonneg (by omega) (by omega)
  have hlt : lo / 2 ^ (64 - s) < 2 ^ s := Int.ediv_lt_of_lt_mul hp2 (by rw [hsp]; omega)
  have hl0 : 0 ≤ lo / 2 ^ (64 - s) := Int.ediv_nonneg l0 (by omega)
  have e4 := u64_join (s := s) (hi := hi) (lo := lo) (by omega) (by omega) (by omega) l0 l1
  have e5 : IntKind.u64.wrap (lo * 2 ^ s) = lo * 2 ^ s % 18446744073709551616 := IntKind.wrap_u64 _
  have HU : Hid (∃ u : Int, u = hi * 2 ^ s + lo / 2 ^ (64 - s)) := ⟨_, rfl⟩
  obtain ⟨u, hu⟩ := HU.out
  obtain ⟨v, hv⟩ : ∃ v : Int, v = lo * 2 ^ s % 18446744073709551616 := ⟨_, rfl⟩
  obtain ⟨Y, hY⟩ : ∃ Y : Int, Y = y * 2 ^ s := ⟨_, rfl⟩
  have u0 : 0 ≤ u := by omega
  have uY : u < Y := by omega
  have e1 : IntKind.u64.wrap (y * 2 ^ s) = Y := by rw [IntKind.wrap_u64, hY]; omega
  rw [← hY] at n1 n2
  rw [← hu] at e4
  rw [← hv] at e5
  have v0b : 0 ≤ v := by omega
  have v1b : v ≤ 18446744073709551615 := by omega
  have e3 := u64_and_mask (n := Y) (by omega) n2
  have e7 := u64_and_mask (n := v) v0b v1b
  obtain ⟨y1, hy1⟩ : ∃ z : Int, Y / 4294967296 = z := ⟨_, rfl⟩
  obtain ⟨y0, hy0⟩ : ∃ z : Int, Y % 4294967296 = z := ⟨_, rfl⟩
  obtain ⟨d1, hd1⟩ : ∃ z : Int, v / 4294967296 = z := ⟨_, rfl⟩
  obtain ⟨d0, hd0⟩ : ∃ z : Int, v % 4294967296 = z := ⟨_, rfl⟩
  rw [hy0] at e3
  rw [hd0] at e7
  have p1 : KPre u d1 Y y1 y0 := ⟨by omega, by omega, by omega, by omega, by omega, u0, uY, by omega, by omega⟩
  have P1 := Lib.hid p1
  obtain ⟨r10, r11⟩ := K_R p1
  obtain ⟨q10, q11⟩ := K_Q p1
  obtain ⟨R1, hR1⟩ : ∃ z : Int, u * 4294967296 + d1 - (u * 4294967296 + d1) / Y * Y = z := ⟨_, rfl⟩
  rw [hR1] at r10 r11
  have p2 : KPre R1 d0 Y y1 y0 := ⟨by omega, by omega, by omega, by omega, by omega, r10, r11, by omega, by omega⟩
  have P2 := Lib.hid p2
  obtain ⟨r20, r21⟩ := K_R p2
  obtain ⟨q20, q21⟩ := K_Q p2
  have HE := Lib.hid (div_final (hi := hi) (lo := lo) (y := y) (s := s) (Q1 := (u * 4294967296 + d1) / Y) (Q0 := (R1 * 4294967296 + d0) / Y) (R1 := R1) (R2 := R1 * 4294967296 + d0 - (R1 * 4294967296 + d0) / Y * Y) (by omega) (by omega) hu hv (v1 := d1) (v0 := d0) (by omega) hY (by omega) (by omega) r20 r21)
  have E8 := Lib.hid (rest_wrap (u := u) (d := d1) (p := (u * 4294967296 + d1) / Y * Y) (by omega) (by omega))
  have E9 := Lib.hid (rest_wrap (u := R1) (d := d0) (p := (R1 * 4294967296 + d0) / Y * Y) (by omega) (by omega))
  have HR1 := Lib.hid hR1
  have g1 : 0 ≤ Y := by omega
  have g3 : 2147483648 ≤ y1 := p1.h1
  have g4 : y1 ≤ 4294967295 := p1.h2
  have g5 : 0 ≤ y0 := p1.h3
  have g6 : y0 ≤ 4294967295 := p1.h4
  have g7 : 0 ≤ d1 := by omega
  have g8 : d1 ≤ 4294967295 := by omega
  have g9 : 0 ≤ d0 := by omega
  have g10 : d0 ≤ 4294967295 := by omega
  have hz : ¬ y1 = 0 := by omega
  have s1 : u / y1 * y1 ≤ u := Int.ediv_mul_le u (by omega)
  have s2 : 0 ≤ u / y1 := Int.ediv_nonneg u0 (by omega)
  have s3 : 0 ≤ u / y1 * y1 := Int.mul_nonneg s2 (by omega)
  have s4 : u / y1 ≤ 4294967297 := (K_start p1).2.2.2.2
  have t1 : R1 / y1 * y1 ≤ R1 := Int.ediv_mul_le R1 (by omega)
  have t2 : 0 ≤ R1 / y1 := Int.ediv_nonneg r10 (by omega)
  have t3 : 0 ≤ R1 / y1 * y1 := Int.mul_nonneg t2 (by omega)
  have t4 : R1 / y1 ≤ 4294967297 := (K_start p2).2.2.2.2
  clear hu hv hY hR1 HU hd0 hy0 hh0 hlt hl0 hhi hsp hp hp2 p1 p2
  go_upto_block 0 with fail
  go_cut [15, 16] (fun a b wx => a = .int .u64 ((u * 4294967296 + d1) / Y) ∧ (∃ r : Int, b = .int .u64 r) ∧ w = wx)
  case first =>
    go_wp2_with fail
    go_loop [15, 16] (fun a b => ∃ q r : Int, a = .int .u64 q ∧ b = .int .u64 r ∧ 0 ≤ q ∧ KInv u d1 Y y1 q r) (fun a _ => (intOf a).toNat)
    case atStart => exact ⟨u / y1, u - u / y1 * y1, rfl, rfl, Int.ediv_nonneg P1.out.hu (by omega), K_start P1.out⟩
    case round =>
      obtain ⟨q, r, rfl, rfl, hq0, hk⟩ := hrel
      have HK := Lib.hid hk
      obtain ⟨kk1, k2, k3, kk4, k5⟩ := hk
      clear kk1 kk4
      by_cases hbig : 4294967296 ≤ q
      · have b1 : decide (4294967296 ≤ q) = true := by simpa using hbig
        by_cases hbr : 4294967296 ≤ r + y1
        · have b2 : decide (4294967296 ≤ r + y1) = true := by simpa using hbr
          have HQ := Lib.hid (K_break P1.out HK.out (.inl hbig) hbr)
          go_wp2_with fail
          go_meet
          exact ⟨by rw [HQ.out], ⟨_, rfl⟩, rfl⟩
        · have b2 : decide (4294967296 ≤ r + y1) = false := by simpa using hbr
          go_wp2
          go_round
          case rel => exact ⟨q - 1, r + y1, rfl, rfl, by omega, K_next P1.out HK.out (.inl hbig) (by omega)⟩
          case measure => simp [intOf]; omega
      · have b1 : decide (4294967296 ≤ q) = false := by simpa using hbig
        have m0 : 0 ≤ q * y0 := Int.mul_nonneg hq0 g5
        have m1 : q * y0 ≤ 4294967295 * 4294967295 := Int.mul_le_mul (by omega) g6 g5 (by omega)
        by_cases ht : 4294967296 * r + d1 < q * y0
        · have b3 : decide (4294967296 * r + d1 < q * y0) = true := by simpa using ht
          have hqp : 0 < q := by
            rcases Int.lt_or_le 0 q with h | h
            · exact h
            · exfalso
              have e : q = 0 := by omega
              rw [e, Int.zero_mul] at ht
              omega
          by_cases hbr : 4294967296 ≤ r + y1
          · have b2 : decide (4294967296 ≤ r + y1) = true := by simpa using hbr
            have HQ := Lib.hid (K_break P1.out HK.out (.inr ht) hbr)
            go_wp2_with fail
            go_meet
            exact ⟨by rw [HQ.out], ⟨_, rfl⟩, rfl⟩
          · have b2 : decide (4294967296 ≤ r + y1) = false := by simpa using hbr
            have HT := Lib.hid ht
            go_wp2
            go_round
            case rel => exact ⟨q - 1, r + y1, rfl, rfl, by omega, K_next P1.out HK.out (.inr HT.out) (by omega)⟩
            case measure => simp [intOf]; omega
        · have b3 : decide (4294967296 * r + d1 < q * y0) = false := by simpa using ht
          have HQ := Lib.hid (K_exit P1.out HK.out (by omega))
          go_wp2_with fail
          go_meet
          exact ⟨by rw [HQ.out], ⟨_, rfl⟩, rfl⟩
  case rest =>
  obtain ⟨rfl, ⟨rx, rfl⟩, rfl⟩ := hcut
  have e8 := E8.out
  rw [HR1.out] at e8
  go_upto_block 2 with fail
  go_cut [18, 16] (fun a b wx => a = .int .u64 ((R1 * 4294967296 + d0) / Y) ∧ (∃ r : Int, b = .int .u64 r) ∧ w = wx)
  case first =>
    go_wp2_with fail
    go_loop [18, 16] (fun a b => ∃ q r : Int, a = .int .u64 q ∧ b = .int .u64 r ∧ 0 ≤ q ∧ KInv R1 d0 Y y1 q r) (fun a _ => (intOf a).toNat)
    case atStart => exact ⟨R1 / y1, R1 - R1 / y1 * y1, rfl, rfl, Int.ediv_nonneg P2.out.hu (by omega), K_start P2.out⟩
    case round =>
      obtain ⟨q, r, rfl, rfl, hq0, hk⟩ := hrel
      have HK := Lib.hid hk
      obtain ⟨kk1, k2, k3, kk4, k5⟩ := hk
      clear kk1 kk4
      by_cases hbig : 4294967296 ≤ q
      · have b1 : decide (4294967296 ≤ q) = true := by simpa using hbig
        by_cases hbr : 4294967296 ≤ r + y1
        · have b2 : decide (4294967296 ≤ r + y1) = true := by simpa using hbr
          have HQ := Lib.hid (K_break P2.out HK.out (.inl hbig) hbr)
          go_wp2_with fail
          go_meet
          exact ⟨by rw [HQ.out], ⟨_, rfl⟩, rfl⟩
        · have b2 : decide (4294967296 ≤ r + y1) = false := by simpa using hbr
          go_wp2
          go_round
          case rel => exact ⟨q - 1, r + y1, rfl, rfl, by omega, K_next P2.out HK.out (.inl hbig) (by omega)⟩
          case measure => simp [intOf]; omega
      · have b1 : decide (4294967296 ≤ q) = false := by simpa using hbig
        have m0 : 0 ≤ q * y0 := Int.mul_nonneg hq0 g5
        have m1 : q * y0 ≤ 4294967295 * 4294967295 := Int.mul_le_mul (by omega) g6 g5 (by omega)
        by_cases ht : 4294967296 * r + d0 < q * y0
        · have b3 : decide (4294967296 * r + d0 < q * y0) = true := by simpa using ht
          have hqp : 0 < q := by
            rcases Int.lt_or_le 0 q with h | h
            · exact h
            · exfalso
              have e : q = 0 := by omega
              rw [e, Int.zero_mul] at ht
              omega
          by_cases hbr : 4294967296 ≤ r + y1
          · have b2 : decide (4294967296 ≤ r + y1) = true := by simpa using hbr
            have HQ := Lib.hid (K_break P2.out HK.out (.inr ht) hbr)
            go_wp2_with fail
            go_meet
            exact ⟨by rw [HQ.out], ⟨_, rfl⟩, rfl⟩
          · have b2 : decide (4294967296 ≤ r + y1) = false := by simpa using hbr
            have HT := Lib.hid ht
            go_wp2
            go_round
            case rel => exact ⟨q - 1, r + y1, rfl, rfl, by omega, K_next P2.out HK.out (.inr HT.out) (by omega)⟩
            case measure => simp [intOf]; omega
        · have b3 : decide (4294967296 * r + d0 < q * y0) = false := by simpa using ht
          have HQ := Lib.hid (K_exit P2.out HK.out (by omega))
          go_wp2_with fail
          go_meet
          exact ⟨by rw [HQ.out], ⟨_, rfl⟩, rfl⟩
  case rest =>
  obtain ⟨rfl, ⟨rx2, rfl⟩, rfl⟩ := hcut
  have e9 := E9.out
  generalize hq2 : (R1 * 4294967296 + d0) / Y = Q0 at *
  have HQ2 := Lib.hid hq2
  generalize hq1 : (u * 4294967296 + d1) / Y = Q1 at *
  have HQ1 := Lib.hid hq1
  clear hq1 hq2
  generalize hR2 : R1 * 4294967296 + d0 - Q0 * Y = R2 at *
  have HR2 := Lib.hid hR2
  clear hR2
  go_wp2
  go_ret2
  exact ⟨ret_u64s HE.out.1.symm HE.out.2.symm, rfl⟩

set_option maxHeartbeats 400000 in
theorem div64_small (lo y : Int) (w : World) (h1 : 0 < y) (h2 : y ≤ 18446744073709551615) (l0 : 0 ≤ lo) (l1 : lo ≤ 18446744073709551615) :
    Calls Try.prog 66 #[.int .u64 0, .int .u64 lo, .int .u64 y] w fun e w' => e = .returned (.tuple #[.int .u64 (lo / y), .int .u64 (lo % y)]) ∧ Below w.heap.size w w' := by
  have b0 : (y == 0) = false := by simp; omega
  have b1 : decide (y ≤ 0) = false := by simp; omega
  have hz : ¬ y = 0 := by omega
  go_enter Try.func66, Try.ntmps66
  go_wp2
  go_quiet (fail)
  go_wp2
  go_ret2
  exact ⟨rfl, below_drewNd (Below.refl _ _) _⟩
theorem div64_any (hi lo y : Int) (w : World) (h0 : 0 ≤ hi) (h1 : hi < y) (h2 : y ≤ 18446744073709551615) (l0 : 0 ≤ lo) (l1 : lo ≤ 18446744073709551615) :
    Calls Try.prog 66 #[.int .u64 hi, .int .u64 lo, .int .u64 y] w fun e w' => e = .returned (.tuple #[.int .u64 ((hi * 18446744073709551616 + lo) / y), .int .u64 ((hi * 18446744073709551616 + lo) % y)]) ∧ Below w.heap.size w w' := by
  by_cases h : hi = 0
  · subst h
    rw [Int.zero_mul, Int.zero_add]
    exact div64_small lo y w (by omega) h2 l0 l1
  · refine (div64_big hi lo y w (by omega) h1 h2 l0 l1).mono ?_
    rintro e w' ⟨rfl, rfl⟩
    exact ⟨rfl, Below.refl _ _⟩

set_option maxHeartbeats 400000 in
theorem mul64_any (x y : Int) (w : World) (x0 : 0 ≤ x) (x1 : x ≤ 18446744073709551615) (y0 : 0 ≤ y) (y1 : y ≤ 18446744073709551615) :
    Calls Try.prog 67 #[.int .u64 x, .int .u64 y] w fun e w' => e = .returned (.tuple #[.int .u64 (x * y / 18446744073709551616), .int .u64 (x * y % 18446744073709551616)]) ∧ w = w' := by
  have e1 := u64_and_mask x0 x1
  have e2 := u64_and_mask y0 y1
  have hm := mul_split x y
  have hw : IntKind.u64.wrap (x * y) = x * y % 18446744073709551616 := IntKind.wrap_u64 _
  have ha := half_le (a := x / 4294967296) (b := y / 4294967296) (by omega) (by omega) (by omega) (by omega)
  have hb := half_le (a := x / 4294967296) (b := y % 4294967296) (by omega) (by omega) (by omega) (by omega)
  have hc := half_le (a := x % 4294967296) (b := y / 4294967296) (by omega) (by omega) (by omega) (by omega)
  have hd := half_le (a := x % 4294967296) (b := y % 4294967296) (by omega) (by omega) (by omega) (by omega)
  have HM := Lib.hid hm
  clear hm
  obtain ⟨ha0, ha1⟩ := ha
  obtain ⟨hb0, hb1⟩ := hb
  obtain ⟨hc0, hc1⟩ := hc
  obtain ⟨hd0, hd1⟩ := hd
  have e3 := u64_and_mask (n := x / 4294967296 * (y % 4294967296) + x % 4294967296 * (y % 4294967296) / 4294967296) (by omega) (by omega)
  go_enter Try.func67, Try.ntmps67
  go_wp2
  go_ret2
  refine ⟨ret_u64s ?_ rfl, rfl⟩
  rw [HM.out]
  generalize (x / 4294967296) * (y / 4294967296) = a at *
  generalize (x / 4294967296) * (y % 4294967296) = b at *
  generalize (x % 4294967296) * (y / 4294967296) = c at *
  generalize (x % 4294967296) * (y % 4294967296) = d at *
  clear hw e1 e2 e3 x0 x1 y0 y1
  omega
end Go.Proofs.Ytmehihfdfpnfjaa
