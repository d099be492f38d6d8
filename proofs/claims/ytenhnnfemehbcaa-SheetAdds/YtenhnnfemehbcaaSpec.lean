/- Plain facts on integers of 64 bits, with no Go in sight: what fits, and what a sum, a difference and a product come to when they wrap around. No conditions. -/
import Derived.IntWalk
namespace Go.Proofs.Ytenhnnfemehbcaa
open Go.RowKit (wrap64)

/-- z fits in an int. -/
def fits (z : Int) : Bool := decide (-9223372036854775808 ≤ z ∧ z ≤ 9223372036854775807)
/-- z if it fits in an int, and else 0. -/
def fit (z : Int) : Int := if fits z then z else 0

theorem fits_of {z : Int} (h1 : -9223372036854775808 ≤ z) (h2 : z ≤ 9223372036854775807) : fits z = true := by
  unfold fits; simp; omega
theorem fits_not {z : Int} (h : z < -9223372036854775808 ∨ 9223372036854775807 < z) : fits z = false := by
  unfold fits; simp; omega
theorem fits_iff {z : Int} : fits z = true ↔ -9223372036854775808 ≤ z ∧ z ≤ 9223372036854775807 := by
  unfold fits; simp
theorem fit_of {z : Int} (h1 : -9223372036854775808 ≤ z) (h2 : z ≤ 9223372036854775807) : fit z = z := by
  unfold fit; rw [fits_of h1 h2]; rfl
theorem fit_not {z : Int} (h : z < -9223372036854775808 ∨ 9223372036854775807 < z) : fit z = 0 := by
  unfold fit; rw [fits_not h]; rfl
theorem fit_bd (z : Int) : -9223372036854775808 ≤ fit z ∧ fit z ≤ 9223372036854775807 := by
  unfold fit
  split
  · rename_i h; exact fits_iff.1 h
  · omega

theorem wrap64_over {z : Int} (h1 : 9223372036854775807 < z) (h2 : z ≤ 27670116110564327423) : wrap64 z = z - 18446744073709551616 := by
  unfold wrap64; omega
theorem wrap64_under {z : Int} (h1 : z < -9223372036854775808) (h2 : -27670116110564327424 ≤ z) : wrap64 z = z + 18446744073709551616 := by
  unfold wrap64; omega
theorem wrap64_bd (z : Int) : -9223372036854775808 ≤ wrap64 z ∧ wrap64 z ≤ 9223372036854775807 := by
  unfold wrap64; omega

end Go.Proofs.Ytenhnnfemehbcaa
