/- What Span, Next, Prev and Count of the packages fiscal and accountingref05 return, as plain integers. No conditions. -/
import Derived.Test.YtaibjmdfkahjjaaDoorFsM
namespace Go.Proofs.YtaibjmdfkahjjaaDoor
open Go.RowKit (wrap64)
set_option linter.unusedVariables false

def spaF (f y n : Int) : Int := if calO f ∧ perO f y n then spF f y n else 0
def spaL (f y n : Int) : Int := if calO f ∧ perO f y n then spL f y n else 0
def spaE (f y n : Int) : Int := if calO f then (if perO f y n then 0 else 16) else 2
theorem spa_cal {f y n : Int} (h : ¬ calO f) : spaF f y n = 0 ∧ spaL f y n = 0 ∧ spaE f y n = 2 := by
  unfold spaF spaL spaE; simp [h]
theorem spa_no {f y n : Int} (h : calO f) (hp : ¬ perO f y n) : spaF f y n = 0 ∧ spaL f y n = 0 ∧ spaE f y n = 16 := by
  unfold spaF spaL spaE; simp [h, hp]
theorem spa_yes {f y n : Int} (h : calO f) (hp : perO f y n) : spaF f y n = spF f y n ∧ spaL f y n = spL f y n ∧ spaE f y n = 0 := by
  unfold spaF spaL spaE; simp [h, hp]
theorem sp_13 {f y : Int} : spF f y 13 = fdM f y 12 - 1 ∧ spL f y 13 = fdM f y 12 - 1 := by unfold spF spL; simp
theorem sp_n {f y n : Int} (h : n ≠ 13) : spF f y n = fdM f y (n - 1) ∧ spL f y n = fdM f y n - 1 := by unfold spF spL; simp [h]

/-- the error of two periods of a calendar. -/
def twoE (f y n y' n' : Int) : Int := if calO f then (if perO f y n ∧ perO f y' n' then 0 else 16) else 2
/-- the period after another one, and the one before it. -/
def nxY (y n : Int) : Int := if n = 13 then wrap64 (y + 1) else y
def nxN (n : Int) : Int := if n = 13 then 1 else wrap64 (n + 1)
def pvY (y n : Int) : Int := if n = 1 then wrap64 (y - 1) else y
def pvN (n : Int) : Int := if n = 1 then 13 else wrap64 (n - 1)
/-- z if there is no error, and else 0. -/
def ifOk (e z : Int) : Int := if e = 0 then z else 0
theorem wrap_in {z : Int} (h1 : -9223372036854775808 ≤ z) (h2 : z ≤ 9223372036854775807) : wrap64 z = z := by unfold wrap64; omega
theorem wrap_b (z : Int) : -9223372036854775808 ≤ wrap64 z ∧ wrap64 z ≤ 9223372036854775807 := by unfold wrap64; omega
theorem twoE_cal {f y n y' n' : Int} (h : ¬ calO f) : twoE f y n y' n' = 2 := by unfold twoE; simp [h]
theorem twoE_no1 {f y n y' n' : Int} (h : calO f) (h1 : ¬ perO f y n) : twoE f y n y' n' = 16 := by unfold twoE; simp [h, h1]
theorem twoE_no2 {f y n y' n' : Int} (h : calO f) (h1 : ¬ perO f y' n') : twoE f y n y' n' = 16 := by unfold twoE; simp [h, h1]
theorem twoE_yes {f y n y' n' : Int} (h : calO f) (h1 : perO f y n) (h2 : perO f y' n') : twoE f y n y' n' = 0 := by unfold twoE; simp [h, h1, h2]
theorem twoE_0 {f y n y' n' : Int} : twoE f y n y' n' = 0 ↔ calO f ∧ perO f y n ∧ perO f y' n' := by
  unfold twoE; split
  · split <;> simp_all
  · simp_all
theorem perO.b {f y n : Int} (h : perO f y n) (hf : calO f) : 1900 ≤ y ∧ y ≤ 2199 ∧ 1 ≤ n ∧ n ≤ 13 := by
  have := h.2.2.le hf
  exact ⟨this.1, this.2, h.1, h.2.1⟩
def cntV (f y n y' n' : Int) : Int := ifOk (twoE f y n y' n') ((y' - y) * 13 + n' - n)
def cmpV (y n y' n' : Int) : Int := if y = y' ∧ n = n' then 0 else if y < y' ∨ (y = y' ∧ n < n') then -1 else 1
end Go.Proofs.YtaibjmdfkahjjaaDoor
