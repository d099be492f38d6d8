/- The periods of a fiscal calendar as plain integers: which exist, and their first and last days as first days of months. No conditions. -/
import Derived.Test.YtaibjmdfkahjjaaDoorDyI
namespace Go.Proofs.YtaibjmdfkahjjaaDoor
open Go.RowKit
set_option linter.unusedVariables false

def calO (f : Int) : Prop := 1 ≤ f ∧ f ≤ 12
instance (f : Int) : Decidable (calO f) := by unfold calO; infer_instance
def yrO (f y : Int) : Prop := 1900 ≤ y ∧ (y - 1900) * 12 + f + 10 < 3600
instance (f y : Int) : Decidable (yrO f y) := by unfold yrO; infer_instance
def perO (f y n : Int) : Prop := 1 ≤ n ∧ n ≤ 13 ∧ yrO f y
instance (f y n : Int) : Decidable (perO f y n) := by unfold perO; infer_instance
/-- the number of month j, from 0 on, of a fiscal year, among the months since January 1900. -/
def mkM (f y j : Int) : Nat := ((y - 1900) * 12 + f - 1 + j).toNat
/-- the first day of month j of a fiscal year. -/
def fdM (f y j : Int) : Int := firstM (mkM f y j)
def spL (f y n : Int) : Int := fdM f y (if n = 13 then 12 else n) - 1
def spF (f y n : Int) : Int := if n = 13 then fdM f y 12 - 1 else fdM f y (n - 1)
/-- the year and the month of month j of a fiscal year. -/
def myV (f y j : Int) : Int := if f - 1 + j < 12 then y else y + 1
def mmV (f j : Int) : Int := if f - 1 + j < 12 then f + j else f + j - 12

theorem yrO.le {f y : Int} (h : yrO f y) (hf : calO f) : 1900 ≤ y ∧ y ≤ 2199 := by
  unfold yrO calO at *; omega
theorem mkM_mon {f y j : Int} (hf : calO f) (hy : 1900 ≤ y) (j1 : 0 ≤ j) (j2 : j ≤ 12) : mon (myV f y j) (mmV f j) = mkM f y j := by
  unfold mon mkM myV mmV
  unfold calO at hf
  split <;> omega
theorem mm_b {f j : Int} (hf : calO f) (j1 : 0 ≤ j) (j2 : j ≤ 12) : 1 ≤ mmV f j ∧ mmV f j ≤ 12 := by
  unfold mmV; unfold calO at hf; split <;> omega
theorem my_b {f y j : Int} : myV f y j = y ∨ myV f y j = y + 1 := by
  unfold myV; split <;> omega
theorem fdM_of {f y j : Int} (hf : calO f) (hy : 1900 ≤ y) (j1 : 0 ≤ j) (j2 : j ≤ 12) : ofN (myV f y j) (mmV f j) 1 = fdM f y j := by
  unfold ofN fdM; rw [mkM_mon hf hy j1 j2]; omega
theorem fdM_succ {f y j : Int} (hf : calO f) (hy : 1900 ≤ y) (j1 : 0 ≤ j) (j2 : j ≤ 12) : fdM f y (j + 1) = fdM f y j + lenV (myV f y j) (mmV f j) := by
  have e : mkM f y (j + 1) = mkM f y j + 1 := by unfold mkM; unfold calO at hf; omega
  unfold fdM
  rw [e, firstM]
  congr 1
  unfold dayM
  have h := mkM_mon (f := f) (y := y) (j := j) hf hy j1 j2
  have b := mm_b (f := f) (j := j) hf j1 j2
  have c := my_b (f := f) (y := y) (j := j)
  rw [← h]
  generalize myV f y j = Y at *
  generalize mmV f j = M at *
  unfold mon
  congr 1 <;> omega
theorem fdM_last {f y j : Int} (hf : calO f) (hy : 1900 ≤ y) (j1 : 0 ≤ j) (j2 : j ≤ 12) : ofN (myV f y j) (mmV f j) (lenV (myV f y j) (mmV f j)) = fdM f y (j + 1) - 1 := by
  rw [fdM_succ hf hy j1 j2, ← fdM_of hf hy j1 j2]
  unfold ofN; omega
theorem fdM_b {f y j : Int} (hf : calO f) (hy : 1900 ≤ y) (hy2 : y ≤ 2199) (j1 : 0 ≤ j) (j2 : j ≤ 12) : 0 ≤ fdM f y j ∧ fdM f y j ≤ 120000 := by
  have := firstM_b (mkM f y j)
  unfold fdM
  have h : (mkM f y j : Int) ≤ 3700 := by unfold mkM; unfold calO at hf; omega
  omega
theorem fdM_mono {f y i j : Int} (h : i ≤ j) : fdM f y i ≤ fdM f y j := by
  unfold fdM; apply firstM_mono; unfold mkM; omega
theorem fdM_step {f y j : Int} (hf : calO f) (hy : 1900 ≤ y) (j1 : 0 ≤ j) (j2 : j ≤ 12) : fdM f y j + 28 ≤ fdM f y (j + 1) ∧ fdM f y (j + 1) ≤ fdM f y j + 31 := by
  have b := mm_b (f := f) (j := j) hf j1 j2
  have := lenV_b (y := myV f y j) b.1 b.2
  rw [fdM_succ hf hy j1 j2]; omega
theorem fdM_year {f y : Int} (hf : calO f) (hy : 1900 ≤ y) : fdM f (y + 1) 0 = fdM f y 12 := by
  unfold fdM
  have : mkM f (y + 1) 0 = mkM f y 12 := by unfold mkM; omega
  rw [this]
theorem valid_first {Y M : Int} : Valid Y M 1 ↔ 1900 ≤ Y ∧ Y ≤ 2199 ∧ 1 ≤ M ∧ M ≤ 12 := by
  constructor
  · intro h
    have hm := h.m
    exact ⟨h.1, h.2.1, hm.1, hm.2⟩
  · rintro ⟨h1, h2, h3, h4⟩
    have := lenV_b (y := Y) h3 h4
    exact ⟨h1, h2, by omega, by omega⟩
theorem valid_my {f y j : Int} (hf : calO f) (hy : yrO f y) (j1 : 0 ≤ j) (j2 : j ≤ 11) : Valid (myV f y j) (mmV f j) 1 := by
  have b := mm_b (f := f) (j := j) hf j1 (by omega)
  rw [valid_first]
  refine ⟨?_, ?_, b.1, b.2⟩
  all_goals (unfold myV; unfold yrO calO at *; split <;> omega)

/-- the period that contains a day of month M of year Y. -/
def pyV (f Y M : Int) : Int := if M < f then Y - 1 else Y
def pnV (f M : Int) : Int := if M < f then M - f + 13 else M - f + 1
theorem pn_b {f M : Int} (hf : calO f) (m1 : 1 ≤ M) (m2 : M ≤ 12) : 1 ≤ pnV f M ∧ pnV f M ≤ 12 := by
  unfold pnV; unfold calO at hf; split <;> omega
theorem py_mon {f Y M : Int} (hf : calO f) (y1 : 1900 ≤ Y) (m1 : 1 ≤ M) (m2 : M ≤ 12) (hp : 1900 ≤ pyV f Y M) : mkM f (pyV f Y M) (pnV f M - 1) = mon Y M := by
  unfold mkM mon
  unfold pyV pnV at *
  unfold calO at hf
  split <;> omega
theorem py_span {f n Y M D : Int} (hf : calO f) (h : IsDate n Y M D) (hp : yrO f (pyV f Y M)) : fdM f (pyV f Y M) (pnV f M - 1) ≤ n ∧ n < fdM f (pyV f Y M) (pnV f M) := by
  have hm := h.1.m
  have hr := h.range
  have e := py_mon hf h.1.1 hm.1 hm.2 hp.1
  have e2 : mkM f (pyV f Y M) (pnV f M) = mkM f (pyV f Y M) (pnV f M - 1) + 1 := by
    have := pn_b hf hm.1 hm.2
    have := hp.1
    unfold mkM; unfold calO at hf; omega
  unfold fdM
  rw [e2, e]
  exact ⟨hr.2.2.1, hr.2.2.2⟩
theorem py_last {f n Y M D : Int} (hf : calO f) (h : IsDate n Y M D) (hp : yrO f (pyV f Y M)) (he : n = fdM f (pyV f Y M) 12 - 1) : pnV f M = 12 := by
  have hm := h.1.m
  have hs := py_span hf h hp
  have hb := pn_b hf hm.1 hm.2
  rcases Int.lt_or_le (pnV f M) 12 with k | k
  · exfalso
    have h1 := fdM_mono (f := f) (y := pyV f Y M) (i := pnV f M) (j := 11) (by omega)
    have h2 := fdM_step (f := f) (y := pyV f Y M) (j := 11) hf hp.1 (by omega) (by omega)
    have h3 : (11 : Int) + 1 = 12 := rfl
    rw [h3] at h2
    omega
  · omega
end Go.Proofs.YtaibjmdfkahjjaaDoor
