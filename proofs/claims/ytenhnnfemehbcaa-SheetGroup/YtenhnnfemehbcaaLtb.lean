/- How strings are ordered. -/
import Derived.Test.YtenhnnfemehbcaaRow1
namespace Go.Proofs.Ytenhnnfemehbcaa
open Go.RowKit
set_option linter.unusedVariables false

theorem bytes_lt : ∀ (x y : List UInt8), Op.bytesLess x y = decide (x < y)
  | [], [] => by simp [Op.bytesLess]
  | _ :: _, [] => by simp [Op.bytesLess]
  | [], _ :: _ => by simp [Op.bytesLess]
  | a :: x, b :: y => by
    rw [Op.bytesLess, bytes_lt x y]
    simp only [List.cons_lt_cons_iff]
    by_cases h1 : a < b <;> by_cases h2 : a = b <;> by_cases h3 : x < y <;> simp [h1, h2, h3]
def ltS (a b : ByteArray) : Bool := Op.bytesLess a.toList b.toList
theorem bytes_le (a b : List UInt8) : (Op.bytesLess a b || a == b) = !(Op.bytesLess b a) := by
  rw [bytes_lt, bytes_lt]
  by_cases h1 : a < b
  · have h2 : ¬ b < a := fun h => List.lt_irrefl a (List.lt_trans h1 h)
    simp [h1, h2]
  · by_cases h2 : b < a
    · have h3 : ¬ a = b := fun e => by subst e; exact List.lt_irrefl a h2
      simp [h1, h2, h3]
    · have h3 : a = b := List.le_antisymm (List.not_lt.1 h2) (List.not_lt.1 h1)
      subst h3
      simp [h1]
theorem ltS_trans {a b c : ByteArray} (h1 : ltS a b = true) (h2 : ltS b c = true) : ltS a c = true := by
  unfold ltS at *
  rw [bytes_lt, decide_eq_true_iff] at *
  exact List.lt_trans h1 h2
theorem ltS_tri {a b : ByteArray} (h1 : ltS a b = false) (h2 : ¬ a.toList = b.toList) : ltS b a = true := by
  unfold ltS at *
  rw [bytes_lt] at *
  have h1 : ¬ a.toList < b.toList := by simpa using h1
  apply decide_eq_true
  apply Classical.byContradiction
  intro q
  exact h2 (List.le_antisymm (List.not_lt.1 q) (List.not_lt.1 h1))
theorem ltS_irr {a : ByteArray} : ltS a a = false := by
  unfold ltS
  rw [bytes_lt]
  exact decide_eq_false (List.lt_irrefl _)
theorem ltS_asym {a b : ByteArray} (h : ltS a b = true) : ltS b a = false := by
  cases q : ltS b a
  · rfl
  · have := ltS_trans h q
    rw [ltS_irr] at this; cases this
/-- a before b, b before a, or one. -/
def cmpS (a b : ByteArray) : Int := if ltS a b = true then -1 else if ltS b a = true then 1 else 0
theorem cmpS_neg (a b : ByteArray) : cmpS a b < 0 ↔ ltS a b = true := by
  unfold cmpS; split
  · rename_i h; simp [h]
  · split <;> simp_all
theorem cmpS_zero (a b : ByteArray) : cmpS a b = 0 ↔ a.toList = b.toList := by
  unfold cmpS
  constructor
  · intro h
    split at h
    · omega
    · split at h
      · omega
      · rename_i h1 h2
        apply Classical.byContradiction
        intro q
        exact h2 (ltS_tri (by simpa using h1) q)
  · intro h
    have : ltS a b = false := by unfold ltS; rw [h, bytes_lt]; exact decide_eq_false (List.lt_irrefl _)
    have h2 : ltS b a = false := by unfold ltS; rw [h, bytes_lt]; exact decide_eq_false (List.lt_irrefl _)
    rw [this, h2]; rfl
end Go.Proofs.Ytenhnnfemehbcaa
