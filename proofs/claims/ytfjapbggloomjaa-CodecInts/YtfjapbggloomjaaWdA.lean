/- What the small functions on bytes of packages words and accountingref06 return, and the ends of names. -/
import Derived.Test.YtfjapbggloomjaaChecked
import Derived.WalkKit
import Derived.OwnWalk
import Derived.Lib.Hide
import Derived.Handy
import Derived.Laws.RangeAny
import Derived.Laws.RangeString
import Derived.WalkSpells
import Derived.WalkLawsBesides
import Derived.ProofKit
import Derived.LaidMore
import Derived.OpenShut
import Derived.Below
import Derived.Stop.Joined
import Derived.Lib.LaidTab
import Derived.Deep.QuietTactic
import Derived.BigQuiet
import Derived.WalkMore
import Derived.Lib.QuietBelow
import Derived.IntWalk
import Derived.Test.YtfjapbggloomjaaWdN
namespace Go.Proofs.Ytfjapbggloomjaa
open Go.RowKit
set_option linter.unusedVariables false
set_option linter.unusedSimpArgs false

theorem isPlain_any (c : UInt8) (w : World) :
    Calls Try.prog 22 #[.int .u8 (c.toNat : Int)] w fun e w' => e = .returned (.bool (pln c)) ∧ w = w' := by
  have := c.toNat_lt
  go_enter Try.func22, Try.ntmps22
  go_wp2
  all_goals (go_ret; refine ⟨ret_bool ?_, rfl⟩; unfold pln; grind)
theorem dropB (s : ByteArray) (k : Nat) (h : k < s.size) : s.toList.drop k = s[k] :: s.toList.drop (k + 1) := by
  rw [← bytes_get s k h (by rw [bytes_len]; exact h)]
  exact List.drop_eq_getElem_cons (by rw [bytes_len]; exact h)
theorem dropE (s : ByteArray) (k : Nat) (h : ¬ k < s.size) : s.toList.drop k = [] := List.drop_eq_nil_of_le (by rw [bytes_len]; omega)
/-- the offset holds a digit. -/
def hdA (s : ByteArray) (k : Nat) : Bool := hd (s.toList.drop k)
theorem hdA_at {s : ByteArray} {k : Nat} (h : k < s.size) : hdA s k = dig s[k] := by unfold hdA; rw [dropB s k h]; rfl
theorem hdA_end {s : ByteArray} {k : Nat} (h : ¬ k < s.size) : hdA s k = false := by unfold hdA; rw [dropE s k h]; rfl
/-- the end of a name. -/
def nmE (s : ByteArray) (k : Nat) : Nat := k + nmL (s.toList.drop k)
theorem nmE_step {s : ByteArray} {k : Nat} (h : k < s.size) (c : nam s[k] = true) : nmE s k = nmE s (k + 1) := by
  unfold nmE; rw [dropB s k h, nmL, if_pos c]; omega
theorem nmE_stop {s : ByteArray} {k : Nat} (h : k < s.size) (c : nam s[k] = false) : nmE s k = k := by
  unfold nmE; rw [dropB s k h, nmL, if_neg (by simp [c])]; rfl
theorem nmE_end {s : ByteArray} {k : Nat} (h : ¬ k < s.size) : nmE s k = k := by
  unfold nmE; rw [dropE s k h]; rfl
theorem nmE_le (s : ByteArray) (k : Nat) (h : k ≤ s.size) : nmE s k ≤ s.size := by
  have := nmL_le (s.toList.drop k)
  rw [List.length_drop, bytes_len] at this
  unfold nmE; omega
end Go.Proofs.Ytfjapbggloomjaa
