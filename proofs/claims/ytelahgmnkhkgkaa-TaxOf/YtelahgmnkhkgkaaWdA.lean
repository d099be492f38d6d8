/- What the small functions on bytes of packages words and accountingref06 return, and the ends of names. -/
import Derived.Test.YtelahgmnkhkgkaaChecked
import Derived.WalkKit
import Derived.OwnWalk
import Derived.Lib.Hide
import Derived.Handy
import Derived.Laws.RangeAny
import Derived.Laws.RangeString
import Derived.WalkSpells
import Derived.WalkLawsBesides
import Derived.ProofKit
import Derived.LaidMore
import Derived.OpenShut
import Derived.Below
import Derived.Stop.Joined
import Derived.Lib.LaidTab
import Derived.Deep.QuietTactic
import Derived.BigQuiet
import Derived.WalkMore
import Derived.Lib.QuietBelow
import Derived.IntWalk
import Derived.Test.YtelahgmnkhkgkaaWdN
namespace Go.Proofs.Ytelahgmnkhkgkaa
open Go.RowKit
set_option linter.unusedVariables false
set_option linter.unusedSimpArgs false

theorem isLetter_any (c : UInt8) (w : World) :
    Calls Try.prog 69 #[.int .u8 (c.toNat : Int)] w fun e w' => e = .returned (.bool (lett c)) ∧ w = w' := by
  have := c.toNat_lt
  go_enter Try.func69, Try.ntmps69
  go_wp2
  all_goals (go_ret; refine ⟨ret_bool ?_, rfl⟩; unfold lett; grind)
theorem isDigit_any (c : UInt8) (w : World) :
    Calls Try.prog 70 #[.int .u8 (c.toNat : Int)] w fun e w' => e = .returned (.bool (dig c)) ∧ w = w' := by
  have := c.toNat_lt
  go_enter Try.func70, Try.ntmps70
  go_wp2
  all_goals (go_ret; refine ⟨ret_bool ?_, rfl⟩; unfold dig; grind)
theorem rLetter_any (c : UInt8) (w : World) :
    Calls Try.prog 54 #[.int .u8 (c.toNat : Int)] w fun e w' => e = .returned (.bool (lett c)) ∧ w = w' := by
  have := c.toNat_lt
  go_enter Try.func54, Try.ntmps54
  go_wp2
  all_goals (go_ret; refine ⟨ret_bool ?_, rfl⟩; unfold lett; grind)
theorem rDigit_any (c : UInt8) (w : World) :
    Calls Try.prog 55 #[.int .u8 (c.toNat : Int)] w fun e w' => e = .returned (.bool (dig c)) ∧ w = w' := by
  have := c.toNat_lt
  go_enter Try.func55, Try.ntmps55
  go_wp2
  all_goals (go_ret; refine ⟨ret_bool ?_, rfl⟩; unfold dig; grind)

theorem dropB (s : ByteArray) (k : Nat) (h : k < s.size) : s.toList.drop k = s[k] :: s.toList.drop (k + 1) := by
  rw [← bytes_get s k h (by rw [bytes_len]; exact h)]
  exact List.drop_eq_getElem_cons (by rw [bytes_len]; exact h)
theorem dropE (s : ByteArray) (k : Nat) (h : ¬ k < s.size) : s.toList.drop k = [] := List.drop_eq_nil_of_le (by rw [bytes_len]; omega)
/-- the offset holds a digit. -/
def hdA (s : ByteArray) (k : Nat) : Bool := hd (s.toList.drop k)
theorem hdA_at {s : ByteArray} {k : Nat} (h : k < s.size) : hdA s k = dig s[k] := by unfold hdA; rw [dropB s k h]; rfl
theorem hdA_end {s : ByteArray} {k : Nat} (h : ¬ k < s.size) : hdA s k = false := by unfold hdA; rw [dropE s k h]; rfl
/-- the end of a name. -/
def nmE (s : ByteArray) (k : Nat) : Nat := k + nmL (s.toList.drop k)
theorem nmE_step {s : ByteArray} {k : Nat} (h : k < s.size) (c : nam s[k] = true) : nmE s k = nmE s (k + 1) := by
  unfold nmE; rw [dropB s k h, nmL, if_pos c]; omega
theorem nmE_stop {s : ByteArray} {k : Nat} (h : k < s.size) (c : nam s[k] = false) : nmE s k = k := by
  unfold nmE; rw [dropB s k h, nmL, if_neg (by simp [c])]; rfl
theorem nmE_end {s : ByteArray} {k : Nat} (h : ¬ k < s.size) : nmE s k = k := by
  unfold nmE; rw [dropE s k h]; rfl
theorem nmE_le (s : ByteArray) (k : Nat) (h : k ≤ s.size) : nmE s k ≤ s.size := by
  have := nmL_le (s.toList.drop k)
  rw [List.length_drop, bytes_len] at this
  unfold nmE; omega
theorem nameEnd_any (s : ByteArray) (k : Nat) (w : World) (hs : s.size ≤ maxLen) (hk : k ≤ s.size) :
    Calls Try.prog 52 #[.string s, .int .i64 (k : Int)] w fun e w' => e = .returned (.int .i64 (nmE s k : Int)) ∧ w = w' := by
  unfold maxLen at hs
  go_enter Try.func52, Try.ntmps52
  go_wp2
  go_loop [1] (fun i => ∃ j : Nat, j ≤ s.size ∧ i = .int .i64 (j : Int) ∧ Hid (nmE s j = nmE s k)) (fun i => s.size - (intOf i).toNat)
  case atStart => exact ⟨k, hk, rfl, Lib.hid rfl⟩
  case round =>
    obtain ⟨j, hj, rfl, HE⟩ := hrel
    by_cases h : j < s.size
    · have hi : (j : Int) < (s.size : Int) := by omega
      have H1 := Lib.hid (fun w => isLetter_any s[j] w)
      have H2 := Lib.hid (fun w => isDigit_any s[j] w)
      cases hl : lett s[j]
      · rw [hl] at H1
        cases hd : dig s[j]
        · rw [hd] at H2
          have HN := Lib.hid (show nmE s k = j by rw [← HE.out, nmE_stop h (by unfold nam; rw [hl, hd]; rfl)])
          clear hl hd
          go_wp2_with fail
          refine (H1.out _).mono ?_
          rintro e w_ ⟨rfl, rfl⟩
          go_wp2_with fail
          refine (H2.out _).mono ?_
          rintro e w_ ⟨rfl, rfl⟩
          go_wp2
          go_ret
          exact ⟨by rw [HN.out]; rfl, rfl⟩
        · rw [hd] at H2
          have HN := Lib.hid (show nmE s (j + 1) = nmE s k by rw [← HE.out, ← nmE_step h (by unfold nam; rw [hl, hd]; rfl)])
          clear hl hd
          go_wp2_with fail
          refine (H1.out _).mono ?_
          rintro e w_ ⟨rfl, rfl⟩
          go_wp2_with fail
          refine (H2.out _).mono ?_
          rintro e w_ ⟨rfl, rfl⟩
          go_wp2
          go_round
          case rel => exact ⟨j + 1, by omega, by go_num, HN⟩
          case measure => simp [intOf]; omega
      · rw [hl] at H1
        have HN := Lib.hid (show nmE s (j + 1) = nmE s k by rw [← HE.out, ← nmE_step h (lett_nam hl)])
        clear hl
        go_wp2_with fail
        refine (H1.out _).mono ?_
        rintro e w_ ⟨rfl, rfl⟩
        go_wp2
        go_round
        case rel => exact ⟨j + 1, by omega, by go_num, HN⟩
        case measure => simp [intOf]; omega
    · have hi : ¬ (j : Int) < (s.size : Int) := by omega
      have HN := Lib.hid (show nmE s k = j by rw [← HE.out, nmE_end h])
      go_wp2
      go_ret
      exact ⟨by rw [HN.out]; rfl, rfl⟩
end Go.Proofs.Ytelahgmnkhkgkaa
