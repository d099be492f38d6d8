/- The ends of numbers; codes and plain texts. -/
import Derived.Test.YtelahgmnkhkgkaaWdA
namespace Go.Proofs.Ytelahgmnkhkgkaa
open Go.RowKit
set_option linter.unusedVariables false
set_option linter.unusedSimpArgs false

/-- the end of a number, from its second byte on. -/
def nuE (s : ByteArray) (k : Nat) : Nat := k + nuL (s.toList.drop k)
def goOn (b1 b2 b3 : Bool) (c : Int) : Bool := (b1 || b2) || ((decide (c = 46) || decide (c = 47) || decide (c = 45)) && b3)
theorem nuE_step {s : ByteArray} {k : Nat} (h : k < s.size) (c : goOn (lett s[k]) (dig s[k]) (hdA s (k + 1)) (s[k].toNat : Int) = true) : nuE s k = nuE s (k + 1) := by
  unfold nuE; rw [dropB s k h, nuL, if_pos (show (nam s[k] || poi s[k] && hd (List.drop (k + 1) s.toList)) = true from c)]; omega
theorem nuE_stop {s : ByteArray} {k : Nat} (h : k < s.size) (c : goOn (lett s[k]) (dig s[k]) (hdA s (k + 1)) (s[k].toNat : Int) = false) : nuE s k = k := by
  unfold nuE; rw [dropB s k h, nuL, if_neg (by intro x; have : (true : Bool) = false := by rw [← c, ← x]; rfl
                                               cases this)]; rfl
theorem nuE_end {s : ByteArray} {k : Nat} (h : ¬ k < s.size) : nuE s k = k := by
  unfold nuE; rw [dropE s k h]; rfl
theorem nuE_le (s : ByteArray) (k : Nat) (h : k ≤ s.size) : nuE s k ≤ s.size := by
  have := nuL_le (s.toList.drop k)
  rw [List.length_drop, bytes_len] at this
  unfold nuE; omega
theorem nuE_ge (s : ByteArray) (k : Nat) : k ≤ nuE s k := by unfold nuE; omega
theorem nmE_ge (s : ByteArray) (k : Nat) : k ≤ nmE s k := by unfold nmE; omega
/-- s is a code; s is a plain text. -/
def codB (s : ByteArray) : Bool := s.toList.all nam && decide (1 ≤ s.size) && decide (s.size ≤ 12)
def plaB (s : ByteArray) : Bool := plainB s.toList
theorem nmL_all : ∀ (l : List UInt8), decide (nmL l = l.length) = l.all nam
  | [] => rfl
  | c :: r => by
    have ih := nmL_all r
    rw [List.all_cons, ← ih]
    rw [nmL]
    by_cases h : nam c = true
    · simp [h]
    · simp [h]
theorem nmE_all (s : ByteArray) : decide (nmE s 0 = s.size) = s.toList.all nam := by
  rw [← nmL_all]; unfold nmE; simp [bytes_len]
theorem all_bad {p : UInt8 → Bool} {s : ByteArray} {k : Nat} (h : k < s.size) (c : p s[k] = false) : s.toList.all p = false := by
  rw [List.all_eq_false]
  exact ⟨s[k], by rw [← bytes_get s k h (by rw [bytes_len]; exact h)]; exact List.getElem_mem _, by simp [c]⟩
theorem all_more {p : UInt8 → Bool} {s : ByteArray} {k : Nat} (h : k < s.size) (c : p s[k] = true) (i : (s.toList.take k).all p = true) : (s.toList.take (k + 1)).all p = true := by
  rw [take_snoc s k h, List.all_append, i]; simp [c]
theorem cod_not {s : ByteArray} (h : ¬ (1 ≤ s.size ∧ s.size ≤ 12)) : codB s = false := by
  unfold codB
  by_cases h1 : 1 ≤ s.size
  · have : ¬ s.size ≤ 12 := fun x => h ⟨h1, x⟩
    simp [this]
  · simp [h1]
theorem cod_in {s : ByteArray} (h : 1 ≤ s.size) (h2 : s.size ≤ 12) : codB s = decide (nmE s 0 = s.size) := by
  unfold codB; rw [nmE_all]; simp [h, h2]
theorem isEmpty_of {s : ByteArray} (h : s.size = 0) : s.toList.isEmpty = true := by
  have : s.toList = [] := List.length_eq_zero_iff.1 (by rw [bytes_len]; exact h)
  rw [this]; rfl
theorem isEmpty_not {s : ByteArray} (h : s.size ≠ 0) : s.toList.isEmpty = false := by
  cases hl : s.toList with
  | nil => exact absurd (by rw [← bytes_len, hl]; rfl) h
  | cons c r => rfl
set_option maxHeartbeats 400000 in
theorem code_any (s : ByteArray) (w : World) (hs : s.size ≤ maxLen) :
    Calls Try.prog 27 #[.string s] w fun e w' => e = .returned (.bool (codB s)) ∧ w = w' := by
  have H := Lib.hid (fun w => nameEnd_any s 0 w hs (Nat.zero_le _))
  unfold maxLen at hs
  by_cases h0 : s.size = 0
  · have q : s.toList.isEmpty = true := isEmpty_of h0
    rw [cod_not (by omega)]
    go_enter Try.func27, Try.ntmps27
    go_wp2
    go_ret
    exact ⟨rfl, rfl⟩
  · have q : s.toList.isEmpty = false := isEmpty_not h0
    by_cases h1 : s.size ≤ 12
    · have hi : ¬ (12 : Int) < (s.size : Int) := by omega
      rw [cod_in (by omega) h1]
      have hn := nmE_le s 0 (Nat.zero_le _)
      generalize nmE s 0 = n at *
      go_enter Try.func27, Try.ntmps27
      go_wp2_with fail
      refine (H.out _).mono ?_
      rintro e w_ ⟨rfl, rfl⟩
      go_wp2
      go_ret
      refine ⟨ret_bool ?_, rfl⟩
      rw [Bool.eq_iff_iff]; simp; omega
    · have hi : (12 : Int) < (s.size : Int) := by omega
      rw [cod_not (by omega)]
      go_enter Try.func27, Try.ntmps27
      go_wp2
      go_ret
      exact ⟨rfl, rfl⟩
set_option maxHeartbeats 1000000 in
theorem rCode_any (s : ByteArray) (w : World) (hs : s.size ≤ maxLen) :
    Calls Try.prog 29 #[.string s] w fun e w' => e = .returned (.bool (codB s)) ∧ w = w' := by
  unfold maxLen at hs
  go_enter Try.func29, Try.ntmps29
  go_wp2
  go_loop [3] (fun i => ∃ j : Nat, j ≤ s.size ∧ i = .int .i64 (j : Int) ∧ Hid ((s.toList.take j).all nam = true)) (fun i => s.size - (intOf i).toNat)
  case atStart => exact ⟨0, by omega, by go_num, Lib.hid rfl⟩
  case round =>
    obtain ⟨j, hj, rfl, HE⟩ := hrel
    by_cases h : j < s.size
    · have hi : (j : Int) < (s.size : Int) := by omega
      have H1 := Lib.hid (fun w => rLetter_any s[j] w)
      have H2 := Lib.hid (fun w => rDigit_any s[j] w)
      have HY := Lib.hid (fun (h' : (lett s[j] || dig s[j]) = true) => all_more h h' HE.out)
      have HX := Lib.hid (fun (h' : (lett s[j] || dig s[j]) = false) => show codB s = false by unfold codB; rw [all_bad h h']; rfl)
      generalize lett s[j] = b1 at *
      generalize dig s[j] = b2 at *
      go_wp2_with (first | (go_at_call 54; refine (H1.out _).mono ?_; rintro e w_ ⟨rfl, rfl⟩) | (go_at_call 55; refine (H2.out _).mono ?_; rintro e w_ ⟨rfl, rfl⟩))
      all_goals first
        | (go_ret
           exact ⟨by rw [HX.out (by grind)]; rfl, rfl⟩)
        | (go_round
           case rel => exact ⟨j + 1, by omega, by go_num, Lib.hid (HY.out (by grind))⟩
           case measure => simp [intOf]; omega)
    · have hi : ¬ (j : Int) < (s.size : Int) := by omega
      have HN := Lib.hid (show codB s = (decide (1 ≤ s.size) && decide (s.size ≤ 12)) by unfold codB; have := HE.out; rw [val_all h] at this; rw [this]; rfl)
      go_wp2
      all_goals (go_ret; refine ⟨ret_bool ?_, rfl⟩; rw [HN.out]; grind)
end Go.Proofs.Ytelahgmnkhkgkaa
