/- What leadingDigits and quotientOf of package frac return, for any text. -/
import Derived.Test.YtlndomnampcnfaaFuD
import Derived.Test.YtlndomnampcnfaaFrK
namespace Go.Proofs.Ytlndomnampcnfaa
open Go.RowKit Go.Sort
set_option linter.unusedVariables false
set_option linter.unusedSimpArgs false

/-- how many digits a text begins with. -/
def ldN : List UInt8 → Nat
  | [] => 0
  | c :: l => if dig c then ldN l + 1 else 0
theorem ldN_le : ∀ l : List UInt8, ldN l ≤ l.length
  | [] => Nat.le_refl _
  | c :: l => by have := ldN_le l; simp only [ldN, List.length_cons]; split <;> omega
theorem ldN_dig : ∀ (l : List UInt8) (j : Nat) (h : j < ldN l) (hj : j < l.length), dig l[j] = true
  | [], j, h, hj => by simp at hj
  | c :: l, j, h, hj => by
    simp only [ldN] at h
    by_cases hc : dig c = true
    · rw [if_pos hc] at h
      cases j with
      | zero => exact hc
      | succ j => exact ldN_dig l j (by omega) (by simpa using hj)
    · rw [if_neg hc] at h; omega
theorem ldN_stop : ∀ (l : List UInt8) (h : ldN l < l.length), dig l[ldN l] = false
  | [], h => by simp at h
  | c :: l, h => by
    by_cases hc : dig c = true
    · have e : ldN (c :: l) = ldN l + 1 := by simp only [ldN]; rw [if_pos hc]
      have h2 : ldN l < l.length := by rw [e] at h; simpa using h
      simp only [e, List.getElem_cons_succ]
      exact ldN_stop l h2
    · have e : ldN (c :: l) = 0 := by simp only [ldN]; rw [if_neg hc]
      simp only [e, List.getElem_cons_zero]
      simpa using hc
theorem ldN_all (l : List UInt8) : (l.take (ldN l)).all dig = true := by
  rw [List.all_eq_true]
  intro x hx
  obtain ⟨j, hj, rfl⟩ := List.getElem_of_mem hx
  rw [List.getElem_take]
  rw [List.length_take] at hj
  exact ldN_dig l j (by omega) (by omega)
theorem ldN_of_all : ∀ (l : List UInt8), l.all dig = true → ldN l = l.length
  | [], _ => rfl
  | c :: l, h => by
    simp only [List.all_cons, Bool.and_eq_true] at h
    simp only [ldN, List.length_cons]; rw [if_pos h.1, ldN_of_all l h.2]
theorem ldN_app : ∀ (l : List UInt8) (c : UInt8) (r : List UInt8), l.all dig = true → dig c = false → ldN (l ++ c :: r) = l.length
  | [], c, r, _, hc => by simp only [List.nil_append, ldN]; rw [if_neg (by rw [hc]; simp)]; rfl
  | d :: l, c, r, h, hc => by
    simp only [List.all_cons, Bool.and_eq_true] at h
    simp only [List.cons_append, ldN, List.length_cons]; rw [if_pos h.1, ldN_app l c r h.2 hc]
theorem bs_get (l : List UInt8) (j : Nat) (h : j < (bs l).size) (h' : j < l.length) : (bs l)[j] = l[j] := by
  have := bytes_get (bs l) j h (by rw [bs_list]; exact h')
  simp only [bs_list] at this
  exact this.symm
theorem bs_extract (l : List UInt8) (a b : Nat) (h : a ≤ b) (hb : b ≤ l.length) : (bs l).extract a b = bs ((l.drop a).take (b - a)) := by
  refine ba_ext ?_
  rw [bs_list]
  have := ByteArray.toList_eq ((bs l).extract a b)
  rw [this]
  simp [bs, ByteArray.data_extract]
theorem leading_gen (l : List UInt8) (w : World) (hs : l.length ≤ 100) :
    Calls Try.prog 32 #[.string (bs l)] w fun e w' => e = .returned (.tuple #[.string (bs (l.take (ldN l))), .string (bs (l.drop (ldN l)))]) ∧ Below w.heap.size w w' :=
  leading_any (bs l) (ldN l) _ _ w (by rw [bs_size]; exact hs) (by rw [bs_size]; exact ldN_le l) (by rw [bs_extract l 0 (ldN l) (Nat.zero_le _) (ldN_le l)]; simp) (by rw [bs_size, bs_extract l (ldN l) l.length (ldN_le l) (Nat.le_refl _), List.take_of_length_le (by rw [List.length_drop]; omega)])
    (fun j h hj => (congrArg dig (bs_get l j hj (by rw [bs_size] at hj; exact hj))).trans (ldN_dig l j h (by rw [bs_size] at hj; exact hj))) (fun h => (congrArg dig (bs_get l (ldN l) h (by rw [bs_size] at h; exact h))).trans (ldN_stop l (by rw [bs_size] at h; exact h)))
/-- the digits above and below the line. -/
def qoO (l : List UInt8) : Option (List UInt8 × List UInt8) :=
  if l.take (ldN l) = [] ∨ ((l.take (ldN l)).head? = some 48 ∧ l.take (ldN l) ≠ [48]) then none else
  match l.drop (ldN l) with
  | [] => some (l.take (ldN l), [49])
  | c :: r => if r.take (ldN r) = [] ∨ r.drop (ldN r) ≠ [] then none
    else if c = 47 ∧ (r.take (ldN r)).head? ≠ some 48 then some (l.take (ldN l), r.take (ldN r))
    else if c = 46 ∧ (r.take (ldN r)).length ≤ 6 then some (l.take (ldN l) ++ r.take (ldN r), 49 :: List.replicate (r.take (ldN r)).length 48)
    else none
theorem repeat_gen (n : Nat) (w : World) (hn : n ≤ 6) : Calls Try.prog 33 #[.string ⟨#[48]⟩, .int .i64 n] w fun e w' => e = .returned (.string (bs (List.replicate n 48))) ∧ Below w.heap.size w w' := by
  have q := Try.strings_Repeat ⟨#[48]⟩ n w (by omega) (by have e1 : (⟨#[48]⟩ : ByteArray).size = 1 := rfl; first | (rw [e1]; omega) | (simp only [e1]; omega))
  have e : (⟨(Lib.repeatL (⟨#[48]⟩ : ByteArray).data.toList n).toArray⟩ : ByteArray) = bs (List.replicate n 48) := by
    match n, hn with
    | 0, _ => decide +kernel
    | 1, _ => decide +kernel
    | 2, _ => decide +kernel
    | 3, _ => decide +kernel
    | 4, _ => decide +kernel
    | 5, _ => decide +kernel
    | 6, _ => decide +kernel
  rw [e] at q
  exact q
def QoP (l : List UInt8) (w : World) (e : Ending) (w' : World) : Prop :=
  ((qoO l = none ∧ e = .returned (.tuple #[.string (bs []), .string (bs []), .bool false])) ∨ ∃ A B, qoO l = some (A, B) ∧ e = .returned (.tuple #[.string (bs A), .string (bs B), .bool true])) ∧ Below w.heap.size w w'
theorem bs_eql (a b : List UInt8) : ((bs a).toList == (bs b).toList) = decide (a = b) := by rw [bs_list, bs_list]; by_cases h : a = b <;> simp [h]
end Go.Proofs.Ytlndomnampcnfaa
