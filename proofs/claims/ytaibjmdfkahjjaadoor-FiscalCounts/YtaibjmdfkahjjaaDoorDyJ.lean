/- What readDigits and twoDigits of package days return, and value and two of package accountingref04. -/
import Derived.Test.YtaibjmdfkahjjaaDoorDyI
import Derived.Test.YtaibjmdfkahjjaaDoorNumR
namespace Go.Proofs.YtaibjmdfkahjjaaDoor
open Go.RowKit Go.Sort
set_option linter.unusedVariables false

theorem dec_pow (l : List UInt8) (h : l.all dig = true) (k : Nat) : dec (l.take k) < 10 ^ k := by
  induction k with
  | zero => simp [dec]
  | succ k ih =>
    rcases Nat.lt_or_ge k l.length with hk | hk
    · rw [List.take_succ_eq_append_getElem hk, dec_snoc]
      have hd : dig l[k] = true := by rw [List.all_eq_true] at h; exact h _ (List.getElem_mem _)
      rw [dig_iff] at hd
      rw [Nat.pow_succ]; omega
    · rw [List.take_of_length_le (by omega)]
      rw [List.take_of_length_le (by omega)] at ih
      rw [Nat.pow_succ]; omega
theorem dec_small {l : List UInt8} (h : l.all dig = true) (hl : l.length ≤ 4) (k : Nat) : dec (l.take k) ≤ 9999 := by
  have h1 := dec_take l k
  have h2 := dec_pow l h l.length
  rw [List.take_length] at h2
  have h3 : 10 ^ l.length ≤ 10 ^ 4 := Nat.pow_le_pow_right (by omega) hl
  omega
theorem all_take {l : List UInt8} (k : Nat) (h : l.all dig = true) : (l.take k).all dig = true := by
  rw [List.all_eq_true] at *
  intro x hx; exact h x (List.mem_of_mem_take hx)

/-- the number that digits denote, or 0; whether they are digits. -/
def rdO (s : ByteArray) : Bool := s.toList.all dig
def rdV (s : ByteArray) : Int := if rdO s then (dec s.toList : Int) else 0
theorem all_bad {s : ByteArray} {k : Nat} (hk : k < s.size) (h : dig s[k] = false) : s.toList.all dig = false := by
  rw [List.all_eq_false]
  exact ⟨s[k], by rw [← bytes_get s k hk (by rw [bytes_len]; exact hk)]; exact List.getElem_mem _, by simp [h]⟩

/-- two digits. -/
def twoS (n : Int) : ByteArray := if n < 10 then ⟨#[48]⟩ ++ textS n else textS n
theorem dg_len2 {n : Nat} (h : n < 100) : (dg n).length ≤ 2 := dg_len_le 1 n h
theorem textS_size2 {n : Int} (h1 : 0 ≤ n) (h2 : n < 100) : (textS n).size ≤ 2 := by
  rw [textS_size]; unfold text; rw [if_neg (by omega)]; exact dg_len2 (by omega)
end Go.Proofs.YtaibjmdfkahjjaaDoor
