/- What Text, Digits and Parse of package accountingref01 return, for all integers of 64 bits and all strings. -/
import Derived.Test.YtkpdbhpmnegahaaDoorNumT
import Derived.Test.YtkpdbhpmnegahaaDoorNumQ
namespace Go.Proofs.YtkpdbhpmnegahaaDoor
open Go.RowKit
set_option linter.unusedVariables false

theorem dg_div {a k : Nat} (h : k < (dg a).length) (h0 : k ≠ 0) : a / 10 ^ k ≠ 0 := by
  induction k generalizing a with
  | zero => exact absurd rfl h0
  | succ k ih =>
    by_cases h1 : a < 10
    · rw [dg_small h1] at h; simp at h
    · rw [Nat.pow_succ, Nat.mul_comm, ← Nat.div_div_eq_div_mul]
      by_cases hk : k = 0
      · subst hk; simp; omega
      · refine ih ?_ hk
        rw [dg_big h1] at h; simp at h; omega
theorem dg_div0 (a : Nat) : a / 10 ^ (dg a).length = 0 := by
  induction a using Nat.strongRecOn with
  | ind a ih =>
    by_cases h1 : a < 10
    · rw [dg_small h1]; simp; exact h1
    · rw [dg_big h1, List.length_append, List.length_singleton, Nat.pow_succ, Nat.mul_comm, ← Nat.div_div_eq_div_mul]
      exact ih (a / 10) (by omega)

/-- the length of a string value. -/
def strLen : Value → Nat
  | .string s => s.size
  | _ => 0
theorem app_list (a b : ByteArray) : (a ++ b).toList = a.toList ++ b.toList := by simp [ByteArray.toList_eq]
theorem dig_str {d : Nat} (h : d < 10) : ((⟨#[48, 49, 50, 51, 52, 53, 54, 55, 56, 57]⟩ : ByteArray).extract d (d + 1)).toList = [UInt8.ofNat (48 + d)] := by
  rw [ByteArray.toList_eq, ByteArray.data_extract]
  have : ∀ e : Fin 10, ((#[48, 49, 50, 51, 52, 53, 54, 55, 56, 57] : Array UInt8).extract e.val (e.val + 1)).toList = [UInt8.ofNat (48 + e.val)] := by decide
  exact this ⟨d, h⟩
theorem rText_round {a k : Nat} {S : ByteArray} {d : Int} (hlt : k < (dg a).length) (hS : S.toList = (dg a).drop ((dg a).length - k)) (hd : d = ((a / 10 ^ k % 10 : Nat) : Int)) :
    ((⟨#[48, 49, 50, 51, 52, 53, 54, 55, 56, 57]⟩ : ByteArray).extract d.toNat (d + 1).toNat ++ S).toList = (dg a).drop ((dg a).length - (k + 1)) := by
  subst hd
  have e : (((a / 10 ^ k % 10 : Nat) : Int) + 1).toNat = a / 10 ^ k % 10 + 1 := by omega
  rw [e, Int.toNat_natCast, app_list, dig_str (by omega), hS]
  have hg := dg_get k a hlt
  obtain ⟨hx, hg⟩ := List.getElem?_eq_some_iff.1 hg
  rw [show (dg a).length - (k + 1) = (dg a).length - 1 - k by omega, List.drop_eq_getElem_cons hx, hg, show (dg a).length - 1 - k + 1 = (dg a).length - k by omega]
  rfl
theorem textS_of {n : Int} {S : ByteArray} (h : S.toList = dg n.natAbs) : S = ⟨(dg n.natAbs).toArray⟩ := by
  rw [← h, ByteArray.toList_eq]

/-- digits, one or more. -/
def digs (l : List UInt8) : Bool := !l.isEmpty && l.all dig
theorem digs_bad {s : ByteArray} {k : Nat} (hk : k < s.size) (h : dig s[k] = false) : digs s.toList = false := by
  unfold digs
  have : s.toList.all dig = false := by
    rw [List.all_eq_false]
    exact ⟨s[k], by rw [← bytes_get s k hk (by rw [bytes_len]; exact hk)]; exact List.getElem_mem _, by simp [h]⟩
  rw [this]; simp

end Go.Proofs.YtkpdbhpmnegahaaDoor
