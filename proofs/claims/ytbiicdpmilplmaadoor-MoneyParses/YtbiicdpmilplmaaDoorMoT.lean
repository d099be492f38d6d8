/- The digits of a number, filled up with zeros, are those ahead of the point and those behind it. No conditions. -/
import Derived.Test.YtbiicdpmilplmaaDoorMoW
namespace Go.Proofs.YtbiicdpmilplmaaDoor
open Go.RowKit Go.Sort
set_option linter.unusedVariables false

def padL (d : Nat) (l : List UInt8) : List UInt8 := List.replicate (d + 1 - l.length) 48 ++ l
def backL (d A : Nat) : List UInt8 := (dg (10 ^ d + A % 10 ^ d)).drop 1
theorem drop1_app {l m : List UInt8} (h : 0 < l.length) : (l ++ m).drop 1 = l.drop 1 ++ m := by
  cases l with
  | nil => simp at h
  | cons a t => rfl
theorem back_step (d A : Nat) : backL (d + 1) A = backL d (A / 10) ++ [UInt8.ofNat (48 + A % 10)] := by
  unfold backL
  have e : 10 ^ (d + 1) + A % 10 ^ (d + 1) = 10 * (10 ^ d + A / 10 % 10 ^ d) + A % 10 := by
    rw [Nat.pow_succ, Nat.mul_comm (10 ^ d) 10, Nat.mod_mul, Nat.mul_add]; omega
  rw [e]
  have hp : 0 < 10 ^ d := Nat.pow_pos (by omega)
  generalize 10 ^ d + A / 10 % 10 ^ d = n at *
  by_cases hn : n = 0
  · exfalso
    subst hn
    have : 10 ^ (d + 1) = 10 ^ d * 10 := Nat.pow_succ ..
    omega
  · rw [dg_big (by omega), show (10 * n + A % 10) / 10 = n by omega, show (10 * n + A % 10) % 10 = A % 10 by omega, drop1_app (dg_pos n)]
theorem back_zero (A : Nat) : backL 0 A = [] := by
  unfold backL
  rw [show 10 ^ 0 + A % 10 ^ 0 = 1 by omega, dg_small (by omega)]; rfl
theorem back_len (d : Nat) : ∀ A, (backL d A).length = d := by
  induction d with
  | zero => intro A; rw [back_zero]; rfl
  | succ d ih => intro A; rw [back_step, List.length_append, ih]; rfl
theorem pad_step (d A : Nat) : padL (d + 1) (dg A) = padL d (dg (A / 10)) ++ [UInt8.ofNat (48 + A % 10)] := by
  unfold padL
  by_cases h : A < 10
  · rw [dg_small h, show A / 10 = 0 by omega, dg_small (by omega), show A % 10 = A by omega]
    simp only [List.length_singleton]
    rw [show d + 1 + 1 - 1 = d + 1 by omega, show d + 1 - 1 = d by omega, List.replicate_succ']
    rfl
  · rw [dg_big h, List.length_append]
    simp only [List.length_singleton]
    rw [show d + 1 + 1 - ((dg (A / 10)).length + 1) = d + 1 - (dg (A / 10)).length by omega, List.append_assoc]
theorem pad_split (d : Nat) : ∀ A, padL d (dg A) = dg (A / 10 ^ d) ++ backL d A := by
  induction d with
  | zero =>
    intro A
    have := dg_pos A
    unfold padL
    rw [back_zero, show 0 + 1 - (dg A).length = 0 by omega]
    simp
  | succ d ih =>
    intro A
    rw [pad_step, ih, back_step, Nat.pow_succ, Nat.mul_comm (10 ^ d) 10, ← Nat.div_div_eq_div_mul, List.append_assoc]
theorem back_all (d : Nat) : ∀ A, (backL d A).all dig = true := by
  induction d with
  | zero => intro A; rw [back_zero]; rfl
  | succ d ih =>
    intro A
    rw [back_step, List.all_append, ih]
    have : dig (UInt8.ofNat (48 + A % 10)) = true := by
      apply dig_yes
      · rw [byte48add (by omega)]; omega
      · rw [byte48add (by omega)]; omega
    show (true && (dig (UInt8.ofNat (48 + A % 10)) && true)) = true
    rw [this]; rfl
theorem dec_lead (k : Nat) (l : List UInt8) : dec (List.replicate k 48 ++ l) = dec l := by
  induction k with
  | zero => rfl
  | succ k ih =>
    rw [List.replicate_succ, List.cons_append]
    exact ih
theorem dec_pad (d A : Nat) : dec (dg (A / 10 ^ d) ++ backL d A) = A := by
  rw [← pad_split]
  unfold padL
  rw [dec_lead, dec_dg]
theorem tenP_pow {d : Int} (h1 : 0 ≤ d) (h2 : d ≤ 4) : tenP d = ((10 ^ d.toNat : Nat) : Int) := by
  have : d = 0 ∨ d = 1 ∨ d = 2 ∨ d = 3 ∨ d = 4 := by omega
  rcases this with rfl | rfl | rfl | rfl | rfl <;> decide
theorem text_nat {n : Int} (h : 0 ≤ n) : text n = dg n.toNat := by
  unfold text; rw [if_neg (by omega), show n.natAbs = n.toNat by omega]
/-- the bytes of the notation of an amount that is not negative. -/
theorem abs_list {A d : Int} (hA : 0 ≤ A) (d1 : 0 ≤ d) (d2 : d ≤ 4) : (absS A d).toList = dg (A.toNat / 10 ^ d.toNat) ++ if d = 0 then [] else 46 :: backL d.toNat A.toNat := by
  obtain ⟨a, rfl⟩ : ∃ a : Nat, A = a := ⟨A.toNat, by omega⟩
  unfold absS
  rw [app_list2, textS_list, tenP_pow d1 d2]
  have hp : 0 < 10 ^ d.toNat := Nat.pow_pos (by omega)
  have e1 : text ((a : Int) / ((10 ^ d.toNat : Nat) : Int)) = dg (a / 10 ^ d.toNat) := by
    rw [← Int.natCast_ediv, text_nat (Int.natCast_nonneg _)]; rfl
  rw [e1, Int.toNat_natCast]
  congr 1
  split
  · exact toList_mk []
  · have e2 : text (((10 ^ d.toNat : Nat) : Int) + (a : Int) % ((10 ^ d.toNat : Nat) : Int)) = dg (10 ^ d.toNat + a % 10 ^ d.toNat) := by
      rw [← Int.natCast_emod, ← Int.natCast_add, text_nat (Int.natCast_nonneg _)]; rfl
    rw [app_list2, toList_mk [46], ext_list, textS_size, textS_list, e2, List.take_length]
    rfl
end Go.Proofs.YtbiicdpmilplmaaDoor
