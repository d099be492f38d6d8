/- Plain facts on the decimal notation of a number, with no Go in sight: its digits, how many they are, and that reading it gives the number again. No conditions. -/
import Derived.Test.YtkpdbhpmnegahaaDoorStr
namespace Go.Proofs.YtkpdbhpmnegahaaDoor

/-- the decimal digits of n. -/
def dg (n : Nat) : List UInt8 := if n < 10 then [UInt8.ofNat (48 + n)] else dg (n / 10) ++ [UInt8.ofNat (48 + n % 10)]
theorem dg_small {n : Nat} (h : n < 10) : dg n = [UInt8.ofNat (48 + n)] := by rw [dg, if_pos h]
theorem dg_big {n : Nat} (h : ¬ n < 10) : dg n = dg (n / 10) ++ [UInt8.ofNat (48 + n % 10)] := by rw [dg, if_neg h]
theorem dg_pos (n : Nat) : 0 < (dg n).length := by
  by_cases h : n < 10
  · rw [dg_small h]; simp
  · rw [dg_big h]; simp
/-- the number of digits, where 0 has none. -/
def len0 (n : Nat) : Nat := if n = 0 then 0 else (dg n).length
theorem dg_len (n : Nat) : (dg n).length = 1 + len0 (n / 10) := by
  unfold len0
  by_cases h : n < 10
  · rw [dg_small h, if_pos (by omega)]; rfl
  · rw [dg_big h, if_neg (by omega)]; simp; omega
theorem len0_step {n : Nat} (h : n ≠ 0) : len0 n = 1 + len0 (n / 10) := by
  rw [← dg_len]; unfold len0; rw [if_neg h]
theorem dg_len_le (k : Nat) : ∀ n, n < 10 ^ (k + 1) → (dg n).length ≤ k + 1 := by
  induction k with
  | zero => intro n h; rw [dg_small (by omega)]; simp
  | succ k ih =>
    intro n h
    by_cases h1 : n < 10
    · rw [dg_small h1]; simp
    · rw [dg_big h1]
      have := ih (n / 10) (by rw [Nat.pow_succ] at h; omega)
      simp; omega
theorem dg_len20 {n : Nat} (h : n ≤ 18446744073709551615) : (dg n).length ≤ 20 := dg_len_le 19 n (by omega)
theorem dg_get (j : Nat) : ∀ n, j < (dg n).length → (dg n)[(dg n).length - 1 - j]? = some (UInt8.ofNat (48 + n / 10 ^ j % 10)) := by
  induction j with
  | zero =>
    intro n _
    by_cases h1 : n < 10
    · rw [dg_small h1]; simp; congr 2; omega
    · rw [dg_big h1]; simp
  | succ j ih =>
    intro n hj
    by_cases h1 : n < 10
    · rw [dg_small h1] at hj; simp at hj
    · rw [dg_big h1] at hj ⊢
      simp at hj
      have := ih (n / 10) hj
      rw [Nat.div_div_eq_div_mul, Nat.mul_comm, ← Nat.pow_succ] at this
      rw [← this]
      simp only [List.length_append, List.length_cons, List.length_nil]
      rw [List.getElem?_append_left (by omega)]
      congr 1; omega
theorem byte48add {d : Nat} (h : d < 10) : (UInt8.ofNat (48 + d)).toNat = 48 + d := by rw [UInt8.toNat_ofNat']; omega
theorem dec_dg (n : Nat) : dec (dg n) = n := by
  induction n using Nat.strongRecOn with
  | ind n ih =>
    by_cases h : n < 10
    · rw [dg_small h]
      unfold dec; simp only [List.foldl_cons, List.foldl_nil]; rw [byte48add h]; omega
    · rw [dg_big h, dec_snoc, ih (n / 10) (by omega), byte48add (by omega)]; omega
theorem dg_all (n : Nat) : (dg n).all dig = true := by
  induction n using Nat.strongRecOn with
  | ind n ih =>
    by_cases h : n < 10
    · rw [dg_small h]
      rw [List.all_cons, dig_yes (by rw [byte48add h]; omega) (by rw [byte48add h]; omega)]; rfl
    · rw [dg_big h, List.all_append, ih (n / 10) (by omega)]
      rw [List.all_cons, dig_yes (by rw [byte48add (by omega)]; omega) (by rw [byte48add (by omega)]; omega)]; rfl
theorem dg_head (n : Nat) : ∃ d, d < 10 ∧ (dg n).head? = some (UInt8.ofNat (48 + d)) ∧ (n ≠ 0 → d ≠ 0) := by
  induction n using Nat.strongRecOn with
  | ind n ih =>
    by_cases h : n < 10
    · exact ⟨n, h, by rw [dg_small h]; rfl, fun h => h⟩
    · obtain ⟨d, h1, h2, h3⟩ := ih (n / 10) (by omega)
      refine ⟨d, h1, ?_, fun _ => h3 (by omega)⟩
      rw [dg_big h, List.head?_append, h2]; rfl
theorem dg_notn (n : Nat) : notn (dg n) = true := by
  refine notn_yes (fun h => by have := dg_pos n; rw [h] at this; simp at this) (dg_all n) ?_
  by_cases h : n = 0
  · subst h; right; rw [dg_small (by omega)]; rfl
  · left
    obtain ⟨d, h1, h2, h3⟩ := dg_head n
    rw [h2]; intro e
    injection e with e
    have := congrArg UInt8.toNat e
    rw [byte48add h1] at this
    have := h3 h
    have e48 : UInt8.toNat 48 = 48 := rfl
    omega

/-- the decimal notation of n. -/
def text (n : Int) : List UInt8 := if n < 0 then 45 :: dg n.natAbs else dg n.natAbs
/-- as a string. -/
def textS (n : Int) : ByteArray := ⟨(text n).toArray⟩
theorem toList_mk (l : List UInt8) : (⟨l.toArray⟩ : ByteArray).toList = l := by rw [ByteArray.toList_eq]
theorem textS_list (n : Int) : (textS n).toList = text n := toList_mk _
theorem text_len {n : Int} (h1 : -9223372036854775808 ≤ n) (h2 : n ≤ 9223372036854775807) : (text n).length ≤ 21 := by
  have := dg_len20 (n := n.natAbs) (by omega)
  unfold text; split <;> simp <;> omega
theorem textS_size (n : Int) : (textS n).size = (text n).length := by rw [← bytes_len, textS_list]
theorem text_neg {n : Int} (h : n < 0) : isNeg (text n) = true := by unfold text isNeg; rw [if_pos h]; rfl
theorem text_nonneg {n : Int} (h : ¬ n < 0) : isNeg (text n) = false := by
  unfold text isNeg; rw [if_neg h]
  obtain ⟨d, h1, h2, h3⟩ := dg_head n.natAbs
  rw [h2]
  have : ¬ (UInt8.ofNat (48 + d)) = 45 := fun e => by
    have := congrArg UInt8.toNat e
    rw [byte48add h1] at this
    have e45 : UInt8.toNat 45 = 45 := rfl
    omega
  simpa using this
theorem extract_tail (c : UInt8) (l : List UInt8) : ((⟨(c :: l).toArray⟩ : ByteArray).extract 1 (l.length + 1)).toList = l := by
  rw [ByteArray.toList_eq, ByteArray.data_extract]
  simp
theorem parse_text {n : Int} (h1 : -9223372036854775808 ≤ n) (h2 : n ≤ 9223372036854775807) : parseV (textS n) (-9223372036854775808) 9223372036854775807 = (n, 0) := by
  unfold parseV
  rw [textS_list]
  by_cases h : n < 0
  · have hr : (restOf (textS n)).toList = dg n.natAbs := by
      rw [restOf_yes (by rw [textS_list]; exact text_neg h), textS_size]
      unfold textS text
      rw [if_pos h]
      exact extract_tail _ _
    rw [hr, text_neg h]
    have hv : sgn true (dec (dg n.natAbs)) = n := by rw [dec_dg]; unfold sgn; simp; omega
    rw [parse_in (dg_notn _) (.inr ?_) (by rw [hv]; exact fits_of h1 h2) (by rw [hv]; exact h1) (by rw [hv]; exact h2), hv]
    rw [beq_eq_false_iff_ne]
    intro e
    have := dec_dg n.natAbs
    rw [e] at this
    have e0 : dec [48] = 0 := rfl
    omega
  · have hr : (restOf (textS n)).toList = dg n.natAbs := by
      rw [restOf_no (by rw [textS_list]; exact text_nonneg h), textS_list]
      unfold text; rw [if_neg h]
    rw [hr, text_nonneg h]
    have hv : sgn false (dec (dg n.natAbs)) = n := by rw [dec_dg]; unfold sgn; simp; omega
    rw [parse_in (dg_notn _) (.inl rfl) (by rw [hv]; exact fits_of h1 h2) (by rw [hv]; exact h1) (by rw [hv]; exact h2), hv]

/-- the cells of the buffer when the last k digits are written. -/
def txtCells (a k : Nat) : List Value := List.replicate ((dg a).length - k) (.int .u8 0) ++ ((dg a).drop ((dg a).length - k)).map fun c => .int .u8 (c.toNat : Int)
theorem txtCells_zero (a : Nat) : txtCells a 0 = List.replicate (dg a).length (.int .u8 0) := by
  unfold txtCells; simp
theorem txtCells_full (a : Nat) : txtCells a (dg a).length = (dg a).map fun c => .int .u8 (c.toNat : Int) := by
  unfold txtCells; simp
theorem set_replicate (m : Nat) (z v : Value) (xs : List Value) : (List.replicate (m + 1) z ++ xs).set m v = List.replicate m z ++ v :: xs := by
  rw [List.replicate_succ', List.append_assoc, List.set_append_right _ _ (by simp)]
  simp
theorem txtCells_step {a k : Nat} (h : k < (dg a).length) : (txtCells a k).set ((dg a).length - 1 - k) (.int .u8 (48 + (a / 10 ^ k % 10 : Nat))) = txtCells a (k + 1) := by
  have hg := dg_get k a h
  obtain ⟨m, hm⟩ : ∃ m, (dg a).length = m + 1 + k := ⟨(dg a).length - 1 - k, by omega⟩
  unfold txtCells
  rw [show (dg a).length - k = m + 1 by omega, show (dg a).length - 1 - k = m by omega, show (dg a).length - (k + 1) = m by omega, set_replicate]
  rw [show (dg a).length - 1 - k = m by omega] at hg
  obtain ⟨hlt, hg⟩ := List.getElem?_eq_some_iff.1 hg
  rw [List.drop_eq_getElem_cons hlt, List.map_cons, hg, byte48add (by omega)]
  simp
theorem txtCells_len (a k : Nat) : (txtCells a k).length = (dg a).length := by
  unfold txtCells; simp
end Go.Proofs.YtkpdbhpmnegahaaDoor
