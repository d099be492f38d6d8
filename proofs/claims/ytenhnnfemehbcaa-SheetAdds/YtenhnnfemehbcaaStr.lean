/- Plain facts on strings of digits, with no Go in sight: which strings are decimal notations, which number they denote, and the notation of a number. No conditions. -/
import Derived.Test.YtenhnnfemehbcaaSpec
import Derived.Laws.Strings
import Derived.Laws.Closers25b
namespace Go.Proofs.Ytenhnnfemehbcaa

theorem ret_int {k : IntKind} {a b : Int} (h : a = b) : Ending.returned (.int k a) = .returned (.int k b) := by rw [h]
theorem ret_bool {a b : Bool} (h : a = b) : Ending.returned (.bool a) = .returned (.bool b) := by rw [h]
theorem ret_str {a b : ByteArray} (h : a = b) : Ending.returned (.string a) = .returned (.string b) := by rw [h]
theorem ret_intBool {a b : Int} {p q : Bool} (h : a = b) (k : p = q) : Ending.returned (.tuple #[.int .i64 a, .bool p]) = .returned (.tuple #[.int .i64 b, .bool q]) := by rw [h, k]
theorem ret_intInt {a b c d : Int} (h : a = b) (k : c = d) : Ending.returned (.tuple #[.int .i64 a, .int .i64 c]) = .returned (.tuple #[.int .i64 b, .int .i64 d]) := by rw [h, k]

/-- a decimal digit. -/
def dig (c : UInt8) : Bool := decide (48 ≤ (c.toNat : Int)) && decide ((c.toNat : Int) ≤ 57)
/-- the decimal notation of an integer of any size that is not negative. -/
def notn (l : List UInt8) : Bool := !l.isEmpty && l.all dig && (l.head? != some 48 || l == [48])
/-- the number that digits denote. -/
def dec (l : List UInt8) : Nat := l.foldl (fun n c => n * 10 + (c.toNat - 48)) 0
/-- n with a sign. -/
def sgn (neg : Bool) (n : Nat) : Int := if neg then -(n : Int) else (n : Int)

theorem dig_yes {c : UInt8} (h1 : 48 ≤ (c.toNat : Int)) (h2 : (c.toNat : Int) ≤ 57) : dig c = true := by unfold dig; simp; omega
theorem dig_no {c : UInt8} (h : (c.toNat : Int) < 48 ∨ 57 < (c.toNat : Int)) : dig c = false := by unfold dig; simp; omega
theorem dig_iff {c : UInt8} : dig c = true ↔ 48 ≤ (c.toNat : Int) ∧ (c.toNat : Int) ≤ 57 := by unfold dig; simp

theorem bytes_len (s : ByteArray) : s.toList.length = s.size := by rw [ByteArray.toList_eq]; simp
theorem bytes_get (s : ByteArray) (k : Nat) (h : k < s.size) (h' : k < s.toList.length) : s.toList[k] = s[k] := by
  simp only [ByteArray.toList_eq]; rfl
theorem take_snoc (s : ByteArray) (k : Nat) (h : k < s.size) : s.toList.take (k + 1) = s.toList.take k ++ [s[k]] := by
  rw [List.take_succ_eq_append_getElem (by rw [bytes_len]; exact h), bytes_get s k h]
theorem bytes_nil {s : ByteArray} (h : ¬ s.toList = []) : 0 < s.size := by
  rw [← bytes_len]; exact List.length_pos_iff.2 h
theorem bytes_head {s : ByteArray} (h : 0 < s.size) : s.toList.head? = some s[0] := by
  rw [List.head?_eq_getElem?, List.getElem?_eq_getElem (by rw [bytes_len]; exact h), bytes_get s 0 h]

theorem byte_eq {c : UInt8} {n : Nat} (hn : n < 256) : (c.toNat : Int) = n ↔ c = UInt8.ofNat n := by
  constructor
  · intro h
    apply UInt8.toNat.inj
    rw [UInt8.toNat_ofNat']; omega
  · intro h
    subst h
    rw [UInt8.toNat_ofNat']; omega

theorem notn_nil {l : List UInt8} (h : l = []) : notn l = false := by subst h; rfl
theorem notn_bad {s : ByteArray} {k : Nat} (hk : k < s.size) (h : dig s[k] = false) : notn s.toList = false := by
  unfold notn
  have : s.toList.all dig = false := by
    rw [List.all_eq_false]
    exact ⟨s[k], by rw [← bytes_get s k hk (by rw [bytes_len]; exact hk)]; exact List.getElem_mem _, by simp [h]⟩
  rw [this]; simp
theorem notn_lead {l : List UInt8} (h : l.head? = some 48) (h1 : (l == [48]) = false) : notn l = false := by
  unfold notn; rw [h, h1]; simp
theorem notn_yes {l : List UInt8} (h0 : ¬ l = []) (h : l.all dig = true) (h1 : l.head? ≠ some 48 ∨ l = [48]) : notn l = true := by
  unfold notn; rw [h]
  have : l.isEmpty = false := by simpa using h0
  rw [this]
  rcases h1 with h1 | h1 <;> simp [h1]

theorem dec_snoc (l : List UInt8) (c : UInt8) : dec (l ++ [c]) = dec l * 10 + (c.toNat - 48) := by
  unfold dec; rw [List.foldl_append]; rfl
theorem dec_le (l m : List UInt8) : dec l ≤ dec (l ++ m) := by
  induction m generalizing l with
  | nil => simp
  | cons c m ih =>
    have := ih (l ++ [c])
    rw [dec_snoc] at this
    rw [show l ++ c :: m = l ++ [c] ++ m by simp]
    omega
theorem dec_take (l : List UInt8) (k : Nat) : dec (l.take k) ≤ dec l := by
  have := dec_le (l.take k) (l.drop k)
  rwa [List.take_append_drop] at this

theorem sgn_bd {b : Bool} {n : Nat} : fits (sgn b n) = true ↔ (n : Int) ≤ 9223372036854775807 ∨ b = true ∧ (n : Int) ≤ 9223372036854775808 := by
  rw [fits_iff]; unfold sgn
  cases b <;> simp <;> omega
theorem sgn_mono {b : Bool} {m n : Nat} (h : m ≤ n) (k : fits (sgn b n) = true) : fits (sgn b m) = true := by
  rw [sgn_bd] at *; cases b <;> simp at * <;> omega

theorem byte48 {c : UInt8} : (c.toNat : Int) = 48 ↔ c = 48 := byte_eq (n := 48) (by decide)
theorem byte45 {c : UInt8} : (c.toNat : Int) = 45 ↔ c = 45 := byte_eq (n := 45) (by decide)

/-- the string begins with a minus sign. -/
def isNeg (l : List UInt8) : Bool := l.head? == some 45
/-- what follows the minus sign. -/
def restOf (s : ByteArray) : ByteArray := if isNeg s.toList then s.extract 1 s.size else s
/-- what num.Parse returns. -/
def parseD (d : List UInt8) (neg : Bool) (lo hi : Int) : Int × Int :=
  if !notn d || (neg && d == [48]) then (0, 5)
  else if fits (sgn neg (dec d)) && decide (lo ≤ sgn neg (dec d)) && decide (sgn neg (dec d) ≤ hi) then (sgn neg (dec d), 0) else (0, 3)
def parseV (s : ByteArray) (lo hi : Int) : Int × Int := parseD (restOf s).toList (isNeg s.toList) lo hi

theorem extract1 {s : ByteArray} (h : 0 < s.size) : (s.extract 0 1).toList = [s[0]] := by
  have h1 : (s.extract 0 1).size = 1 := by rw [ByteArray.size_extract]; omega
  apply List.ext_getElem
  · rw [bytes_len, h1]; rfl
  · intro i hi hj
    have e : i = 0 := by simp at hj; exact hj
    subst e
    rw [bytes_get _ 0 (by omega)]
    simp [ByteArray.getElem_extract]
theorem isNeg_nil {s : ByteArray} (h : ¬ 0 < s.size) : isNeg s.toList = false := by
  have : s.toList = [] := List.length_eq_zero_iff.1 (by rw [bytes_len]; omega)
  rw [this]; rfl
theorem isNeg_head {s : ByteArray} (h : 0 < s.size) : isNeg s.toList = (s[0] == 45) := by
  unfold isNeg; rw [bytes_head h]; rfl
theorem restOf_size (s : ByteArray) : (restOf s).size ≤ s.size := by
  unfold restOf; split
  · rw [ByteArray.size_extract]; omega
  · exact Nat.le_refl _
theorem restOf_yes {s : ByteArray} (h : isNeg s.toList = true) : restOf s = s.extract 1 s.size := by unfold restOf; rw [h]; rfl
theorem restOf_no {s : ByteArray} (h : isNeg s.toList = false) : restOf s = s := by unfold restOf; rw [h]; rfl
theorem notn_dig {s : ByteArray} (h : notn s.toList = true) : s.toList.all dig = true := by
  unfold notn at h; simp at h; simp; exact h.1.2
theorem all_at {s : ByteArray} (h : s.toList.all dig = true) {k : Nat} (hk : k < s.size) : 48 ≤ (s[k].toNat : Int) ∧ (s[k].toNat : Int) ≤ 57 := by
  rw [← dig_iff]
  rw [List.all_eq_true] at h
  apply h
  rw [← bytes_get s k hk (by rw [bytes_len]; exact hk)]
  exact List.getElem_mem _
theorem val_step {s : ByteArray} (h : s.toList.all dig = true) {k : Nat} (hk : k < s.size) (neg : Bool) :
    sgn neg (dec (s.toList.take (k + 1))) = sgn neg (dec (s.toList.take k)) * 10 + (if neg then -((s[k].toNat : Int) - 48) else (s[k].toNat : Int) - 48) := by
  have := all_at h hk
  rw [take_snoc s k hk, dec_snoc]
  unfold sgn
  cases neg <;> simp <;> omega
theorem val_bad {s : ByteArray} {k : Nat} {neg : Bool} (h : fits (sgn neg (dec (s.toList.take k))) = false) : fits (sgn neg (dec s.toList)) = false := by
  cases hf : fits (sgn neg (dec s.toList))
  · rfl
  · rw [sgn_mono (dec_take _ _) hf] at h; cases h
theorem val_bad10 {s : ByteArray} (h : s.toList.all dig = true) {k : Nat} (hk : k < s.size) {neg : Bool} (hf : fits (sgn neg (dec (s.toList.take k)) * 10) = false) : fits (sgn neg (dec s.toList)) = false := by
  cases hv : fits (sgn neg (dec s.toList))
  · rfl
  · have h1 := sgn_mono (dec_take s.toList (k + 1)) hv
    have hs := val_step h hk neg
    have hb := all_at h hk
    rw [fits_iff] at h1
    have : ¬ fits (sgn neg (dec (s.toList.take k)) * 10) = true := by rw [hf]; simp
    rw [fits_iff] at this
    unfold sgn at *
    cases neg <;> simp at * <;> omega
theorem val_all {s : ByteArray} {k : Nat} (h : ¬ k < s.size) : s.toList.take k = s.toList := List.take_of_length_le (by rw [bytes_len]; omega)

theorem parse_form {d : List UInt8} {neg : Bool} {lo hi : Int} (h : notn d = false) : parseD d neg lo hi = (0, 5) := by unfold parseD; rw [h]; rfl
theorem parse_zero {d : List UInt8} {neg : Bool} {lo hi : Int} (h : neg = true) (k : (d == [48]) = true) : parseD d neg lo hi = (0, 5) := by
  unfold parseD; rw [h, k]; simp
theorem parse_over {d : List UInt8} {neg : Bool} {lo hi : Int} (h : notn d = true) (k : neg = false ∨ (d == [48]) = false) (hf : fits (sgn neg (dec d)) = false) : parseD d neg lo hi = (0, 3) := by
  unfold parseD; rw [h, hf]; rcases k with k | k <;> simp [k]
theorem parse_out {d : List UInt8} {neg : Bool} {lo hi : Int} (h : notn d = true) (k : neg = false ∨ (d == [48]) = false) (ho : sgn neg (dec d) < lo ∨ hi < sgn neg (dec d)) : parseD d neg lo hi = (0, 3) := by
  unfold parseD; rw [h]
  generalize sgn neg (dec d) = z at *
  rcases k with k | k <;> simp [k, Bool.and_assoc] <;> omega
theorem parse_in {d : List UInt8} {neg : Bool} {lo hi : Int} (h : notn d = true) (k : neg = false ∨ (d == [48]) = false) (hf : fits (sgn neg (dec d)) = true) (h1 : lo ≤ sgn neg (dec d)) (h2 : sgn neg (dec d) ≤ hi) : parseD d neg lo hi = (sgn neg (dec d), 0) := by
  unfold parseD; rw [h, hf]
  generalize sgn neg (dec d) = z at *
  rcases k with k | k <;> simp [k, h1, h2]
end Go.Proofs.Ytenhnnfemehbcaa
