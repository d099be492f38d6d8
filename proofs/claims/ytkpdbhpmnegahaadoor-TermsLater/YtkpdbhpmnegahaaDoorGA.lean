/- Plain facts on lines of bytes, with no Go in sight: names, numbers, quoted texts, signs, the word that begins a line, the words of a line, the notation of a word. No conditions. Plain facts on lines of bytes, with no Go in sight: the words of a line, the notation of words, and that the words of their notation are these words. No conditions. What the small functions on bytes of packages words and accountingref06 return, and the ends of names. The ends of numbers; codes and plain texts. Structs of three cells in memory; results of which the first lies in memory; bytes and strings. No conditions. What limited, escapes and readText of package words return. What readText of package words returns. Signs: what signEnd of package words and in, sign of package accountingref06 return. What next of package words returns. What Cut of package words returns. -/
import Derived.Test.YtkpdbhpmnegahaaDoorStr
import Derived.Test.YtkpdbhpmnegahaaDoorChecked
import Derived.WalkKit
import Derived.OwnWalk
import Derived.Lib.Hide
import Derived.Handy
import Derived.Laws.RangeAny
import Derived.Laws.RangeString
import Derived.WalkSpells
import Derived.WalkLawsBesides
import Derived.ProofKit
import Derived.LaidMore
import Derived.OpenShut
import Derived.Below
import Derived.Stop.Joined
import Derived.Lib.LaidTab
import Derived.Deep.QuietTactic
import Derived.BigQuiet
import Derived.WalkMore
import Derived.Lib.QuietBelow
import Derived.IntWalk
import Derived.Laws.ResultCell
import Derived.Laws.BytesArg
import Derived.Laws.IdiomStrings
import Derived.Test.YtkpdbhpmnegahaaDoorShelf
namespace Go.Proofs.YtkpdbhpmnegahaaDoor.W
set_option linter.unusedSimpArgs false
set_option linter.unusedVariables false

/-- a letter or _. -/
def lett (c : UInt8) : Bool := (decide (65 ≤ (c.toNat : Int)) && decide ((c.toNat : Int) ≤ 90)) || (decide (97 ≤ (c.toNat : Int)) && decide ((c.toNat : Int) ≤ 122)) || decide ((c.toNat : Int) = 95)
def nam (c : UInt8) : Bool := lett c || dig c
/-- a byte of a plain text. -/
def pln (c : UInt8) : Bool := decide (32 ≤ (c.toNat : Int)) && decide ((c.toNat : Int) ≤ 126)
/-- a point, / or -. -/
def poi (c : UInt8) : Bool := decide ((c.toNat : Int) = 46) || decide ((c.toNat : Int) = 47) || decide ((c.toNat : Int) = 45)
/-- the line begins with a digit. -/
def hd : List UInt8 → Bool
  | [] => false
  | c :: _ => dig c
/-- the bytes of a name at the head of a line. -/
def nmL : List UInt8 → Nat
  | [] => 0
  | c :: r => if nam c then nmL r + 1 else 0
/-- the further bytes of a number at the head of a line. -/
def nuL : List UInt8 → Nat
  | [] => 0
  | c :: r => if nam c || (poi c && hd r) then nuL r + 1 else 0
/-- behind the quote: the error, the text, the offset. -/
def txL : List UInt8 → List UInt8 → Nat → Int × List UInt8 × Nat
  | [], _, _ => (6, [], 0)
  | [c], acc, k => if (c.toNat : Int) = 34 then (0, acc, k + 1) else if (c.toNat : Int) = 92 then (5, [], k) else if pln c then (6, [], 0) else (5, [], k)
  | c :: d :: r, acc, k =>
    if (c.toNat : Int) = 34 then (0, acc, k + 1)
    else if (c.toNat : Int) = 92 then (if (d.toNat : Int) = 34 ∨ (d.toNat : Int) = 92 then txL r (acc ++ [d]) (k + 2) else (5, [], k))
    else if pln c then txL (d :: r) (acc ++ [c]) (k + 1) else (5, [], k)
def two (c d : UInt8) : Bool := ((decide ((c.toNat : Int) = 60) || decide ((c.toNat : Int) = 62) || decide ((c.toNat : Int) = 33)) && decide ((d.toNat : Int) = 61)) || (decide ((c.toNat : Int) = 46) && decide ((d.toNat : Int) = 46))
def oneL : List UInt8 := [40, 41, 123, 125, 91, 93, 44, 59, 58, 61, 43, 45, 42, 47, 60, 62, 124, 38, 33, 64, 37]
def one (c : UInt8) : Bool := oneL.contains c
/-- the bytes of a sign at the head of a line. -/
def sgL : List UInt8 → Nat
  | [] => 0
  | [c] => if one c then 1 else 0
  | c :: d :: _ => if two c d then 2 else if one c then 1 else 0
/-- the word at the head of a line: the error, the kind, the text, the bytes; or the error, 0, nothing, the offset. -/
def lim (l : List UInt8) (n most : Nat) (kind : Int) : Int × Int × List UInt8 × Nat := if most < n then (9, 0, [], 0) else (0, kind, l.take n, n)
def txW (x : Int × List UInt8 × Nat) : Int × Int × List UInt8 × Nat := if x.1 = 0 then (if 60 < x.2.1.length then (9, 0, [], 0) else (0, 3, x.2.1, x.2.2)) else (x.1, 0, [], x.2.2)
def sgW (l : List UInt8) (n : Nat) : Int × Int × List UInt8 × Nat := if n = 0 then (5, 0, [], 0) else (0, 4, l.take n, n)
def woL : List UInt8 → Int × Int × List UInt8 × Nat
  | [] => (5, 0, [], 0)
  | c :: r =>
    if lett c then lim (c :: r) (nmL (c :: r)) 12 1
    else if dig c || ((c.toNat : Int) = 45 && hd r) then lim (c :: r) (nuL r + 1) 60 2
    else if (c.toNat : Int) = 34 then txW (txL r [] 1)
    else sgW (c :: r) (sgL (c :: r))

theorem woL_cons (c : UInt8) (r : List UInt8) : woL (c :: r) = if lett c then lim (c :: r) (nmL (c :: r)) 12 1
    else if dig c || ((c.toNat : Int) = 45 && hd r) then lim (c :: r) (nuL r + 1) 60 2
    else if (c.toNat : Int) = 34 then txW (txL r [] 1)
    else sgW (c :: r) (sgL (c :: r)) := rfl
theorem nmL_le (l : List UInt8) : nmL l ≤ l.length := by
  induction l with
  | nil => simp [nmL]
  | cons c r ih => unfold nmL; split <;> simp <;> omega
theorem nuL_le (l : List UInt8) : nuL l ≤ l.length := by
  induction l with
  | nil => simp [nuL]
  | cons c r ih => unfold nuL; split <;> simp <;> omega
theorem sgL_le (l : List UInt8) : sgL l ≤ l.length := by
  unfold sgL; split <;> simp <;> split <;> (try split) <;> omega
theorem lett_nam {c : UInt8} (h : lett c = true) : nam c = true := by unfold nam; rw [h]; rfl
theorem lett_byte {c : UInt8} (h : lett c = true) : (c.toNat : Int) ≠ 32 ∧ (c.toNat : Int) ≠ 35 ∧ (c.toNat : Int) ≠ 34 := by
  unfold lett at h; simp at h; omega
theorem dig_byte {c : UInt8} (h : dig c = true) : (c.toNat : Int) ≠ 32 ∧ (c.toNat : Int) ≠ 35 ∧ (c.toNat : Int) ≠ 34 ∧ (c.toNat : Int) ≠ 45 := by
  rw [dig_iff] at h; omega
theorem nam32 {c : UInt8} (h : (c.toNat : Int) = 32) : nam c = false := by unfold nam lett dig; simp; omega
theorem poi32 {c : UInt8} (h : (c.toNat : Int) = 32) : poi c = false := by unfold poi; simp; omega

/-- the offset of a text only grows, and stays within the line. -/
theorem txL_le : ∀ (l acc : List UInt8) (k : Nat), (txL l acc k).1 = 0 → k + 1 ≤ (txL l acc k).2.2 ∧ (txL l acc k).2.2 ≤ k + l.length
  | [], acc, k => by simp [txL]
  | [c], acc, k => by
    unfold txL
    by_cases h1 : (c.toNat : Int) = 34
    · simp [h1]
    · by_cases h2 : (c.toNat : Int) = 92
      · simp [h1, h2]
      · by_cases h3 : pln c = true <;> simp [h1, h2, h3]
  | c :: d :: r, acc, k => by
    have i1 := txL_le r (acc ++ [d]) (k + 2)
    have i2 := txL_le (d :: r) (acc ++ [c]) (k + 1)
    unfold txL
    by_cases h1 : (c.toNat : Int) = 34
    · simp [h1]
    · by_cases h2 : (c.toNat : Int) = 92
      · by_cases h3 : (d.toNat : Int) = 34 ∨ (d.toNat : Int) = 92
        · rw [if_neg h1, if_pos h2, if_pos h3]
          intro h
          have := i1 h
          simp; omega
        · rw [if_neg h1, if_pos h2, if_neg h3]; simp
      · by_cases h3 : pln c = true
        · rw [if_neg h1, if_neg h2, if_pos h3]
          intro h
          have := i2 h
          simp at this ⊢; omega
        · rw [if_neg h1, if_neg h2, if_neg h3]; simp
/-- what a text bears is plain. -/
theorem txL_pln : ∀ (l acc : List UInt8) (k : Nat), acc.all pln = true → (txL l acc k).1 = 0 → (txL l acc k).2.1.all pln = true
  | [], acc, k => by simp [txL]
  | [c], acc, k => by
    unfold txL
    by_cases h1 : (c.toNat : Int) = 34
    · rw [if_pos h1]; exact fun h _ => h
    · by_cases h2 : (c.toNat : Int) = 92
      · simp [h1, h2]
      · by_cases h3 : pln c = true <;> simp [h1, h2, h3]
  | c :: d :: r, acc, k => by
    have i1 := txL_pln r (acc ++ [d]) (k + 2)
    have i2 := txL_pln (d :: r) (acc ++ [c]) (k + 1)
    unfold txL
    intro ha
    by_cases h1 : (c.toNat : Int) = 34
    · rw [if_pos h1]; exact fun _ => ha
    · by_cases h2 : (c.toNat : Int) = 92
      · by_cases h3 : (d.toNat : Int) = 34 ∨ (d.toNat : Int) = 92
        · rw [if_neg h1, if_pos h2, if_pos h3]
          have hp : pln d = true := by unfold pln; simp; omega
          exact i1 (by rw [List.all_append, ha]; simp [hp])
        · rw [if_neg h1, if_pos h2, if_neg h3]; simp
      · by_cases h3 : pln c = true
        · rw [if_neg h1, if_neg h2, if_pos h3]
          exact i2 (by rw [List.all_append, ha]; simp [h3])
        · rw [if_neg h1, if_neg h2, if_neg h3]; simp
/-- a text that ends is the same ahead of anything. -/
theorem txL_app : ∀ (l acc : List UInt8) (k : Nat) (x : List UInt8), (txL l acc k).1 = 0 → txL (l ++ x) acc k = txL l acc k
  | [], acc, k, x => by simp [txL]
  | [c], acc, k, x => by
    intro h
    have h1 : (c.toNat : Int) = 34 := by
      unfold txL at h
      by_cases h1 : (c.toNat : Int) = 34
      · exact h1
      · by_cases h2 : (c.toNat : Int) = 92
        · simp [h1, h2] at h
        · by_cases h3 : pln c = true <;> simp [h1, h2, h3] at h
    cases x with
    | nil => rfl
    | cons y x => simp only [List.cons_append, List.nil_append]; unfold txL; rw [if_pos h1, if_pos h1]
  | c :: d :: r, acc, k, x => by
    have i1 := txL_app r (acc ++ [d]) (k + 2) x
    have i2 := txL_app (d :: r) (acc ++ [c]) (k + 1) x
    simp only [List.cons_append] at i2 ⊢
    rw [txL, txL]
    by_cases h1 : (c.toNat : Int) = 34
    · rw [if_pos h1, if_pos h1]; exact fun _ => rfl
    · by_cases h2 : (c.toNat : Int) = 92
      · by_cases h3 : (d.toNat : Int) = 34 ∨ (d.toNat : Int) = 92
        · rw [if_neg h1, if_pos h2, if_pos h3, if_neg h1, if_pos h2, if_pos h3]; exact i1
        · rw [if_neg h1, if_pos h2, if_neg h3]; simp
      · by_cases h3 : pln c = true
        · rw [if_neg h1, if_neg h2, if_pos h3, if_neg h1, if_neg h2, if_pos h3]; exact i2
        · rw [if_neg h1, if_neg h2, if_neg h3]; simp

/-- the quoted text. -/
def esc (c : UInt8) : List UInt8 := if (c.toNat : Int) = 34 ∨ (c.toNat : Int) = 92 then [92, c] else [c]
def escL (s : List UInt8) : List UInt8 := s.flatMap esc
def quL (s : List UInt8) : List UInt8 := [34] ++ escL s ++ [34]
def plainB (s : List UInt8) : Bool := s.all pln && decide (s.length ≤ 60)
theorem escL_cons (c : UInt8) (s : List UInt8) : escL (c :: s) = esc c ++ escL s := rfl
theorem escL_snoc (s : List UInt8) (c : UInt8) : escL (s ++ [c]) = escL s ++ esc c := by unfold escL; rw [List.flatMap_append]; simp
theorem escL_len (s : List UInt8) : (escL s).length ≤ 2 * s.length := by
  induction s with
  | nil => simp [escL]
  | cons c s ih => rw [escL_cons, List.length_append]; unfold esc; split <;> simp <;> omega
theorem txL_esc : ∀ (s acc x : List UInt8) (k : Nat), s.all pln = true → txL (escL s ++ 34 :: x) acc k = (0, acc ++ s, k + (escL s).length + 1)
  | [], acc, x, k, _ => by
    have : escL [] = [] := rfl
    rw [this]
    cases x with
    | nil => simp [txL]
    | cons y x => simp [txL]
  | c :: s, acc, x, k, h => by
    have hp : pln c = true := by simp at h; exact h.1
    have hs : s.all pln = true := by simp at h; simpa using h.2
    have ih := fun acc k => txL_esc s acc x k hs
    rw [escL_cons]
    by_cases h1 : (c.toNat : Int) = 34 ∨ (c.toNat : Int) = 92
    · have e : esc c = [92, c] := if_pos h1
      rw [e]
      simp only [List.cons_append, List.nil_append]
      rw [txL, if_neg (by decide), if_pos (by decide), if_pos h1, ih]
      simp; omega
    · have e : esc c = [c] := if_neg h1
      rw [e]
      simp only [List.cons_append, List.nil_append]
      obtain ⟨y, z, hz⟩ : ∃ y z, escL s ++ 34 :: x = y :: z := by
        cases hq : escL s with
        | nil => exact ⟨34, x, rfl⟩
        | cons y z => exact ⟨y, z ++ 34 :: x, rfl⟩
      have i2 := ih (acc ++ [c]) (k + 1)
      rw [hz] at i2 ⊢
      rw [txL, if_neg (by omega), if_neg (by omega), if_pos hp, i2]
      simp; omega
theorem woL_quote {s : List UInt8} (h : plainB s = true) : woL (quL s) = (0, 3, s, (quL s).length) := by
  unfold plainB at h
  simp only [Bool.and_eq_true, decide_eq_true_eq] at h
  have e : quL s = 34 :: (escL s ++ 34 :: []) := by unfold quL; simp
  rw [e]
  rw [woL_cons]
  rw [if_neg (by decide), if_neg (by simp [dig]), if_pos (by decide), txL_esc s [] [] 1 h.1]
  unfold txW
  have : ¬ 60 < ([] ++ s).length := by rw [List.nil_append]; omega
  rw [if_pos rfl, if_neg this]
  simp; omega

theorem lim_ok {l : List UInt8} {n most : Nat} {kind kd : Int} {S : List UInt8} {k : Nat} (h : lim l n most kind = (0, kd, S, k)) : n ≤ most ∧ kd = kind ∧ S = l.take n ∧ k = n := by
  unfold lim at h; split at h
  · simp at h
  · simp at h; exact ⟨by omega, h.1.symm, h.2.1.symm, h.2.2.symm⟩
theorem lim_at {l : List UInt8} {n most : Nat} {kind : Int} (h : n ≤ most) : lim l n most kind = (0, kind, l.take n, n) := by unfold lim; rw [if_neg (by omega)]
theorem nmL_self : ∀ (l : List UInt8), nmL (l.take (nmL l)) = nmL l
  | [] => rfl
  | c :: r => by
    by_cases h : nam c = true
    · have e : nmL (c :: r) = nmL r + 1 := by rw [nmL, if_pos h]
      rw [e, List.take_succ_cons, nmL, if_pos h, nmL_self r]
    · have e : nmL (c :: r) = 0 := by rw [nmL, if_neg h]
      rw [e]; rfl
theorem nmL_app (x : List UInt8) : ∀ (l : List UInt8), nmL (l ++ 32 :: x) = nmL l
  | [] => by simp [nmL, nam32 (c := 32) (by decide)]
  | c :: r => by simp only [List.cons_append]; rw [nmL, nmL, nmL_app x r]
theorem hd_app (x : List UInt8) : ∀ (l : List UInt8), hd (l ++ 32 :: x) = hd l
  | [] => by simp [hd, dig]
  | c :: r => rfl
theorem nuL_app (x : List UInt8) : ∀ (l : List UInt8), nuL (l ++ 32 :: x) = nuL l
  | [] => by simp [nuL, nam32 (c := 32) (by decide), poi32 (c := 32) (by decide)]
  | c :: r => by simp only [List.cons_append]; rw [nuL, nuL, nuL_app x r, hd_app]
theorem nuL_hd (r : List UInt8) (h : hd r = true) : hd (r.take (nuL r)) = true := by
  cases r with
  | nil => simp [hd] at h
  | cons c r =>
    have h1 : dig c = true := h
    have h2 : nam c = true := by unfold nam; rw [h1]; simp
    rw [nuL, h2]; simp [hd, h1]
theorem hd_take (r : List UInt8) (n : Nat) (h : hd r = false) : hd (r.take n) = false := by
  cases r with
  | nil => simpa using h
  | cons c r => cases n with
    | zero => rfl
    | succ n => exact h
theorem nuL_self : ∀ (l : List UInt8), nuL (l.take (nuL l)) = nuL l
  | [] => rfl
  | c :: r => by
    rw [nuL]
    by_cases h : nam c = true
    · rw [h]; simp only [Bool.true_or, if_true, List.take_succ_cons]; rw [nuL, h]; simp [nuL_self r]
    · have hn : nam c = false := by simpa using h
      by_cases h2 : (poi c && hd r) = true
      · rw [h2, hn]; simp only [Bool.or_true, if_true, List.take_succ_cons]
        simp only [Bool.and_eq_true] at h2
        rw [nuL, hn, h2.1, nuL_hd r h2.2]; simp [nuL_self r]
      · have : (poi c && hd r) = false := by simpa using h2
        rw [this, hn]; rfl
theorem sgW_ok {l : List UInt8} {n : Nat} {kd : Int} {S : List UInt8} {k : Nat} (h : sgW l n = (0, kd, S, k)) : n ≠ 0 ∧ kd = 4 ∧ S = l.take n ∧ k = n := by
  unfold sgW at h; split at h
  · simp at h
  · simp at h; exact ⟨by omega, h.1.symm, h.2.1.symm, h.2.2.symm⟩
theorem sgW_at {l : List UInt8} {n : Nat} (h : n ≠ 0) : sgW l n = (0, 4, l.take n, n) := by unfold sgW; rw [if_neg h]
theorem txW_ok {x : Int × List UInt8 × Nat} {kd : Int} {S : List UInt8} {k : Nat} (h : txW x = (0, kd, S, k)) : x.1 = 0 ∧ x.2.1.length ≤ 60 ∧ kd = 3 ∧ S = x.2.1 ∧ k = x.2.2 := by
  unfold txW at h; split at h
  · split at h
    · simp at h
    · simp at h; exact ⟨by assumption, by omega, h.1.symm, h.2.1.symm, h.2.2.symm⟩
  · simp at h; exact absurd h.1 (by assumption)
theorem two_of_one {c d : UInt8} (h : (d.toNat : Int) = 32) : two c d = false := by unfold two; simp; omega
theorem sgL_app (x : List UInt8) : ∀ (l : List UInt8), l ≠ [] → sgL (l ++ 32 :: x) = sgL l
  | [], h => absurd rfl h
  | [c], _ => by simp [sgL, two_of_one (c := c) (d := 32) (by decide)]
  | c :: d :: r, _ => rfl
theorem sgL_self (l : List UInt8) (h : sgL l ≠ 0) : sgL (l.take (sgL l)) = sgL l := by
  match l with
  | [] => exact absurd rfl h
  | [c] =>
    by_cases h1 : one c = true
    · simp [sgL, h1]
    · simp [sgL, h1] at h
  | c :: d :: r =>
    by_cases h2 : two c d = true
    · simp [sgL, h2]
    · by_cases h1 : one c = true
      · simp [sgL, h2, h1]
      · simp [sgL, h2, h1] at h

/-- the word of a line that goes on with a blank. -/
theorem woL_app {l : List UInt8} {kd : Int} {S : List UInt8} {k : Nat} (x : List UInt8) (h : woL l = (0, kd, S, k)) : woL (l ++ 32 :: x) = (0, kd, S, k) := by
  cases l with
  | nil => simp [woL] at h
  | cons c r =>
    simp only [List.cons_append]
    rw [woL_cons] at h ⊢
    have e1 : nmL (c :: (r ++ 32 :: x)) = nmL (c :: r) := nmL_app x (c :: r)
    have e2 : nuL (r ++ 32 :: x) = nuL r := nuL_app x r
    have e3 : hd (r ++ 32 :: x) = hd r := hd_app x r
    have e4 : sgL (c :: (r ++ 32 :: x)) = sgL (c :: r) := sgL_app x (c :: r) (by simp)
    rw [e1, e2, e3, e4]
    split
    · rw [if_pos (by assumption)] at h
      obtain ⟨a, b, c', d⟩ := lim_ok h
      rw [lim_at a, b, c', d]
      have := nmL_le (c :: r)
      rw [show c :: (r ++ 32 :: x) = (c :: r) ++ 32 :: x from rfl, List.take_append_of_le_length this]
    · rw [if_neg (by assumption)] at h
      split
      · rw [if_pos (by assumption)] at h
        obtain ⟨a, b, c', d⟩ := lim_ok h
        rw [lim_at a, b, c', d]
        have := nuL_le r
        rw [show c :: (r ++ 32 :: x) = (c :: r) ++ 32 :: x from rfl, List.take_append_of_le_length (by simp; omega)]
      · rw [if_neg (by assumption)] at h
        split
        · rw [if_pos (by assumption)] at h
          rw [txL_app r [] 1 (32 :: x) (txW_ok h).1]; exact h
        · rw [if_neg (by assumption)] at h
          obtain ⟨a, b, c', d⟩ := sgW_ok h
          rw [sgW_at a, b, c', d]
          have := sgL_le (c :: r)
          rw [show c :: (r ++ 32 :: x) = (c :: r) ++ 32 :: x from rfl, List.take_append_of_le_length this]
/-- what the word at the head of a line is. -/
theorem woL_ok {l : List UInt8} {kd : Int} {S : List UInt8} {k : Nat} (h : woL l = (0, kd, S, k)) :
    1 ≤ k ∧ k ≤ l.length ∧ (kd = 3 → plainB S = true) ∧ (kd ≠ 3 → S = l.take k ∧ woL S = (0, kd, S, S.length)) ∧ (∀ c r, l = c :: r → (c.toNat : Int) ≠ 32 ∧ (c.toNat : Int) ≠ 35) := by
  cases l with
  | nil => simp [woL] at h
  | cons c r =>
    rw [woL_cons] at h
    split at h
    · rename_i hc
      obtain ⟨a, b, c', d⟩ := lim_ok h
      have hk : nmL (c :: r) = nmL r + 1 := by rw [nmL, if_pos (lett_nam hc)]
      have hl := nmL_le (c :: r)
      have hs := nmL_self (c :: r)
      refine ⟨by omega, by omega, fun x => by rw [b] at x; exact absurd x (by decide), fun _ => ⟨by rw [c', d], ?_⟩, fun c2 r2 e => by injection e with e1 e2; subst e1; exact ⟨(lett_byte hc).1, (lett_byte hc).2.1⟩⟩
      rw [← c'] at hs
      have hS : S = c :: r.take (nmL r) := by rw [c', hk]; rfl
      have hSl : S.length = nmL (c :: r) := by rw [c', List.length_take]; omega
      rw [hS] at hs hSl ⊢
      rw [woL_cons]
      rw [if_pos hc, hs, lim_at a, b, hSl, ← hSl, List.take_length]
    · split at h
      · rename_i h0 hc
        obtain ⟨a, b, c', d⟩ := lim_ok h
        have hl := nuL_le r
        have hs := nuL_self r
        have hby : (c.toNat : Int) ≠ 32 ∧ (c.toNat : Int) ≠ 35 := by
          simp only [Bool.or_eq_true, Bool.and_eq_true, decide_eq_true_eq] at hc
          rcases hc with hc | hc
          · exact ⟨(dig_byte hc).1, (dig_byte hc).2.1⟩
          · omega
        refine ⟨by omega, by simp; omega, fun x => by rw [b] at x; exact absurd x (by decide), fun _ => ⟨by rw [c', d], ?_⟩, fun c2 r2 e => by injection e with e1 e2; subst e1; exact hby⟩
        have hS : S = c :: r.take (nuL r) := by rw [c']; rfl
        have hSl : S.length = nuL r + 1 := by rw [c', List.length_take]; simp; omega
        have hc2 : (dig c || ((c.toNat : Int) = 45 && hd (r.take (nuL r)))) = true := by
          simp only [Bool.or_eq_true, Bool.and_eq_true, decide_eq_true_eq] at hc ⊢
          rcases hc with hc | hc
          · exact .inl hc
          · exact .inr ⟨hc.1, nuL_hd r hc.2⟩
        rw [hS] at hSl ⊢
        rw [woL_cons]
        rw [if_neg h0, if_pos hc2, hs, lim_at a, b, hSl, ← hSl, List.take_length]
      · split at h
        · rename_i h0 h1 hc
          obtain ⟨a1, a2, b, c', d⟩ := txW_ok h
          have := txL_le r [] 1 a1
          have hp := txL_pln r [] 1 rfl a1
          refine ⟨by omega, by simp; omega, fun _ => by unfold plainB; rw [c', hp]; simp [a2], fun x => absurd b x, fun c2 r2 e => by injection e with e1 e2; subst e1; omega⟩
        · rename_i h0 h1 hc
          obtain ⟨a, b, c', d⟩ := sgW_ok h
          have hl := sgL_le (c :: r)
          have hs := sgL_self (c :: r) a
          rw [← c'] at hs
          have hSl : S.length = sgL (c :: r) := by rw [c', List.length_take]; omega
          have hby : (c.toNat : Int) ≠ 32 ∧ (c.toNat : Int) ≠ 35 := by
            constructor
            · intro x
              have hcc : c = 32 := (byte_eq (n := 32) (by decide)).1 (by exact_mod_cast x)
              subst hcc
              apply a
              cases r with
              | nil => decide
              | cons d r => simp [sgL, two, one, oneL]
            · intro x
              have hcc : c = 35 := (byte_eq (n := 35) (by decide)).1 (by exact_mod_cast x)
              subst hcc
              apply a
              cases r with
              | nil => decide
              | cons d r => simp [sgL, two, one, oneL]
          refine ⟨by omega, by omega, fun x => by rw [b] at x; exact absurd x (by decide), fun _ => ⟨by rw [c', d], ?_⟩, fun c2 r2 e => by injection e with e1 e2; subst e1; exact hby⟩
          obtain ⟨n, hn⟩ : ∃ n, sgL (c :: r) = n + 1 := ⟨sgL (c :: r) - 1, by omega⟩
          have hS : S = c :: r.take n := by rw [c', hn]; rfl
          have h1' : ¬ (dig c || ((c.toNat : Int) = 45 && hd (r.take n))) = true := by
            simp only [Bool.or_eq_true, Bool.and_eq_true, decide_eq_true_eq] at h1 ⊢
            intro x
            rcases x with x | x
            · exact h1 (.inl x)
            · cases hr : hd r
              · rw [hd_take r n hr] at x; simp at x
              · exact h1 (.inr ⟨x.1, hr⟩)
          have hq : (sgL S) = S.length := by rw [hs, hSl]
          rw [hS] at hs hSl hq ⊢
          rw [woL_cons]
          rw [if_neg h0, if_neg h1', if_neg hc, hs, sgW_at a, b, hSl, ← hSl, List.take_length]
end Go.Proofs.YtkpdbhpmnegahaaDoor.W
namespace Go.Proofs.YtkpdbhpmnegahaaDoor.W
set_option linter.unusedSimpArgs false
set_option linter.unusedVariables false

/-- the words of a line: the error, the words ahead of it (kind, text, offset), the offset of the problem. -/
def pre (w : Int × List UInt8 × Nat) (x : Int × List (Int × List UInt8 × Nat) × Nat) : Int × List (Int × List UInt8 × Nat) × Nat := (x.1, w :: x.2.1, x.2.2)
def cuF : Nat → List UInt8 → Nat → Int × List (Int × List UInt8 × Nat) × Nat
  | 0, _, _ => (0, [], 0)
  | _ + 1, [], _ => (0, [], 0)
  | n + 1, c :: r, a =>
    if (c.toNat : Int) = 32 then cuF n r (a + 1)
    else if (c.toNat : Int) = 35 then (0, [], 0)
    else if (woL (c :: r)).1 = 0 then pre ((woL (c :: r)).2.1, (woL (c :: r)).2.2.1, a) (cuF n ((c :: r).drop (woL (c :: r)).2.2.2) (a + (woL (c :: r)).2.2.2))
    else ((woL (c :: r)).1, [], a + (woL (c :: r)).2.2.2)
def cuV (l : List UInt8) (a : Nat) : Int × List (Int × List UInt8 × Nat) × Nat := cuF l.length l a
theorem wo_eta {l : List UInt8} (h : (woL l).1 = 0) : woL l = (0, (woL l).2.1, (woL l).2.2.1, (woL l).2.2.2) := by rw [← h]
theorem cuF_fuel : ∀ (m : Nat) (l : List UInt8) (a n : Nat), l.length ≤ m → m ≤ n → cuF n l a = cuF m l a
  | 0, l, a, n, h, _ => by
    have : l = [] := List.length_eq_zero_iff.1 (by omega)
    subst this
    cases n <;> rfl
  | m + 1, [], a, n, _, h => by
    obtain ⟨n, rfl⟩ : ∃ k, n = k + 1 := ⟨n - 1, by omega⟩
    rfl
  | m + 1, c :: r, a, n, h, h2 => by
    obtain ⟨n, rfl⟩ : ∃ k, n = k + 1 := ⟨n - 1, by omega⟩
    simp at h
    rw [cuF, cuF]
    split
    · exact cuF_fuel m r (a + 1) n h (by omega)
    · split
      · rfl
      · split
        · rename_i hw
          have := (woL_ok (wo_eta hw)).1
          rw [cuF_fuel m _ _ n (by rw [List.length_drop]; simp; omega) (by omega)]
        · rfl
theorem cuV_nil (a : Nat) : cuV [] a = (0, [], 0) := rfl
theorem cuV_blank {c : UInt8} {r : List UInt8} {a : Nat} (h : (c.toNat : Int) = 32) : cuV (c :: r) a = cuV r (a + 1) := by
  unfold cuV; simp only [List.length_cons]; rw [cuF, if_pos h]
theorem cuV_hash {c : UInt8} {r : List UInt8} {a : Nat} (h : (c.toNat : Int) = 35) : cuV (c :: r) a = (0, [], 0) := by
  unfold cuV; simp only [List.length_cons]; rw [cuF, if_neg (by omega), if_pos h]
theorem cuV_bad {c : UInt8} {r : List UInt8} {a : Nat} {e kd : Int} {S : List UInt8} {k : Nat} (h1 : (c.toNat : Int) ≠ 32) (h2 : (c.toNat : Int) ≠ 35) (h : woL (c :: r) = (e, kd, S, k)) (he : e ≠ 0) : cuV (c :: r) a = (e, [], a + k) := by
  unfold cuV; simp only [List.length_cons]; rw [cuF, if_neg h1, if_neg h2, h, if_neg he]
theorem cuV_word {l : List UInt8} {a : Nat} {kd : Int} {S : List UInt8} {k : Nat} (h : woL l = (0, kd, S, k)) : cuV l a = pre (kd, S, a) (cuV (l.drop k) (a + k)) := by
  cases l with
  | nil => simp [woL] at h
  | cons c r =>
    obtain ⟨q1, q2, _, _, q5⟩ := woL_ok h
    have := q5 c r rfl
    unfold cuV; simp only [List.length_cons]
    rw [cuF, if_neg this.1, if_neg this.2, h]
    simp only [if_true]
    rw [cuF_fuel ((c :: r).drop k).length _ _ r.length (Nat.le_refl _) (by rw [List.length_drop]; simp; omega)]
/-- a comment changes no word. -/
theorem cuV_comment (x : List UInt8) : ∀ (n : Nat) (l : List UInt8) (a : Nat), l.length ≤ n → (cuV l a).1 = 0 → cuV (l ++ 32 :: 35 :: x) a = (0, (cuV l a).2.1, 0) := by
  intro n
  induction n with
  | zero =>
    intro l a h _
    have : l = [] := List.length_eq_zero_iff.1 (by omega)
    subst this
    rw [List.nil_append, cuV_blank (by decide), cuV_hash (by decide)]; rfl
  | succ n ih =>
    intro l a h h0
    cases l with
    | nil => rw [List.nil_append, cuV_blank (by decide), cuV_hash (by decide)]; rfl
    | cons c r =>
      simp at h
      by_cases h1 : (c.toNat : Int) = 32
      · rw [cuV_blank h1] at h0
        rw [List.cons_append, cuV_blank h1, cuV_blank h1]
        exact ih r (a + 1) h h0
      · by_cases h2 : (c.toNat : Int) = 35
        · rw [List.cons_append, cuV_hash h2, cuV_hash h2]
        · by_cases hw : (woL (c :: r)).1 = 0
          · have hw' := wo_eta hw
            generalize (woL (c :: r)).2.1 = kd at hw'
            generalize (woL (c :: r)).2.2.1 = S at hw'
            generalize (woL (c :: r)).2.2.2 = k at hw'
            obtain ⟨q1, q2, _⟩ := woL_ok hw'
            have e1 := cuV_word (a := a) hw'
            have e2 := cuV_word (a := a) (woL_app (35 :: x) hw')
            rw [e1] at h0 ⊢
            rw [e2, List.drop_append_of_le_length q2]
            have := ih ((c :: r).drop k) (a + k) (by rw [List.length_drop]; simp; omega) h0
            rw [this]
            rfl
          · have e1 := cuV_bad (a := a) h1 h2 (show woL (c :: r) = ((woL (c :: r)).1, (woL (c :: r)).2.1, (woL (c :: r)).2.2.1, (woL (c :: r)).2.2.2) from rfl) hw
            rw [e1] at h0
            exact absurd h0 hw
/-- a word that Join takes. -/
def goodW (kd : Int) (S : List UInt8) : Prop := if kd = 3 then plainB S = true else woL S = (0, kd, S, S.length)
instance (kd : Int) (S : List UInt8) : Decidable (goodW kd S) := by unfold goodW; infer_instance
/-- its notation. -/
def noL (kd : Int) (S : List UInt8) : List UInt8 := if kd = 3 then quL S else S
theorem good_wo {kd : Int} {S : List UInt8} (h : goodW kd S) : woL (noL kd S) = (0, kd, S, (noL kd S).length) := by
  unfold goodW at h; unfold noL
  split
  · rename_i e; subst e; exact woL_quote (by simpa using h)
  · rename_i e; rw [if_neg e] at h; exact h
theorem wo_len {l : List UInt8} {kd : Int} {S : List UInt8} {k : Nat} (h : woL l = (0, kd, S, k)) (h3 : kd ≠ 3) : k ≤ 60 := by
  cases l with
  | nil => simp [woL] at h
  | cons c r =>
    rw [woL_cons] at h
    split at h
    · have := lim_ok h; omega
    · split at h
      · have := lim_ok h; omega
      · split at h
        · exact absurd (txW_ok h).2.2.1 h3
        · have := sgW_ok h
          have h2 : sgL (c :: r) ≤ 2 := by unfold sgL; split <;> (try split) <;> (try split) <;> omega
          omega
theorem good_len {kd : Int} {S : List UInt8} (h : goodW kd S) : (noL kd S).length ≤ 122 := by
  by_cases e : kd = 3
  · unfold goodW at h; rw [if_pos e] at h
    unfold noL; rw [if_pos e]; unfold quL
    unfold plainB at h; simp only [Bool.and_eq_true, decide_eq_true_eq] at h
    have := escL_len S
    simp; omega
  · have := wo_len (good_wo h) e; omega
theorem cuV_one {l : List UInt8} {kd : Int} {S : List UInt8} (a : Nat) (h : woL l = (0, kd, S, l.length)) : cuV l a = (0, [(kd, S, a)], 0) := by
  rw [cuV_word h]; simp [cuV_nil, pre]
theorem cuV_more {l : List UInt8} {kd : Int} {S : List UInt8} (a : Nat) (x : List UInt8) (h : woL l = (0, kd, S, l.length)) : cuV (l ++ 32 :: x) a = pre (kd, S, a) (cuV x (a + l.length + 1)) := by
  rw [cuV_word (woL_app x h)]; simp [cuV_blank (c := 32) (by decide)]
theorem cuV_first {e kd : Int} {S : List UInt8} {p o : Nat} {ws : List (Int × List UInt8 × Nat)} : ∀ (n : Nat) (l : List UInt8) (a : Nat), l.length ≤ n → cuV l a = (e, (kd, S, o) :: ws, p) → ∃ j k, o = a + j ∧ woL (l.drop j) = (0, kd, S, k) := by
  intro n
  induction n with
  | zero =>
    intro l a h h0
    have : l = [] := List.length_eq_zero_iff.1 (by omega)
    subst this
    rw [cuV_nil] at h0; simp at h0
  | succ n ih =>
    intro l a h h0
    cases l with
    | nil => rw [cuV_nil] at h0; simp at h0
    | cons c r =>
      simp at h
      by_cases h1 : (c.toNat : Int) = 32
      · rw [cuV_blank h1] at h0
        obtain ⟨j, k, q1, q2⟩ := ih r (a + 1) h h0
        exact ⟨j + 1, k, by omega, by simpa using q2⟩
      · by_cases h2 : (c.toNat : Int) = 35
        · rw [cuV_hash h2] at h0; simp at h0
        · by_cases hw : (woL (c :: r)).1 = 0
          · have hw' := wo_eta hw
            rw [cuV_word hw'] at h0
            unfold pre at h0
            simp only [Prod.mk.injEq, List.cons.injEq] at h0
            obtain ⟨_, ⟨⟨g1, g2, g3⟩, _⟩, _⟩ := h0
            exact ⟨0, (woL (c :: r)).2.2.2, by omega, by rw [g1, g2] at hw'; exact hw'⟩
          · rw [cuV_bad (a := a) h1 h2 (show woL (c :: r) = ((woL (c :: r)).1, (woL (c :: r)).2.1, (woL (c :: r)).2.2.1, (woL (c :: r)).2.2.2) from rfl) hw] at h0
            simp at h0
/-- the word is the only one of its notation. -/
theorem good_of {kd : Int} {S : List UInt8} {p o : Nat} {e : Int} {ws : List (Int × List UInt8 × Nat)} (hp : kd = 3 → plainB S = true) (h : cuV (noL kd S) 0 = (e, (kd, S, o) :: ws, p)) : goodW kd S := by
  unfold goodW
  by_cases h3 : kd = 3
  · rw [if_pos h3]; exact hp h3
  · rw [if_neg h3]
    unfold noL at h; rw [if_neg h3] at h
    obtain ⟨j, k, _, q⟩ := cuV_first S.length S 0 (Nat.le_refl _) h
    obtain ⟨r1, r2, _, r4, _⟩ := woL_ok q
    have r5 := (r4 h3).1
    have hl : S.length = min k (S.length - j) := by
      have := congrArg List.length r5
      rw [List.length_take, List.length_drop] at this; exact this
    rw [List.length_drop] at r2
    have hj : j = 0 := by omega
    subst hj
    have hk : k = S.length := by omega
    rw [hk] at q
    simpa using q
theorem good_cut {kd : Int} {S : List UInt8} (h : goodW kd S) : cuV (noL kd S) 0 = (0, [(kd, S, 0)], 0) := cuV_one 0 (good_wo h)
/-- the words of a line are good, lie at or behind a, and their offsets increase. -/
theorem cuV_goods : ∀ (n : Nat) (l : List UInt8) (a : Nat), l.length ≤ n → (∀ w ∈ (cuV l a).2.1, goodW w.1 w.2.1 ∧ a ≤ w.2.2) ∧ (cuV l a).2.1.Pairwise (fun v w => v.2.2 < w.2.2) ∧ (cuV l a).2.1.length ≤ l.length := by
  intro n
  induction n with
  | zero =>
    intro l a h
    have : l = [] := List.length_eq_zero_iff.1 (by omega)
    subst this
    rw [cuV_nil]; simp
  | succ n ih =>
    intro l a h
    cases l with
    | nil => rw [cuV_nil]; simp
    | cons c r =>
      simp at h
      by_cases h1 : (c.toNat : Int) = 32
      · rw [cuV_blank h1]
        obtain ⟨q1, q2, q3⟩ := ih r (a + 1) h
        exact ⟨fun w hw => ⟨(q1 w hw).1, by have := (q1 w hw).2; omega⟩, q2, by simp; omega⟩
      · by_cases h2 : (c.toNat : Int) = 35
        · rw [cuV_hash h2]; simp
        · by_cases hw : (woL (c :: r)).1 = 0
          · have hw' := wo_eta hw
            generalize (woL (c :: r)).2.1 = kd at hw'
            generalize (woL (c :: r)).2.2.1 = S at hw'
            generalize (woL (c :: r)).2.2.2 = k at hw'
            obtain ⟨r1, r2, r3, r4, _⟩ := woL_ok hw'
            rw [cuV_word hw']
            obtain ⟨q1, q2, q3⟩ := ih ((c :: r).drop k) (a + k) (by rw [List.length_drop]; simp; omega)
            have hg : goodW kd S := by
              unfold goodW; split
              · exact r3 (by assumption)
              · exact (r4 (by assumption)).2
            unfold pre
            refine ⟨fun w hw => ?_, ?_, ?_⟩
            · rcases List.mem_cons.1 hw with e | e
              · subst e; exact ⟨hg, Nat.le_refl _⟩
              · exact ⟨(q1 w e).1, by have := (q1 w e).2; omega⟩
            · exact List.pairwise_cons.2 ⟨fun w hw => by have := (q1 w hw).2; show a < w.2.2; omega, q2⟩
            · rw [List.length_drop] at q3; simp at q3 ⊢; omega
          · rw [cuV_bad (a := a) h1 h2 (show woL (c :: r) = ((woL (c :: r)).1, (woL (c :: r)).2.1, (woL (c :: r)).2.2.1, (woL (c :: r)).2.2.2) from rfl) hw]; simp
/-- the line of words. -/
def joL : List (Int × List UInt8 × Nat) → List UInt8
  | [] => []
  | [w] => noL w.1 w.2.1
  | w :: v :: r => noL w.1 w.2.1 ++ 32 :: joL (v :: r)
/-- the words with the offsets that they have in their line. -/
def ofL : Nat → List (Int × List UInt8 × Nat) → List (Int × List UInt8 × Nat)
  | _, [] => []
  | a, w :: r => (w.1, w.2.1, a) :: ofL (a + (noL w.1 w.2.1).length + 1) r
theorem cuV_join : ∀ (ws : List (Int × List UInt8 × Nat)) (a : Nat), (∀ w ∈ ws, goodW w.1 w.2.1) → cuV (joL ws) a = (0, ofL a ws, 0)
  | [], a, _ => rfl
  | [w], a, h => by
    rw [joL, cuV_one a (good_wo (h w (by simp)))]; rfl
  | w :: v :: r, a, h => by
    rw [joL, cuV_more a _ (good_wo (h w (by simp))), cuV_join (v :: r) _ (fun x hx => h x (by simp at hx ⊢; right; exact hx))]
    rfl
theorem ofL_len : ∀ (ws : List (Int × List UInt8 × Nat)) (a : Nat), (ofL a ws).length = ws.length
  | [], _ => rfl
  | w :: r, a => by simp [ofL, ofL_len r]
theorem ofL_get : ∀ (ws : List (Int × List UInt8 × Nat)) (a i : Nat) (h : i < ws.length) (h' : i < (ofL a ws).length), ((ofL a ws)[i]).1 = (ws[i]).1 ∧ ((ofL a ws)[i]).2.1 = (ws[i]).2.1
  | [], _, _, h, _ => absurd h (by simp)
  | w :: r, a, 0, _, _ => ⟨rfl, rfl⟩
  | w :: r, a, i + 1, h, h' => by
    simp only [ofL, List.getElem_cons_succ]
    exact ofL_get r _ i (by simpa using h) (by simpa [ofL_len] using h)
theorem joL_snoc (w : Int × List UInt8 × Nat) : ∀ (ws : List (Int × List UInt8 × Nat)), ws ≠ [] → joL (ws ++ [w]) = joL ws ++ 32 :: noL w.1 w.2.1
  | [], h => absurd rfl h
  | [v], _ => rfl
  | v :: u :: r, _ => by
    have := joL_snoc w (u :: r) (by simp)
    simp only [List.cons_append] at this ⊢
    rw [joL, this, joL]; simp
end Go.Proofs.YtkpdbhpmnegahaaDoor.W
namespace Go.Proofs.YtkpdbhpmnegahaaDoor.W
open Go.RowKit
set_option linter.unusedVariables false
set_option linter.unusedSimpArgs false

theorem isLetter_any (c : UInt8) (w : World) :
    Calls Tryd.prog 45 #[.int .u8 (c.toNat : Int)] w fun e w' => e = .returned (.bool (lett c)) ∧ w = w' := by
  have := c.toNat_lt
  go_enter Tryd.func45, Tryd.ntmps45
  go_wp2
  all_goals (go_ret; refine ⟨ret_bool ?_, rfl⟩; unfold lett; grind)
theorem isDigit_any (c : UInt8) (w : World) :
    Calls Tryd.prog 48 #[.int .u8 (c.toNat : Int)] w fun e w' => e = .returned (.bool (dig c)) ∧ w = w' := by
  have := c.toNat_lt
  go_enter Tryd.func48, Tryd.ntmps48
  go_wp2
  all_goals (go_ret; refine ⟨ret_bool ?_, rfl⟩; unfold dig; grind)
theorem isPlain_any (c : UInt8) (w : World) :
    Calls Tryd.prog 67 #[.int .u8 (c.toNat : Int)] w fun e w' => e = .returned (.bool (pln c)) ∧ w = w' := by
  have := c.toNat_lt
  go_enter Tryd.func67, Tryd.ntmps67
  go_wp2
  all_goals (go_ret; refine ⟨ret_bool ?_, rfl⟩; unfold pln; grind)
theorem dropB (s : ByteArray) (k : Nat) (h : k < s.size) : s.toList.drop k = s[k] :: s.toList.drop (k + 1) := by
  rw [← bytes_get s k h (by rw [bytes_len]; exact h)]
  exact List.drop_eq_getElem_cons (by rw [bytes_len]; exact h)
theorem dropE (s : ByteArray) (k : Nat) (h : ¬ k < s.size) : s.toList.drop k = [] := List.drop_eq_nil_of_le (by rw [bytes_len]; omega)
/-- the offset holds a digit. -/
def hdA (s : ByteArray) (k : Nat) : Bool := hd (s.toList.drop k)
theorem hdA_at {s : ByteArray} {k : Nat} (h : k < s.size) : hdA s k = dig s[k] := by unfold hdA; rw [dropB s k h]; rfl
theorem hdA_end {s : ByteArray} {k : Nat} (h : ¬ k < s.size) : hdA s k = false := by unfold hdA; rw [dropE s k h]; rfl
theorem digitAt_any (s : ByteArray) (k : Nat) (w : World) (hs : s.size ≤ maxLen) :
    Calls Tryd.prog 49 #[.string s, .int .i64 (k : Int)] w fun e w' => e = .returned (.bool (hdA s k)) ∧ w = w' := by
  unfold maxLen at hs
  by_cases h : k < s.size
  · have H := Lib.hid (fun w => isDigit_any s[k] w)
    rw [hdA_at h]
    have hi : (k : Int) < (s.size : Int) := by omega
    generalize hb : dig s[k] = b at *
    clear hb
    go_enter Tryd.func49, Tryd.ntmps49
    go_wp2_with fail
    refine (H.out _).mono ?_
    rintro e w_ ⟨rfl, rfl⟩
    go_wp2
    go_ret
    exact ⟨rfl, rfl⟩
  · have hi : ¬ (k : Int) < (s.size : Int) := by omega
    rw [hdA_end h]
    go_enter Tryd.func49, Tryd.ntmps49
    go_wp2
    go_ret
    exact ⟨rfl, rfl⟩
/-- the end of a name. -/
def nmE (s : ByteArray) (k : Nat) : Nat := k + nmL (s.toList.drop k)
theorem nmE_step {s : ByteArray} {k : Nat} (h : k < s.size) (c : nam s[k] = true) : nmE s k = nmE s (k + 1) := by
  unfold nmE; rw [dropB s k h, nmL, if_pos c]; omega
theorem nmE_stop {s : ByteArray} {k : Nat} (h : k < s.size) (c : nam s[k] = false) : nmE s k = k := by
  unfold nmE; rw [dropB s k h, nmL, if_neg (by simp [c])]; rfl
theorem nmE_end {s : ByteArray} {k : Nat} (h : ¬ k < s.size) : nmE s k = k := by
  unfold nmE; rw [dropE s k h]; rfl
theorem nmE_le (s : ByteArray) (k : Nat) (h : k ≤ s.size) : nmE s k ≤ s.size := by
  have := nmL_le (s.toList.drop k)
  rw [List.length_drop, bytes_len] at this
  unfold nmE; omega
theorem nameEnd_any (s : ByteArray) (k : Nat) (w : World) (hs : s.size ≤ maxLen) (hk : k ≤ s.size) :
    Calls Tryd.prog 47 #[.string s, .int .i64 (k : Int)] w fun e w' => e = .returned (.int .i64 (nmE s k : Int)) ∧ w = w' := by
  unfold maxLen at hs
  go_enter Tryd.func47, Tryd.ntmps47
  go_wp2
  go_loop [1] (fun i => ∃ j : Nat, j ≤ s.size ∧ i = .int .i64 (j : Int) ∧ Hid (nmE s j = nmE s k)) (fun i => s.size - (intOf i).toNat)
  case atStart => exact ⟨k, hk, rfl, Lib.hid rfl⟩
  case round =>
    obtain ⟨j, hj, rfl, HE⟩ := hrel
    by_cases h : j < s.size
    · have hi : (j : Int) < (s.size : Int) := by omega
      have H1 := Lib.hid (fun w => isLetter_any s[j] w)
      have H2 := Lib.hid (fun w => isDigit_any s[j] w)
      cases hl : lett s[j]
      · rw [hl] at H1
        cases hd : dig s[j]
        · rw [hd] at H2
          have HN := Lib.hid (show nmE s k = j by rw [← HE.out, nmE_stop h (by unfold nam; rw [hl, hd]; rfl)])
          clear hl hd
          go_wp2_with fail
          refine (H1.out _).mono ?_
          rintro e w_ ⟨rfl, rfl⟩
          go_wp2_with fail
          refine (H2.out _).mono ?_
          rintro e w_ ⟨rfl, rfl⟩
          go_wp2
          go_ret
          exact ⟨by rw [HN.out]; rfl, rfl⟩
        · rw [hd] at H2
          have HN := Lib.hid (show nmE s (j + 1) = nmE s k by rw [← HE.out, ← nmE_step h (by unfold nam; rw [hl, hd]; rfl)])
          clear hl hd
          go_wp2_with fail
          refine (H1.out _).mono ?_
          rintro e w_ ⟨rfl, rfl⟩
          go_wp2_with fail
          refine (H2.out _).mono ?_
          rintro e w_ ⟨rfl, rfl⟩
          go_wp2
          go_round
          case rel => exact ⟨j + 1, by omega, by go_num, HN⟩
          case measure => simp [intOf]; omega
      · rw [hl] at H1
        have HN := Lib.hid (show nmE s (j + 1) = nmE s k by rw [← HE.out, ← nmE_step h (lett_nam hl)])
        clear hl
        go_wp2_with fail
        refine (H1.out _).mono ?_
        rintro e w_ ⟨rfl, rfl⟩
        go_wp2
        go_round
        case rel => exact ⟨j + 1, by omega, by go_num, HN⟩
        case measure => simp [intOf]; omega
    · have hi : ¬ (j : Int) < (s.size : Int) := by omega
      have HN := Lib.hid (show nmE s k = j by rw [← HE.out, nmE_end h])
      go_wp2
      go_ret
      exact ⟨by rw [HN.out]; rfl, rfl⟩
end Go.Proofs.YtkpdbhpmnegahaaDoor.W
namespace Go.Proofs.YtkpdbhpmnegahaaDoor.W
open Go.RowKit
set_option linter.unusedVariables false
set_option linter.unusedSimpArgs false

/-- the end of a number, from its second byte on. -/
def nuE (s : ByteArray) (k : Nat) : Nat := k + nuL (s.toList.drop k)
def goOn (b1 b2 b3 : Bool) (c : Int) : Bool := (b1 || b2) || ((decide (c = 46) || decide (c = 47) || decide (c = 45)) && b3)
theorem nuE_step {s : ByteArray} {k : Nat} (h : k < s.size) (c : goOn (lett s[k]) (dig s[k]) (hdA s (k + 1)) (s[k].toNat : Int) = true) : nuE s k = nuE s (k + 1) := by
  unfold nuE; rw [dropB s k h, nuL, if_pos (show (nam s[k] || poi s[k] && hd (List.drop (k + 1) s.toList)) = true from c)]; omega
theorem nuE_stop {s : ByteArray} {k : Nat} (h : k < s.size) (c : goOn (lett s[k]) (dig s[k]) (hdA s (k + 1)) (s[k].toNat : Int) = false) : nuE s k = k := by
  unfold nuE; rw [dropB s k h, nuL, if_neg (by intro x; have : (true : Bool) = false := by rw [← c, ← x]; rfl
                                               cases this)]; rfl
theorem nuE_end {s : ByteArray} {k : Nat} (h : ¬ k < s.size) : nuE s k = k := by
  unfold nuE; rw [dropE s k h]; rfl
theorem nuE_le (s : ByteArray) (k : Nat) (h : k ≤ s.size) : nuE s k ≤ s.size := by
  have := nuL_le (s.toList.drop k)
  rw [List.length_drop, bytes_len] at this
  unfold nuE; omega
theorem nuE_ge (s : ByteArray) (k : Nat) : k ≤ nuE s k := by unfold nuE; omega
theorem nmE_ge (s : ByteArray) (k : Nat) : k ≤ nmE s k := by unfold nmE; omega
set_option maxHeartbeats 1000000 in
theorem numberEnd_any (s : ByteArray) (k : Nat) (w : World) (hs : s.size ≤ maxLen) (hk : k < s.size) :
    Calls Tryd.prog 50 #[.string s, .int .i64 (k : Int)] w fun e w' => e = .returned (.int .i64 (nuE s (k + 1) : Int)) ∧ w = w' := by
  have HS0 := Lib.hid hs
  unfold maxLen at hs
  go_enter Tryd.func50, Tryd.ntmps50
  go_wp2
  go_step3
  go_wp2
  go_step3
  go_wp2
  go_loop [5, 6] (fun i _ => ∃ j : Nat, j ≤ s.size ∧ i = .int .i64 (j : Int) ∧ Hid (nuE s j = nuE s (k + 1))) (fun i _ => s.size - (intOf i).toNat)
  case atStart => exact ⟨k + 1, by omega, by go_num, Lib.hid rfl⟩
  case round =>
    obtain ⟨j, hj, rfl, HE⟩ := hrel
    by_cases h : j < s.size
    · have hi : (j : Int) < (s.size : Int) := by omega
      have H1 := Lib.hid (fun w => isLetter_any s[j] w)
      have H2 := Lib.hid (fun w => isDigit_any s[j] w)
      have H3 := Lib.hid (fun w => digitAt_any s (j + 1) w HS0.out)
      have HY := Lib.hid (fun h' => show nuE s (j + 1) = nuE s (k + 1) from (nuE_step h h').symm.trans HE.out)
      have HX := Lib.hid (fun h' => show nuE s (k + 1) = j from HE.out.symm.trans (nuE_stop h h'))
      have HP := Lib.hid (show (s[j].toNat : Int) = 46 ∨ (s[j].toNat : Int) = 47 ∨ (s[j].toNat : Int) = 45 → lett s[j] = false ∧ dig s[j] = false by unfold lett dig; simp; omega)
      generalize lett s[j] = b1 at *
      generalize dig s[j] = b2 at *
      generalize hdA s (j + 1) = b3 at *
      go_wp2_with (first | (go_at_call 45; refine (H1.out _).mono ?_; rintro e w_ ⟨rfl, rfl⟩) | (go_at_call 48; refine (H2.out _).mono ?_; rintro e w_ ⟨rfl, rfl⟩) | (go_at_call 49; refine (H3.out _).mono ?_; rintro e w_ ⟨rfl, rfl⟩))
      all_goals first
        | (try rw [Exit.noGoto_ret]
           go_ret
           exact ⟨by rw [HX.out (by have hp := HP.out; unfold goOn; grind)]; rfl, rfl⟩)
        | (go_round
           case rel => exact ⟨j + 1, by omega, by go_num, Lib.hid (HY.out (by unfold goOn; grind))⟩
           case measure => simp [intOf]; omega)
    · have hi : ¬ (j : Int) < (s.size : Int) := by omega
      have HN := Lib.hid (show nuE s (k + 1) = j by rw [← HE.out, nuE_end h])
      go_wp2
      try rw [Exit.noGoto_ret]
      go_ret
      exact ⟨by rw [HN.out]; rfl, rfl⟩
/-- s is a code; s is a plain text. -/
def codB (s : ByteArray) : Bool := s.toList.all nam && decide (1 ≤ s.size) && decide (s.size ≤ 12)
def plaB (s : ByteArray) : Bool := plainB s.toList
theorem nmL_all : ∀ (l : List UInt8), decide (nmL l = l.length) = l.all nam
  | [] => rfl
  | c :: r => by
    have ih := nmL_all r
    rw [List.all_cons, ← ih]
    rw [nmL]
    by_cases h : nam c = true
    · simp [h]
    · simp [h]
theorem nmE_all (s : ByteArray) : decide (nmE s 0 = s.size) = s.toList.all nam := by
  rw [← nmL_all]; unfold nmE; simp [bytes_len]
theorem all_bad {p : UInt8 → Bool} {s : ByteArray} {k : Nat} (h : k < s.size) (c : p s[k] = false) : s.toList.all p = false := by
  rw [List.all_eq_false]
  exact ⟨s[k], by rw [← bytes_get s k h (by rw [bytes_len]; exact h)]; exact List.getElem_mem _, by simp [c]⟩
theorem all_more {p : UInt8 → Bool} {s : ByteArray} {k : Nat} (h : k < s.size) (c : p s[k] = true) (i : (s.toList.take k).all p = true) : (s.toList.take (k + 1)).all p = true := by
  rw [take_snoc s k h, List.all_append, i]; simp [c]
theorem cod_not {s : ByteArray} (h : ¬ (1 ≤ s.size ∧ s.size ≤ 12)) : codB s = false := by
  unfold codB
  by_cases h1 : 1 ≤ s.size
  · have : ¬ s.size ≤ 12 := fun x => h ⟨h1, x⟩
    simp [this]
  · simp [h1]
theorem cod_in {s : ByteArray} (h : 1 ≤ s.size) (h2 : s.size ≤ 12) : codB s = decide (nmE s 0 = s.size) := by
  unfold codB; rw [nmE_all]; simp [h, h2]
theorem isEmpty_of {s : ByteArray} (h : s.size = 0) : s.toList.isEmpty = true := by
  have : s.toList = [] := List.length_eq_zero_iff.1 (by rw [bytes_len]; exact h)
  rw [this]; rfl
theorem isEmpty_not {s : ByteArray} (h : s.size ≠ 0) : s.toList.isEmpty = false := by
  cases hl : s.toList with
  | nil => exact absurd (by rw [← bytes_len, hl]; rfl) h
  | cons c r => rfl
end Go.Proofs.YtkpdbhpmnegahaaDoor.W
namespace Go.Proofs.YtkpdbhpmnegahaaDoor.W
open Go.RowKit
set_option linter.unusedVariables false

structure Cell3 (w : World) (B : Nat) (a b c : Value) : Prop where
  c0 : w.cell? ⟨B, 0, none⟩ = some a
  c1 : w.cell? ⟨B, 1, none⟩ = some b
  c2 : w.cell? ⟨B, 2, none⟩ = some c
  f0 : w.frozen? ⟨B, 0, none⟩ = false
  f1 : w.frozen? ⟨B, 1, none⟩ = false
  f2 : w.frozen? ⟨B, 2, none⟩ = false
theorem Cell3.set0 {w : World} {B : Nat} {a b c : Value} (h : Cell3 w B a b c) (v : Value) : Cell3 (w.setCell ⟨B, 0, none⟩ v) B v b c :=
  ⟨World.cell?_setCell_same _ _ _ h.c0, by rw [World.cell?_setCell_other _ _ _ _ (by simp)]; exact h.c1, by rw [World.cell?_setCell_other _ _ _ _ (by simp)]; exact h.c2, by rw [World.frozen?_setCell]; exact h.f0, by rw [World.frozen?_setCell]; exact h.f1, by rw [World.frozen?_setCell]; exact h.f2⟩
theorem Cell3.set1 {w : World} {B : Nat} {a b c : Value} (h : Cell3 w B a b c) (v : Value) : Cell3 (w.setCell ⟨B, 1, none⟩ v) B a v c :=
  ⟨by rw [World.cell?_setCell_other _ _ _ _ (by simp)]; exact h.c0, World.cell?_setCell_same _ _ _ h.c1, by rw [World.cell?_setCell_other _ _ _ _ (by simp)]; exact h.c2, by rw [World.frozen?_setCell]; exact h.f0, by rw [World.frozen?_setCell]; exact h.f1, by rw [World.frozen?_setCell]; exact h.f2⟩
theorem Cell3.set2 {w : World} {B : Nat} {a b c : Value} (h : Cell3 w B a b c) (v : Value) : Cell3 (w.setCell ⟨B, 2, none⟩ v) B a b v :=
  ⟨by rw [World.cell?_setCell_other _ _ _ _ (by simp)]; exact h.c0, by rw [World.cell?_setCell_other _ _ _ _ (by simp)]; exact h.c1, World.cell?_setCell_same _ _ _ h.c2, by rw [World.frozen?_setCell]; exact h.f0, by rw [World.frozen?_setCell]; exact h.f1, by rw [World.frozen?_setCell]; exact h.f2⟩
theorem Cell3.alloc (w : World) (a b c : Value) (t : TypeId) : Cell3 (w.alloc (Obj.cells #[a, b, c] t)) w.heap.size a b c :=
  ⟨World.cell?_alloc_at _ _ _ _ rfl, World.cell?_alloc_at _ _ _ _ rfl, World.cell?_alloc_at _ _ _ _ rfl, World.frozen?_alloc_at _ _ _ _ rfl, World.frozen?_alloc_at _ _ _ _ rfl, World.frozen?_alloc_at _ _ _ _ rfl⟩
theorem Cell3.below {w w' : World} {B N : Nat} {a b c : Value} (h : Cell3 w B a b c) (hb : Below N w w') (hB : B < N) : Cell3 w' B a b c :=
  ⟨by rw [hb.cell hB]; exact h.c0, by rw [hb.cell hB]; exact h.c1, by rw [hb.cell hB]; exact h.c2, by rw [hb.frozen hB]; exact h.f0, by rw [hb.frozen hB]; exact h.f1, by rw [hb.frozen hB]; exact h.f2⟩
theorem Cell3.lt {w : World} {B : Nat} {a b c : Value} (h : Cell3 w B a b c) : B < w.heap.size := by
  rcases Nat.lt_or_ge B w.heap.size with k | k
  · exact k
  · exact absurd h.c0 (by simp [World.cell?, Array.getElem?_eq_none k])
theorem results_cell_tmp2 {fn : Func} {p u v : Tmp} {ty : TypeId} (h : fn.results = #[.cell p ty, .tmp u, .tmp v]) (tmps : Array Value) (P : Program) (w : World) :
    (results fn tmps).run P w =
      ((asAddr (tmps.getD p undef)).run P w).andThen fun a w₁ => ((loadVar ty a).run P w₁).andThen fun x w₂ => .ok (.tuple #[x, tmps.getD u undef, tmps.getD v undef]) w₂ := by
  simp only [results, h]
  simp [Sem.run_bind, Result.andThen]
theorem results_cell_tmp3 {fn : Func} {p u v r : Tmp} {ty : TypeId} (h : fn.results = #[.cell p ty, .tmp u, .tmp v, .tmp r]) (tmps : Array Value) (P : Program) (w : World) :
    (results fn tmps).run P w =
      ((asAddr (tmps.getD p undef)).run P w).andThen fun a w₁ => ((loadVar ty a).run P w₁).andThen fun x w₂ => .ok (.tuple #[x, tmps.getD u undef, tmps.getD v undef, tmps.getD r undef]) w₂ := by
  simp only [results, h]
  simp [Sem.run_bind, Result.andThen]

/-- the string of bytes. -/
def bs (l : List UInt8) : ByteArray := ⟨l.toArray⟩
theorem bs_list (l : List UInt8) : (bs l).toList = l := ByteArray.toList_mk l
theorem bs_size (l : List UInt8) : (bs l).size = l.length := by rw [← bytes_len, bs_list]
theorem ba_ext {a b : ByteArray} (h : a.toList = b.toList) : a = b := by
  rw [ByteArray.toList_eq, ByteArray.toList_eq] at h
  exact ByteArray.ext (Array.ext' h)
theorem bs_of (s : ByteArray) : bs s.toList = s := ba_ext (bs_list _)
theorem ext_list (s : ByteArray) (a b : Nat) (h : a ≤ b) (hb : b ≤ s.size) : (s.extract a b).toList = (s.toList.drop a).take (b - a) := by
  apply List.ext_getElem
  · rw [bytes_len, ByteArray.size_extract, List.length_take, List.length_drop, bytes_len]; omega
  · intro i h1 h2
    rw [bytes_len, ByteArray.size_extract] at h1
    rw [bytes_get _ i (by rw [ByteArray.size_extract]; omega), List.getElem_take, List.getElem_drop, ByteArray.getElem_extract, bytes_get s (a + i) (by omega)]
theorem ext_bs (s : ByteArray) (a b : Nat) (h : a ≤ b) (hb : b ≤ s.size) : s.extract a b = bs ((s.toList.drop a).take (b - a)) := by
  apply ba_ext; rw [bs_list, ext_list s a b h hb]

/-- the slice v owns the bytes l. -/
def OwnB (w : World) (base : Nat) (v : Value) (l : List UInt8) : Prop := w.ownsRow base 5 1 v l.length (l.map fun b => Value.int .u8 (b.toNat : Int))
theorem OwnB.nil (w : World) (base : Nat) : OwnB w base (.slice none 0 0) [] := World.ownsRow_nil w base _ 1
theorem OwnB.shape {w : World} {base : Nat} {v : Value} {l : List UInt8} (h : OwnB w base v l) : ∃ ao cap, v = .slice ao l.length cap := by
  rcases h.2 with ⟨e, n⟩ | ⟨g, cap, cur, e, _⟩
  · exact ⟨none, 0, by rw [e, n]⟩
  · exact ⟨_, _, e⟩
theorem und_bytes : Tryd.prog.underlying 59 = some (.slice 5) := by kernel_rfl
theorem und_u8 : Tryd.prog.underlying 5 = some (.int .u8) := by kernel_rfl
theorem und_str : Tryd.prog.underlying 9 = some .string := by kernel_rfl
theorem inf_u8 : (Tryd.prog.info? 5).map (fun i => (i.zero, i.size, i.bytes)) = some (some (.int .u8 0), 1, 1) := by kernel_rfl
theorem OwnB.conv {w : World} {base : Nat} {v : Value} {l : List UInt8} (h : OwnB w base v l) : (convert 59 9 v).run Tryd.prog w = .ok (.string (bs l)) w := by
  rcases h.2 with ⟨e, n⟩ | ⟨g, cap, cur, e, _⟩
  · have : l = [] := List.length_eq_zero_iff.1 n
    subst this
    subst e
    exact run_convert_bytes_nil w 59 5 und_bytes und_u8 0 0 9 und_str
  · subst e
    refine run_convert_bytes_back w 59 9 5 _ cap l und_bytes und_u8 und_str fun j hj => ?_
    exact h.cells (g := g) rfl j _ (by rw [List.getElem?_map, List.getElem?_eq_getElem hj]; rfl)
/-- one byte more. -/
theorem wpList_byte {w : World} {ops : Array Oper} {rest : List Oper} {o : Oper} {a : Act} {Q : Exit → Act → World → Prop} (hgd : o.guard = none) (s x : Operand)
    (ho : o.op = .call { callee := .builtin .append, args := #[s, x], argTypes := #[59, 59] })
    (base : Nat) (v : Value) (l : List UInt8) (hs : a.eval s = v) (hown : OwnB w base v l) (g c : Nat) (b : UInt8) (hx : a.eval x = .slice (some ⟨g, 0, none⟩) 1 c) (hc : w.cell? ⟨g, 0, none⟩ = some (.int .u8 (b.toNat : Int)))
    (hl : l.length < 1000000) (hbase : base ≤ w.heap.size)
    (h : ∀ v' w', OwnB w' base v' (l ++ [b]) → Below base w w' → wpList Tryd.prog ops Q rest (a.put o.dst v') w') : wpList Tryd.prog ops Q (o :: rest) a w := by
  obtain ⟨i0, hi, hz0, hz1, hz2⟩ := info_parts inf_u8
  refine wpList_append_own w hgd s x _ ho base _ i0 (.int .u8 0) 1 1 und_bytes hi hz0 hz1 hz2 rfl (by decide) v _ _ hs hown ⟨g, 0, none⟩ 1 c [.int .u8 (b.toNat : Int)] hx rfl ?_ ?_ ?_ ?_ hbase ?_
  · intro j u hj
    match j, hj with
    | 0, hj => simp at hj; subst hj; simpa [Addr.add] using hc
  · intro u hu; simp at hu; subst hu; rfl
  · unfold maxLen; omega
  · omega
  · intro v' w' h1 h2 _
    refine h v' w' (by unfold OwnB; rw [List.length_append, List.map_append]; exact h1) ((Below.refl base w).grown h2 hbase fun k hk => (hown.lt k hk).1)
end Go.Proofs.YtkpdbhpmnegahaaDoor.W
namespace Go.Proofs.YtkpdbhpmnegahaaDoor.W
open Go.RowKit
set_option linter.unusedVariables false
set_option linter.unusedSimpArgs false

/-- a word, the offset behind it, and the error. -/
def wAt (e : Int) (k : Nat) : Int := if e = 0 then (k : Int) else 0
def wRes (x : Int × Int × List UInt8 × Nat) (k : Nat) : Ending :=
  .returned (.tuple #[.agg #[.int .i64 x.2.1, .string (bs x.2.2.1), .int .i64 (wAt x.1 k)], .int .i64 ((k + x.2.2.2 : Nat) : Int), .int .i64 x.1])
theorem wRes_eq {e kd a b : Int} {S : ByteArray} {x : Int × Int × List UInt8 × Nat} {k : Nat} {q : Int} (h1 : x.1 = e) (h2 : x.2.1 = kd) (h3 : bs x.2.2.1 = S) (h4 : wAt x.1 k = a) (h5 : ((k + x.2.2.2 : Nat) : Int) = b) :
    Ending.returned (.tuple #[.agg #[.int .i64 kd, .string S, .int .i64 a], .int .i64 b, .int .i64 e]) = wRes x k := by
  unfold wRes; rw [h2, h3, h4, h5, h1]
set_option maxHeartbeats 1000000 in
theorem limited_any (s : ByteArray) (k n most : Nat) (kind : Int) (w : World) (hs : s.size ≤ maxLen) (hn : k + n ≤ s.size) (hm : most ≤ 60) (k1 : 0 ≤ kind) (k2 : kind ≤ 9) :
    Calls Tryd.prog 46 #[.string s, .int .i64 (k : Int), .int .i64 ((k + n : Nat) : Int), .int .i64 kind, .int .i64 (most : Int)] w fun e w' => e = wRes (lim (s.toList.drop k) n most kind) k ∧ Below w.heap.size w w' := by
  have HX := Lib.hid (show s.extract k (k + n) = bs ((s.toList.drop k).take n) by rw [ext_bs s k (k + n) (by omega) hn]; congr 2; omega)
  unfold maxLen at hs
  by_cases h : most < n
  · have h' : (most : Int) < ((k + n : Nat) : Int) - (k : Int) := by omega
    have e : lim (s.toList.drop k) n most kind = (9, 0, [], 0) := if_pos h
    rw [e]
    go_enter Tryd.func46, Tryd.ntmps46
    go_wp2
    refine bodyPost_ret (v := .tuple #[.agg #[.int .i64 0, .string (bs []), .int .i64 0], .int .i64 (k : Int), .int .i64 9]) ?_ rfl ⟨rfl, (Below.refl _ _).alloc (Nat.le_refl _) _⟩
    rw [results_cell_tmp2 rfl]
    go_simp
    rfl
  · have h' : ¬ (most : Int) < ((k + n : Nat) : Int) - (k : Int) := by omega
    have e : lim (s.toList.drop k) n most kind = (0, kind, (s.toList.drop k).take n, n) := if_neg h
    rw [e]
    go_enter Tryd.func46, Tryd.ntmps46
    go_wp2
    refine bodyPost_ret (v := .tuple #[.agg #[.int .i64 kind, .string (bs ((s.toList.drop k).take n)), .int .i64 (k : Int)], .int .i64 ((k + n : Nat) : Int), .int .i64 0]) ?_ rfl ⟨rfl, (Below.refl _ _).alloc (Nat.le_refl _) _⟩
    rw [results_cell_tmp2 rfl, ← HX.out]
    go_simp
/-- the \ at j precedes a quote or \. -/
def escQ (l : List UInt8) : Bool := match l with
  | [] => false
  | d :: _ => decide ((d.toNat : Int) = 34) || decide ((d.toNat : Int) = 92)
def escA (s : ByteArray) (j : Nat) : Bool := escQ (s.toList.drop (j + 1))
theorem escA_at {s : ByteArray} {j : Nat} (h : j + 1 < s.size) : escA s j = (decide ((s[j + 1].toNat : Int) = 34) || decide ((s[j + 1].toNat : Int) = 92)) := by
  unfold escA; rw [dropB s (j + 1) h]; rfl
theorem escA_end {s : ByteArray} {j : Nat} (h : ¬ j + 1 < s.size) : escA s j = false := by unfold escA; rw [dropE s (j + 1) h]; rfl
theorem escA_lt {s : ByteArray} {j : Nat} (h : escA s j = true) : j + 1 < s.size := by
  rcases Nat.lt_or_ge (j + 1) s.size with x | x
  · exact x
  · rw [escA_end (by omega)] at h; cases h
set_option maxHeartbeats 400000 in
theorem escapes_any (s : ByteArray) (j : Nat) (w : World) (hs : s.size ≤ maxLen) (hj : j < s.size) :
    Calls Tryd.prog 66 #[.string s, .int .i64 (j : Int)] w fun e w' => e = .returned (.bool (escA s j)) ∧ w = w' := by
  unfold maxLen at hs
  by_cases h : j + 1 < s.size
  · have hi : (j : Int) + 1 < (s.size : Int) := by omega
    have hj2 : ((j : Int) + 1).toNat = j + 1 := by omega
    have HE := Lib.hid (escA_at h)
    go_enter Tryd.func66, Tryd.ntmps66
    go_wp2
    all_goals (go_ret; refine ⟨ret_bool ?_, rfl⟩; rw [HE.out]; grind)
  · have hi : ¬ (j : Int) + 1 < (s.size : Int) := by omega
    rw [escA_end h]
    go_enter Tryd.func66, Tryd.ntmps66
    go_wp2
    go_ret
    exact ⟨rfl, rfl⟩
end Go.Proofs.YtkpdbhpmnegahaaDoor.W
namespace Go.Proofs.YtkpdbhpmnegahaaDoor.W
open Go.RowKit
set_option linter.unusedVariables false
set_option linter.unusedSimpArgs false

theorem tx34 {c : UInt8} {r acc : List UInt8} {p : Nat} (h : (c.toNat : Int) = 34) : txL (c :: r) acc p = (0, acc, p + 1) := by
  cases r with
  | nil => rw [txL, if_pos h]
  | cons d r => rw [txL, if_pos h]
theorem txEsc {c : UInt8} {r acc : List UInt8} {p : Nat} {d : UInt8} (h : (c.toNat : Int) = 92) (hd : (d.toNat : Int) = 34 ∨ (d.toNat : Int) = 92) : txL (c :: d :: r) acc p = txL r (acc ++ [d]) (p + 2) := by
  rw [txL, if_neg (by omega), if_pos h, if_pos hd]
theorem txBad {c : UInt8} {r acc : List UInt8} {p : Nat} (h : (c.toNat : Int) = 92) (hd : escQ r = false) : txL (c :: r) acc p = (5, [], p) := by
  cases r with
  | nil => rw [txL, if_neg (by omega), if_pos h]
  | cons d r =>
    unfold escQ at hd
    rw [txL, if_neg (by omega), if_pos h, if_neg (by simp at hd; omega)]
theorem txPln {c : UInt8} {r acc : List UInt8} {p : Nat} (h1 : (c.toNat : Int) ≠ 34) (h2 : (c.toNat : Int) ≠ 92) (h3 : pln c = true) : txL (c :: r) acc p = txL r (acc ++ [c]) (p + 1) := by
  cases r with
  | nil => rw [show txL [] (acc ++ [c]) (p + 1) = (6, [], 0) from rfl, txL, if_neg h1, if_neg h2, if_pos h3]
  | cons d r => rw [txL, if_neg h1, if_neg h2, if_pos h3]
theorem txNot {c : UInt8} {r acc : List UInt8} {p : Nat} (h1 : (c.toNat : Int) ≠ 34) (h2 : (c.toNat : Int) ≠ 92) (h3 : pln c = false) : txL (c :: r) acc p = (5, [], p) := by
  cases r with
  | nil => rw [txL, if_neg h1, if_neg h2, if_neg (by simp [h3])]
  | cons d r => rw [txL, if_neg h1, if_neg h2, if_neg (by simp [h3])]
theorem OwnB.alloc {w : World} {base : Nat} {v : Value} {l : List UInt8} (h : OwnB w base v l) (o : Obj) : OwnB (w.alloc o) base v l := World.ownsRow.alloc h o
/-- the text that begins at k. -/
def txA (s : ByteArray) (k : Nat) : Int × List UInt8 × Nat := txL (s.toList.drop (k + 1)) [] 1
/-- read up to j, acc gathered. -/
def txI (s : ByteArray) (k j : Nat) (acc : List UInt8) : Prop := txL (s.toList.drop j) acc (j - k) = txA s k ∧ acc.length + k < j
theorem txW_bad {x : Int × List UInt8 × Nat} {e : Int} {p : Nat} (h : x = (e, [], p)) (he : e ≠ 0) : txW x = (e, 0, [], p) := by rw [h]; unfold txW; rw [if_neg he]
theorem txW_many {x : Int × List UInt8 × Nat} {acc : List UInt8} {p : Nat} (h : x = (0, acc, p)) (he : 60 < acc.length) : txW x = (9, 0, [], 0) := by rw [h]; unfold txW; rw [if_pos rfl, if_pos he]
theorem txW_good {x : Int × List UInt8 × Nat} {acc : List UInt8} {p : Nat} (h : x = (0, acc, p)) (he : ¬ 60 < acc.length) : txW x = (0, 3, acc, p) := by rw [h]; unfold txW; rw [if_pos rfl, if_neg he]
theorem rt_bad {x : Int × List UInt8 × Nat} {k j : Nat} {e : Int} (h : x = (e, [], j - k)) (hj : k ≤ j) (he : e ≠ 0) : Ending.returned (.tuple #[.agg #[.int .i64 0, .string ⟨#[]⟩, .int .i64 0], .int .i64 (j : Int), .int .i64 e]) = wRes (txW x) k := by
  rw [txW_bad h he]; unfold wRes wAt; rw [if_neg he]; simp only
  rw [show k + (j - k) = j by omega]; rfl
theorem rt_many {x : Int × List UInt8 × Nat} {k : Nat} {acc : List UInt8} {p : Nat} (h : x = (0, acc, p)) (he : 60 < acc.length) : Ending.returned (.tuple #[.agg #[.int .i64 0, .string ⟨#[]⟩, .int .i64 0], .int .i64 (k : Int), .int .i64 9]) = wRes (txW x) k := by
  rw [txW_many h he]; rfl
theorem rt_good {x : Int × List UInt8 × Nat} {k j : Nat} {acc : List UInt8} (h : x = (0, acc, j - k + 1)) (hj : k ≤ j) (he : ¬ 60 < acc.length) : Ending.returned (.tuple #[.agg #[.int .i64 3, .string (bs acc), .int .i64 (k : Int)], .int .i64 ((j : Int) + 1), .int .i64 0]) = wRes (txW x) k := by
  rw [txW_good h he]; unfold wRes wAt; rw [if_pos rfl]; simp only
  rw [show k + (j - k + 1) = j + 1 by omega]; rfl
theorem rt_short {x : Int × List UInt8 × Nat} {k : Nat} (h : x = (6, [], 0)) : Ending.returned (.tuple #[.agg #[.int .i64 0, .string ⟨#[]⟩, .int .i64 0], .int .i64 (k : Int), .int .i64 6]) = wRes (txW x) k := by
  rw [txW_bad h (by decide)]; rfl
theorem txI_step {s : ByteArray} {k j : Nat} {acc : List UInt8} (hI : txI s k j acc) (h : j < s.size) (h1 : (s[j].toNat : Int) ≠ 34) (h2 : (s[j].toNat : Int) ≠ 92) (h3 : pln s[j] = true) : txI s k (j + 1) (acc ++ [s[j]]) := by
  obtain ⟨i1, i2⟩ := hI
  refine ⟨?_, by simp; omega⟩
  rw [← i1, dropB s j h, txPln h1 h2 h3, show j + 1 - k = j - k + 1 by omega]
theorem txI_esc {s : ByteArray} {k j : Nat} {acc : List UInt8} (hI : txI s k j acc) (h : j < s.size) (h2 : (s[j].toNat : Int) = 92) (h3 : escA s j = true) (h4 : j + 1 < s.size) : txI s k (j + 1 + 1) (acc ++ [s[j + 1]]) := by
  obtain ⟨i1, i2⟩ := hI
  refine ⟨?_, by simp; omega⟩
  rw [escA_at h4] at h3
  rw [← i1, dropB s j h, dropB s (j + 1) h4, txEsc h2 (by simpa using h3), show j + 1 + 1 - k = j - k + 2 by omega]

set_option maxHeartbeats 4000000 in
theorem readText_any (s : ByteArray) (k : Nat) (w : World) (hs : s.size ≤ 1000) (hk : k < s.size) :
    Calls Tryd.prog 51 #[.string s, .int .i64 (k : Int)] w fun e w' => e = wRes (txW (txA s k)) k ∧ Below w.heap.size w w' := by
  have HM := Lib.hid (show s.size ≤ maxLen by unfold maxLen; omega)
  have HC0 := Lib.hid (Cell3.alloc w (.int .i64 0) (.string ⟨#[]⟩) (.int .i64 0) 71)
  have HB0 := Lib.hid ((Below.refl w.heap.size w).alloc (Nat.le_refl _) (Obj.cells #[.int .i64 0, .string ⟨#[]⟩, .int .i64 0] 71))
  have HBs := Lib.hid (show (w.alloc (Obj.cells #[.int .i64 0, .string ⟨#[]⟩, .int .i64 0] 71)).heap.size = w.heap.size + 1 by simp)
  go_enter Tryd.func51, Tryd.ntmps51
  go_wp2
  generalize w.alloc (Obj.cells #[.int .i64 0, .string ⟨#[]⟩, .int .i64 0] 71) = W at *
  go_loopw [7, 8] (fun v i wr => ∃ (j : Nat) (acc : List UInt8), j ≤ s.size ∧ i = .int .i64 (j : Int) ∧ Hid (OwnB wr W.heap.size v acc) ∧ Hid (Below W.heap.size W wr) ∧ Hid (txI s k j acc)) (fun _ i _ => s.size - (intOf i).toNat)
  case atStart => exact ⟨k + 1, [], by omega, by go_num, Lib.hid (OwnB.nil _ _), Lib.hid (Below.refl _ _), Lib.hid ⟨by show _ = txL _ _ _; rw [show k + 1 - k = 1 by omega], by simp⟩⟩
  case round =>
    obtain ⟨j, acc, hj, rfl, HO, HB, HI⟩ := hrel
    have HCr := Lib.hid (HC0.out.below HB.out (by rw [HBs.out]; omega))
    have HBr := Lib.hid (HB0.out.trans (HB.out.mono (by rw [HBs.out]; omega)))
    have cz0 := HCr.out.c0
    have cz1 := HCr.out.c1
    have cz2 := HCr.out.c2
    have fz0 := HCr.out.f0
    have fz1 := HCr.out.f1
    have fz2 := HCr.out.f2
    obtain ⟨ao, cap, hv⟩ := HO.out.shape
    subst hv
    have hal : acc.length < 1000 := by have := HI.out.2; omega
    have hkj : k < j := by have := HI.out.2; omega
    by_cases h : j < s.size
    · have hi : (j : Int) < (s.size : Int) := by omega
      by_cases c34 : (s[j].toNat : Int) = 34
      · have q1 : ((s[j].toNat : Int) == 34) = true := by simpa using c34
        have HT := Lib.hid (show txA s k = (0, acc, j - k + 1) by rw [← HI.out.1, dropB s j h, tx34 c34])
        clear c34
        by_cases hl : 60 < acc.length
        · have hl2 : (60 : Int) < (acc.length : Int) := by omega
          have C := Lib.hid (((HCr.out.set0 (.int .i64 0)).set1 (.string ⟨#[]⟩)).set2 (.int .i64 0))
          have B := Lib.hid (((HBr.out.setCell (p := ⟨w.heap.size, 0, none⟩) (by simp) (.int .i64 0)).setCell (p := ⟨w.heap.size, 1, none⟩) (by simp) (.string ⟨#[]⟩)).setCell (p := ⟨w.heap.size, 2, none⟩) (by simp) (.int .i64 0))
          have HR := Lib.hid (rt_many (k := k) HT.out hl)
          go_wp2
          refine bodyPost_ret (v := .tuple #[.agg #[.int .i64 0, .string ⟨#[]⟩, .int .i64 0], .int .i64 (k : Int), .int .i64 9]) ?_ rfl ⟨HR.out, B.out⟩
          have u0 := C.out.c0
          have u1 := C.out.c1
          have u2 := C.out.c2
          rw [results_cell_tmp2 rfl]
          go_simp
        · have hl2 : ¬ (60 : Int) < (acc.length : Int) := by omega
          have hcv := HO.out.conv
          have C := Lib.hid (((HCr.out.set0 (.int .i64 3)).set1 (.string (bs acc))).set2 (.int .i64 k))
          have B := Lib.hid (((HBr.out.setCell (p := ⟨w.heap.size, 0, none⟩) (by simp) (.int .i64 3)).setCell (p := ⟨w.heap.size, 1, none⟩) (by simp) (.string (bs acc))).setCell (p := ⟨w.heap.size, 2, none⟩) (by simp) (.int .i64 k))
          have HR := Lib.hid (rt_good (k := k) HT.out (by omega) hl)
          go_wp2
          refine bodyPost_ret (v := .tuple #[.agg #[.int .i64 3, .string (bs acc), .int .i64 (k : Int)], .int .i64 ((j : Int) + 1), .int .i64 0]) ?_ rfl ⟨HR.out, B.out⟩
          have u0 := C.out.c0
          have u1 := C.out.c1
          have u2 := C.out.c2
          rw [results_cell_tmp2 rfl]
          go_simp
      · have q1 : ((s[j].toNat : Int) == 34) = false := by simpa using c34
        have H1 := Lib.hid (fun w => isPlain_any s[j] w)
        have H2 := Lib.hid (fun w => escapes_any s j w HM.out h)
        have C := Lib.hid (((HCr.out.set0 (.int .i64 0)).set1 (.string ⟨#[]⟩)).set2 (.int .i64 0))
        have B := Lib.hid (((HBr.out.setCell (p := ⟨w.heap.size, 0, none⟩) (by simp) (.int .i64 0)).setCell (p := ⟨w.heap.size, 1, none⟩) (by simp) (.string ⟨#[]⟩)).setCell (p := ⟨w.heap.size, 2, none⟩) (by simp) (.int .i64 0))
        by_cases c92 : (s[j].toNat : Int) = 92
        · have q2 : ((s[j].toNat : Int) == 92) = true := by simpa using c92
          have HP := Lib.hid (show pln s[j] = true by unfold pln; simp; omega)
          cases hx : escA s j
          · rw [hx] at H2
            have HR := Lib.hid (rt_bad (k := k) (j := j) (e := 5) (show txA s k = (5, [], j - k) by rw [← HI.out.1, dropB s j h, txBad c92 hx]) (by omega) (by decide))
            clear c34 c92 hx
            go_wp2_with (first | (go_at_call 66; refine (H2.out _).mono ?_; rintro e w_ ⟨rfl, rfl⟩) | (go_at_call 67; refine (H1.out _).mono ?_; rintro e w_ ⟨rfl, rfl⟩))
            refine bodyPost_ret (v := .tuple #[.agg #[.int .i64 0, .string ⟨#[]⟩, .int .i64 0], .int .i64 (j : Int), .int .i64 5]) ?_ rfl ⟨HR.out, B.out⟩
            have u0 := C.out.c0
            have u1 := C.out.c1
            have u2 := C.out.c2
            rw [results_cell_tmp2 rfl]
            go_simp
          · have h4 := escA_lt hx
            have hi4 : (j : Int) + 1 < (s.size : Int) := by omega
            have hj4 : ((j : Int) + 1).toNat = j + 1 := by omega
            rw [hx] at H2
            have HI2 := Lib.hid (txI_esc HI.out h c92 hx h4)
            clear c34 c92 hx
            go_wp2_with (first | (go_at_call 66; refine (H2.out _).mono ?_; rintro e w_ ⟨rfl, rfl⟩) | (go_at_call 67; refine (H1.out _).mono ?_; rintro e w_ ⟨rfl, rfl⟩) | (at_builtin; refine wpList_byte rfl _ _ rfl W.heap.size _ acc rfl (HO.out.alloc _) wr.heap.size 1 (s[j + 1]) rfl (by simp) (by omega) (by have := HB.out.size; simp; omega) ?_; intro v' w1 hown hbel; have HO2 := Lib.hid hown; have HB2 := Lib.hid (HB.out.trans (((Below.refl _ _).alloc (by exact HB.out.size) _).trans hbel)); clear hown hbel))
            go_roundw
            case rel => exact ⟨j + 1 + 1, acc ++ [s[j + 1]], by omega, by go_num, HO2, HB2, HI2⟩
            case measure => simp [intOf]; omega
        · have q2 : ((s[j].toNat : Int) == 92) = false := by simpa using c92
          cases hp : pln s[j]
          · rw [hp] at H1
            have HR := Lib.hid (rt_bad (k := k) (j := j) (e := 5) (show txA s k = (5, [], j - k) by rw [← HI.out.1, dropB s j h, txNot c34 c92 hp]) (by omega) (by decide))
            clear c34 c92 hp
            go_wp2_with (go_at_call 67; refine (H1.out _).mono ?_; rintro e w_ ⟨rfl, rfl⟩)
            refine bodyPost_ret (v := .tuple #[.agg #[.int .i64 0, .string ⟨#[]⟩, .int .i64 0], .int .i64 (j : Int), .int .i64 5]) ?_ rfl ⟨HR.out, B.out⟩
            have u0 := C.out.c0
            have u1 := C.out.c1
            have u2 := C.out.c2
            rw [results_cell_tmp2 rfl]
            go_simp
          · rw [hp] at H1
            have HI2 := Lib.hid (txI_step HI.out h c34 c92 hp)
            clear c34 c92 hp
            go_wp2_with (first | (go_at_call 67; refine (H1.out _).mono ?_; rintro e w_ ⟨rfl, rfl⟩) | (at_builtin; refine wpList_byte rfl _ _ rfl W.heap.size _ acc rfl (HO.out.alloc _) wr.heap.size 1 (s[j]) rfl (by simp) (by omega) (by have := HB.out.size; simp; omega) ?_; intro v' w1 hown hbel; have HO2 := Lib.hid hown; have HB2 := Lib.hid (HB.out.trans (((Below.refl _ _).alloc (by exact HB.out.size) _).trans hbel)); clear hown hbel))
            go_roundw
            case rel => exact ⟨j + 1, acc ++ [s[j]], by omega, by go_num, HO2, HB2, HI2⟩
            case measure => simp [intOf]; omega
    · have hi : ¬ (j : Int) < (s.size : Int) := by omega
      have HR := Lib.hid (rt_short (k := k) (show txA s k = (6, [], 0) by rw [← HI.out.1, dropE s j h]; rfl))
      have C := Lib.hid (((HCr.out.set0 (.int .i64 0)).set1 (.string ⟨#[]⟩)).set2 (.int .i64 0))
      have B := Lib.hid (((HBr.out.setCell (p := ⟨w.heap.size, 0, none⟩) (by simp) (.int .i64 0)).setCell (p := ⟨w.heap.size, 1, none⟩) (by simp) (.string ⟨#[]⟩)).setCell (p := ⟨w.heap.size, 2, none⟩) (by simp) (.int .i64 0))
      go_wp2
      refine bodyPost_ret (v := .tuple #[.agg #[.int .i64 0, .string ⟨#[]⟩, .int .i64 0], .int .i64 (k : Int), .int .i64 6]) ?_ rfl ⟨HR.out, B.out⟩
      have u0 := C.out.c0
      have u1 := C.out.c1
      have u2 := C.out.c2
      rw [results_cell_tmp2 rfl]
      go_simp
end Go.Proofs.YtkpdbhpmnegahaaDoor.W
namespace Go.Proofs.YtkpdbhpmnegahaaDoor.W
open Go.RowKit
set_option linter.unusedVariables false
set_option linter.unusedSimpArgs false

theorem beqB (c : UInt8) (n : Nat) (h : n < 256) : decide ((c.toNat : Int) = (n : Int)) = (c == UInt8.ofNat n) := by
  rw [Bool.eq_iff_iff]; simp only [decide_eq_true_eq, beq_iff_eq]; exact byte_eq h
theorem two_eq (c d : UInt8) : two c d = (([c, d] == [60, 61]) || ([c, d] == [62, 61]) || ([c, d] == [33, 61]) || ([c, d] == [46, 46])) := by
  have e1 : decide ((c.toNat : Int) = 60) = (c == 60) := beqB c 60 (by decide)
  have e2 : decide ((c.toNat : Int) = 62) = (c == 62) := beqB c 62 (by decide)
  have e3 : decide ((c.toNat : Int) = 33) = (c == 33) := beqB c 33 (by decide)
  have e4 : decide ((c.toNat : Int) = 46) = (c == 46) := beqB c 46 (by decide)
  have e5 : decide ((d.toNat : Int) = 61) = (d == 61) := beqB d 61 (by decide)
  have e6 : decide ((d.toNat : Int) = 46) = (d == 46) := beqB d 46 (by decide)
  unfold two
  rw [e1, e2, e3, e4, e5, e6]
  have q : ∀ x y : UInt8, ([c, d] == [x, y]) = (c == x && d == y) := fun x y => by
    show (c == x && ([d] == [y])) = _
    congr 1
    show (d == y && ([] == ([] : List UInt8))) = _
    simp
  rw [q, q, q, q]
  cases (c == 60) <;> cases (c == 62) <;> cases (c == 33) <;> cases (c == 46) <;> cases (d == 61) <;> cases (d == 46) <;> rfl
theorem idx_one (l : List UInt8) (c : UInt8) : decide (0 ≤ Lib.indexByte l c) = l.contains c := by
  induction l with
  | nil => simp [Lib.indexByte]
  | cons b l ih =>
    have hg := Lib.indexByte_ge l c
    rw [List.contains_cons, ← ih]
    rw [Lib.indexByte]
    by_cases h : b = c
    · subst h; simp
    · have h1 : (b == c) = false := by simpa using h
      have h2 : (c == b) = false := by simpa using fun x => h x.symm
      rw [h1, h2]
      by_cases h3 : Lib.indexByte l c = -1
      · rw [h3]; simp
      · have h4 : (Lib.indexByte l c == -1) = false := by simpa using h3
        rw [h4]
        rw [Bool.eq_iff_iff]; simp; omega
/-- the bytes of the sign at k. -/
def sgA (s : ByteArray) (k : Nat) : Nat := sgL (s.toList.drop k)
theorem sgA_two {s : ByteArray} {k : Nat} (h : k + 1 < s.size) : sgA s k = if two s[k] s[k + 1] then 2 else if one s[k] then 1 else 0 := by
  unfold sgA; rw [dropB s k (by omega), dropB s (k + 1) h]; rfl
theorem sgA_one {s : ByteArray} {k : Nat} (hk : k < s.size) (h : ¬ k + 1 < s.size) : sgA s k = if one s[k] then 1 else 0 := by
  unfold sgA; rw [dropB s k hk, dropE s (k + 1) h]; rfl
theorem ext2 {s : ByteArray} {k : Nat} (h : k + 1 < s.size) : (s.extract k (k + 2)).toList = [s[k], s[k + 1]] := by
  rw [ext_list s k (k + 2) (by omega) (by omega), dropB s k (by omega), dropB s (k + 1) h, show k + 2 - k = 2 by omega]; rfl
theorem ext1 {s : ByteArray} {k : Nat} (h : k < s.size) : (s.extract k (k + 1)).toList = [s[k]] := by
  rw [ext_list s k (k + 1) (by omega) (by omega), dropB s k h, show k + 1 - k = 1 by omega]; rfl
set_option maxHeartbeats 1000000 in
theorem signEnd_any (s : ByteArray) (k : Nat) (w : World) (hs : s.size ≤ 1000) (hk : k < s.size) :
    Calls Tryd.prog 52 #[.string s, .int .i64 (k : Int)] w fun e w' => e = .returned (.int .i64 ((k + sgA s k : Nat) : Int)) ∧ w = w' := by
  have HI := Lib.hid (fun w => Tryd.strings_IndexByte ⟨#[40, 41, 123, 125, 91, 93, 44, 59, 58, 61, 43, 45, 42, 47, 60, 62, 124, 38, 33, 64, 37]⟩ (s[k].toNat : Int) w)
  have hz : decide (0 ≤ Lib.indexByte (ByteArray.data ⟨#[40, 41, 123, 125, 91, 93, 44, 59, 58, 61, 43, 45, 42, 47, 60, 62, 124, 38, 33, 64, 37]⟩).toList (s[k].toNat : Int).toNat.toUInt8) = one s[k] := by
    rw [idx_one, show (s[k].toNat : Int).toNat.toUInt8 = s[k] by simp]; rfl
  generalize Lib.indexByte (ByteArray.data ⟨#[40, 41, 123, 125, 91, 93, 44, 59, 58, 61, 43, 45, 42, 47, 60, 62, 124, 38, 33, 64, 37]⟩).toList (s[k].toNat : Int).toNat.toUInt8 = Z at *
  have HZ := Lib.hid hz
  clear hz
  by_cases h : k + 1 < s.size
  · have hi : (k : Int) + 1 < (s.size : Int) := by omega
    have hk2 : ((k : Int) + 2).toNat = k + 2 := by omega
    have HS := Lib.hid (sgA_two h)
    have HT := Lib.hid (two_eq s[k] s[k + 1])
    have hx : (s.extract k (k + 2)).toList = [s[k], s[k + 1]] := ext2 h
    rw [← hx] at HT
    clear hx
    obtain ⟨b1, x1⟩ : ∃ b, ((s.extract k (k + 2)).toList == [60, 61]) = b := ⟨_, rfl⟩
    obtain ⟨b2, x2⟩ : ∃ b, ((s.extract k (k + 2)).toList == [62, 61]) = b := ⟨_, rfl⟩
    obtain ⟨b3, x3⟩ : ∃ b, ((s.extract k (k + 2)).toList == [33, 61]) = b := ⟨_, rfl⟩
    obtain ⟨b4, x4⟩ : ∃ b, ((s.extract k (k + 2)).toList == [46, 46]) = b := ⟨_, rfl⟩
    rw [x1, x2, x3, x4] at HT
    go_enter Tryd.func52, Tryd.ntmps52
    go_wp2_with (go_at_call 68; refine (HI.out _).mono ?_; rintro e w_ ⟨rfl, rfl⟩)
    all_goals (go_ret; refine ⟨ret_int ?_, rfl⟩; rw [HS.out, ← HZ.out, HT.out]; clear HI HZ HT HS x1 x2 x3 x4; grind)
  · have hi : ¬ (k : Int) + 1 < (s.size : Int) := by omega
    have HS := Lib.hid (sgA_one hk h)
    go_enter Tryd.func52, Tryd.ntmps52
    go_wp2_with (go_at_call 68; refine (HI.out _).mono ?_; rintro e w_ ⟨rfl, rfl⟩)
    all_goals (go_ret; refine ⟨ret_int ?_, rfl⟩; rw [HS.out, ← HZ.out]; clear HI HZ HS; grind)
/-- the list of strings has s. -/
def inB (xs : List ByteArray) (s : ByteArray) : Bool := xs.any fun x => x.toList == s.toList
def twoL : List ByteArray := [⟨#[60, 61]⟩, ⟨#[62, 61]⟩, ⟨#[33, 61]⟩, ⟨#[46, 46]⟩]
def onesL : List ByteArray := [⟨#[40]⟩, ⟨#[41]⟩, ⟨#[123]⟩, ⟨#[125]⟩, ⟨#[91]⟩, ⟨#[93]⟩, ⟨#[44]⟩, ⟨#[59]⟩, ⟨#[58]⟩, ⟨#[61]⟩, ⟨#[43]⟩, ⟨#[45]⟩, ⟨#[42]⟩, ⟨#[47]⟩, ⟨#[60]⟩, ⟨#[62]⟩, ⟨#[124]⟩, ⟨#[38]⟩, ⟨#[33]⟩, ⟨#[64]⟩, ⟨#[37]⟩]
theorem beq_comm' (a b : List UInt8) : (a == b) = (b == a) := by rw [Bool.eq_iff_iff]; simp; exact eq_comm
theorem inB_two {s : ByteArray} {c d : UInt8} (h : s.toList = [c, d]) : inB twoL s = two c d := by
  rw [two_eq]; unfold inB twoL
  rw [h]
  have t : ∀ x y : UInt8, ((⟨#[x, y]⟩ : ByteArray).toList == [c, d]) = ([c, d] == [x, y]) := fun x y => by
    rw [beq_comm']; rw [show (⟨#[x, y]⟩ : ByteArray).toList = [x, y] from bs_list [x, y]]
  simp only [List.any_cons, List.any_nil, Bool.or_false]
  rw [t, t, t, t]
  cases ([c, d] == [60, 61]) <;> cases ([c, d] == [62, 61]) <;> cases ([c, d] == [33, 61]) <;> cases ([c, d] == [46, 46]) <;> rfl
theorem inB_one {s : ByteArray} {c : UInt8} (h : s.toList = [c]) : inB onesL s = one c := by
  have e : onesL = oneL.map (fun b => bs [b]) := rfl
  unfold inB one
  rw [e, List.any_map, h]
  have : ∀ l : List UInt8, (l.any ((fun x => x.toList == [c]) ∘ fun b => bs [b])) = l.contains c := by
    intro l
    induction l with
    | nil => rfl
    | cons b l ih =>
      rw [List.any_cons, List.contains_cons, ih]
      congr 1
      show ((bs [b]).toList == [c]) = _
      rw [bs_list, Bool.eq_iff_iff]; simp; exact eq_comm
  exact this _
theorem und_strs : Tryd.prog.underlying 42 = some (.slice 9) := by kernel_rfl
/-- the lists of signs in memory. -/
def wTwo (w : World) : World := w.alloc (Obj.cells #[Value.string ⟨#[60, 61]⟩, Value.string ⟨#[62, 61]⟩, Value.string ⟨#[33, 61]⟩, Value.string ⟨#[46, 46]⟩] 9)
def wOne (w : World) : World := w.alloc (Obj.cells #[Value.string ⟨#[40]⟩, Value.string ⟨#[41]⟩, Value.string ⟨#[123]⟩, Value.string ⟨#[125]⟩, Value.string ⟨#[91]⟩, Value.string ⟨#[93]⟩, Value.string ⟨#[44]⟩, Value.string ⟨#[59]⟩, Value.string ⟨#[58]⟩, Value.string ⟨#[61]⟩, Value.string ⟨#[43]⟩, Value.string ⟨#[45]⟩, Value.string ⟨#[42]⟩, Value.string ⟨#[47]⟩, Value.string ⟨#[60]⟩, Value.string ⟨#[62]⟩, Value.string ⟨#[124]⟩, Value.string ⟨#[38]⟩, Value.string ⟨#[33]⟩, Value.string ⟨#[64]⟩, Value.string ⟨#[37]⟩] 9)
theorem wTwo_cell (w : World) (j : Nat) (x : ByteArray) (h : twoL[j]? = some x) : (wTwo w).cell? ⟨w.heap.size, j, none⟩ = some (.string x) := by
  show (w.alloc (Obj.cells (twoL.map Value.string).toArray 9)).cell? ⟨w.heap.size, j, none⟩ = _
  rw [World.cell?_alloc_mark]; simp [h]
theorem wOne_cell (w : World) (j : Nat) (x : ByteArray) (h : onesL[j]? = some x) : (wOne w).cell? ⟨w.heap.size, j, none⟩ = some (.string x) := by
  show (w.alloc (Obj.cells (onesL.map Value.string).toArray 9)).cell? ⟨w.heap.size, j, none⟩ = _
  rw [World.cell?_alloc_mark]; simp [h]
theorem wTwo_below (w : World) : Below w.heap.size w (wTwo w) := (Below.refl _ _).alloc (Nat.le_refl _) _
theorem wOne_below (w : World) : Below w.heap.size w (wOne w) := (Below.refl _ _).alloc (Nat.le_refl _) _
end Go.Proofs.YtkpdbhpmnegahaaDoor.W
namespace Go.Proofs.YtkpdbhpmnegahaaDoor.W
open Go.RowKit
set_option linter.unusedVariables false
set_option linter.unusedSimpArgs false

theorem woA_eq {s : ByteArray} {k : Nat} (h : k < s.size) : woL (s.toList.drop k) = if lett s[k] then lim (s.toList.drop k) (nmL (s.toList.drop k)) 12 1
    else if dig s[k] || ((s[k].toNat : Int) = 45 && hdA s (k + 1)) then lim (s.toList.drop k) (nuL (s.toList.drop (k + 1)) + 1) 60 2
    else if (s[k].toNat : Int) = 34 then txW (txA s k)
    else sgW (s.toList.drop k) (sgA s k) := by
  rw [dropB s k h, woL_cons]; unfold sgA; rw [dropB s k h]; rfl
theorem sgA_le (s : ByteArray) (k : Nat) : sgA s k ≤ s.size - k := by
  have := sgL_le (s.toList.drop k)
  rw [List.length_drop, bytes_len] at this; exact this
theorem sgW_zero {l : List UInt8} {n : Nat} (h : n = 0) : sgW l n = (5, 0, [], 0) := by unfold sgW; rw [if_pos h]
theorem sg_res (s : ByteArray) (k : Nat) (hk : k < s.size) : Ending.returned (.tuple #[.agg #[.int .i64 4, .string (s.extract k (k + sgA s k)), .int .i64 (k : Int)], .int .i64 ((k + sgA s k : Nat) : Int), .int .i64 0]) = wRes (0, 4, (s.toList.drop k).take (sgA s k), sgA s k) k := by
  have := sgA_le s k
  rw [ext_bs s k (k + sgA s k) (by omega) (by omega), show k + sgA s k - k = sgA s k by omega]
  rfl
set_option maxHeartbeats 4000000 in
theorem next_any (s : ByteArray) (k : Nat) (w : World) (hs : s.size ≤ 1000) (hk : k < s.size) :
    Calls Tryd.prog 31 #[.string s, .int .i64 (k : Int)] w fun e w' => e = wRes (woL (s.toList.drop k)) k ∧ Below w.heap.size w w' := by
  have HM := Lib.hid (show s.size ≤ maxLen by unfold maxLen; omega)
  have HW0 := Lib.hid (woA_eq hk)
  have H1 := Lib.hid (fun w => isLetter_any s[k] w)
  have H2 := Lib.hid (fun w => isDigit_any s[k] w)
  have H3 := Lib.hid (fun w => digitAt_any s (k + 1) w HM.out)
  have H4 := Lib.hid (fun w => readText_any s k w hs hk)
  have H5 := Lib.hid (fun w => signEnd_any s k w hs hk)
  have H6 := Lib.hid (fun w => nameEnd_any s k w HM.out (by omega))
  have H7 := Lib.hid (fun w => numberEnd_any s k w HM.out hk)
  have H8 := Lib.hid (fun w => limited_any s k (nmL (s.toList.drop k)) 12 1 w HM.out (nmE_le s k (by omega)) (by decide) (by decide) (by decide))
  have e7 : nuE s (k + 1) = k + (nuL (s.toList.drop (k + 1)) + 1) := by unfold nuE; omega
  have H9 := Lib.hid (fun w => limited_any s k (nuL (s.toList.drop (k + 1)) + 1) 60 2 w HM.out (by rw [← e7]; exact nuE_le s (k + 1) (by omega)) (by decide) (by decide) (by decide))
  rw [e7] at H7
  clear e7
  have HN := Lib.hid (sgA_le s k)
  have HGS := Lib.hid (sg_res s k hk)
  have HG0 := Lib.hid (fun h => sgW_zero (l := s.toList.drop k) (n := sgA s k) h)
  have HG1 := Lib.hid (fun h => sgW_at (l := s.toList.drop k) (n := sgA s k) h)
  have E6 : nmE s k = k + nmL (s.toList.drop k) := rfl
  rw [E6] at H6
  clear E6
  have hnl := nmE_le s k (by omega)
  have hnu := nuE_le s (k + 1) (by omega)
  unfold nmE at hnl
  unfold nuE at hnu
  have hn2 := HN.out
  generalize lim (s.toList.drop k) (nmL (s.toList.drop k)) 12 1 = X1 at *
  generalize lim (s.toList.drop k) (nuL (s.toList.drop (k + 1)) + 1) 60 2 = X2 at *
  generalize txW (txA s k) = X3 at *
  generalize nmL (s.toList.drop k) = n1 at *
  generalize nuL (s.toList.drop (k + 1)) = n2 at *
  generalize sgA s k = n at *
  have HC0 := Lib.hid (Cell3.alloc w (.int .i64 0) (.string ⟨#[]⟩) (.int .i64 0) 71)
  have HB0 := Lib.hid ((Below.refl w.heap.size w).alloc (Nat.le_refl _) (Obj.cells #[.int .i64 0, .string ⟨#[]⟩, .int .i64 0] 71))
  have HBs := Lib.hid (show (w.alloc (Obj.cells #[.int .i64 0, .string ⟨#[]⟩, .int .i64 0] 71)).heap.size = w.heap.size + 1 by simp)
  have hki : (k : Int) < (s.size : Int) := by omega
  obtain ⟨b1, g1⟩ : ∃ b, lett s[k] = b := ⟨_, rfl⟩
  obtain ⟨b2, g2⟩ : ∃ b, dig s[k] = b := ⟨_, rfl⟩
  obtain ⟨b3, g3⟩ : ∃ b, hdA s (k + 1) = b := ⟨_, rfl⟩
  rw [g1] at H1
  rw [g2] at H2
  rw [g3] at H3
  rw [g1, g2, g3] at HW0
  clear g1 g2 g3
  go_enter Tryd.func31, Tryd.ntmps31
  go_wp2_with fail
  refine (H1.out _).mono ?_
  rintro e w_ ⟨rfl, rfl⟩
  generalize w.alloc (Obj.cells #[.int .i64 0, .string ⟨#[]⟩, .int .i64 0] 71) = W at *
  cases b1
  · go_wp2_with fail
    refine (H2.out _).mono ?_
    rintro e w_ ⟨rfl, rfl⟩
    cases b2
    · by_cases c45 : (s[k].toNat : Int) = 45
      · have q45 : ((s[k].toNat : Int) == 45) = true := by simpa using c45
        have q34 : ((s[k].toNat : Int) == 34) = false := by rw [c45]; rfl
        go_wp2_with fail
        refine (H3.out _).mono ?_
        rintro e w_ ⟨rfl, rfl⟩
        cases b3
        · have HW := Lib.hid (show woL (s.toList.drop k) = sgW (s.toList.drop k) n by rw [HW0.out, if_neg (by decide), if_neg (by simp), if_neg (by omega)])
          clear HW0 c45
          go_wp2_with fail
          refine (H5.out _).mono ?_
          rintro e w_ ⟨rfl, rfl⟩
          have HC1 := HC0
          have HB1 := HB0
          have cz0 := HC1.out.c0
          have cz1 := HC1.out.c1
          have cz2 := HC1.out.c2
          have fz0 := HC1.out.f0
          have fz1 := HC1.out.f1
          have fz2 := HC1.out.f2
          by_cases hn0 : n = 0
          · have hn1 : (((k + n : Nat) : Int) == (k : Int)) = true := by simp [hn0]
            have C := Lib.hid (((HC1.out.set0 (.int .i64 0)).set1 (.string ⟨#[]⟩)).set2 (.int .i64 0))
            have B := Lib.hid (((HB1.out.setCell (p := ⟨w.heap.size, 0, none⟩) (by simp) (.int .i64 0)).setCell (p := ⟨w.heap.size, 1, none⟩) (by simp) (.string ⟨#[]⟩)).setCell (p := ⟨w.heap.size, 2, none⟩) (by simp) (.int .i64 0))
            go_wp2
            refine bodyPost_ret (v := .tuple #[.agg #[.int .i64 0, .string ⟨#[]⟩, .int .i64 0], .int .i64 (k : Int), .int .i64 5]) ?_ rfl ⟨by rw [HW.out, HG0.out hn0]; rfl, B.out⟩
            have u0 := C.out.c0
            have u1 := C.out.c1
            have u2 := C.out.c2
            rw [results_cell_tmp2 rfl]
            go_simp
          · have hn1 : (((k + n : Nat) : Int) == (k : Int)) = false := by simp; omega
            have hn3 : ((k + n : Nat) : Int).toNat = k + n := by omega
            have C := Lib.hid (((HC1.out.set0 (.int .i64 4)).set1 (.string (s.extract k (k + n)))).set2 (.int .i64 (k : Int)))
            have B := Lib.hid (((HB1.out.setCell (p := ⟨w.heap.size, 0, none⟩) (by simp) (.int .i64 4)).setCell (p := ⟨w.heap.size, 1, none⟩) (by simp) (.string (s.extract k (k + n)))).setCell (p := ⟨w.heap.size, 2, none⟩) (by simp) (.int .i64 (k : Int)))
            go_wp2
            refine bodyPost_ret (v := .tuple #[.agg #[.int .i64 4, .string (s.extract k (k + n)), .int .i64 (k : Int)], .int .i64 ((k + n : Nat) : Int), .int .i64 0]) ?_ rfl ⟨by rw [HW.out, HG1.out hn0]; exact HGS.out, B.out⟩
            have u0 := C.out.c0
            have u1 := C.out.c1
            have u2 := C.out.c2
            rw [results_cell_tmp2 rfl]
            go_simp
        · have HW := Lib.hid (show woL (s.toList.drop k) = X2 by rw [HW0.out, if_neg (by decide), if_pos (by simp [c45])])
          clear HW0 c45
          go_wp2_with fail
          refine (H7.out _).mono ?_
          rintro e w_ ⟨rfl, rfl⟩
          go_wp2_with fail
          refine (H9.out _).mono ?_
          rintro e W1 ⟨he, hb1⟩
          unfold wRes at he
          subst he
          have HC1 := Lib.hid (HC0.out.below hb1 (by rw [HBs.out]; omega))
          have HB1 := Lib.hid (HB0.out.trans (hb1.mono (by rw [HBs.out]; omega)))
          clear hb1
          have cz0 := HC1.out.c0
          have cz1 := HC1.out.c1
          have cz2 := HC1.out.c2
          have fz0 := HC1.out.f0
          have fz1 := HC1.out.f1
          have fz2 := HC1.out.f2
          have C := Lib.hid (((HC1.out.set0 (.int .i64 X2.2.1)).set1 (.string (bs X2.2.2.1))).set2 (.int .i64 (wAt X2.1 k)))
          have B := Lib.hid (((HB1.out.setCell (p := ⟨w.heap.size, 0, none⟩) (by simp) (.int .i64 X2.2.1)).setCell (p := ⟨w.heap.size, 1, none⟩) (by simp) (.string (bs X2.2.2.1))).setCell (p := ⟨w.heap.size, 2, none⟩) (by simp) (.int .i64 (wAt X2.1 k)))
          go_wp2
          refine bodyPost_ret (v := .tuple #[.agg #[.int .i64 X2.2.1, .string (bs X2.2.2.1), .int .i64 (wAt X2.1 k)], .int .i64 ((k + X2.2.2.2 : Nat) : Int), .int .i64 X2.1]) ?_ rfl ⟨by rw [HW.out]; rfl, B.out⟩
          have u0 := C.out.c0
          have u1 := C.out.c1
          have u2 := C.out.c2
          rw [results_cell_tmp2 rfl]
          go_simp
      · have q45 : ((s[k].toNat : Int) == 45) = false := by simpa using c45
        by_cases c34 : (s[k].toNat : Int) = 34
        · have q34 : ((s[k].toNat : Int) == 34) = true := by simpa using c34
          have HW := Lib.hid (show woL (s.toList.drop k) = X3 by rw [HW0.out, if_neg (by decide), if_neg (by simp [c45]), if_pos c34])
          clear HW0 c45 c34
          go_wp2_with fail
          refine (H4.out _).mono ?_
          rintro e W1 ⟨he, hb1⟩
          unfold wRes at he
          subst he
          have HC1 := Lib.hid (HC0.out.below hb1 (by rw [HBs.out]; omega))
          have HB1 := Lib.hid (HB0.out.trans (hb1.mono (by rw [HBs.out]; omega)))
          clear hb1
          have cz0 := HC1.out.c0
          have cz1 := HC1.out.c1
          have cz2 := HC1.out.c2
          have fz0 := HC1.out.f0
          have fz1 := HC1.out.f1
          have fz2 := HC1.out.f2
          have C := Lib.hid (((HC1.out.set0 (.int .i64 X3.2.1)).set1 (.string (bs X3.2.2.1))).set2 (.int .i64 (wAt X3.1 k)))
          have B := Lib.hid (((HB1.out.setCell (p := ⟨w.heap.size, 0, none⟩) (by simp) (.int .i64 X3.2.1)).setCell (p := ⟨w.heap.size, 1, none⟩) (by simp) (.string (bs X3.2.2.1))).setCell (p := ⟨w.heap.size, 2, none⟩) (by simp) (.int .i64 (wAt X3.1 k)))
          go_wp2
          refine bodyPost_ret (v := .tuple #[.agg #[.int .i64 X3.2.1, .string (bs X3.2.2.1), .int .i64 (wAt X3.1 k)], .int .i64 ((k + X3.2.2.2 : Nat) : Int), .int .i64 X3.1]) ?_ rfl ⟨by rw [HW.out]; rfl, B.out⟩
          have u0 := C.out.c0
          have u1 := C.out.c1
          have u2 := C.out.c2
          rw [results_cell_tmp2 rfl]
          go_simp
        · have q34 : ((s[k].toNat : Int) == 34) = false := by simpa using c34
          have HW := Lib.hid (show woL (s.toList.drop k) = sgW (s.toList.drop k) n by rw [HW0.out, if_neg (by decide), if_neg (by simp [c45]), if_neg c34])
          clear HW0 c45 c34
          go_wp2_with fail
          refine (H5.out _).mono ?_
          rintro e w_ ⟨rfl, rfl⟩
          have HC1 := HC0
          have HB1 := HB0
          have cz0 := HC1.out.c0
          have cz1 := HC1.out.c1
          have cz2 := HC1.out.c2
          have fz0 := HC1.out.f0
          have fz1 := HC1.out.f1
          have fz2 := HC1.out.f2
          by_cases hn0 : n = 0
          · have hn1 : (((k + n : Nat) : Int) == (k : Int)) = true := by simp [hn0]
            have C := Lib.hid (((HC1.out.set0 (.int .i64 0)).set1 (.string ⟨#[]⟩)).set2 (.int .i64 0))
            have B := Lib.hid (((HB1.out.setCell (p := ⟨w.heap.size, 0, none⟩) (by simp) (.int .i64 0)).setCell (p := ⟨w.heap.size, 1, none⟩) (by simp) (.string ⟨#[]⟩)).setCell (p := ⟨w.heap.size, 2, none⟩) (by simp) (.int .i64 0))
            go_wp2
            refine bodyPost_ret (v := .tuple #[.agg #[.int .i64 0, .string ⟨#[]⟩, .int .i64 0], .int .i64 (k : Int), .int .i64 5]) ?_ rfl ⟨by rw [HW.out, HG0.out hn0]; rfl, B.out⟩
            have u0 := C.out.c0
            have u1 := C.out.c1
            have u2 := C.out.c2
            rw [results_cell_tmp2 rfl]
            go_simp
          · have hn1 : (((k + n : Nat) : Int) == (k : Int)) = false := by simp; omega
            have hn3 : ((k + n : Nat) : Int).toNat = k + n := by omega
            have C := Lib.hid (((HC1.out.set0 (.int .i64 4)).set1 (.string (s.extract k (k + n)))).set2 (.int .i64 (k : Int)))
            have B := Lib.hid (((HB1.out.setCell (p := ⟨w.heap.size, 0, none⟩) (by simp) (.int .i64 4)).setCell (p := ⟨w.heap.size, 1, none⟩) (by simp) (.string (s.extract k (k + n)))).setCell (p := ⟨w.heap.size, 2, none⟩) (by simp) (.int .i64 (k : Int)))
            go_wp2
            refine bodyPost_ret (v := .tuple #[.agg #[.int .i64 4, .string (s.extract k (k + n)), .int .i64 (k : Int)], .int .i64 ((k + n : Nat) : Int), .int .i64 0]) ?_ rfl ⟨by rw [HW.out, HG1.out hn0]; exact HGS.out, B.out⟩
            have u0 := C.out.c0
            have u1 := C.out.c1
            have u2 := C.out.c2
            rw [results_cell_tmp2 rfl]
            go_simp
    · have HW := Lib.hid (show woL (s.toList.drop k) = X2 by rw [HW0.out, if_neg (by decide), if_pos (by simp)])
      clear HW0
      go_wp2_with fail
      refine (H7.out _).mono ?_
      rintro e w_ ⟨rfl, rfl⟩
      go_wp2_with fail
      refine (H9.out _).mono ?_
      rintro e W1 ⟨he, hb1⟩
      unfold wRes at he
      subst he
      have HC1 := Lib.hid (HC0.out.below hb1 (by rw [HBs.out]; omega))
      have HB1 := Lib.hid (HB0.out.trans (hb1.mono (by rw [HBs.out]; omega)))
      clear hb1
      have cz0 := HC1.out.c0
      have cz1 := HC1.out.c1
      have cz2 := HC1.out.c2
      have fz0 := HC1.out.f0
      have fz1 := HC1.out.f1
      have fz2 := HC1.out.f2
      have C := Lib.hid (((HC1.out.set0 (.int .i64 X2.2.1)).set1 (.string (bs X2.2.2.1))).set2 (.int .i64 (wAt X2.1 k)))
      have B := Lib.hid (((HB1.out.setCell (p := ⟨w.heap.size, 0, none⟩) (by simp) (.int .i64 X2.2.1)).setCell (p := ⟨w.heap.size, 1, none⟩) (by simp) (.string (bs X2.2.2.1))).setCell (p := ⟨w.heap.size, 2, none⟩) (by simp) (.int .i64 (wAt X2.1 k)))
      go_wp2
      refine bodyPost_ret (v := .tuple #[.agg #[.int .i64 X2.2.1, .string (bs X2.2.2.1), .int .i64 (wAt X2.1 k)], .int .i64 ((k + X2.2.2.2 : Nat) : Int), .int .i64 X2.1]) ?_ rfl ⟨by rw [HW.out]; rfl, B.out⟩
      have u0 := C.out.c0
      have u1 := C.out.c1
      have u2 := C.out.c2
      rw [results_cell_tmp2 rfl]
      go_simp
  · have HW := Lib.hid (show woL (s.toList.drop k) = X1 by rw [HW0.out, if_pos rfl])
    clear HW0
    go_wp2_with fail
    refine (H6.out _).mono ?_
    rintro e w_ ⟨rfl, rfl⟩
    go_wp2_with fail
    refine (H8.out _).mono ?_
    rintro e W1 ⟨he, hb1⟩
    unfold wRes at he
    subst he
    have HC1 := Lib.hid (HC0.out.below hb1 (by rw [HBs.out]; omega))
    have HB1 := Lib.hid (HB0.out.trans (hb1.mono (by rw [HBs.out]; omega)))
    clear hb1
    have cz0 := HC1.out.c0
    have cz1 := HC1.out.c1
    have cz2 := HC1.out.c2
    have fz0 := HC1.out.f0
    have fz1 := HC1.out.f1
    have fz2 := HC1.out.f2
    have C := Lib.hid (((HC1.out.set0 (.int .i64 X1.2.1)).set1 (.string (bs X1.2.2.1))).set2 (.int .i64 (wAt X1.1 k)))
    have B := Lib.hid (((HB1.out.setCell (p := ⟨w.heap.size, 0, none⟩) (by simp) (.int .i64 X1.2.1)).setCell (p := ⟨w.heap.size, 1, none⟩) (by simp) (.string (bs X1.2.2.1))).setCell (p := ⟨w.heap.size, 2, none⟩) (by simp) (.int .i64 (wAt X1.1 k)))
    go_wp2
    refine bodyPost_ret (v := .tuple #[.agg #[.int .i64 X1.2.1, .string (bs X1.2.2.1), .int .i64 (wAt X1.1 k)], .int .i64 ((k + X1.2.2.2 : Nat) : Int), .int .i64 X1.1]) ?_ rfl ⟨by rw [HW.out]; rfl, B.out⟩
    have u0 := C.out.c0
    have u1 := C.out.c1
    have u2 := C.out.c2
    rw [results_cell_tmp2 rfl]
    go_simp
end Go.Proofs.YtkpdbhpmnegahaaDoor.W
namespace Go.Proofs.YtkpdbhpmnegahaaDoor.W
open Go.RowKit
set_option linter.unusedVariables false
set_option linter.unusedSimpArgs false

theorem ownsRow_below {w w' : World} {base : Nat} {e : TypeId} {size : Nat} {v : Value} {n : Nat} {xs : List Value} (h : w.ownsRow base e size v n xs) (hb : Below w.heap.size w w') : w'.ownsRow base e size v n xs := by
  refine ⟨h.1, ?_⟩
  rcases h.2 with x | ⟨g, cap, cur, e1, e2, e3, e4⟩
  · exact .inl x
  · exact .inr ⟨g, cap, cur, e1, e2, by rw [hb.block g (lt_of_block e3)]; exact e3, e4⟩
/-- the cells of a word, and of words. -/
def wdC (x : Int × List UInt8 × Nat) : List Value := [.int .i64 x.1, .string (bs x.2.1), .int .i64 (x.2.2 : Int)]
def wdCs (l : List (Int × List UInt8 × Nat)) : List Value := l.flatMap wdC
/-- the slice v owns the words l. -/
def OwnW (w : World) (base : Nat) (v : Value) (l : List (Int × List UInt8 × Nat)) : Prop := w.ownsRow base 71 3 v l.length (wdCs l)
theorem OwnW.nil (w : World) (base : Nat) : OwnW w base (.slice none 0 0) [] := World.ownsRow_nil w base _ 3
theorem OwnW.below {w w' : World} {base : Nat} {v : Value} {l : List (Int × List UInt8 × Nat)} (h : OwnW w base v l) (hb : Below w.heap.size w w') : OwnW w' base v l := ownsRow_below h hb
theorem OwnW.alloc {w : World} {base : Nat} {v : Value} {l : List (Int × List UInt8 × Nat)} (h : OwnW w base v l) (o : Obj) : OwnW (w.alloc o) base v l := World.ownsRow.alloc h o
theorem OwnW.shape {w : World} {base : Nat} {v : Value} {l : List (Int × List UInt8 × Nat)} (h : OwnW w base v l) : ∃ ao cap, v = .slice ao l.length cap := by
  rcases h.2 with ⟨e, n⟩ | ⟨g, cap, cur, e, _⟩
  · exact ⟨none, 0, by rw [e, n]⟩
  · exact ⟨_, _, e⟩
theorem und_word : Tryd.prog.underlying 51 = some (.slice 71) := by kernel_rfl
theorem inf_word : (Tryd.prog.info? 71).map (fun i => (i.zero, i.size, i.bytes)) = some (some (.agg #[.int .i64 0, .string ⟨#[]⟩, .int .i64 0]), 3, 32) := by kernel_rfl
/-- one word more. -/
theorem wpList_word {w : World} {ops : Array Oper} {rest : List Oper} {o : Oper} {a : Act} {Q : Exit → Act → World → Prop} (hgd : o.guard = none) (s x : Operand)
    (ho : o.op = .call { callee := .builtin .append, args := #[s, x], argTypes := #[51, 51] })
    (base : Nat) (v : Value) (l : List (Int × List UInt8 × Nat)) (hs : a.eval s = v) (hown : OwnW w base v l) (g c : Nat) (y : Int × List UInt8 × Nat) (hx : a.eval x = .slice (some ⟨g, 0, none⟩) 1 c)
    (hc0 : w.cell? ⟨g, 0, none⟩ = some (.int .i64 y.1)) (hc1 : w.cell? ⟨g, 1, none⟩ = some (.string (bs y.2.1))) (hc2 : w.cell? ⟨g, 2, none⟩ = some (.int .i64 (y.2.2 : Int)))
    (hl : l.length < 1000000) (hbase : base ≤ w.heap.size)
    (h : ∀ v' w', OwnW w' base v' (l ++ [y]) → Below base w w' → wpList Tryd.prog ops Q rest (a.put o.dst v') w') : wpList Tryd.prog ops Q (o :: rest) a w := by
  obtain ⟨i0, hi, hz0, hz1, hz2⟩ := info_parts inf_word
  refine wpList_append_own w hgd s x _ ho base _ i0 (.agg #[.int .i64 0, .string ⟨#[]⟩, .int .i64 0]) 3 32 und_word hi hz0 hz1 hz2 (by kernel_rfl) (by decide) v _ _ hs hown ⟨g, 0, none⟩ 1 c (wdC y) hx rfl ?_ ?_ ?_ ?_ hbase ?_
  · intro j u hj
    match j, hj with
    | 0, hj => simp [wdC] at hj; subst hj; simpa [Addr.add] using hc0
    | 1, hj => simp [wdC] at hj; subst hj; simpa [Addr.add] using hc1
    | 2, hj => simp [wdC] at hj; subst hj; simpa [Addr.add] using hc2
  · intro u hu; simp [wdC] at hu; rcases hu with rfl | rfl | rfl <;> rfl
  · unfold maxLen; omega
  · omega
  · intro v' w' h1 h2 _
    refine h v' w' (by unfold OwnW wdCs; rw [List.length_append, List.flatMap_append, List.flatMap_singleton]; exact h1) ((Below.refl base w).grown h2 hbase fun k hk => (hown.lt k hk).1)

def preL (L : List (Int × List UInt8 × Nat)) (x : Int × List (Int × List UInt8 × Nat) × Nat) : Int × List (Int × List UInt8 × Nat) × Nat := (x.1, L ++ x.2.1, x.2.2)
/-- cut up to j, L gathered. -/
def cuI (s : ByteArray) (j : Nat) (L : List (Int × List UInt8 × Nat)) : Prop := cuV s.toList 0 = preL L (cuV (s.toList.drop j) j) ∧ L.length ≤ j
/-- what Cut returns: the error, the words, the offset. -/
def cuR (s : ByteArray) : Int × List (Int × List UInt8 × Nat) × Nat :=
  if 400 < s.size then (9, [], 0) else if (cuV s.toList 0).1 = 0 then (0, (cuV s.toList 0).2.1, s.size) else ((cuV s.toList 0).1, [], (cuV s.toList 0).2.2)
theorem cuR_long {s : ByteArray} (h : 400 < s.size) : cuR s = (9, [], 0) := if_pos h
theorem cuR_ok {s : ByteArray} {L : List (Int × List UInt8 × Nat)} {p : Nat} (h : ¬ 400 < s.size) (h2 : cuV s.toList 0 = (0, L, p)) : cuR s = (0, L, s.size) := by
  unfold cuR; rw [if_neg h, h2, if_pos rfl]
theorem cuR_bad {s : ByteArray} {L : List (Int × List UInt8 × Nat)} {p : Nat} {e : Int} (h : ¬ 400 < s.size) (h2 : cuV s.toList 0 = (e, L, p)) (he : e ≠ 0) : cuR s = (e, [], p) := by
  unfold cuR; rw [if_neg h, h2, if_neg he]
theorem cuI_start (s : ByteArray) : cuI s 0 [] := ⟨rfl, by simp⟩
theorem cuI_blank {s : ByteArray} {j : Nat} {L : List (Int × List UInt8 × Nat)} (hI : cuI s j L) (h : j < s.size) (hc : (s[j].toNat : Int) = 32) : cuI s (j + 1) L :=
  ⟨by rw [hI.1, dropB s j h, cuV_blank hc], by have := hI.2; omega⟩
theorem cuI_hash {s : ByteArray} {j : Nat} {L : List (Int × List UInt8 × Nat)} (hI : cuI s j L) (h : j < s.size) (hc : (s[j].toNat : Int) = 35) : cuV s.toList 0 = (0, L, 0) := by
  rw [hI.1, dropB s j h, cuV_hash hc]; simp [preL]
theorem cuI_end {s : ByteArray} {j : Nat} {L : List (Int × List UInt8 × Nat)} (hI : cuI s j L) (h : ¬ j < s.size) : cuV s.toList 0 = (0, L, 0) := by
  rw [hI.1, dropE s j h, cuV_nil]; simp [preL]
theorem cuI_bad {s : ByteArray} {j : Nat} {L : List (Int × List UInt8 × Nat)} {X : Int × Int × List UInt8 × Nat} (hI : cuI s j L) (h : j < s.size) (h1 : (s[j].toNat : Int) ≠ 32) (h2 : (s[j].toNat : Int) ≠ 35) (hX : woL (s.toList.drop j) = X) (he : X.1 ≠ 0) : cuV s.toList 0 = (X.1, L, j + X.2.2.2) := by
  rw [hI.1, dropB s j h]
  rw [dropB s j h] at hX
  rw [cuV_bad h1 h2 (show woL (s[j] :: s.toList.drop (j + 1)) = (X.1, X.2.1, X.2.2.1, X.2.2.2) from hX) he]; simp [preL]
theorem cuI_word {s : ByteArray} {j : Nat} {L : List (Int × List UInt8 × Nat)} {X : Int × Int × List UInt8 × Nat} (hI : cuI s j L) (h : j < s.size) (hX : woL (s.toList.drop j) = X) (he : X.1 = 0) :
    cuI s (j + X.2.2.2) (L ++ [(X.2.1, X.2.2.1, j)]) ∧ j < j + X.2.2.2 ∧ j + X.2.2.2 ≤ s.size := by
  have hX2 : woL (s.toList.drop j) = (0, X.2.1, X.2.2.1, X.2.2.2) := by rw [hX, ← he]
  obtain ⟨q1, q2, _⟩ := woL_ok hX2
  rw [List.length_drop, bytes_len] at q2
  refine ⟨⟨?_, by have := hI.2; simp; omega⟩, by omega, by omega⟩
  rw [hI.1, cuV_word hX2, List.drop_drop]
  unfold preL pre; simp
/-- how Cut ends. -/
def CuP (s : ByteArray) (w : World) (e : Ending) (w' : World) : Prop :=
  ∃ v, e = .returned (.tuple #[v, .int .i64 ((cuR s).2.2 : Int), .int .i64 (cuR s).1]) ∧ OwnW w' w.heap.size v (cuR s).2.1 ∧ Below w.heap.size w w'
set_option maxHeartbeats 4000000 in
theorem cut_any (s : ByteArray) (w : World) (hs : s.size ≤ 1000) :
    Calls Tryd.prog 20 #[.string s] w fun e w' => CuP s w e w' := by
  by_cases h400 : 400 < s.size
  · have hi : (400 : Int) < (s.size : Int) := by omega
    have HP := Lib.hid (show CuP s w (.returned (.tuple #[.slice none 0 0, .int .i64 0, .int .i64 9])) w by
      unfold CuP; rw [cuR_long h400]; exact ⟨_, rfl, OwnW.nil _ _, Below.refl _ _⟩)
    go_enter Tryd.func20, Tryd.ntmps20
    go_wp2
    go_step3
    go_wp2
    try rw [Exit.noGoto_ret]
    go_ret3
    exact HP.out
  have hi : ¬ (400 : Int) < (s.size : Int) := by omega
  go_enter Tryd.func20, Tryd.ntmps20
  go_wp2
  go_step3
  go_wp2
  go_step3
  go_wp2
  go_loopw [2, 3] (fun v i wr => ∃ (j : Nat) (L : List (Int × List UInt8 × Nat)), j ≤ s.size ∧ i = .int .i64 (j : Int) ∧ Hid (OwnW wr w.heap.size v L) ∧ Hid (Below w.heap.size w wr) ∧ Hid (cuI s j L)) (fun _ i _ => s.size - (intOf i).toNat)
  case atStart => exact ⟨0, [], by omega, by go_num, Lib.hid (OwnW.nil _ _), Lib.hid (Below.refl _ _), Lib.hid (cuI_start s)⟩
  case round =>
    obtain ⟨j, L, hj, rfl, HO, HB, HI⟩ := hrel
    obtain ⟨ao, cap, hv⟩ := HO.out.shape
    subst hv
    have hal : L.length < 1000 := by have := HI.out.2; omega
    by_cases h : j < s.size
    · have hij : (j : Int) < (s.size : Int) := by omega
      by_cases c32 : (s[j].toNat : Int) = 32
      · have q1 : ((s[j].toNat : Int) == 32) = true := by simpa using c32
        have HI2 := Lib.hid (cuI_blank HI.out h c32)
        clear c32
        go_wp2
        go_roundw
        case rel => exact ⟨j + 1, L, by omega, by go_num, HO, HB, HI2⟩
        case measure => simp [intOf]; omega
      · have q1 : ((s[j].toNat : Int) == 32) = false := by simpa using c32
        by_cases c35 : (s[j].toNat : Int) = 35
        · have q2 : ((s[j].toNat : Int) == 35) = true := by simpa using c35
          have HP := Lib.hid (show CuP s w (.returned (.tuple #[.slice ao L.length cap, .int .i64 (s.size : Int), .int .i64 0])) wr by
            unfold CuP; rw [cuR_ok h400 (cuI_hash HI.out h c35)]; exact ⟨_, rfl, HO.out, HB.out⟩)
          clear c32 c35
          go_wp2
          try rw [Exit.noGoto_ret]
          go_ret3
          exact HP.out
        · have q2 : ((s[j].toNat : Int) == 35) = false := by simpa using c35
          have H1 := Lib.hid (fun w => next_any s j w hs h)
          obtain ⟨X, hX⟩ : ∃ X, woL (s.toList.drop j) = X := ⟨_, rfl⟩
          rw [hX] at H1
          by_cases he : X.1 = 0
          · have q3 : (X.1 != 0) = false := by simp [he]
            have HW := Lib.hid (cuI_word HI.out h hX he)
            have HA := Lib.hid (show wAt X.1 j = (j : Int) by unfold wAt; rw [if_pos he])
            have HE := Lib.hid he
            clear c32 c35 hX he
            go_wp2_with fail
            refine (H1.out _).mono ?_
            rintro e W1 ⟨he, hb1⟩
            unfold wRes at he
            subst he
            have HB1 := Lib.hid (HB.out.trans (hb1.mono HB.out.size))
            have HO1 := Lib.hid (HO.out.below hb1)
            clear hb1
            go_wp2_with (at_builtin; refine wpList_word rfl _ _ rfl w.heap.size _ L rfl ((HO1.out.alloc _).alloc _) (W1.heap.size + 1) 1 (X.2.1, X.2.2.1, j) rfl (by simp) (by simp) (by simp [HA.out]) (by omega) (by have := HB1.out.size; simp; omega) ?_; intro v' w1 hown hbel; have HO2 := Lib.hid hown; have HB2 := Lib.hid (HB1.out.trans ((((Below.refl _ _).alloc (by exact HB1.out.size) _).alloc (by have := HB1.out.size; simp; omega) _).trans hbel)); clear hown hbel)
            go_roundw
            case rel => exact ⟨j + X.2.2.2, L ++ [(X.2.1, X.2.2.1, j)], HW.out.2.2, by go_num, HO2, HB2, Lib.hid HW.out.1⟩
            case measure => have := HW.out.2; simp [intOf]; omega
          · have q3 : (X.1 != 0) = true := by simp [he]
            have HV := Lib.hid (cuR_bad h400 (cuI_bad HI.out h c32 c35 hX he) he)
            clear c32 c35 hX he
            go_wp2_with fail
            refine (H1.out _).mono ?_
            rintro e W1 ⟨he, hb1⟩
            unfold wRes at he
            subst he
            have HB1 := Lib.hid (HB.out.trans (hb1.mono HB.out.size))
            clear hb1
            go_wp2
            try rw [Exit.noGoto_ret]
            go_ret3
            unfold CuP
            rw [HV.out]
            exact ⟨_, rfl, OwnW.nil _ _, HB1.out.alloc (HB1.out.size) _⟩
    · have hij : ¬ (j : Int) < (s.size : Int) := by omega
      have HP := Lib.hid (show CuP s w (.returned (.tuple #[.slice ao L.length cap, .int .i64 (s.size : Int), .int .i64 0])) wr by
        unfold CuP; rw [cuR_ok h400 (cuI_end HI.out h)]; exact ⟨_, rfl, HO.out, HB.out⟩)
      go_wp2
      try rw [Exit.noGoto_ret]
      go_ret3
      exact HP.out
end Go.Proofs.YtkpdbhpmnegahaaDoor.W
