/- Plain facts on lines of bytes, with no Go in sight: names, numbers, quoted texts, signs, the word that begins a line, the words of a line, the notation of a word. No conditions. -/
import Derived.Test.YtelahgmnkhkgkaaStr
namespace Go.Proofs.Ytelahgmnkhkgkaa
set_option linter.unusedSimpArgs false
set_option linter.unusedVariables false

/-- a letter or _. -/
def lett (c : UInt8) : Bool := (decide (65 ≤ (c.toNat : Int)) && decide ((c.toNat : Int) ≤ 90)) || (decide (97 ≤ (c.toNat : Int)) && decide ((c.toNat : Int) ≤ 122)) || decide ((c.toNat : Int) = 95)
def nam (c : UInt8) : Bool := lett c || dig c
/-- a byte of a plain text. -/
def pln (c : UInt8) : Bool := decide (32 ≤ (c.toNat : Int)) && decide ((c.toNat : Int) ≤ 126)
/-- a point, / or -. -/
def poi (c : UInt8) : Bool := decide ((c.toNat : Int) = 46) || decide ((c.toNat : Int) = 47) || decide ((c.toNat : Int) = 45)
/-- the line begins with a digit. -/
def hd : List UInt8 → Bool
  | [] => false
  | c :: _ => dig c
/-- the bytes of a name at the head of a line. -/
def nmL : List UInt8 → Nat
  | [] => 0
  | c :: r => if nam c then nmL r + 1 else 0
/-- the further bytes of a number at the head of a line. -/
def nuL : List UInt8 → Nat
  | [] => 0
  | c :: r => if nam c || (poi c && hd r) then nuL r + 1 else 0
/-- behind the quote: the error, the text, the offset. -/
def txL : List UInt8 → List UInt8 → Nat → Int × List UInt8 × Nat
  | [], _, _ => (6, [], 0)
  | [c], acc, k => if (c.toNat : Int) = 34 then (0, acc, k + 1) else if (c.toNat : Int) = 92 then (5, [], k) else if pln c then (6, [], 0) else (5, [], k)
  | c :: d :: r, acc, k =>
    if (c.toNat : Int) = 34 then (0, acc, k + 1)
    else if (c.toNat : Int) = 92 then (if (d.toNat : Int) = 34 ∨ (d.toNat : Int) = 92 then txL r (acc ++ [d]) (k + 2) else (5, [], k))
    else if pln c then txL (d :: r) (acc ++ [c]) (k + 1) else (5, [], k)
def two (c d : UInt8) : Bool := ((decide ((c.toNat : Int) = 60) || decide ((c.toNat : Int) = 62) || decide ((c.toNat : Int) = 33)) && decide ((d.toNat : Int) = 61)) || (decide ((c.toNat : Int) = 46) && decide ((d.toNat : Int) = 46))
def oneL : List UInt8 := [40, 41, 123, 125, 91, 93, 44, 59, 58, 61, 43, 45, 42, 47, 60, 62, 124, 38, 33, 64, 37]
def one (c : UInt8) : Bool := oneL.contains c
/-- the bytes of a sign at the head of a line. -/
def sgL : List UInt8 → Nat
  | [] => 0
  | [c] => if one c then 1 else 0
  | c :: d :: _ => if two c d then 2 else if one c then 1 else 0
/-- the word at the head of a line: the error, the kind, the text, the bytes; or the error, 0, nothing, the offset. -/
def lim (l : List UInt8) (n most : Nat) (kind : Int) : Int × Int × List UInt8 × Nat := if most < n then (9, 0, [], 0) else (0, kind, l.take n, n)
def txW (x : Int × List UInt8 × Nat) : Int × Int × List UInt8 × Nat := if x.1 = 0 then (if 60 < x.2.1.length then (9, 0, [], 0) else (0, 3, x.2.1, x.2.2)) else (x.1, 0, [], x.2.2)
def sgW (l : List UInt8) (n : Nat) : Int × Int × List UInt8 × Nat := if n = 0 then (5, 0, [], 0) else (0, 4, l.take n, n)
def woL : List UInt8 → Int × Int × List UInt8 × Nat
  | [] => (5, 0, [], 0)
  | c :: r =>
    if lett c then lim (c :: r) (nmL (c :: r)) 12 1
    else if dig c || ((c.toNat : Int) = 45 && hd r) then lim (c :: r) (nuL r + 1) 60 2
    else if (c.toNat : Int) = 34 then txW (txL r [] 1)
    else sgW (c :: r) (sgL (c :: r))

theorem woL_cons (c : UInt8) (r : List UInt8) : woL (c :: r) = if lett c then lim (c :: r) (nmL (c :: r)) 12 1
    else if dig c || ((c.toNat : Int) = 45 && hd r) then lim (c :: r) (nuL r + 1) 60 2
    else if (c.toNat : Int) = 34 then txW (txL r [] 1)
    else sgW (c :: r) (sgL (c :: r)) := rfl
theorem nmL_le (l : List UInt8) : nmL l ≤ l.length := by
  induction l with
  | nil => simp [nmL]
  | cons c r ih => unfold nmL; split <;> simp <;> omega
theorem nuL_le (l : List UInt8) : nuL l ≤ l.length := by
  induction l with
  | nil => simp [nuL]
  | cons c r ih => unfold nuL; split <;> simp <;> omega
theorem sgL_le (l : List UInt8) : sgL l ≤ l.length := by
  unfold sgL; split <;> simp <;> split <;> (try split) <;> omega
theorem lett_nam {c : UInt8} (h : lett c = true) : nam c = true := by unfold nam; rw [h]; rfl
theorem lett_byte {c : UInt8} (h : lett c = true) : (c.toNat : Int) ≠ 32 ∧ (c.toNat : Int) ≠ 35 ∧ (c.toNat : Int) ≠ 34 := by
  unfold lett at h; simp at h; omega
theorem dig_byte {c : UInt8} (h : dig c = true) : (c.toNat : Int) ≠ 32 ∧ (c.toNat : Int) ≠ 35 ∧ (c.toNat : Int) ≠ 34 ∧ (c.toNat : Int) ≠ 45 := by
  rw [dig_iff] at h; omega
theorem nam32 {c : UInt8} (h : (c.toNat : Int) = 32) : nam c = false := by unfold nam lett dig; simp; omega
theorem poi32 {c : UInt8} (h : (c.toNat : Int) = 32) : poi c = false := by unfold poi; simp; omega

/-- the offset of a text only grows, and stays within the line. -/
theorem txL_le : ∀ (l acc : List UInt8) (k : Nat), (txL l acc k).1 = 0 → k + 1 ≤ (txL l acc k).2.2 ∧ (txL l acc k).2.2 ≤ k + l.length
  | [], acc, k => by simp [txL]
  | [c], acc, k => by
    unfold txL
    by_cases h1 : (c.toNat : Int) = 34
    · simp [h1]
    · by_cases h2 : (c.toNat : Int) = 92
      · simp [h1, h2]
      · by_cases h3 : pln c = true <;> simp [h1, h2, h3]
  | c :: d :: r, acc, k => by
    have i1 := txL_le r (acc ++ [d]) (k + 2)
    have i2 := txL_le (d :: r) (acc ++ [c]) (k + 1)
    unfold txL
    by_cases h1 : (c.toNat : Int) = 34
    · simp [h1]
    · by_cases h2 : (c.toNat : Int) = 92
      · by_cases h3 : (d.toNat : Int) = 34 ∨ (d.toNat : Int) = 92
        · rw [if_neg h1, if_pos h2, if_pos h3]
          intro h
          have := i1 h
          simp; omega
        · rw [if_neg h1, if_pos h2, if_neg h3]; simp
      · by_cases h3 : pln c = true
        · rw [if_neg h1, if_neg h2, if_pos h3]
          intro h
          have := i2 h
          simp at this ⊢; omega
        · rw [if_neg h1, if_neg h2, if_neg h3]; simp
/-- what a text bears is plain. -/
theorem txL_pln : ∀ (l acc : List UInt8) (k : Nat), acc.all pln = true → (txL l acc k).1 = 0 → (txL l acc k).2.1.all pln = true
  | [], acc, k => by simp [txL]
  | [c], acc, k => by
    unfold txL
    by_cases h1 : (c.toNat : Int) = 34
    · rw [if_pos h1]; exact fun h _ => h
    · by_cases h2 : (c.toNat : Int) = 92
      · simp [h1, h2]
      · by_cases h3 : pln c = true <;> simp [h1, h2, h3]
  | c :: d :: r, acc, k => by
    have i1 := txL_pln r (acc ++ [d]) (k + 2)
    have i2 := txL_pln (d :: r) (acc ++ [c]) (k + 1)
    unfold txL
    intro ha
    by_cases h1 : (c.toNat : Int) = 34
    · rw [if_pos h1]; exact fun _ => ha
    · by_cases h2 : (c.toNat : Int) = 92
      · by_cases h3 : (d.toNat : Int) = 34 ∨ (d.toNat : Int) = 92
        · rw [if_neg h1, if_pos h2, if_pos h3]
          have hp : pln d = true := by unfold pln; simp; omega
          exact i1 (by rw [List.all_append, ha]; simp [hp])
        · rw [if_neg h1, if_pos h2, if_neg h3]; simp
      · by_cases h3 : pln c = true
        · rw [if_neg h1, if_neg h2, if_pos h3]
          exact i2 (by rw [List.all_append, ha]; simp [h3])
        · rw [if_neg h1, if_neg h2, if_neg h3]; simp
/-- a text that ends is the same ahead of anything. -/
theorem txL_app : ∀ (l acc : List UInt8) (k : Nat) (x : List UInt8), (txL l acc k).1 = 0 → txL (l ++ x) acc k = txL l acc k
  | [], acc, k, x => by simp [txL]
  | [c], acc, k, x => by
    intro h
    have h1 : (c.toNat : Int) = 34 := by
      unfold txL at h
      by_cases h1 : (c.toNat : Int) = 34
      · exact h1
      · by_cases h2 : (c.toNat : Int) = 92
        · simp [h1, h2] at h
        · by_cases h3 : pln c = true <;> simp [h1, h2, h3] at h
    cases x with
    | nil => rfl
    | cons y x => simp only [List.cons_append, List.nil_append]; unfold txL; rw [if_pos h1, if_pos h1]
  | c :: d :: r, acc, k, x => by
    have i1 := txL_app r (acc ++ [d]) (k + 2) x
    have i2 := txL_app (d :: r) (acc ++ [c]) (k + 1) x
    simp only [List.cons_append] at i2 ⊢
    rw [txL, txL]
    by_cases h1 : (c.toNat : Int) = 34
    · rw [if_pos h1, if_pos h1]; exact fun _ => rfl
    · by_cases h2 : (c.toNat : Int) = 92
      · by_cases h3 : (d.toNat : Int) = 34 ∨ (d.toNat : Int) = 92
        · rw [if_neg h1, if_pos h2, if_pos h3, if_neg h1, if_pos h2, if_pos h3]; exact i1
        · rw [if_neg h1, if_pos h2, if_neg h3]; simp
      · by_cases h3 : pln c = true
        · rw [if_neg h1, if_neg h2, if_pos h3, if_neg h1, if_neg h2, if_pos h3]; exact i2
        · rw [if_neg h1, if_neg h2, if_neg h3]; simp

/-- the quoted text. -/
def esc (c : UInt8) : List UInt8 := if (c.toNat : Int) = 34 ∨ (c.toNat : Int) = 92 then [92, c] else [c]
def escL (s : List UInt8) : List UInt8 := s.flatMap esc
def quL (s : List UInt8) : List UInt8 := [34] ++ escL s ++ [34]
def plainB (s : List UInt8) : Bool := s.all pln && decide (s.length ≤ 60)
theorem escL_cons (c : UInt8) (s : List UInt8) : escL (c :: s) = esc c ++ escL s := rfl
theorem escL_snoc (s : List UInt8) (c : UInt8) : escL (s ++ [c]) = escL s ++ esc c := by unfold escL; rw [List.flatMap_append]; simp
theorem escL_len (s : List UInt8) : (escL s).length ≤ 2 * s.length := by
  induction s with
  | nil => simp [escL]
  | cons c s ih => rw [escL_cons, List.length_append]; unfold esc; split <;> simp <;> omega
theorem txL_esc : ∀ (s acc x : List UInt8) (k : Nat), s.all pln = true → txL (escL s ++ 34 :: x) acc k = (0, acc ++ s, k + (escL s).length + 1)
  | [], acc, x, k, _ => by
    have : escL [] = [] := rfl
    rw [this]
    cases x with
    | nil => simp [txL]
    | cons y x => simp [txL]
  | c :: s, acc, x, k, h => by
    have hp : pln c = true := by simp at h; exact h.1
    have hs : s.all pln = true := by simp at h; simpa using h.2
    have ih := fun acc k => txL_esc s acc x k hs
    rw [escL_cons]
    by_cases h1 : (c.toNat : Int) = 34 ∨ (c.toNat : Int) = 92
    · have e : esc c = [92, c] := if_pos h1
      rw [e]
      simp only [List.cons_append, List.nil_append]
      rw [txL, if_neg (by decide), if_pos (by decide), if_pos h1, ih]
      simp; omega
    · have e : esc c = [c] := if_neg h1
      rw [e]
      simp only [List.cons_append, List.nil_append]
      obtain ⟨y, z, hz⟩ : ∃ y z, escL s ++ 34 :: x = y :: z := by
        cases hq : escL s with
        | nil => exact ⟨34, x, rfl⟩
        | cons y z => exact ⟨y, z ++ 34 :: x, rfl⟩
      have i2 := ih (acc ++ [c]) (k + 1)
      rw [hz] at i2 ⊢
      rw [txL, if_neg (by omega), if_neg (by omega), if_pos hp, i2]
      simp; omega
theorem woL_quote {s : List UInt8} (h : plainB s = true) : woL (quL s) = (0, 3, s, (quL s).length) := by
  unfold plainB at h
  simp only [Bool.and_eq_true, decide_eq_true_eq] at h
  have e : quL s = 34 :: (escL s ++ 34 :: []) := by unfold quL; simp
  rw [e]
  rw [woL_cons]
  rw [if_neg (by decide), if_neg (by simp [dig]), if_pos (by decide), txL_esc s [] [] 1 h.1]
  unfold txW
  have : ¬ 60 < ([] ++ s).length := by rw [List.nil_append]; omega
  rw [if_pos rfl, if_neg this]
  simp; omega

theorem lim_ok {l : List UInt8} {n most : Nat} {kind kd : Int} {S : List UInt8} {k : Nat} (h : lim l n most kind = (0, kd, S, k)) : n ≤ most ∧ kd = kind ∧ S = l.take n ∧ k = n := by
  unfold lim at h; split at h
  · simp at h
  · simp at h; exact ⟨by omega, h.1.symm, h.2.1.symm, h.2.2.symm⟩
theorem lim_at {l : List UInt8} {n most : Nat} {kind : Int} (h : n ≤ most) : lim l n most kind = (0, kind, l.take n, n) := by unfold lim; rw [if_neg (by omega)]
theorem nmL_self : ∀ (l : List UInt8), nmL (l.take (nmL l)) = nmL l
  | [] => rfl
  | c :: r => by
    by_cases h : nam c = true
    · have e : nmL (c :: r) = nmL r + 1 := by rw [nmL, if_pos h]
      rw [e, List.take_succ_cons, nmL, if_pos h, nmL_self r]
    · have e : nmL (c :: r) = 0 := by rw [nmL, if_neg h]
      rw [e]; rfl
theorem nmL_app (x : List UInt8) : ∀ (l : List UInt8), nmL (l ++ 32 :: x) = nmL l
  | [] => by simp [nmL, nam32 (c := 32) (by decide)]
  | c :: r => by simp only [List.cons_append]; rw [nmL, nmL, nmL_app x r]
theorem hd_app (x : List UInt8) : ∀ (l : List UInt8), hd (l ++ 32 :: x) = hd l
  | [] => by simp [hd, dig]
  | c :: r => rfl
theorem nuL_app (x : List UInt8) : ∀ (l : List UInt8), nuL (l ++ 32 :: x) = nuL l
  | [] => by simp [nuL, nam32 (c := 32) (by decide), poi32 (c := 32) (by decide)]
  | c :: r => by simp only [List.cons_append]; rw [nuL, nuL, nuL_app x r, hd_app]
theorem nuL_hd (r : List UInt8) (h : hd r = true) : hd (r.take (nuL r)) = true := by
  cases r with
  | nil => simp [hd] at h
  | cons c r =>
    have h1 : dig c = true := h
    have h2 : nam c = true := by unfold nam; rw [h1]; simp
    rw [nuL, h2]; simp [hd, h1]
theorem hd_take (r : List UInt8) (n : Nat) (h : hd r = false) : hd (r.take n) = false := by
  cases r with
  | nil => simpa using h
  | cons c r => cases n with
    | zero => rfl
    | succ n => exact h
theorem nuL_self : ∀ (l : List UInt8), nuL (l.take (nuL l)) = nuL l
  | [] => rfl
  | c :: r => by
    rw [nuL]
    by_cases h : nam c = true
    · rw [h]; simp only [Bool.true_or, if_true, List.take_succ_cons]; rw [nuL, h]; simp [nuL_self r]
    · have hn : nam c = false := by simpa using h
      by_cases h2 : (poi c && hd r) = true
      · rw [h2, hn]; simp only [Bool.or_true, if_true, List.take_succ_cons]
        simp only [Bool.and_eq_true] at h2
        rw [nuL, hn, h2.1, nuL_hd r h2.2]; simp [nuL_self r]
      · have : (poi c && hd r) = false := by simpa using h2
        rw [this, hn]; rfl
theorem sgW_ok {l : List UInt8} {n : Nat} {kd : Int} {S : List UInt8} {k : Nat} (h : sgW l n = (0, kd, S, k)) : n ≠ 0 ∧ kd = 4 ∧ S = l.take n ∧ k = n := by
  unfold sgW at h; split at h
  · simp at h
  · simp at h; exact ⟨by omega, h.1.symm, h.2.1.symm, h.2.2.symm⟩
theorem sgW_at {l : List UInt8} {n : Nat} (h : n ≠ 0) : sgW l n = (0, 4, l.take n, n) := by unfold sgW; rw [if_neg h]
theorem txW_ok {x : Int × List UInt8 × Nat} {kd : Int} {S : List UInt8} {k : Nat} (h : txW x = (0, kd, S, k)) : x.1 = 0 ∧ x.2.1.length ≤ 60 ∧ kd = 3 ∧ S = x.2.1 ∧ k = x.2.2 := by
  unfold txW at h; split at h
  · split at h
    · simp at h
    · simp at h; exact ⟨by assumption, by omega, h.1.symm, h.2.1.symm, h.2.2.symm⟩
  · simp at h; exact absurd h.1 (by assumption)
theorem two_of_one {c d : UInt8} (h : (d.toNat : Int) = 32) : two c d = false := by unfold two; simp; omega
theorem sgL_app (x : List UInt8) : ∀ (l : List UInt8), l ≠ [] → sgL (l ++ 32 :: x) = sgL l
  | [], h => absurd rfl h
  | [c], _ => by simp [sgL, two_of_one (c := c) (d := 32) (by decide)]
  | c :: d :: r, _ => rfl
theorem sgL_self (l : List UInt8) (h : sgL l ≠ 0) : sgL (l.take (sgL l)) = sgL l := by
  match l with
  | [] => exact absurd rfl h
  | [c] =>
    by_cases h1 : one c = true
    · simp [sgL, h1]
    · simp [sgL, h1] at h
  | c :: d :: r =>
    by_cases h2 : two c d = true
    · simp [sgL, h2]
    · by_cases h1 : one c = true
      · simp [sgL, h2, h1]
      · simp [sgL, h2, h1] at h

/-- the word of a line that goes on with a blank. -/
theorem woL_app {l : List UInt8} {kd : Int} {S : List UInt8} {k : Nat} (x : List UInt8) (h : woL l = (0, kd, S, k)) : woL (l ++ 32 :: x) = (0, kd, S, k) := by
  cases l with
  | nil => simp [woL] at h
  | cons c r =>
    simp only [List.cons_append]
    rw [woL_cons] at h ⊢
    have e1 : nmL (c :: (r ++ 32 :: x)) = nmL (c :: r) := nmL_app x (c :: r)
    have e2 : nuL (r ++ 32 :: x) = nuL r := nuL_app x r
    have e3 : hd (r ++ 32 :: x) = hd r := hd_app x r
    have e4 : sgL (c :: (r ++ 32 :: x)) = sgL (c :: r) := sgL_app x (c :: r) (by simp)
    rw [e1, e2, e3, e4]
    split
    · rw [if_pos (by assumption)] at h
      obtain ⟨a, b, c', d⟩ := lim_ok h
      rw [lim_at a, b, c', d]
      have := nmL_le (c :: r)
      rw [show c :: (r ++ 32 :: x) = (c :: r) ++ 32 :: x from rfl, List.take_append_of_le_length this]
    · rw [if_neg (by assumption)] at h
      split
      · rw [if_pos (by assumption)] at h
        obtain ⟨a, b, c', d⟩ := lim_ok h
        rw [lim_at a, b, c', d]
        have := nuL_le r
        rw [show c :: (r ++ 32 :: x) = (c :: r) ++ 32 :: x from rfl, List.take_append_of_le_length (by simp; omega)]
      · rw [if_neg (by assumption)] at h
        split
        · rw [if_pos (by assumption)] at h
          rw [txL_app r [] 1 (32 :: x) (txW_ok h).1]; exact h
        · rw [if_neg (by assumption)] at h
          obtain ⟨a, b, c', d⟩ := sgW_ok h
          rw [sgW_at a, b, c', d]
          have := sgL_le (c :: r)
          rw [show c :: (r ++ 32 :: x) = (c :: r) ++ 32 :: x from rfl, List.take_append_of_le_length this]
/-- what the word at the head of a line is. -/
theorem woL_ok {l : List UInt8} {kd : Int} {S : List UInt8} {k : Nat} (h : woL l = (0, kd, S, k)) :
    1 ≤ k ∧ k ≤ l.length ∧ (kd = 3 → plainB S = true) ∧ (kd ≠ 3 → S = l.take k ∧ woL S = (0, kd, S, S.length)) ∧ (∀ c r, l = c :: r → (c.toNat : Int) ≠ 32 ∧ (c.toNat : Int) ≠ 35) := by
  cases l with
  | nil => simp [woL] at h
  | cons c r =>
    rw [woL_cons] at h
    split at h
    · rename_i hc
      obtain ⟨a, b, c', d⟩ := lim_ok h
      have hk : nmL (c :: r) = nmL r + 1 := by rw [nmL, if_pos (lett_nam hc)]
      have hl := nmL_le (c :: r)
      have hs := nmL_self (c :: r)
      refine ⟨by omega, by omega, fun x => by rw [b] at x; exact absurd x (by decide), fun _ => ⟨by rw [c', d], ?_⟩, fun c2 r2 e => by injection e with e1 e2; subst e1; exact ⟨(lett_byte hc).1, (lett_byte hc).2.1⟩⟩
      rw [← c'] at hs
      have hS : S = c :: r.take (nmL r) := by rw [c', hk]; rfl
      have hSl : S.length = nmL (c :: r) := by rw [c', List.length_take]; omega
      rw [hS] at hs hSl ⊢
      rw [woL_cons]
      rw [if_pos hc, hs, lim_at a, b, hSl, ← hSl, List.take_length]
    · split at h
      · rename_i h0 hc
        obtain ⟨a, b, c', d⟩ := lim_ok h
        have hl := nuL_le r
        have hs := nuL_self r
        have hby : (c.toNat : Int) ≠ 32 ∧ (c.toNat : Int) ≠ 35 := by
          simp only [Bool.or_eq_true, Bool.and_eq_true, decide_eq_true_eq] at hc
          rcases hc with hc | hc
          · exact ⟨(dig_byte hc).1, (dig_byte hc).2.1⟩
          · omega
        refine ⟨by omega, by simp; omega, fun x => by rw [b] at x; exact absurd x (by decide), fun _ => ⟨by rw [c', d], ?_⟩, fun c2 r2 e => by injection e with e1 e2; subst e1; exact hby⟩
        have hS : S = c :: r.take (nuL r) := by rw [c']; rfl
        have hSl : S.length = nuL r + 1 := by rw [c', List.length_take]; simp; omega
        have hc2 : (dig c || ((c.toNat : Int) = 45 && hd (r.take (nuL r)))) = true := by
          simp only [Bool.or_eq_true, Bool.and_eq_true, decide_eq_true_eq] at hc ⊢
          rcases hc with hc | hc
          · exact .inl hc
          · exact .inr ⟨hc.1, nuL_hd r hc.2⟩
        rw [hS] at hSl ⊢
        rw [woL_cons]
        rw [if_neg h0, if_pos hc2, hs, lim_at a, b, hSl, ← hSl, List.take_length]
      · split at h
        · rename_i h0 h1 hc
          obtain ⟨a1, a2, b, c', d⟩ := txW_ok h
          have := txL_le r [] 1 a1
          have hp := txL_pln r [] 1 rfl a1
          refine ⟨by omega, by simp; omega, fun _ => by unfold plainB; rw [c', hp]; simp [a2], fun x => absurd b x, fun c2 r2 e => by injection e with e1 e2; subst e1; omega⟩
        · rename_i h0 h1 hc
          obtain ⟨a, b, c', d⟩ := sgW_ok h
          have hl := sgL_le (c :: r)
          have hs := sgL_self (c :: r) a
          rw [← c'] at hs
          have hSl : S.length = sgL (c :: r) := by rw [c', List.length_take]; omega
          have hby : (c.toNat : Int) ≠ 32 ∧ (c.toNat : Int) ≠ 35 := by
            constructor
            · intro x
              have hcc : c = 32 := (byte_eq (n := 32) (by decide)).1 (by exact_mod_cast x)
              subst hcc
              apply a
              cases r with
              | nil => decide
              | cons d r => simp [sgL, two, one, oneL]
            · intro x
              have hcc : c = 35 := (byte_eq (n := 35) (by decide)).1 (by exact_mod_cast x)
              subst hcc
              apply a
              cases r with
              | nil => decide
              | cons d r => simp [sgL, two, one, oneL]
          refine ⟨by omega, by omega, fun x => by rw [b] at x; exact absurd x (by decide), fun _ => ⟨by rw [c', d], ?_⟩, fun c2 r2 e => by injection e with e1 e2; subst e1; exact hby⟩
          obtain ⟨n, hn⟩ : ∃ n, sgL (c :: r) = n + 1 := ⟨sgL (c :: r) - 1, by omega⟩
          have hS : S = c :: r.take n := by rw [c', hn]; rfl
          have h1' : ¬ (dig c || ((c.toNat : Int) = 45 && hd (r.take n))) = true := by
            simp only [Bool.or_eq_true, Bool.and_eq_true, decide_eq_true_eq] at h1 ⊢
            intro x
            rcases x with x | x
            · exact h1 (.inl x)
            · cases hr : hd r
              · rw [hd_take r n hr] at x; simp at x
              · exact h1 (.inr ⟨x.1, hr⟩)
          have hq : (sgL S) = S.length := by rw [hs, hSl]
          rw [hS] at hs hSl hq ⊢
          rw [woL_cons]
          rw [if_neg h0, if_neg h1', if_neg hc, hs, sgW_at a, b, hSl, ← hSl, List.take_length]
end Go.Proofs.Ytelahgmnkhkgkaa
