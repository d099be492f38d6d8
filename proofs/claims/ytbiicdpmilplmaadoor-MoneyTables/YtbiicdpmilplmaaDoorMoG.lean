/- What Digits of the packages money and accountingref07 returns; the statement MoneyTables. -/
import Derived.Test.YtbiicdpmilplmaaDoorMoO
import Derived.Test.YtbiicdpmilplmaaDoorMoW
namespace Go.Proofs.YtbiicdpmilplmaaDoor
open Go.RowKit Go.Sort
set_option linter.unusedVariables false

theorem right_yes (A : Option Addr) (n c : Nat) (C : Nat → ByteArray) (D : Nat → Int) (w : World) (hR : RowC w A n C D) (hn : n ≤ 1000) (h : GoodC n C D) :
    Calls Tryd.prog 14 #[.slice A n c] w fun e w' => e = .returned (.bool true) ∧ Below w.heap.size w w' :=
  (right_any A n c C D w hR hn).mono fun e w' ⟨hp, hb⟩ => ⟨by rcases hp with ⟨_, x⟩ | ⟨k, _⟩; exact x; exact absurd h k, hb⟩
theorem right_not (A : Option Addr) (n c : Nat) (C : Nat → ByteArray) (D : Nat → Int) (w : World) (hR : RowC w A n C D) (hn : n ≤ 1000) (h : ¬ GoodC n C D) :
    Calls Tryd.prog 14 #[.slice A n c] w fun e w' => e = .returned (.bool false) ∧ Below w.heap.size w w' :=
  (right_any A n c C D w hR hn).mono fun e w' ⟨hp, hb⟩ => ⟨by rcases hp with ⟨k, _⟩ | ⟨_, x⟩; exact absurd k h; exact x, hb⟩
theorem rRight_yes (A : Option Addr) (n c : Nat) (C : Nat → ByteArray) (D : Nat → Int) (w : World) (hR : RowC w A n C D) (hn : n ≤ 1000) (h : GoodC n C D) :
    Calls Tryd.prog 15 #[.slice A n c] w fun e w' => e = .returned (.bool true) ∧ Below w.heap.size w w' :=
  (rRight_any A n c C D w hR hn).mono fun e w' ⟨hp, hb⟩ => ⟨by rcases hp with ⟨_, x⟩ | ⟨k, _⟩; exact x; exact absurd h k, hb⟩
theorem rRight_not (A : Option Addr) (n c : Nat) (C : Nat → ByteArray) (D : Nat → Int) (w : World) (hR : RowC w A n C D) (hn : n ≤ 1000) (h : ¬ GoodC n C D) :
    Calls Tryd.prog 15 #[.slice A n c] w fun e w' => e = .returned (.bool false) ∧ Below w.heap.size w w' :=
  (rRight_any A n c C D w hR hn).mono fun e w' ⟨hp, hb⟩ => ⟨by rcases hp with ⟨k, _⟩ | ⟨_, x⟩; exact absurd k h; exact x, hb⟩
theorem first_match (M : Nat → Bool) (n : Nat) : (∀ j, j < n → M j = false) ∨ ∃ k, k < n ∧ M k = true ∧ ∀ j, j < k → M j = false := by
  induction n with
  | zero => left; intro j h; omega
  | succ n ih =>
    rcases ih with h | ⟨k, h1, h2, h3⟩
    · cases hm : M n
      · left
        intro j hj
        rcases Nat.lt_or_ge j n with x | x
        · exact h j x
        · obtain rfl : j = n := by omega
          exact hm
      · right; exact ⟨n, by omega, hm, h⟩
    · right; exact ⟨k, by omega, h2, h3⟩
set_option maxHeartbeats 1000000 in
theorem digits_bad (A : Option Addr) (n c : Nat) (C : Nat → ByteArray) (D : Nat → Int) (T : ByteArray) (w : World) (hR : RowC w A n C D) (hn : n ≤ 1000) (h : ¬ GoodC n C D) :
    Calls Tryd.prog 10 #[.slice A n c, .string T] w fun e w' => e = .returned (.tuple #[.int .i64 0, .bool false]) ∧ Below w.heap.size w w' := by
  have H1 := Lib.hid (right_not A n c C D w hR hn h)
  clear hR h
  go_enter Tryd.func10, Tryd.ntmps10
  go_wp2_with fail
  refine H1.out.mono ?_
  rintro e W1 ⟨rfl, hb1⟩
  go_wp2
  go_ret2
  exact ⟨rfl, hb1⟩
set_option maxHeartbeats 2000000 in
theorem digits_hit (A : Option Addr) (n c : Nat) (C : Nat → ByteArray) (D : Nat → Int) (T : ByteArray) (w : World) (hR : RowC w A n C D) (hn : n ≤ 1000) (h : GoodC n C D) (K : Nat) (hK : K < n) (hm : ((C K).toList == T.toList) = true) (hf : ∀ j, j < K → ((C j).toList == T.toList) = false) :
    Calls Tryd.prog 10 #[.slice A n c, .string T] w fun e w' => e = .returned (.tuple #[.int .i64 (D K), .bool true]) ∧ Below w.heap.size w w' := by
  have H1 := Lib.hid (right_yes A n c C D w hR hn h)
  have HF := Lib.hid hf
  have HM := Lib.hid hm
  clear hm
  have HR := Lib.hid hR
  clear h hf hR
  go_enter Tryd.func10, Tryd.ntmps10
  go_wp2_with fail
  refine H1.out.mono ?_
  rintro e W1 ⟨rfl, hb1⟩
  have HB1 := Lib.hid hb1
  clear hb1
  go_wp2
  go_loopw [13] (fun i wr => ∃ k : Nat, k ≤ K ∧ i = .int .i64 (k : Int) ∧ Below w.heap.size w wr) (fun i _ => K - (intOf i).toNat)
  case atStart => exact ⟨0, by omega, rfl, HB1.out⟩
  case round =>
    obtain ⟨k, hk, rfl, hb⟩ := hrel
    have HB := Lib.hid hb
    clear hb
    by_cases hlt : k < K
    · obtain ⟨z1, b, off, rfl, hlb, c0, c1⟩ := (HR.out.below HB.out) k (by omega)
      have hlt2 : (k : Int) < (n : Int) := by omega
      have hq := HF.out k hlt
      obtain ⟨S, hS⟩ : ∃ S, C k = S := ⟨_, rfl⟩
      obtain ⟨E, hE⟩ : ∃ E, D k = E := ⟨_, rfl⟩
      rw [hS] at c0 hq
      rw [hE] at c1
      clear hS hE z1
      by_cases k0 : k = 0
      · subst k0
        have c0' : wr.cell? ⟨b, off, none⟩ = some (.string S) := by simpa using c0
        have c1' : wr.cell? ⟨b, off + 1, none⟩ = some (.int .i64 E) := by simpa using c1
        go_wp2
        go_roundw
        case rel => exact ⟨0 + 1, by omega, by go_num, HB.out.alloc HB.out.size _⟩
        case measure => simp [intOf]; omega
      · have k1 : 0 < k := by omega
        go_wp2
        go_roundw
        case rel => exact ⟨k + 1, by omega, by go_num, HB.out.alloc HB.out.size _⟩
        case measure => simp [intOf]; omega
    · obtain rfl : k = K := by omega
      obtain ⟨z1, b, off, rfl, hlb, c0, c1⟩ := (HR.out.below HB.out) k (by omega)
      have hlt2 : (k : Int) < (n : Int) := by omega
      have hq := HM.out
      obtain ⟨S, hS⟩ : ∃ S, C k = S := ⟨_, rfl⟩
      obtain ⟨E, hE⟩ : ∃ E, D k = E := ⟨_, rfl⟩
      rw [hS] at c0 hq
      rw [hE] at c1
      have HE := Lib.hid hE
      clear hS hE z1 HM
      by_cases k0 : k = 0
      · subst k0
        have c0' : wr.cell? ⟨b, off, none⟩ = some (.string S) := by simpa using c0
        have c1' : wr.cell? ⟨b, off + 1, none⟩ = some (.int .i64 E) := by simpa using c1
        go_wp2
        go_ret2
        exact ⟨by rw [HE.out]; rfl, HB.out.alloc HB.out.size _⟩
      · have k1 : 0 < k := by omega
        go_wp2
        go_ret2
        exact ⟨by rw [HE.out]; rfl, HB.out.alloc HB.out.size _⟩
set_option maxHeartbeats 2000000 in
theorem digits_none (A : Option Addr) (n c : Nat) (C : Nat → ByteArray) (D : Nat → Int) (T : ByteArray) (w : World) (hR : RowC w A n C D) (hn : n ≤ 1000) (h : GoodC n C D) (hf : ∀ j, j < n → ((C j).toList == T.toList) = false) :
    Calls Tryd.prog 10 #[.slice A n c, .string T] w fun e w' => e = .returned (.tuple #[.int .i64 0, .bool false]) ∧ Below w.heap.size w w' := by
  have H1 := Lib.hid (right_yes A n c C D w hR hn h)
  have HF := Lib.hid hf
  have HR := Lib.hid hR
  clear h hf hR
  go_enter Tryd.func10, Tryd.ntmps10
  go_wp2_with fail
  refine H1.out.mono ?_
  rintro e W1 ⟨rfl, hb1⟩
  have HB1 := Lib.hid hb1
  clear hb1
  go_wp2
  go_loopw [13] (fun i wr => ∃ k : Nat, k ≤ n ∧ i = .int .i64 (k : Int) ∧ Below w.heap.size w wr) (fun i _ => n - (intOf i).toNat)
  case atStart => exact ⟨0, by omega, rfl, HB1.out⟩
  case round =>
    obtain ⟨k, hk, rfl, hb⟩ := hrel
    have HB := Lib.hid hb
    clear hb
    by_cases hlt : k < n
    · obtain ⟨z1, b, off, rfl, hlb, c0, c1⟩ := (HR.out.below HB.out) k (by omega)
      have hlt2 : (k : Int) < (n : Int) := by omega
      have hq := HF.out k hlt
      obtain ⟨S, hS⟩ : ∃ S, C k = S := ⟨_, rfl⟩
      obtain ⟨E, hE⟩ : ∃ E, D k = E := ⟨_, rfl⟩
      rw [hS] at c0 hq
      rw [hE] at c1
      clear hS hE z1
      by_cases k0 : k = 0
      · subst k0
        have c0' : wr.cell? ⟨b, off, none⟩ = some (.string S) := by simpa using c0
        have c1' : wr.cell? ⟨b, off + 1, none⟩ = some (.int .i64 E) := by simpa using c1
        go_wp2
        go_roundw
        case rel => exact ⟨0 + 1, by omega, by go_num, HB.out.alloc HB.out.size _⟩
        case measure => simp [intOf]; omega
      · have k1 : 0 < k := by omega
        go_wp2
        go_roundw
        case rel => exact ⟨k + 1, by omega, by go_num, HB.out.alloc HB.out.size _⟩
        case measure => simp [intOf]; omega
    · have hlt2 : ¬ (k : Int) < (n : Int) := by omega
      go_wp2
      go_ret2
      exact ⟨rfl, HB.out⟩
set_option maxHeartbeats 1000000 in
theorem rdigits_bad (A : Option Addr) (n c : Nat) (C : Nat → ByteArray) (D : Nat → Int) (T : ByteArray) (w : World) (hR : RowC w A n C D) (hn : n ≤ 1000) (h : ¬ GoodC n C D) :
    Calls Tryd.prog 11 #[.slice A n c, .string T] w fun e w' => e = .returned (.tuple #[.int .i64 0, .bool false]) ∧ Below w.heap.size w w' := by
  have H1 := Lib.hid (rRight_not A n c C D w hR hn h)
  clear hR h
  go_enter Tryd.func11, Tryd.ntmps11
  go_wp2_with fail
  refine H1.out.mono ?_
  rintro e W1 ⟨rfl, hb1⟩
  go_wp2
  go_ret2
  exact ⟨rfl, hb1⟩
set_option maxHeartbeats 2000000 in
theorem rdigits_hit (A : Option Addr) (n c : Nat) (C : Nat → ByteArray) (D : Nat → Int) (T : ByteArray) (w : World) (hR : RowC w A n C D) (hn : n ≤ 1000) (h : GoodC n C D) (K : Nat) (hK : K < n) (hm : ((C K).toList == T.toList) = true) (hf : ∀ j, j < K → ((C j).toList == T.toList) = false) :
    Calls Tryd.prog 11 #[.slice A n c, .string T] w fun e w' => e = .returned (.tuple #[.int .i64 (D K), .bool true]) ∧ Below w.heap.size w w' := by
  have H1 := Lib.hid (rRight_yes A n c C D w hR hn h)
  have HF := Lib.hid hf
  have HM := Lib.hid hm
  clear hm
  have HR := Lib.hid hR
  clear h hf hR
  go_enter Tryd.func11, Tryd.ntmps11
  go_wp2_with fail
  refine H1.out.mono ?_
  rintro e W1 ⟨rfl, hb1⟩
  have HB1 := Lib.hid hb1
  clear hb1
  go_wp2
  go_loopw [6] (fun i wr => ∃ k : Nat, k ≤ K ∧ i = .int .i64 (k : Int) ∧ Below w.heap.size w wr) (fun i _ => K - (intOf i).toNat)
  case atStart => exact ⟨0, by omega, rfl, HB1.out⟩
  case round =>
    obtain ⟨k, hk, rfl, hb⟩ := hrel
    have HB := Lib.hid hb
    clear hb
    by_cases hlt : k < K
    · obtain ⟨z1, b, off, rfl, hlb, c0, c1⟩ := (HR.out.below HB.out) k (by omega)
      have hlt2 : (k : Int) < (n : Int) := by omega
      have hq := HF.out k hlt
      obtain ⟨S, hS⟩ : ∃ S, C k = S := ⟨_, rfl⟩
      obtain ⟨E, hE⟩ : ∃ E, D k = E := ⟨_, rfl⟩
      rw [hS] at c0 hq
      rw [hE] at c1
      clear hS hE z1
      by_cases k0 : k = 0
      · subst k0
        have c0' : wr.cell? ⟨b, off, none⟩ = some (.string S) := by simpa using c0
        have c1' : wr.cell? ⟨b, off + 1, none⟩ = some (.int .i64 E) := by simpa using c1
        go_wp2
        go_roundw
        case rel => exact ⟨0 + 1, by omega, by go_num, HB.out⟩
        case measure => simp [intOf]; omega
      · have k1 : 0 < k := by omega
        go_wp2
        go_roundw
        case rel => exact ⟨k + 1, by omega, by go_num, HB.out⟩
        case measure => simp [intOf]; omega
    · obtain rfl : k = K := by omega
      obtain ⟨z1, b, off, rfl, hlb, c0, c1⟩ := (HR.out.below HB.out) k (by omega)
      have hlt2 : (k : Int) < (n : Int) := by omega
      have hq := HM.out
      obtain ⟨S, hS⟩ : ∃ S, C k = S := ⟨_, rfl⟩
      obtain ⟨E, hE⟩ : ∃ E, D k = E := ⟨_, rfl⟩
      rw [hS] at c0 hq
      rw [hE] at c1
      have HE := Lib.hid hE
      clear hS hE z1 HM
      by_cases k0 : k = 0
      · subst k0
        have c0' : wr.cell? ⟨b, off, none⟩ = some (.string S) := by simpa using c0
        have c1' : wr.cell? ⟨b, off + 1, none⟩ = some (.int .i64 E) := by simpa using c1
        go_wp2
        go_ret2
        exact ⟨by rw [HE.out]; rfl, HB.out⟩
      · have k1 : 0 < k := by omega
        go_wp2
        go_ret2
        exact ⟨by rw [HE.out]; rfl, HB.out⟩
set_option maxHeartbeats 2000000 in
theorem rdigits_none (A : Option Addr) (n c : Nat) (C : Nat → ByteArray) (D : Nat → Int) (T : ByteArray) (w : World) (hR : RowC w A n C D) (hn : n ≤ 1000) (h : GoodC n C D) (hf : ∀ j, j < n → ((C j).toList == T.toList) = false) :
    Calls Tryd.prog 11 #[.slice A n c, .string T] w fun e w' => e = .returned (.tuple #[.int .i64 0, .bool false]) ∧ Below w.heap.size w w' := by
  have H1 := Lib.hid (rRight_yes A n c C D w hR hn h)
  have HF := Lib.hid hf
  have HR := Lib.hid hR
  clear h hf hR
  go_enter Tryd.func11, Tryd.ntmps11
  go_wp2_with fail
  refine H1.out.mono ?_
  rintro e W1 ⟨rfl, hb1⟩
  have HB1 := Lib.hid hb1
  clear hb1
  go_wp2
  go_loopw [6] (fun i wr => ∃ k : Nat, k ≤ n ∧ i = .int .i64 (k : Int) ∧ Below w.heap.size w wr) (fun i _ => n - (intOf i).toNat)
  case atStart => exact ⟨0, by omega, rfl, HB1.out⟩
  case round =>
    obtain ⟨k, hk, rfl, hb⟩ := hrel
    have HB := Lib.hid hb
    clear hb
    by_cases hlt : k < n
    · obtain ⟨z1, b, off, rfl, hlb, c0, c1⟩ := (HR.out.below HB.out) k (by omega)
      have hlt2 : (k : Int) < (n : Int) := by omega
      have hq := HF.out k hlt
      obtain ⟨S, hS⟩ : ∃ S, C k = S := ⟨_, rfl⟩
      obtain ⟨E, hE⟩ : ∃ E, D k = E := ⟨_, rfl⟩
      rw [hS] at c0 hq
      rw [hE] at c1
      clear hS hE z1
      by_cases k0 : k = 0
      · subst k0
        have c0' : wr.cell? ⟨b, off, none⟩ = some (.string S) := by simpa using c0
        have c1' : wr.cell? ⟨b, off + 1, none⟩ = some (.int .i64 E) := by simpa using c1
        go_wp2
        go_roundw
        case rel => exact ⟨0 + 1, by omega, by go_num, HB.out⟩
        case measure => simp [intOf]; omega
      · have k1 : 0 < k := by omega
        go_wp2
        go_roundw
        case rel => exact ⟨k + 1, by omega, by go_num, HB.out⟩
        case measure => simp [intOf]; omega
    · have hlt2 : ¬ (k : Int) < (n : Int) := by omega
      go_wp2
      go_ret2
      exact ⟨rfl, HB.out⟩
end Go.Proofs.YtbiicdpmilplmaaDoor
