/- What Text, Digits and Parse of package accountingref01 return, for all integers of 64 bits and all strings. -/
import Derived.Test.YtkpdbhpmnegahaaGreatDoorNumT
import Derived.Test.YtkpdbhpmnegahaaGreatDoorNumQ
namespace Go.Proofs.YtkpdbhpmnegahaaGreatDoor
open Go.RowKit
set_option linter.unusedVariables false

theorem dg_div {a k : Nat} (h : k < (dg a).length) (h0 : k ≠ 0) : a / 10 ^ k ≠ 0 := by
  induction k generalizing a with
  | zero => exact absurd rfl h0
  | succ k ih =>
    by_cases h1 : a < 10
    · rw [dg_small h1] at h; simp at h
    · rw [Nat.pow_succ, Nat.mul_comm, ← Nat.div_div_eq_div_mul]
      by_cases hk : k = 0
      · subst hk; simp; omega
      · refine ih ?_ hk
        rw [dg_big h1] at h; simp at h; omega
theorem dg_div0 (a : Nat) : a / 10 ^ (dg a).length = 0 := by
  induction a using Nat.strongRecOn with
  | ind a ih =>
    by_cases h1 : a < 10
    · rw [dg_small h1]; simp; exact h1
    · rw [dg_big h1, List.length_append, List.length_singleton, Nat.pow_succ, Nat.mul_comm, ← Nat.div_div_eq_div_mul]
      exact ih (a / 10) (by omega)

/-- the length of a string value. -/
def strLen : Value → Nat
  | .string s => s.size
  | _ => 0
theorem app_list (a b : ByteArray) : (a ++ b).toList = a.toList ++ b.toList := by simp [ByteArray.toList_eq]
theorem dig_str {d : Nat} (h : d < 10) : ((⟨#[48, 49, 50, 51, 52, 53, 54, 55, 56, 57]⟩ : ByteArray).extract d (d + 1)).toList = [UInt8.ofNat (48 + d)] := by
  rw [ByteArray.toList_eq, ByteArray.data_extract]
  have : ∀ e : Fin 10, ((#[48, 49, 50, 51, 52, 53, 54, 55, 56, 57] : Array UInt8).extract e.val (e.val + 1)).toList = [UInt8.ofNat (48 + e.val)] := by decide
  exact this ⟨d, h⟩
theorem rText_round {a k : Nat} {S : ByteArray} {d : Int} (hlt : k < (dg a).length) (hS : S.toList = (dg a).drop ((dg a).length - k)) (hd : d = ((a / 10 ^ k % 10 : Nat) : Int)) :
    ((⟨#[48, 49, 50, 51, 52, 53, 54, 55, 56, 57]⟩ : ByteArray).extract d.toNat (d + 1).toNat ++ S).toList = (dg a).drop ((dg a).length - (k + 1)) := by
  subst hd
  have e : (((a / 10 ^ k % 10 : Nat) : Int) + 1).toNat = a / 10 ^ k % 10 + 1 := by omega
  rw [e, Int.toNat_natCast, app_list, dig_str (by omega), hS]
  have hg := dg_get k a hlt
  obtain ⟨hx, hg⟩ := List.getElem?_eq_some_iff.1 hg
  rw [show (dg a).length - (k + 1) = (dg a).length - 1 - k by omega, List.drop_eq_getElem_cons hx, hg, show (dg a).length - 1 - k + 1 = (dg a).length - k by omega]
  rfl
theorem textS_of {n : Int} {S : ByteArray} (h : S.toList = dg n.natAbs) : S = ⟨(dg n.natAbs).toArray⟩ := by
  rw [← h, ByteArray.toList_eq]

set_option maxHeartbeats 400000 in
theorem rText_any (n : Int) (w : World) (n1 : -9223372036854775808 ≤ n) (n2 : n ≤ 9223372036854775807) :
    Calls Tryz.prog 24 #[.int .i64 n] w fun e w' => e = .returned (.string (textS n)) ∧ w = w' := by
  have hL := dg_len20 (n := n.natAbs) (by omega)
  have hP := dg_pos n.natAbs
  go_enter Tryz.func24, Tryz.ntmps24
  go_wp2
  go_loop [3, 4] (fun s z => ∃ (y : Int) (k : Nat) (S : ByteArray), k ≤ (dg n.natAbs).length ∧ z = .int .i64 y ∧ s = .string S ∧ (-9223372036854775808 ≤ y ∧ y ≤ 9223372036854775807) ∧ y.natAbs = n.natAbs / 10 ^ k ∧ S.toList = (dg n.natAbs).drop ((dg n.natAbs).length - k)) (fun s _ => (dg n.natAbs).length - strLen s)
  case atStart => exact ⟨n, 0, ⟨#[]⟩, Nat.zero_le _, rfl, rfl, ⟨n1, n2⟩, by simp, by simp⟩
  case round =>
    obtain ⟨y, k, S, hk, rfl, rfl, ⟨y1, y2⟩, hy, hS⟩ := hrel
    have hsz : S.size = k := by rw [← bytes_len, hS]; simp; omega
    have hsz20 : S.size ≤ 20 := by omega
    have ht := tmod10_abs y
    have t1 : -9 ≤ y.tmod 10 := by omega
    have t2 : y.tmod 10 ≤ 9 := by omega
    by_cases hlt : k < (dg n.natAbs).length
    · have hgo : (y != 0) = true ∨ (y != 0) = false ∧ S.toList.isEmpty = true := by
        by_cases h0 : k = 0
        · subst h0
          have : S.toList.isEmpty = true := by rw [hS]; simp
          rw [this]
          cases hb : (y != 0) <;> simp
        · left
          have := dg_div hlt h0
          rw [← hy] at this
          simp; omega
      have HY := Lib.hid hy
      have HS := Lib.hid hS
      have HT := Lib.hid ht
      have HZ := Lib.hid hsz
      have hq := Lib.hid (tdiv10_abs y)
      clear hy hS hsz ht
      by_cases hneg : y.tmod 10 < 0
      · have R := Lib.hid (rText_round (d := -(y.tmod 10)) hlt HS.out (by rw [← HY.out, ← HT.out]; omega))
        rcases hgo with hb | ⟨hb, hb2⟩
        all_goals
          go_wp2
          go_round
          case rel => exact ⟨y.tdiv 10, k + 1, _, by omega, rfl, rfl, ⟨by have := hq.out; omega, by have := hq.out; omega⟩, div_step HY.out, R.out⟩
          case measure =>
            have h1 := congrArg List.length R.out
            rw [bytes_len] at h1
            simp only [List.length_drop] at h1
            simp only [strLen, h1, HZ.out]; omega
      · have R := Lib.hid (rText_round (d := y.tmod 10) hlt HS.out (by rw [← HY.out, ← HT.out]; omega))
        rcases hgo with hb | ⟨hb, hb2⟩
        all_goals
          go_wp2
          go_round
          case rel => exact ⟨y.tdiv 10, k + 1, _, by omega, rfl, rfl, ⟨by have := hq.out; omega, by have := hq.out; omega⟩, div_step HY.out, R.out⟩
          case measure =>
            have h1 := congrArg List.length R.out
            rw [bytes_len] at h1
            simp only [List.length_drop] at h1
            simp only [strLen, h1, HZ.out]; omega
    · have hkL : k = (dg n.natAbs).length := by omega
      subst hkL
      rw [dg_div0] at hy
      have hb : (y != 0) = false := by simp; omega
      rw [Nat.sub_self, List.drop_zero] at hS
      have hb2 : S.toList.isEmpty = false := by
        cases he : S.toList.isEmpty
        · rfl
        · rw [hS] at he; simp at he; rw [he] at hP; simp at hP
      have HS := Lib.hid (textS_of hS)
      clear hS hy ht hsz
      by_cases hn : n < 0
      · have HN := Lib.hid (textS_neg hn)
        go_wp2
        go_ret
        exact ⟨ret_str (by rw [HN.out, ← HS.out]), rfl⟩
      · have HN := Lib.hid (textS_nonneg hn)
        go_wp2
        go_ret
        exact ⟨ret_str (by rw [HN.out, ← HS.out]), rfl⟩

/-- digits, one or more. -/
def digs (l : List UInt8) : Bool := !l.isEmpty && l.all dig
theorem digs_bad {s : ByteArray} {k : Nat} (hk : k < s.size) (h : dig s[k] = false) : digs s.toList = false := by
  unfold digs
  have : s.toList.all dig = false := by
    rw [List.all_eq_false]
    exact ⟨s[k], by rw [← bytes_get s k hk (by rw [bytes_len]; exact hk)]; exact List.getElem_mem _, by simp [h]⟩
  rw [this]; simp

set_option maxHeartbeats 400000 in
theorem rDigits_any (s : ByteArray) (w : World) (hs : s.size ≤ maxLen) :
    Calls Tryz.prog 59 #[.string s] w fun e w' => e = .returned (.bool (digs s.toList)) ∧ w = w' := by
  unfold maxLen at hs
  go_enter Tryz.func59, Tryz.ntmps59
  go_wp2
  go_loop [3] (fun i => ∃ k : Nat, k ≤ s.size ∧ i = .int .i64 k ∧ (s.toList.take k).all dig = true) (fun i => s.size - (intOf i).toNat)
  case atStart => exact ⟨0, Nat.zero_le _, rfl, rfl⟩
  case round =>
    obtain ⟨k, hk, rfl, hall⟩ := hrel
    have HA := Lib.hid hall
    clear hall
    by_cases hlt : k < s.size
    · by_cases hd : (s[k].toNat : Int) < 48
      · have hd' : decide ((s[k].toNat : Int) < 48) = true := by simpa using hd
        go_wp2
        go_ret
        exact ⟨ret_bool (digs_bad hlt (dig_no (.inl hd))).symm, rfl⟩
      · have hd' : decide ((s[k].toNat : Int) < 48) = false := by simpa using hd
        by_cases he : 57 < (s[k].toNat : Int)
        · have he' : decide (57 < (s[k].toNat : Int)) = true := by simpa using he
          go_wp2
          go_ret
          exact ⟨ret_bool (digs_bad hlt (dig_no (.inr he))).symm, rfl⟩
        · have he' : decide (57 < (s[k].toNat : Int)) = false := by simpa using he
          go_wp2
          go_round
          case rel => exact ⟨k + 1, by omega, by go_num, by rw [take_snoc s k hlt, List.all_append, HA.out]; simp [dig_yes (c := s[k]) (by omega) (by omega)]⟩
          case measure => simp [intOf]; omega
    · go_wp2
      go_ret
      have hall := HA.out
      rw [val_all hlt] at hall
      exact ⟨ret_bool (by unfold digs; rw [hall]; simp), rfl⟩
end Go.Proofs.YtkpdbhpmnegahaaGreatDoor
