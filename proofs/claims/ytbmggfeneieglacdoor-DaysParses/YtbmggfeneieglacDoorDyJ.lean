/- What readDigits and twoDigits of package days return, and value and two of package accountingref04. -/
import Derived.Test.YtbmggfeneieglacDoorDyI
import Derived.Test.YtbmggfeneieglacDoorNumR
namespace Go.Proofs.YtbmggfeneieglacDoor
open Go.RowKit Go.Sort
set_option linter.unusedVariables false

theorem dec_pow (l : List UInt8) (h : l.all dig = true) (k : Nat) : dec (l.take k) < 10 ^ k := by
  induction k with
  | zero => simp [dec]
  | succ k ih =>
    rcases Nat.lt_or_ge k l.length with hk | hk
    · rw [List.take_succ_eq_append_getElem hk, dec_snoc]
      have hd : dig l[k] = true := by rw [List.all_eq_true] at h; exact h _ (List.getElem_mem _)
      rw [dig_iff] at hd
      rw [Nat.pow_succ]; omega
    · rw [List.take_of_length_le (by omega)]
      rw [List.take_of_length_le (by omega)] at ih
      rw [Nat.pow_succ]; omega
theorem dec_small {l : List UInt8} (h : l.all dig = true) (hl : l.length ≤ 4) (k : Nat) : dec (l.take k) ≤ 9999 := by
  have h1 := dec_take l k
  have h2 := dec_pow l h l.length
  rw [List.take_length] at h2
  have h3 : 10 ^ l.length ≤ 10 ^ 4 := Nat.pow_le_pow_right (by omega) hl
  omega
theorem all_take {l : List UInt8} (k : Nat) (h : l.all dig = true) : (l.take k).all dig = true := by
  rw [List.all_eq_true] at *
  intro x hx; exact h x (List.mem_of_mem_take hx)

/-- the number that digits denote, or 0; whether they are digits. -/
def rdO (s : ByteArray) : Bool := s.toList.all dig
def rdV (s : ByteArray) : Int := if rdO s then (dec s.toList : Int) else 0
theorem all_bad {s : ByteArray} {k : Nat} (hk : k < s.size) (h : dig s[k] = false) : s.toList.all dig = false := by
  rw [List.all_eq_false]
  exact ⟨s[k], by rw [← bytes_get s k hk (by rw [bytes_len]; exact hk)]; exact List.getElem_mem _, by simp [h]⟩

set_option maxHeartbeats 400000 in
theorem readDigits_any (s : ByteArray) (w : World) (hs : s.size ≤ 4) :
    Calls Tryd.prog 41 #[.string s] w fun e w' => e = .returned (.tuple #[.int .i64 (rdV s), .bool (rdO s)]) ∧ w = w' := by
  go_enter Tryd.func41, Tryd.ntmps41
  go_wp2
  go_loop [2, 7] (fun z i => ∃ k : Nat, k ≤ s.size ∧ i = .int .i64 k ∧ Hid ((s.toList.take k).all dig = true) ∧ z = .int .i64 (dec (s.toList.take k) : Nat)) (fun _ i => s.size - (intOf i).toNat)
  case atStart => exact ⟨0, Nat.zero_le _, rfl, Lib.hid rfl, rfl⟩
  case round =>
    obtain ⟨k, hk, rfl, HA, rfl⟩ := hrel
    have hb : dec (s.toList.take k) ≤ 9999 := by
      have := dec_small (l := s.toList.take k) HA.out (by rw [List.length_take, bytes_len]; omega) k
      rwa [List.take_take, Nat.min_self] at this
    by_cases hlt : k < s.size
    · by_cases hd : (s[k].toNat : Int) < 48
      · have hd' : decide ((s[k].toNat : Int) < 48) = true := by simpa using hd
        have HR := Lib.hid (show rdO s = false from all_bad hlt (dig_no (.inl hd)))
        generalize dec (s.toList.take k) = D at *
        go_wp2
        go_ret2
        exact ⟨by unfold rdV; rw [HR.out]; rfl, rfl⟩
      · have hd' : decide ((s[k].toNat : Int) < 48) = false := by simpa using hd
        by_cases he : 57 < (s[k].toNat : Int)
        · have he' : decide (57 < (s[k].toNat : Int)) = true := by simpa using he
          have HR := Lib.hid (show rdO s = false from all_bad hlt (dig_no (.inr he)))
          generalize dec (s.toList.take k) = D at *
          go_wp2
          go_ret2
          exact ⟨by unfold rdV; rw [HR.out]; rfl, rfl⟩
        · have he' : decide (57 < (s[k].toNat : Int)) = false := by simpa using he
          have HS := Lib.hid (show (dec (s.toList.take (k + 1)) : Int) = (dec (s.toList.take k) : Int) * 10 + ((s[k].toNat : Int) - 48) by rw [take_snoc s k hlt, dec_snoc]; omega)
          have HA2 := Lib.hid (show (s.toList.take (k + 1)).all dig = true by rw [take_snoc s k hlt, List.all_append, HA.out]; simp [dig_yes (c := s[k]) (by omega) (by omega)])
          generalize dec (s.toList.take k) = D at *
          go_wp2
          go_round
          case rel => exact ⟨k + 1, by omega, by go_num, HA2, by rw [HS.out]⟩
          case measure => simp [intOf]; omega
    · have HT := Lib.hid (val_all hlt)
      have HA2 := Lib.hid (show rdO s = true by have := HA.out; rwa [HT.out] at this)
      have HE := Lib.hid (show dec (s.toList.take k) = dec s.toList by rw [HT.out])
      generalize dec (s.toList.take k) = D at *
      go_wp2
      go_ret2
      exact ⟨by unfold rdV; rw [HA2.out, HE.out]; rfl, rfl⟩

set_option maxHeartbeats 400000 in
theorem rValue_any (s : ByteArray) (w : World) (hs : s.size ≤ 4) (hd : s.toList.all dig = true) :
    Calls Tryd.prog 43 #[.string s] w fun e w' => e = .returned (.int .i64 (dec s.toList : Int)) ∧ w = w' := by
  have HD := Lib.hid hd
  clear hd
  go_enter Tryd.func43, Tryd.ntmps43
  go_wp2
  go_loop [3, 4] (fun z i => ∃ k : Nat, k ≤ s.size ∧ i = .int .i64 k ∧ z = .int .i64 (dec (s.toList.take k) : Nat)) (fun _ i => s.size - (intOf i).toNat)
  case atStart => exact ⟨0, Nat.zero_le _, rfl, rfl⟩
  case round =>
    obtain ⟨k, hk, rfl, rfl⟩ := hrel
    have hb : dec (s.toList.take k) ≤ 9999 := dec_small HD.out (by rw [bytes_len]; omega) k
    by_cases hlt : k < s.size
    · obtain ⟨g1, g2⟩ := all_at HD.out hlt
      have HS := Lib.hid (show (dec (s.toList.take (k + 1)) : Int) = (dec (s.toList.take k) : Int) * 10 + ((s[k].toNat : Int) - 48) by rw [take_snoc s k hlt, dec_snoc]; omega)
      generalize dec (s.toList.take k) = D at *
      go_wp2
      go_round
      case rel => exact ⟨k + 1, by omega, by go_num, by rw [HS.out]⟩
      case measure => simp [intOf]; omega
    · have HE := Lib.hid (show dec (s.toList.take k) = dec s.toList by rw [val_all hlt])
      generalize dec (s.toList.take k) = D at *
      go_wp2
      go_ret
      exact ⟨by rw [← HE.out]; rfl, rfl⟩
/-- two digits. -/
def twoS (n : Int) : ByteArray := if n < 10 then ⟨#[48]⟩ ++ textS n else textS n
theorem dg_len2 {n : Nat} (h : n < 100) : (dg n).length ≤ 2 := dg_len_le 1 n h
theorem textS_size2 {n : Int} (h1 : 0 ≤ n) (h2 : n < 100) : (textS n).size ≤ 2 := by
  rw [textS_size]; unfold text; rw [if_neg (by omega)]; exact dg_len2 (by omega)
set_option maxHeartbeats 400000 in
theorem twoDigits_any (n : Int) (w : World) (n1 : 0 ≤ n) (n2 : n ≤ 99) :
    Calls Tryd.prog 38 #[.int .i64 n] w fun e w' => e = .returned (.string (twoS n)) ∧ Below w.heap.size w w' := by
  have HT := Lib.hid (text_any n w (by omega) (by omega))
  have hz := textS_size2 n1 (by omega)
  unfold twoS
  by_cases h : n < 10
  · rw [if_pos h]
    generalize textS n = S at *
    go_enter Tryd.func38, Tryd.ntmps38
    go_wp2_with fail
    refine HT.out.mono ?_
    rintro e w' ⟨rfl, hb⟩
    go_wp2
    go_ret
    exact ⟨rfl, hb⟩
  · rw [if_neg h]
    generalize textS n = S at *
    go_enter Tryd.func38, Tryd.ntmps38
    go_wp2_with fail
    refine HT.out.mono ?_
    rintro e w' ⟨rfl, hb⟩
    go_wp2
    go_ret
    exact ⟨rfl, hb⟩
end Go.Proofs.YtbmggfeneieglacDoor
