/- What num.Parse and the functions that it calls return, for every string. -/
import Derived.Test.YtkpdbhpmnegahaaDoorStr
import Derived.Test.YtkpdbhpmnegahaaDoorNumM
namespace Go.Proofs.YtkpdbhpmnegahaaDoor
open Go.RowKit
set_option linter.unusedVariables false

set_option maxHeartbeats 400000 in
theorem isNotation_any (s : ByteArray) (w : World) (hs : s.size ≤ maxLen) :
    Calls Tryd.prog 74 #[.string s] w fun e w' => e = .returned (.bool (notn s.toList)) ∧ w = w' := by
  unfold maxLen at hs
  by_cases h0 : s.toList = []
  · rw [notn_nil h0]
    go_enter Tryd.func74, Tryd.ntmps74
    go_wp2
    go_ret
    exact ⟨rfl, rfl⟩
  · have hz : 0 < s.size := bytes_nil h0
    have hE : s.toList.isEmpty = false := by simpa using h0
    have hh := bytes_head hz
    by_cases hl : (s[0].toNat : Int) = 48 ∧ (s.toList == [48]) = false
    · obtain ⟨hl1, hl2⟩ := hl
      rw [notn_lead (by rw [hh, byte48.1 hl1]) hl2]
      clear hh
      have hb : ((s[0].toNat : Int) == 48) = true := by simpa using hl1
      go_enter Tryd.func74, Tryd.ntmps74
      go_wp2
      go_ret
      exact ⟨rfl, rfl⟩
    · have hfin : s.toList.head? ≠ some 48 ∨ s.toList = [48] := by
        by_cases hc : (s[0].toNat : Int) = 48
        · right; simpa [hc] using hl
        · left; rw [hh]; intro e; apply hc; rw [byte48]; injection e
      have HF := Lib.hid hfin
      clear hfin hh
      have hcase : ((s[0].toNat : Int) == 48) = true ∧ (s.toList == [48]) = true ∨ ((s[0].toNat : Int) == 48) = false := by
        by_cases hc : (s[0].toNat : Int) = 48
        · left; exact ⟨by simpa using hc, by simpa [hc] using hl⟩
        · right; simpa using hc
      clear hl
      rcases hcase with ⟨hb, hb2⟩ | hb
      all_goals
        go_enter Tryd.func74, Tryd.ntmps74
        go_wp2
        go_loop [17] (fun i => ∃ k : Nat, k ≤ s.size ∧ i = .int .i64 k ∧ (s.toList.take k).all dig = true) (fun i => s.size - (intOf i).toNat)
        case atStart => exact ⟨0, Nat.zero_le _, rfl, rfl⟩
        case round =>
          obtain ⟨k, hk, rfl, hall⟩ := hrel
          have HA := Lib.hid hall
          clear hall
          by_cases hlt : k < s.size
          · by_cases hd : (s[k].toNat : Int) < 48
            · have hd' : decide ((s[k].toNat : Int) < 48) = true := by simpa using hd
              go_wp2
              go_ret
              exact ⟨ret_bool (notn_bad hlt (dig_no (.inl hd))).symm, rfl⟩
            · have hd' : decide ((s[k].toNat : Int) < 48) = false := by simpa using hd
              by_cases he : 57 < (s[k].toNat : Int)
              · have he' : decide (57 < (s[k].toNat : Int)) = true := by simpa using he
                go_wp2
                go_ret
                exact ⟨ret_bool (notn_bad hlt (dig_no (.inr he))).symm, rfl⟩
              · have he' : decide (57 < (s[k].toNat : Int)) = false := by simpa using he
                go_wp2
                go_round
                case rel => exact ⟨k + 1, by omega, by go_num, by rw [take_snoc s k hlt, List.all_append, HA.out]; simp [dig_yes (c := s[k]) (by omega) (by omega)]⟩
                case measure => simp [intOf]; omega
          · go_wp2
            go_ret
            have hall := HA.out
            rw [List.take_of_length_le (by rw [bytes_len]; omega)] at hall
            exact ⟨ret_bool (notn_yes h0 hall HF.out).symm, rfl⟩

set_option maxHeartbeats 400000 in
theorem cut_any (s : ByteArray) (w : World) (hs : s.size ≤ maxLen) :
    Calls Tryd.prog 70 #[.string s, .string ⟨#[45]⟩] w fun e w' => e = .returned (.tuple #[.string (restOf s), .bool (isNeg s.toList)]) ∧ w = w' := by
  unfold maxLen at hs
  by_cases h0 : 0 < s.size
  · have hx := extract1 h0
    have hh := isNeg_head h0
    cases hc : isNeg s.toList
    · rw [restOf_no hc]
      rw [hc] at hh
      have hb : ((s.extract 0 1).toList == [45]) = false := by rw [hx]; simpa using hh.symm
      clear hx hh hc
      go_enter Tryd.func70, Tryd.ntmps70
      go_wp2
      go_ret2
      exact ⟨rfl, rfl⟩
    · rw [restOf_yes hc]
      rw [hc] at hh
      have hb : ((s.extract 0 1).toList == [45]) = true := by rw [hx]; simpa using hh.symm
      clear hx hh hc
      go_enter Tryd.func70, Tryd.ntmps70
      go_wp2
      go_ret2
      exact ⟨rfl, rfl⟩
  · have hc := isNeg_nil h0
    rw [restOf_no hc, hc]
    clear hc
    go_enter Tryd.func70, Tryd.ntmps70
    go_wp2
    go_ret2
    exact ⟨rfl, rfl⟩

theorem mul10_yes (a : Int) (w : World) (a1 : -9223372036854775808 ≤ a) (a2 : a ≤ 9223372036854775807) (hf : fits (a * 10) = true) :
    Calls Tryd.prog 89 #[.int .i64 a, .int .i64 10] w fun e w' => e = .returned (.tuple #[.int .i64 (a * 10), .bool true]) ∧ w = w' := by
  have h := mul_any a 10 w a1 a2 (by omega) (by omega)
  unfold fit at h; rw [hf, if_pos rfl] at h; exact h
theorem mul10_no (a : Int) (w : World) (a1 : -9223372036854775808 ≤ a) (a2 : a ≤ 9223372036854775807) (hf : fits (a * 10) = false) :
    Calls Tryd.prog 89 #[.int .i64 a, .int .i64 10] w fun e w' => e = .returned (.tuple #[.int .i64 0, .bool false]) ∧ w = w' := by
  have h := mul_any a 10 w a1 a2 (by omega) (by omega)
  unfold fit at h; rw [hf] at h; exact h
theorem add_yes (a b : Int) (w : World) (a1 : -9223372036854775808 ≤ a) (a2 : a ≤ 9223372036854775807) (b1 : -9223372036854775808 ≤ b) (b2 : b ≤ 9223372036854775807) (hf : fits (a + b) = true) :
    Calls Tryd.prog 90 #[.int .i64 a, .int .i64 b] w fun e w' => e = .returned (.tuple #[.int .i64 (a + b), .bool true]) ∧ w = w' := by
  have h := add_any a b w a1 a2 b1 b2
  unfold fit at h; rw [hf, if_pos rfl] at h; exact h
theorem add_no (a b : Int) (w : World) (a1 : -9223372036854775808 ≤ a) (a2 : a ≤ 9223372036854775807) (b1 : -9223372036854775808 ≤ b) (b2 : b ≤ 9223372036854775807) (hf : fits (a + b) = false) :
    Calls Tryd.prog 90 #[.int .i64 a, .int .i64 b] w fun e w' => e = .returned (.tuple #[.int .i64 0, .bool false]) ∧ w = w' := by
  have h := add_any a b w a1 a2 b1 b2
  unfold fit at h; rw [hf] at h; exact h
theorem fit_sgn_no {neg : Bool} {n : Nat} (h : fits (sgn neg n) = false) : fit (sgn neg n) = 0 := by unfold fit; rw [h]; rfl
theorem fit_sgn_yes {neg : Bool} {n : Nat} (h : fits (sgn neg n) = true) : fit (sgn neg n) = sgn neg n := by unfold fit; rw [h]; rfl

set_option maxHeartbeats 400000 in
theorem value_any (s : ByteArray) (neg : Bool) (w : World) (hs : s.size ≤ maxLen) (hd : s.toList.all dig = true) :
    Calls Tryd.prog 75 #[.string s, .bool neg] w fun e w' => e = .returned (.tuple #[.int .i64 (fit (sgn neg (dec s.toList))), .bool (fits (sgn neg (dec s.toList)))]) ∧ w = w' := by
  unfold maxLen at hs
  have HD := Lib.hid hd
  clear hd
  cases neg
  all_goals
    go_enter Tryd.func75, Tryd.ntmps75
    go_wp2
  · go_loop [4, 5, 10] (fun n ok i => ∃ (k : Nat) (b : Bool), k ≤ s.size ∧ i = .int .i64 k ∧ n = .int .i64 (sgn false (dec (s.toList.take k))) ∧ ok = .bool b ∧ fits (sgn false (dec (s.toList.take k))) = true) (fun _ _ i => s.size - (intOf i).toNat)
    case atStart => exact ⟨0, false, Nat.zero_le _, rfl, rfl, rfl, rfl⟩
    case round =>
      obtain ⟨k, b, hk, rfl, rfl, rfl, hf⟩ := hrel
      obtain ⟨f1, f2⟩ := fits_iff.1 hf
      have HF := Lib.hid hf
      clear hf
      by_cases hlt : k < s.size
      · obtain ⟨d1, d2⟩ := all_at HD.out hlt
        have HS := Lib.hid (val_step HD.out hlt false)
        have H10 := Lib.hid (val_bad10 HD.out hlt (neg := false))
        generalize hN : sgn false (dec (s.toList.take k)) = N at *
        have HN := Lib.hid hN
        clear hN
        cases h10 : fits (N * 10)
        · have hbad := H10.out h10
          have HB := Lib.hid hbad
          have G := Lib.hid h10
          clear h10 hbad
          go_wp2_with fail
          refine (mul10_no _ _ f1 f2 G.out).mono ?_
          rintro e w' ⟨rfl, rfl⟩
          go_wp2
          go_ret2
          exact ⟨ret_intBool (fit_sgn_no HB.out).symm HB.out.symm, rfl⟩
        · obtain ⟨g1, g2⟩ := fits_iff.1 h10
          have G := Lib.hid h10
          clear h10
          cases hA : fits (N * 10 + ((s[k].toNat : Int) - 48))
          · have hbad := val_bad (k := k + 1) (neg := false) (by rw [HS.out]; exact hA)
            have HB := Lib.hid hbad
            have GA := Lib.hid hA
            clear hA hbad
            go_wp2_with fail
            refine (mul10_yes _ _ f1 f2 G.out).mono ?_
            rintro e w' ⟨rfl, rfl⟩
            go_wp2_with fail
            refine (add_no _ _ _ g1 g2 (by omega) (by omega) GA.out).mono ?_
            rintro e w' ⟨rfl, rfl⟩
            go_wp2
            go_ret2
            exact ⟨ret_intBool (fit_sgn_no HB.out).symm HB.out.symm, rfl⟩
          · have GA := Lib.hid hA
            clear hA
            go_wp2_with fail
            refine (mul10_yes _ _ f1 f2 G.out).mono ?_
            rintro e w' ⟨rfl, rfl⟩
            go_wp2_with fail
            refine (add_yes _ _ _ g1 g2 (by omega) (by omega) GA.out).mono ?_
            rintro e w' ⟨rfl, rfl⟩
            go_wp2
            go_round
            case rel => exact ⟨k + 1, true, by omega, by go_num, by rw [HS.out]; rfl, rfl, by rw [HS.out]; exact GA.out⟩
            case measure => simp [intOf]; omega
      · go_wp2
        go_ret2
        have hf := HF.out
        rw [val_all hlt] at hf
        exact ⟨ret_intBool (by rw [val_all hlt, fit_sgn_yes hf]) hf.symm, rfl⟩
  · go_loop [4, 5, 10] (fun n ok i => ∃ (k : Nat) (b : Bool), k ≤ s.size ∧ i = .int .i64 k ∧ n = .int .i64 (sgn true (dec (s.toList.take k))) ∧ ok = .bool b ∧ fits (sgn true (dec (s.toList.take k))) = true) (fun _ _ i => s.size - (intOf i).toNat)
    case atStart => exact ⟨0, false, Nat.zero_le _, rfl, rfl, rfl, rfl⟩
    case round =>
      obtain ⟨k, b, hk, rfl, rfl, rfl, hf⟩ := hrel
      obtain ⟨f1, f2⟩ := fits_iff.1 hf
      have HF := Lib.hid hf
      clear hf
      by_cases hlt : k < s.size
      · obtain ⟨d1, d2⟩ := all_at HD.out hlt
        have HS := Lib.hid (val_step HD.out hlt true)
        have H10 := Lib.hid (val_bad10 HD.out hlt (neg := true))
        generalize hN : sgn true (dec (s.toList.take k)) = N at *
        have HN := Lib.hid hN
        clear hN
        cases h10 : fits (N * 10)
        · have hbad := H10.out h10
          have HB := Lib.hid hbad
          have G := Lib.hid h10
          clear h10 hbad
          go_wp2_with fail
          refine (mul10_no _ _ f1 f2 G.out).mono ?_
          rintro e w' ⟨rfl, rfl⟩
          go_wp2
          go_ret2
          exact ⟨ret_intBool (fit_sgn_no HB.out).symm HB.out.symm, rfl⟩
        · obtain ⟨g1, g2⟩ := fits_iff.1 h10
          have G := Lib.hid h10
          clear h10
          cases hA : fits (N * 10 + -((s[k].toNat : Int) - 48))
          · have hbad := val_bad (k := k + 1) (neg := true) (by rw [HS.out]; exact hA)
            have HB := Lib.hid hbad
            have GA := Lib.hid hA
            clear hA hbad
            go_wp2_with fail
            refine (mul10_yes _ _ f1 f2 G.out).mono ?_
            rintro e w' ⟨rfl, rfl⟩
            go_wp2_with fail
            refine (add_no _ _ _ g1 g2 (by omega) (by omega) GA.out).mono ?_
            rintro e w' ⟨rfl, rfl⟩
            go_wp2
            go_ret2
            exact ⟨ret_intBool (fit_sgn_no HB.out).symm HB.out.symm, rfl⟩
          · have GA := Lib.hid hA
            clear hA
            go_wp2_with fail
            refine (mul10_yes _ _ f1 f2 G.out).mono ?_
            rintro e w' ⟨rfl, rfl⟩
            go_wp2_with fail
            refine (add_yes _ _ _ g1 g2 (by omega) (by omega) GA.out).mono ?_
            rintro e w' ⟨rfl, rfl⟩
            go_wp2
            go_round
            case rel => exact ⟨k + 1, true, by omega, by go_num, by rw [HS.out]; rfl, rfl, by rw [HS.out]; exact GA.out⟩
            case measure => simp [intOf]; omega
      · go_wp2
        go_ret2
        have hf := HF.out
        rw [val_all hlt] at hf
        exact ⟨ret_intBool (by rw [val_all hlt, fit_sgn_yes hf]) hf.symm, rfl⟩
end Go.Proofs.YtkpdbhpmnegahaaDoor
