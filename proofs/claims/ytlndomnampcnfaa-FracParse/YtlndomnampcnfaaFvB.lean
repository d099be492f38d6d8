/- What digits, trim, less and number of package accountingref03 return. -/
import Derived.Test.YtlndomnampcnfaaFvA
namespace Go.Proofs.Ytlndomnampcnfaa
open Go.RowKit Go.Sort
set_option linter.unusedVariables false
set_option linter.unusedSimpArgs false

theorem bs_drop (l : List UInt8) (k : Nat) (h : k + 1 ≤ l.length) : (bs (l.drop k)).extract 1 (bs (l.drop k)).size = bs (l.drop (k + 1)) := by
  rw [bs_size, bs_extract (l.drop k) 1 (l.drop k).length (by rw [List.length_drop]; omega) (Nat.le_refl _), List.drop_drop, List.take_of_length_le (by rw [List.length_drop, List.length_drop]; omega)]
def stN : Value → Nat
  | .string s => s.size
  | _ => 0
set_option maxHeartbeats 2000000 in
theorem rTrim_any (l : List UInt8) (w : World) (hl : l.length ≤ 200) (hd : l.all dig = true) : Calls Try.prog 37 #[.string (bs l)] w fun e w' => e = .returned (.string (bs (dn (dec l)))) ∧ w = w' := by
  have HD := Lib.hid hd
  clear hd
  obtain ⟨S0, hS0⟩ : ∃ T, bs l = T := ⟨_, rfl⟩
  have HS0 := Lib.hid hS0
  rw [hS0]
  clear hS0
  go_enter Try.func37, Try.ntmps37
  go_wp2
  go_loop [0] (fun x => ∃ (T : ByteArray) (k : Nat), x = .string T ∧ Hid (T = bs (l.drop k) ∧ k ≤ l.length ∧ dec (l.drop k) = dec l)) (fun x => stN x)
  case atStart => exact ⟨S0, 0, rfl, Lib.hid ⟨HS0.out.symm, Nat.zero_le _, rfl⟩⟩
  case round =>
    obtain ⟨T, k, rfl, HT⟩ := hrel
    have tT : Tx T (l.drop k) := by rw [HT.out.1]; exact tx_bs _
    have hkl := HT.out.2.1
    have hsz : T.size = l.length - k := by rw [tT.size, List.length_drop]
    by_cases hk : k < l.length
    · have h0 : 0 < T.size := by omega
      have h0' : (0 : Int) < (T.size : Int) := by omega
      have h1' : (1 : Int) ≤ (T.size : Int) := by omega
      have hT0 : T[0] = l[k] := by
        rw [tT.at h0 (by rw [List.length_drop]; omega), List.getElem_drop]; simp
      have hb : ((T[0].toNat : Int) == 48) = decide (l[k] = 48) := by rw [hT0]; exact byte_int (n := 48) (by omega)
      by_cases hz : l[k] = 48
      · rw [decide_eq_true hz] at hb
        have hex : T.extract 1 T.size = bs (l.drop (k + 1)) := by rw [HT.out.1]; exact bs_drop l k (by omega)
        obtain ⟨T2, hT2⟩ : ∃ U, bs (l.drop (k + 1)) = U := ⟨_, rfl⟩
        rw [hT2] at hex
        have HT2 := Lib.hid (show T2 = bs (l.drop (k + 1)) ∧ k + 1 ≤ l.length ∧ dec (l.drop (k + 1)) = dec l from ⟨hT2.symm, by omega, by
          have e := HT.out.2.2
          rw [List.drop_eq_getElem_cons hk, hz, dec_zero] at e; exact e⟩)
        have hs2 : T2.size < T.size := by rw [HT2.out.1, bs_size, List.length_drop]; omega
        clear hT2 tT hT0 hz hsz
        go_wp2
        go_round
        case rel => exact ⟨T2, k + 1, rfl, HT2⟩
        case measure => simpa [stN] using hs2
      · rw [decide_eq_false hz] at hb
        have HE := Lib.hid (show T = bs (dn (dec l)) by
          rw [HT.out.1, ← HT.out.2.2, dn_of (l := l.drop k) (by have := all_sub HD.out k l.length; rwa [List.take_of_length_le (by rw [List.length_drop]; omega)] at this) (.inr (by rw [List.drop_eq_getElem_cons hk, List.head?_cons]; intro e; exact hz (Option.some.inj e)))])
        clear tT hT0 hz hsz
        go_wp2
        go_ret
        exact ⟨by rw [← HE.out]; rfl, rfl⟩
    · have h0' : ¬ (0 : Int) < (T.size : Int) := by omega
      have HE := Lib.hid (show T = bs (dn (dec l)) by
        rw [HT.out.1, ← HT.out.2.2, List.drop_eq_nil_of_le (by omega)]; rfl)
      clear tT hsz
      go_wp2
      go_ret
      exact ⟨by rw [← HE.out]; rfl, rfl⟩
set_option maxHeartbeats 2000000 in
theorem rLess_any (n m : Nat) (w : World) (hn : (dn n).length ≤ 200) (hm : (dn m).length ≤ 200) : Calls Try.prog 38 #[.string (bs (dn n)), .string (bs (dn m))] w fun e w' => e = .returned (.bool (decide (n < m))) ∧ w = w' := by
  obtain ⟨A, hA⟩ : ∃ T, bs (dn n) = T := ⟨_, rfl⟩
  obtain ⟨B, hB⟩ : ∃ T, bs (dn m) = T := ⟨_, rfl⟩
  have tA : Tx A (dn n) := hA ▸ tx_bs _
  have tB : Tx B (dn m) := hB ▸ tx_bs _
  rw [hA, hB]
  have sA := tA.size
  have sB := tB.size
  by_cases h1 : A.size < B.size
  · have HE := Lib.hid (show decide (n < m) = true from decide_eq_true (dn_short (by omega)))
    have h1' : (A.size : Int) < (B.size : Int) := by omega
    have h1'' : decide ((A.size : Int) < (B.size : Int)) = true := decide_eq_true h1'
    clear tA tB hA hB sA sB
    go_enter Try.func38, Try.ntmps38
    go_wp2
    go_ret
    exact ⟨ret_bool (by rw [HE.out]), rfl⟩
  · have h1' : ¬ (A.size : Int) < (B.size : Int) := by omega
    have h1'' : decide ((A.size : Int) < (B.size : Int)) = false := decide_eq_false h1'
    by_cases h2 : A.size = B.size
    · have h2' : ((A.size : Int) == (B.size : Int)) = true := by simp; omega
      have HE := Lib.hid (show decide (n < m) = Op.bytesLess A.toList B.toList by
        rw [tA.list, tB.list, bl_dec _ _ (dn_all n) (dn_all m) (by omega), dec_dn, dec_dn])
      clear tA tB hA hB sA sB h2
      generalize hq : Op.bytesLess A.toList B.toList = q at *
      go_enter Try.func38, Try.ntmps38
      go_wp2
      go_ret
      exact ⟨ret_bool (by rw [HE.out]), rfl⟩
    · have h2' : ((A.size : Int) == (B.size : Int)) = false := by simp; omega
      have HE := Lib.hid (show decide (n < m) = false from decide_eq_false (by have := dn_short (n := m) (m := n) (by omega); omega))
      clear tA tB hA hB sA sB
      go_enter Try.func38, Try.ntmps38
      go_wp2
      go_ret
      exact ⟨ret_bool (by rw [HE.out]), rfl⟩
set_option maxHeartbeats 2000000 in
theorem rNumber3_any (l : List UInt8) (w : World) (hl : l.length ≤ 7) (hd : l.all dig = true) : Calls Try.prog 22 #[.string (bs l)] w fun e w' => e = .returned (.int .i64 (dec l)) ∧ w = w' := by
  obtain ⟨S, hS⟩ : ∃ T, bs l = T := ⟨_, rfl⟩
  have tS : Tx S l := hS ▸ tx_bs _
  rw [hS]
  have HD := Lib.hid (show S.toList.all dig = true by rw [tS.list]; exact hd)
  have HL := Lib.hid tS.list
  have sS : S.size ≤ 7 := by rw [tS.size]; exact hl
  clear hd hS tS hl
  go_enter Try.func22, Try.ntmps22
  go_wp2
  go_loop [3, 4] (fun x y => ∃ k : Nat, k ≤ S.size ∧ y = .int .i64 k ∧ x = .int .i64 (dec (S.toList.take k))) (fun _ y => S.size - (intOf y).toNat)
  case atStart => exact ⟨0, Nat.zero_le _, rfl, rfl⟩
  case round =>
    obtain ⟨k, hk, rfl, rfl⟩ := hrel
    by_cases hlt : k < S.size
    · have hlt' : (k : Int) < (S.size : Int) := by omega
      obtain ⟨d1, d2⟩ := all_at HD.out hlt
      have HS := Lib.hid (show (dec (S.toList.take (k + 1)) : Int) = (dec (S.toList.take k) : Int) * 10 + (S[k].toNat : Int) - 48 by rw [take_snoc S k hlt, dec_snoc]; omega)
      have hle : dec (S.toList.take k) < 10000000 := by
        have q := all_sub HD.out 0 k
        rw [List.drop_zero] at q
        refine Nat.lt_of_lt_of_le (dec_lt _ q) (Nat.le_trans (Nat.pow_le_pow_right (by omega) (show (S.toList.take k).length ≤ 7 by rw [List.length_take]; omega)) (by decide))
      generalize dec (S.toList.take k) = M at *
      go_wp2
      go_round
      case rel => exact ⟨k + 1, by omega, by go_num, by rw [HS.out]⟩
      case measure => simp [intOf]; omega
    · have hlt' : ¬ (k : Int) < (S.size : Int) := by omega
      have HE := Lib.hid (show dec l = dec (S.toList.take k) by rw [List.take_of_length_le (by rw [bytes_len]; omega), HL.out])
      generalize dec (S.toList.take k) = M at *
      go_wp2
      go_ret
      exact ⟨by rw [HE.out]; rfl, rfl⟩
set_option maxHeartbeats 2000000 in
theorem rDigits_any (l : List UInt8) (w : World) (hl : l.length ≤ 200) : Calls Try.prog 36 #[.string (bs l)] w fun e w' => e = .returned (.int .i64 (ldN l)) ∧ w = w' := by
  obtain ⟨S, hS⟩ : ∃ T, bs l = T := ⟨_, rfl⟩
  have tS : Tx S l := hS ▸ tx_bs _
  rw [hS]
  have sS := tS.size
  have HT := Lib.hid tS
  have hle := ldN_le l
  clear hS tS
  obtain ⟨m, hm⟩ : ∃ m, ldN l = m := ⟨_, rfl⟩
  have HM := Lib.hid hm
  rw [hm] at hle ⊢
  clear hm
  go_enter Try.func36, Try.ntmps36
  go_wp2
  go_loop [3] (fun x => ∃ k : Nat, k ≤ m ∧ x = .int .i64 k) (fun x => S.size - (intOf x).toNat)
  case atStart => exact ⟨0, Nat.zero_le _, rfl⟩
  case round =>
    obtain ⟨k, hk, rfl⟩ := hrel
    by_cases hlt : k < S.size
    · have hlt' : (k : Int) < (S.size : Int) := by omega
      have hSk : S[k] = l[k]'(by omega) := HT.out.at hlt (by omega)
      by_cases hkm : k < m
      · have hd := ldN_dig l k (by rw [HM.out]; exact hkm) (by omega)
        rw [← hSk] at hd
        obtain ⟨d1, d2⟩ := dig_iff.1 hd
        have d1' : decide (48 ≤ (S[k].toNat : Int)) = true := decide_eq_true d1
        have d2' : decide ((S[k].toNat : Int) ≤ 57) = true := decide_eq_true d2
        clear hd hSk
        go_wp2
        go_round
        case rel => exact ⟨k + 1, by omega, by go_num⟩
        case measure => simp [intOf]; omega
      · have hkm' : k = m := by omega
        have hd : dig S[k] = false := by
          rw [hSk]
          have := ldN_stop l (by rw [HM.out]; omega)
          simp only [HM.out, ← hkm'] at this
          exact this
        clear hSk
        by_cases h48 : 48 ≤ (S[k].toNat : Int)
        · have h57 : ¬ (S[k].toNat : Int) ≤ 57 := fun q => by rw [dig_iff.2 ⟨h48, q⟩] at hd; cases hd
          have d1' : decide (48 ≤ (S[k].toNat : Int)) = true := decide_eq_true h48
          have d2' : decide ((S[k].toNat : Int) ≤ 57) = false := decide_eq_false h57
          clear hd
          subst hkm'
          go_wp2
          go_ret
          exact ⟨rfl, rfl⟩
        · have d1' : decide (48 ≤ (S[k].toNat : Int)) = false := decide_eq_false h48
          clear hd
          subst hkm'
          go_wp2
          go_ret
          exact ⟨rfl, rfl⟩
    · have hlt' : ¬ (k : Int) < (S.size : Int) := by omega
      have hkm' : k = m := by omega
      subst hkm'
      go_wp2
      go_ret
      exact ⟨rfl, rfl⟩
end Go.Proofs.Ytlndomnampcnfaa
