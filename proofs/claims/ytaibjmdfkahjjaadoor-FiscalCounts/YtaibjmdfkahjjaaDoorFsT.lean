/- What readDigits, Text and Parse of package fiscal return, and digit, Text and Parse of package accountingref05. -/
import Derived.Test.YtaibjmdfkahjjaaDoorFsA
import Derived.Test.YtaibjmdfkahjjaaDoorDyJ
import Derived.Laws.ResultCell
import Derived.Lib.QuietBelow
import Derived.Deep.RegionWith
namespace Go.Proofs.YtaibjmdfkahjjaaDoor
open Go.RowKit Go.Sort
set_option linter.unusedVariables false

set_option maxHeartbeats 400000 in
theorem fReadDigits_any (s : ByteArray) (w : World) (hs : s.size ≤ 4) :
    Calls Tryd.prog 46 #[.string s] w fun e w' => e = .returned (.tuple #[.int .i64 (rdV s), .bool (rdO s)]) ∧ w = w' := by
  go_enter Tryd.func46, Tryd.ntmps46
  go_wp2
  go_loop [2, 7] (fun z i => ∃ k : Nat, k ≤ s.size ∧ i = .int .i64 k ∧ Hid ((s.toList.take k).all dig = true) ∧ z = .int .i64 (dec (s.toList.take k) : Nat)) (fun _ i => s.size - (intOf i).toNat)
  case atStart => exact ⟨0, Nat.zero_le _, rfl, Lib.hid rfl, rfl⟩
  case round =>
    obtain ⟨k, hk, rfl, HA, rfl⟩ := hrel
    have hb : dec (s.toList.take k) ≤ 9999 := by
      have := dec_small (l := s.toList.take k) HA.out (by rw [List.length_take, bytes_len]; omega) k
      rwa [List.take_take, Nat.min_self] at this
    by_cases hlt : k < s.size
    · by_cases hd : (s[k].toNat : Int) < 48
      · have hd' : decide ((s[k].toNat : Int) < 48) = true := by simpa using hd
        have HR := Lib.hid (show rdO s = false from all_bad hlt (dig_no (.inl hd)))
        generalize dec (s.toList.take k) = D at *
        go_wp2
        go_ret2
        exact ⟨by unfold rdV; rw [HR.out]; rfl, rfl⟩
      · have hd' : decide ((s[k].toNat : Int) < 48) = false := by simpa using hd
        by_cases he : 57 < (s[k].toNat : Int)
        · have he' : decide (57 < (s[k].toNat : Int)) = true := by simpa using he
          have HR := Lib.hid (show rdO s = false from all_bad hlt (dig_no (.inr he)))
          generalize dec (s.toList.take k) = D at *
          go_wp2
          go_ret2
          exact ⟨by unfold rdV; rw [HR.out]; rfl, rfl⟩
        · have he' : decide (57 < (s[k].toNat : Int)) = false := by simpa using he
          have HS := Lib.hid (show (dec (s.toList.take (k + 1)) : Int) = (dec (s.toList.take k) : Int) * 10 + ((s[k].toNat : Int) - 48) by rw [take_snoc s k hlt, dec_snoc]; omega)
          have HA2 := Lib.hid (show (s.toList.take (k + 1)).all dig = true by rw [take_snoc s k hlt, List.all_append, HA.out]; simp [dig_yes (c := s[k]) (by omega) (by omega)])
          generalize dec (s.toList.take k) = D at *
          go_wp2
          go_round
          case rel => exact ⟨k + 1, by omega, by go_num, HA2, by rw [HS.out]⟩
          case measure => simp [intOf]; omega
    · have HT := Lib.hid (val_all hlt)
      have HA2 := Lib.hid (show rdO s = true by have := HA.out; rwa [HT.out] at this)
      have HE := Lib.hid (show dec (s.toList.take k) = dec s.toList by rw [HT.out])
      generalize dec (s.toList.take k) = D at *
      go_wp2
      go_ret2
      exact ⟨by unfold rdV; rw [HA2.out, HE.out]; rfl, rfl⟩


set_option maxHeartbeats 400000 in
theorem rDigit_any (c : UInt8) (w : World) : Calls Tryd.prog 47 #[.int .u8 (c.toNat : Int)] w fun e w' => e = .returned (.int .i64 (if dig c then (c.toNat : Int) - 48 else -1)) ∧ w = w' := by
  have hc : c.toNat < 256 := c.toNat_lt
  by_cases h1 : (c.toNat : Int) < 48
  · rw [dig_no (.inl h1)]
    go_enter Tryd.func47, Tryd.ntmps47
    go_wp2
    go_ret
    exact ⟨rfl, rfl⟩
  by_cases h2 : 57 < (c.toNat : Int)
  · rw [dig_no (.inr h2)]
    go_enter Tryd.func47, Tryd.ntmps47
    go_wp2
    go_ret
    exact ⟨rfl, rfl⟩
  · rw [dig_yes (by omega) (by omega)]
    go_enter Tryd.func47, Tryd.ntmps47
    go_wp2
    go_ret
    exact ⟨rfl, rfl⟩
end Go.Proofs.YtaibjmdfkahjjaaDoor
