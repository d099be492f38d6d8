/- What mix of package chain and grow of package accountingref14 return. -/
import Derived.Test.YtacgjfgiikbjiaaRow1
namespace Go.Proofs.Ytacgjfgiikbjiaa
open Go.RowKit
set_option linter.unusedVariables false
set_option linter.unusedSimpArgs false

/-- the checksum after one more byte. -/
def grw (h : Int) (b : UInt8) : Int := IntKind.u64.wrap (bits .xor .u64 h (b.toNat : Int) * 1099511628211)
def mixL (h : Int) (l : List UInt8) : Int := l.foldl grw h
theorem wrapU8 (x : UInt8) : IntKind.u64.wrap (x.toNat : Int) = (x.toNat : Int) := by
  have := x.toNat_lt; rw [IntKind.wrap_u64]; omega
theorem mixL_take {h : Int} {l : List UInt8} {j : Nat} (hj : j < l.length) : mixL h (l.take (j + 1)) = grw (mixL h (l.take j)) l[j] := by
  unfold mixL; rw [List.take_succ_eq_append_getElem hj, List.foldl_append]; rfl
set_option maxHeartbeats 400000 in
theorem mix_any (h : Int) (ao : Option Addr) (c : Nat) (l : List UInt8) (w : World) (hR : RowB w ao l) (hl : l.length ≤ 1000000) :
    Calls Try.prog 29 #[.int .u64 h, .slice ao l.length c] w fun e w' => e = .returned (.int .u64 (mixL h l)) ∧ w = w' := by
  have HR := Lib.hid hR
  clear hR
  go_enter Try.func29, Try.ntmps29
  go_wp2
  go_loop [0, 9] (fun v i => ∃ j : Nat, j ≤ l.length ∧ i = .int .i64 (j : Int) ∧ v = .int .u64 (mixL h (l.take j))) (fun _ i => l.length - (intOf i).toNat)
  case atStart => exact ⟨0, by omega, by go_num, by simp [mixL]⟩
  case round =>
    obtain ⟨j, hj, rfl, rfl⟩ := hrel
    by_cases k : j < l.length
    · have hi : (j : Int) < (l.length : Int) := by omega
      obtain ⟨b, off, rfl, hb, hc⟩ := HR.out.at j k
      have HM := Lib.hid (mixL_take (h := h) k)
      generalize l[j] = x at *
      generalize mixL h (l.take j) = y at *
      go_wp2
      go_round
      case rel => exact ⟨j + 1, by omega, by go_num, by rw [HM.out]; unfold grw; rw [wrapU8]⟩
      case measure => simp [intOf]; omega
    · have hi : ¬ (j : Int) < (l.length : Int) := by omega
      have e : l.take j = l := List.take_of_length_le (by omega)
      rw [e]
      clear e
      go_wp2
      go_ret
      exact ⟨rfl, rfl⟩
theorem grow_any (h : Int) (b : UInt8) (w : World) :
    Calls Try.prog 30 #[.int .u64 h, .int .u8 (b.toNat : Int)] w fun e w' => e = .returned (.int .u64 (grw h b)) ∧ w = w' := by
  go_enter Try.func30, Try.ntmps30
  go_wp2
  go_ret
  exact ⟨by unfold grw; rw [wrapU8]; rfl, rfl⟩
end Go.Proofs.Ytacgjfgiikbjiaa
