/- What num.Parse and the functions that it calls return, for every string. -/
import Derived.Test.YtlndomnampcnfaaStr
import Derived.Test.YtlndomnampcnfaaNumM
namespace Go.Proofs.Ytlndomnampcnfaa
open Go.RowKit
set_option linter.unusedVariables false

set_option maxHeartbeats 400000 in
theorem cut_any (s : ByteArray) (w : World) (hs : s.size ≤ maxLen) :
    Calls Try.prog 14 #[.string s, .string ⟨#[45]⟩] w fun e w' => e = .returned (.tuple #[.string (restOf s), .bool (isNeg s.toList)]) ∧ w = w' := by
  unfold maxLen at hs
  by_cases h0 : 0 < s.size
  · have hx := extract1 h0
    have hh := isNeg_head h0
    cases hc : isNeg s.toList
    · rw [restOf_no hc]
      rw [hc] at hh
      have hb : ((s.extract 0 1).toList == [45]) = false := by rw [hx]; simpa using hh.symm
      clear hx hh hc
      go_enter Try.func14, Try.ntmps14
      go_wp2
      go_ret2
      exact ⟨rfl, rfl⟩
    · rw [restOf_yes hc]
      rw [hc] at hh
      have hb : ((s.extract 0 1).toList == [45]) = true := by rw [hx]; simpa using hh.symm
      clear hx hh hc
      go_enter Try.func14, Try.ntmps14
      go_wp2
      go_ret2
      exact ⟨rfl, rfl⟩
  · have hc := isNeg_nil h0
    rw [restOf_no hc, hc]
    clear hc
    go_enter Try.func14, Try.ntmps14
    go_wp2
    go_ret2
    exact ⟨rfl, rfl⟩

theorem fit_sgn_no {neg : Bool} {n : Nat} (h : fits (sgn neg n) = false) : fit (sgn neg n) = 0 := by unfold fit; rw [h]; rfl
theorem fit_sgn_yes {neg : Bool} {n : Nat} (h : fits (sgn neg n) = true) : fit (sgn neg n) = sgn neg n := by unfold fit; rw [h]; rfl

end Go.Proofs.Ytlndomnampcnfaa
