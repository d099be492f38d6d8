/- What num.Parse returns, for every string and every range. -/
import Derived.Test.YtlndomnampcnfaaNumP
namespace Go.Proofs.Ytlndomnampcnfaa
open Go.RowKit
set_option linter.unusedVariables false

theorem cut_is (s d : ByteArray) (neg : Bool) (w : World) (hs : s.size ≤ maxLen) (hd : restOf s = d) (hn : isNeg s.toList = neg) :
    Calls Try.prog 14 #[.string s, .string ⟨#[45]⟩] w fun e w' => e = .returned (.tuple #[.string d, .bool neg]) ∧ w = w' := by
  subst hd hn; exact cut_any s w hs

end Go.Proofs.Ytlndomnampcnfaa
