/- What symMergeCmpFunc of package slices does, the third case, all. -/
import Derived.Test.YtmehihfdfpnfjaaSpI
import Derived.Test.YtmehihfdfpnfjaaSpJ
namespace Go.Proofs.Ytmehihfdfpnfjaa
open Go.RowKit Go.Sort
set_option linter.unusedVariables false
set_option linter.unusedSimpArgs false

/-- the merge. -/
theorem symMerge_any (P N c : Nat) (r : Nat → Int) (hN : N ≤ 200) (hc : N ≤ c) : ∀ d, RecH P N c r d := by
  intro d
  induction d with
  | zero => intro τ a m b W h; omega
  | succ d ih =>
    intro τ a m b W h ham hmb hbN ht hp
    by_cases h1 : m = a + 1
    · exact merge_a P N c r τ a m b W hN hc ham hmb hbN h1 ht hp
    · by_cases h2 : b = m + 1
      · exact merge_b P N c r τ a m b W hN hc ham hmb hbN h1 h2 ht hp
      · have hr : RecH P N c r (b - a) := fun τ' a' m' b' W' h' => ih τ' a' m' b' W' (by omega)
        by_cases h3 : (a + b) / 2 < m
        · exact merge_c1 P N c r τ a m b ((a + b) / 2) ((a + b) / 2 + m) W hN hc ham hmb hbN h1 h2 (by omega) (by omega) (by omega) ((a + b) / 2 + m - b) (by omega) ht hp hr
        · exact merge_c2 P N c r τ a m b ((a + b) / 2) ((a + b) / 2 + m) W hN hc ham hmb hbN h1 h2 (by omega) (by omega) (by omega) ht hp hr
end Go.Proofs.Ytmehihfdfpnfjaa
