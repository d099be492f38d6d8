/-
  No cell of these rows narrows 'for every input' (looked for: loops, veiled, ifaces, maps, wideKeys, modest, calm, conditions, laid).
  DERIVED. THE GIVEN ROWS OF THIS SEAT. 12 by the template 'for every input the law returns true; each argument reads behind the call as it read before'; 0 by the template 'total and deterministic' (their statements: YtbmggfeneieglaaTotals.lean).
  GIVEN WITH THE SEED: the statements are not yours to turn. If you find one false, say at which input.
  Laid BY PROGRAM, IN A SANDBOX (cutbox-rows.mjs): the forced cells as the released guide's own fill.sh prints them over the translation 8ed2a6f5e22bb382… (all of the seat's roots in one cut). By AI agents, Wed Nov 11 2026. No macro, syntax, notation, axiom, sorry.
-/
import Derived.Test.YtbmggfeneieglaaChecked
import GoSem.Claim
import GoSem.ClaimJoined
import GoSem.ClaimMapViews
import Derived.JoinedTies
import Derived.KernelRfl
namespace Go.Proofs.Ytbmggfeneieglaa
/- THE CELL 'sum', in the pinned program and in every row, IS THE sha256 OF THE DUMP (.gsa) THAT YtbmggfeneieglaaProg.lean LOADS. Nothing in Lean hashes anything: it is a label: what it is worth is what the hold of that sum in a sandbox is worth. -/
noncomputable def Try.pinned : Pinned := { name := "ytbmggfeneieglaa", sum := "8ed2a6f5e22bb3827f366eb4f59fe5cf806ba313e6cecfd5316ec6143f43eee0", checked := Try.checked }
namespace Rows
def none {H : Type} : Left H := { results := [], args := [] }

/-- 'accountinglaw01.NumAdds': WHATEVER THE INPUT: true; the input reads as it did. -/
def numAddsSpec : ChangeSpec := { name := "numAdds", fn := fun _ => fun
  | [d1, d2] => { results := [.lit (.bool true)], args := [d1, d2] }
  | _ => none }
def numAddsRow : OpenClaim := { program := "ytbmggfeneieglaa", sum := "8ed2a6f5e22bb3827f366eb4f59fe5cf806ba313e6cecfd5316ec6143f43eee0", func := "accounting/accountinglaw01.NumAdds", spec := "numAdds", apart := false }
def NumAddsSaid : Prop := numAddsRow.holds Try.pinned (OpenSpec.ofChange numAddsSpec)

/-- ITS FALSE NEIGHBOUR: 'it returns false'. Refute it at one input. -/
def numAddsWrong : ChangeSpec := { name := "numAdds", fn := fun _ => fun
  | [d1, d2] => { results := [.lit (.bool false)], args := [d1, d2] }
  | _ => none }
def NumAddsWrongFalsely : Prop := numAddsRow.holds Try.pinned (OpenSpec.ofChange numAddsWrong)

/-- 'accountinglaw01.NumTimes': WHATEVER THE INPUT: true; the input reads as it did. -/
def numTimesSpec : ChangeSpec := { name := "numTimes", fn := fun _ => fun
  | [d1, d2] => { results := [.lit (.bool true)], args := [d1, d2] }
  | _ => none }
def numTimesRow : OpenClaim := { program := "ytbmggfeneieglaa", sum := "8ed2a6f5e22bb3827f366eb4f59fe5cf806ba313e6cecfd5316ec6143f43eee0", func := "accounting/accountinglaw01.NumTimes", spec := "numTimes", apart := false }
def NumTimesSaid : Prop := numTimesRow.holds Try.pinned (OpenSpec.ofChange numTimesSpec)

/-- ITS FALSE NEIGHBOUR: 'it returns false'. Refute it at one input. -/
def numTimesWrong : ChangeSpec := { name := "numTimes", fn := fun _ => fun
  | [d1, d2] => { results := [.lit (.bool false)], args := [d1, d2] }
  | _ => none }
def NumTimesWrongFalsely : Prop := numTimesRow.holds Try.pinned (OpenSpec.ofChange numTimesWrong)

/-- 'accountinglaw01.NumInverse': WHATEVER THE INPUT: true; the input reads as it did. -/
def numInverseSpec : ChangeSpec := { name := "numInverse", fn := fun _ => fun
  | [d1, d2] => { results := [.lit (.bool true)], args := [d1, d2] }
  | _ => none }
def numInverseRow : OpenClaim := { program := "ytbmggfeneieglaa", sum := "8ed2a6f5e22bb3827f366eb4f59fe5cf806ba313e6cecfd5316ec6143f43eee0", func := "accounting/accountinglaw01.NumInverse", spec := "numInverse", apart := false }
def NumInverseSaid : Prop := numInverseRow.holds Try.pinned (OpenSpec.ofChange numInverseSpec)

/-- ITS FALSE NEIGHBOUR: 'it returns false'. Refute it at one input. -/
def numInverseWrong : ChangeSpec := { name := "numInverse", fn := fun _ => fun
  | [d1, d2] => { results := [.lit (.bool false)], args := [d1, d2] }
  | _ => none }
def NumInverseWrongFalsely : Prop := numInverseRow.holds Try.pinned (OpenSpec.ofChange numInverseWrong)

/-- 'accountinglaw01.NumSums': WHATEVER THE INPUT: true; the input reads as it did. -/
def numSumsSpec : ChangeSpec := { name := "numSums", fn := fun _ => fun
  | [d] => { results := [.lit (.bool true)], args := [d] }
  | _ => none }
def numSumsRow : OpenClaim := { program := "ytbmggfeneieglaa", sum := "8ed2a6f5e22bb3827f366eb4f59fe5cf806ba313e6cecfd5316ec6143f43eee0", func := "accounting/accountinglaw01.NumSums", spec := "numSums", apart := false }
def NumSumsSaid : Prop := numSumsRow.holds Try.pinned (OpenSpec.ofChange numSumsSpec)

/-- ITS FALSE NEIGHBOUR: 'it returns false'. Refute it at one input. -/
def numSumsWrong : ChangeSpec := { name := "numSums", fn := fun _ => fun
  | [d] => { results := [.lit (.bool false)], args := [d] }
  | _ => none }
def NumSumsWrongFalsely : Prop := numSumsRow.holds Try.pinned (OpenSpec.ofChange numSumsWrong)

/-- 'accountinglaw01.NumOrder': WHATEVER THE INPUT: true; the input reads as it did. -/
def numOrderSpec : ChangeSpec := { name := "numOrder", fn := fun _ => fun
  | [d] => { results := [.lit (.bool true)], args := [d] }
  | _ => none }
def numOrderRow : OpenClaim := { program := "ytbmggfeneieglaa", sum := "8ed2a6f5e22bb3827f366eb4f59fe5cf806ba313e6cecfd5316ec6143f43eee0", func := "accounting/accountinglaw01.NumOrder", spec := "numOrder", apart := false }
def NumOrderSaid : Prop := numOrderRow.holds Try.pinned (OpenSpec.ofChange numOrderSpec)

/-- ITS FALSE NEIGHBOUR: 'it returns false'. Refute it at one input. -/
def numOrderWrong : ChangeSpec := { name := "numOrder", fn := fun _ => fun
  | [d] => { results := [.lit (.bool false)], args := [d] }
  | _ => none }
def NumOrderWrongFalsely : Prop := numOrderRow.holds Try.pinned (OpenSpec.ofChange numOrderWrong)

/-- 'accountinglaw01.NumNear': WHATEVER THE INPUT: true; the input reads as it did. -/
def numNearSpec : ChangeSpec := { name := "numNear", fn := fun _ => fun
  | [d1, d2, d3] => { results := [.lit (.bool true)], args := [d1, d2, d3] }
  | _ => none }
def numNearRow : OpenClaim := { program := "ytbmggfeneieglaa", sum := "8ed2a6f5e22bb3827f366eb4f59fe5cf806ba313e6cecfd5316ec6143f43eee0", func := "accounting/accountinglaw01.NumNear", spec := "numNear", apart := false }
def NumNearSaid : Prop := numNearRow.holds Try.pinned (OpenSpec.ofChange numNearSpec)

/-- ITS FALSE NEIGHBOUR: 'it returns false'. Refute it at one input. -/
def numNearWrong : ChangeSpec := { name := "numNear", fn := fun _ => fun
  | [d1, d2, d3] => { results := [.lit (.bool false)], args := [d1, d2, d3] }
  | _ => none }
def NumNearWrongFalsely : Prop := numNearRow.holds Try.pinned (OpenSpec.ofChange numNearWrong)

/-- 'accountinglaw01.NumTexts': WHATEVER THE INPUT: true; the input reads as it did. -/
def numTextsSpec : ChangeSpec := { name := "numTexts", fn := fun _ => fun
  | [d] => { results := [.lit (.bool true)], args := [d] }
  | _ => none }
def numTextsRow : OpenClaim := { program := "ytbmggfeneieglaa", sum := "8ed2a6f5e22bb3827f366eb4f59fe5cf806ba313e6cecfd5316ec6143f43eee0", func := "accounting/accountinglaw01.NumTexts", spec := "numTexts", apart := false }
def NumTextsSaid : Prop := numTextsRow.holds Try.pinned (OpenSpec.ofChange numTextsSpec)

/-- ITS FALSE NEIGHBOUR: 'it returns false'. Refute it at one input. -/
def numTextsWrong : ChangeSpec := { name := "numTexts", fn := fun _ => fun
  | [d] => { results := [.lit (.bool false)], args := [d] }
  | _ => none }
def NumTextsWrongFalsely : Prop := numTextsRow.holds Try.pinned (OpenSpec.ofChange numTextsWrong)

/-- 'accountinglaw01.NumParses': WHATEVER THE INPUT: true; the input reads as it did. -/
def numParsesSpec : ChangeSpec := { name := "numParses", fn := fun _ => fun
  | [d1, d2, d3] => { results := [.lit (.bool true)], args := [d1, d2, d3] }
  | _ => none }
def numParsesRow : OpenClaim := { program := "ytbmggfeneieglaa", sum := "8ed2a6f5e22bb3827f366eb4f59fe5cf806ba313e6cecfd5316ec6143f43eee0", func := "accounting/accountinglaw01.NumParses", spec := "numParses", apart := false }
def NumParsesSaid : Prop := numParsesRow.holds Try.pinned (OpenSpec.ofChange numParsesSpec)

/-- ITS FALSE NEIGHBOUR: 'it returns false'. Refute it at one input. -/
def numParsesWrong : ChangeSpec := { name := "numParses", fn := fun _ => fun
  | [d1, d2, d3] => { results := [.lit (.bool false)], args := [d1, d2, d3] }
  | _ => none }
def NumParsesWrongFalsely : Prop := numParsesRow.holds Try.pinned (OpenSpec.ofChange numParsesWrong)

/-- 'accountinglaw02.MuldivReference': WHATEVER THE INPUT: true; the input reads as it did. -/
def muldivReferenceSpec : ChangeSpec := { name := "muldivReference", fn := fun _ => fun
  | [d] => { results := [.lit (.bool true)], args := [d] }
  | _ => none }
def muldivReferenceRow : OpenClaim := { program := "ytbmggfeneieglaa", sum := "8ed2a6f5e22bb3827f366eb4f59fe5cf806ba313e6cecfd5316ec6143f43eee0", func := "accounting/accountinglaw02.MuldivReference", spec := "muldivReference", named := ["math/bits.divideError", "math/bits.overflowError"], apart := false }
def MuldivReferenceSaid : Prop := muldivReferenceRow.holds Try.pinned (OpenSpec.ofChange muldivReferenceSpec)

/-- ITS FALSE NEIGHBOUR: 'it returns false'. Refute it at one input. -/
def muldivReferenceWrong : ChangeSpec := { name := "muldivReference", fn := fun _ => fun
  | [d] => { results := [.lit (.bool false)], args := [d] }
  | _ => none }
def MuldivReferenceWrongFalsely : Prop := muldivReferenceRow.holds Try.pinned (OpenSpec.ofChange muldivReferenceWrong)

/-- 'accountinglaw02.MuldivCompares': WHATEVER THE INPUT: true; the input reads as it did. -/
def muldivComparesSpec : ChangeSpec := { name := "muldivCompares", fn := fun _ => fun
  | [d] => { results := [.lit (.bool true)], args := [d] }
  | _ => none }
def muldivComparesRow : OpenClaim := { program := "ytbmggfeneieglaa", sum := "8ed2a6f5e22bb3827f366eb4f59fe5cf806ba313e6cecfd5316ec6143f43eee0", func := "accounting/accountinglaw02.MuldivCompares", spec := "muldivCompares", named := ["math/bits.divideError", "math/bits.overflowError"], apart := false }
def MuldivComparesSaid : Prop := muldivComparesRow.holds Try.pinned (OpenSpec.ofChange muldivComparesSpec)

/-- ITS FALSE NEIGHBOUR: 'it returns false'. Refute it at one input. -/
def muldivComparesWrong : ChangeSpec := { name := "muldivCompares", fn := fun _ => fun
  | [d] => { results := [.lit (.bool false)], args := [d] }
  | _ => none }
def MuldivComparesWrongFalsely : Prop := muldivComparesRow.holds Try.pinned (OpenSpec.ofChange muldivComparesWrong)

/-- 'accountinglaw02.MuldivDivides': WHATEVER THE INPUT: true; the input reads as it did. -/
def muldivDividesSpec : ChangeSpec := { name := "muldivDivides", fn := fun _ => fun
  | [d1, d2, d3] => { results := [.lit (.bool true)], args := [d1, d2, d3] }
  | _ => none }
def muldivDividesRow : OpenClaim := { program := "ytbmggfeneieglaa", sum := "8ed2a6f5e22bb3827f366eb4f59fe5cf806ba313e6cecfd5316ec6143f43eee0", func := "accounting/accountinglaw02.MuldivDivides", spec := "muldivDivides", named := ["math/bits.divideError", "math/bits.overflowError"], apart := false }
def MuldivDividesSaid : Prop := muldivDividesRow.holds Try.pinned (OpenSpec.ofChange muldivDividesSpec)

/-- ITS FALSE NEIGHBOUR: 'it returns false'. Refute it at one input. -/
def muldivDividesWrong : ChangeSpec := { name := "muldivDivides", fn := fun _ => fun
  | [d1, d2, d3] => { results := [.lit (.bool false)], args := [d1, d2, d3] }
  | _ => none }
def MuldivDividesWrongFalsely : Prop := muldivDividesRow.holds Try.pinned (OpenSpec.ofChange muldivDividesWrong)

/-- 'accountinglaw02.MuldivModes': WHATEVER THE INPUT: true; the input reads as it did. -/
def muldivModesSpec : ChangeSpec := { name := "muldivModes", fn := fun _ => fun
  | [d1, d2, d3] => { results := [.lit (.bool true)], args := [d1, d2, d3] }
  | _ => none }
def muldivModesRow : OpenClaim := { program := "ytbmggfeneieglaa", sum := "8ed2a6f5e22bb3827f366eb4f59fe5cf806ba313e6cecfd5316ec6143f43eee0", func := "accounting/accountinglaw02.MuldivModes", spec := "muldivModes", named := ["math/bits.divideError", "math/bits.overflowError"], apart := false }
def MuldivModesSaid : Prop := muldivModesRow.holds Try.pinned (OpenSpec.ofChange muldivModesSpec)

/-- ITS FALSE NEIGHBOUR: 'it returns false'. Refute it at one input. -/
def muldivModesWrong : ChangeSpec := { name := "muldivModes", fn := fun _ => fun
  | [d1, d2, d3] => { results := [.lit (.bool false)], args := [d1, d2, d3] }
  | _ => none }
def MuldivModesWrongFalsely : Prop := muldivModesRow.holds Try.pinned (OpenSpec.ofChange muldivModesWrong)

/- THE SECOND FORM. 'bulk': how many values and letters a reading holds, each counted each time it is reached (what is shared counts as often as it is met; a slice's spare places count too). A statement '..UptoSaid' is the law's where the arguments, and the package variables that the reading takes, are together of bulk at most 1048576: NARROWER than '..Said'. Prove '..Said' where nothing that the law and all that it calls make is longer than what came in: it says more and counts as full. Else prove '..UptoSaid'. A law counts once. -/
mutual
def uptoBulk {H : Type} : DataW H → Nat
  | .lit (.string bytes) => bytes.length + 1
  | .lit _ => 1
  | .nil => 1
  | .ptr d => uptoBulk d + 1
  | .slice elems spare => uptoBulkAll elems + uptoBulkAll spare + 1
  | .agg parts => uptoBulkAll parts + 1
  | .iface _ d => uptoBulk d + 1
  | .map entries => uptoBulkEntries entries + 1
  | .held _ => 1
def uptoBulkAll {H : Type} : List (DataW H) → Nat
  | [] => 0
  | d :: r => uptoBulk d + uptoBulkAll r
def uptoBulkEntries {H : Type} : List (Lit × DataW H) → Nat
  | [] => 0
  | x :: r => uptoBulkEntry x + uptoBulkEntries r
def uptoBulkEntry {H : Type} : Lit × DataW H → Nat
  | (.string bytes, d) => bytes.length + uptoBulk d + 1
  | (_, d) => uptoBulk d + 1
 end
def uptoSmall : (H : Type) → List (DataW H) → Bool := fun _ ds => decide (uptoBulkAll ds ≤ 1048576)
def OpenSpec.upto (s : _root_.Go.ChangeSpec) : _root_.Go.OpenSpec := { _root_.Go.OpenSpec.ofChange s with cond := some uptoSmall }

/-- 'accountinglaw01.NumAdds', WHERE WHAT IT READS IS OF BULK AT MOST 1048576: true; the input reads as it did. -/
def numAddsUptoRow : OpenClaim := { program := "ytbmggfeneieglaa", sum := "8ed2a6f5e22bb3827f366eb4f59fe5cf806ba313e6cecfd5316ec6143f43eee0", func := "accounting/accountinglaw01.NumAdds", spec := "numAdds", apart := false, narrowed := true }
def NumAddsUptoSaid : Prop := numAddsUptoRow.holds Try.pinned (OpenSpec.upto numAddsSpec)

/-- 'accountinglaw01.NumTimes', WHERE WHAT IT READS IS OF BULK AT MOST 1048576: true; the input reads as it did. -/
def numTimesUptoRow : OpenClaim := { program := "ytbmggfeneieglaa", sum := "8ed2a6f5e22bb3827f366eb4f59fe5cf806ba313e6cecfd5316ec6143f43eee0", func := "accounting/accountinglaw01.NumTimes", spec := "numTimes", apart := false, narrowed := true }
def NumTimesUptoSaid : Prop := numTimesUptoRow.holds Try.pinned (OpenSpec.upto numTimesSpec)

/-- 'accountinglaw01.NumInverse', WHERE WHAT IT READS IS OF BULK AT MOST 1048576: true; the input reads as it did. -/
def numInverseUptoRow : OpenClaim := { program := "ytbmggfeneieglaa", sum := "8ed2a6f5e22bb3827f366eb4f59fe5cf806ba313e6cecfd5316ec6143f43eee0", func := "accounting/accountinglaw01.NumInverse", spec := "numInverse", apart := false, narrowed := true }
def NumInverseUptoSaid : Prop := numInverseUptoRow.holds Try.pinned (OpenSpec.upto numInverseSpec)

/-- 'accountinglaw01.NumSums', WHERE WHAT IT READS IS OF BULK AT MOST 1048576: true; the input reads as it did. -/
def numSumsUptoRow : OpenClaim := { program := "ytbmggfeneieglaa", sum := "8ed2a6f5e22bb3827f366eb4f59fe5cf806ba313e6cecfd5316ec6143f43eee0", func := "accounting/accountinglaw01.NumSums", spec := "numSums", apart := false, narrowed := true }
def NumSumsUptoSaid : Prop := numSumsUptoRow.holds Try.pinned (OpenSpec.upto numSumsSpec)

/-- 'accountinglaw01.NumOrder', WHERE WHAT IT READS IS OF BULK AT MOST 1048576: true; the input reads as it did. -/
def numOrderUptoRow : OpenClaim := { program := "ytbmggfeneieglaa", sum := "8ed2a6f5e22bb3827f366eb4f59fe5cf806ba313e6cecfd5316ec6143f43eee0", func := "accounting/accountinglaw01.NumOrder", spec := "numOrder", apart := false, narrowed := true }
def NumOrderUptoSaid : Prop := numOrderUptoRow.holds Try.pinned (OpenSpec.upto numOrderSpec)

/-- 'accountinglaw01.NumNear', WHERE WHAT IT READS IS OF BULK AT MOST 1048576: true; the input reads as it did. -/
def numNearUptoRow : OpenClaim := { program := "ytbmggfeneieglaa", sum := "8ed2a6f5e22bb3827f366eb4f59fe5cf806ba313e6cecfd5316ec6143f43eee0", func := "accounting/accountinglaw01.NumNear", spec := "numNear", apart := false, narrowed := true }
def NumNearUptoSaid : Prop := numNearUptoRow.holds Try.pinned (OpenSpec.upto numNearSpec)

/-- 'accountinglaw01.NumTexts', WHERE WHAT IT READS IS OF BULK AT MOST 1048576: true; the input reads as it did. -/
def numTextsUptoRow : OpenClaim := { program := "ytbmggfeneieglaa", sum := "8ed2a6f5e22bb3827f366eb4f59fe5cf806ba313e6cecfd5316ec6143f43eee0", func := "accounting/accountinglaw01.NumTexts", spec := "numTexts", apart := false, narrowed := true }
def NumTextsUptoSaid : Prop := numTextsUptoRow.holds Try.pinned (OpenSpec.upto numTextsSpec)

/-- 'accountinglaw01.NumParses', WHERE WHAT IT READS IS OF BULK AT MOST 1048576: true; the input reads as it did. -/
def numParsesUptoRow : OpenClaim := { program := "ytbmggfeneieglaa", sum := "8ed2a6f5e22bb3827f366eb4f59fe5cf806ba313e6cecfd5316ec6143f43eee0", func := "accounting/accountinglaw01.NumParses", spec := "numParses", apart := false, narrowed := true }
def NumParsesUptoSaid : Prop := numParsesUptoRow.holds Try.pinned (OpenSpec.upto numParsesSpec)

/-- 'accountinglaw02.MuldivReference', WHERE WHAT IT READS IS OF BULK AT MOST 1048576: true; the input reads as it did. -/
def muldivReferenceUptoRow : OpenClaim := { program := "ytbmggfeneieglaa", sum := "8ed2a6f5e22bb3827f366eb4f59fe5cf806ba313e6cecfd5316ec6143f43eee0", func := "accounting/accountinglaw02.MuldivReference", spec := "muldivReference", named := ["math/bits.divideError", "math/bits.overflowError"], apart := false, narrowed := true }
def MuldivReferenceUptoSaid : Prop := muldivReferenceUptoRow.holds Try.pinned (OpenSpec.upto muldivReferenceSpec)

/-- 'accountinglaw02.MuldivCompares', WHERE WHAT IT READS IS OF BULK AT MOST 1048576: true; the input reads as it did. -/
def muldivComparesUptoRow : OpenClaim := { program := "ytbmggfeneieglaa", sum := "8ed2a6f5e22bb3827f366eb4f59fe5cf806ba313e6cecfd5316ec6143f43eee0", func := "accounting/accountinglaw02.MuldivCompares", spec := "muldivCompares", named := ["math/bits.divideError", "math/bits.overflowError"], apart := false, narrowed := true }
def MuldivComparesUptoSaid : Prop := muldivComparesUptoRow.holds Try.pinned (OpenSpec.upto muldivComparesSpec)

/-- 'accountinglaw02.MuldivDivides', WHERE WHAT IT READS IS OF BULK AT MOST 1048576: true; the input reads as it did. -/
def muldivDividesUptoRow : OpenClaim := { program := "ytbmggfeneieglaa", sum := "8ed2a6f5e22bb3827f366eb4f59fe5cf806ba313e6cecfd5316ec6143f43eee0", func := "accounting/accountinglaw02.MuldivDivides", spec := "muldivDivides", named := ["math/bits.divideError", "math/bits.overflowError"], apart := false, narrowed := true }
def MuldivDividesUptoSaid : Prop := muldivDividesUptoRow.holds Try.pinned (OpenSpec.upto muldivDividesSpec)

/-- 'accountinglaw02.MuldivModes', WHERE WHAT IT READS IS OF BULK AT MOST 1048576: true; the input reads as it did. -/
def muldivModesUptoRow : OpenClaim := { program := "ytbmggfeneieglaa", sum := "8ed2a6f5e22bb3827f366eb4f59fe5cf806ba313e6cecfd5316ec6143f43eee0", func := "accounting/accountinglaw02.MuldivModes", spec := "muldivModes", named := ["math/bits.divideError", "math/bits.overflowError"], apart := false, narrowed := true }
def MuldivModesUptoSaid : Prop := muldivModesUptoRow.holds Try.pinned (OpenSpec.upto muldivModesSpec)

end Rows
end Go.Proofs.Ytbmggfeneieglaa
