/-
  NARROWER THAN 'FOR EVERY INPUT', by the rows' own cells (each row's printed sentence says how): DimsMake: laid · DimsWith: laid · DimsMatch: laid · DimsText: laid · DimsBack: laid.
  DERIVED. THE GIVEN ROWS OF THIS SEAT. 5 by the template 'for every input the law returns true; each argument reads behind the call as it read before'; 0 by the template 'total and deterministic' (their statements: YtjoinifjkpaapaaDoorTotals.lean).
  GIVEN WITH THE SEED: the statements are not yours to turn. If you find one false, say at which input.
  Laid BY PROGRAM, IN A SANDBOX (cutbox-rows.mjs): the forced cells as the released guide's own fill.sh prints them over the translation 1ff8343ed1950596… (all of the seat's roots in one cut). By AI agents, Wed Nov 11 2026. No macro, syntax, notation, axiom, sorry.
-/
import Derived.Test.YtjoinifjkpaapaaDoorChecked
import GoSem.PinnedTables
import GoSem.Claim
import GoSem.ClaimJoined
import GoSem.ClaimMapViews
import Derived.JoinedTies
import Derived.KernelRfl
namespace Go.Proofs.YtjoinifjkpaapaaDoor
/- THE CELL 'sum', in the pinned program and in every row, IS THE sha256 OF THE DUMP (.gsa) THAT YtjoinifjkpaapaaDoorProg.lean LOADS. Nothing in Lean hashes anything: it is a label: what it is worth is what the hold of that sum in a sandbox is worth. -/
noncomputable def Tryd.pinned : Pinned := { name := "ytjoinifjkpaapaadoor", sum := "1ff8343ed1950596d0af7d88f2337f4051233f4f258f4d10a2bb83bece1f477b", checked := Tryd.checked }
namespace Rows
def none {H : Type} : Left H := { results := [], args := [] }

/- WHAT THE LISTED PACKAGE-LEVEL VARIABLES READ AS WHEN THE CALL BEGINS. Each datum BY PROGRAM (the guide's laid-datum.mjs) off the statement by which the dump's own 'gosem.cut.vars' lays the variable. In a bare row this is a premise. The card (YtjoinifjkpaapaaDoorCards.lean) ties it to the program's text. -/
def laid_unicode_utf8_acceptRanges {H : Type} : DataW H := .agg [.agg [.lit (.int .u8 128), .lit (.int .u8 191)], .agg [.lit (.int .u8 160), .lit (.int .u8 191)], .agg [.lit (.int .u8 128), .lit (.int .u8 159)], .agg [.lit (.int .u8 144), .lit (.int .u8 191)], .agg [.lit (.int .u8 128), .lit (.int .u8 143)], .agg [.lit (.int .u8 0), .lit (.int .u8 0)], .agg [.lit (.int .u8 0), .lit (.int .u8 0)], .agg [.lit (.int .u8 0), .lit (.int .u8 0)], .agg [.lit (.int .u8 0), .lit (.int .u8 0)], .agg [.lit (.int .u8 0), .lit (.int .u8 0)], .agg [.lit (.int .u8 0), .lit (.int .u8 0)], .agg [.lit (.int .u8 0), .lit (.int .u8 0)], .agg [.lit (.int .u8 0), .lit (.int .u8 0)], .agg [.lit (.int .u8 0), .lit (.int .u8 0)], .agg [.lit (.int .u8 0), .lit (.int .u8 0)], .agg [.lit (.int .u8 0), .lit (.int .u8 0)]]
/-- One of Go's own tables, pinned by name: the form's constant. -/
def laid_unicode_utf8_first : DataW Unit := Go.Pinned.utf8First

/-- 'accountinglaw09.DimsMake': WHATEVER THE INPUT: true; the input reads as it did. -/
def dimsMakeSpec : ChangeSpec := { name := "dimsMake", fn := fun _ => fun
  | [d] => { results := [.lit (.bool true)], args := [d] }
  | _ => none }
def dimsMakeRow : OpenClaim := { program := "ytjoinifjkpaapaadoor", sum := "1ff8343ed1950596d0af7d88f2337f4051233f4f258f4d10a2bb83bece1f477b", func := "accounting/accountinglaw09.DimsMake", spec := "dimsMake", inPlace := ["internal/bytealg.abigen_runtime_cmpstring", "internal/abi.NoEscape", "internal/bytealg.MakeNoZero", "internal/bytealg.IndexByteString", "internal/bytealg.IndexString"], unfollowed := true, recurses := true, named := ["unicode/utf8.first", "unicode/utf8.acceptRanges", "internal/bytealg.MaxLen"], apart := false, laid := [("unicode/utf8.acceptRanges", laid_unicode_utf8_acceptRanges), ("unicode/utf8.first", laid_unicode_utf8_first)] }
def DimsMakeSaid : Prop := dimsMakeRow.holds Tryd.pinned (OpenSpec.ofChange dimsMakeSpec)

/-- ITS FALSE NEIGHBOUR: 'it returns false'. Refute it at one input. -/
def dimsMakeWrong : ChangeSpec := { name := "dimsMake", fn := fun _ => fun
  | [d] => { results := [.lit (.bool false)], args := [d] }
  | _ => none }
def DimsMakeWrongFalsely : Prop := dimsMakeRow.holds Tryd.pinned (OpenSpec.ofChange dimsMakeWrong)

/-- 'accountinglaw09.DimsWith': WHATEVER THE INPUT: true; the input reads as it did. -/
def dimsWithSpec : ChangeSpec := { name := "dimsWith", fn := fun _ => fun
  | [d1, d2] => { results := [.lit (.bool true)], args := [d1, d2] }
  | _ => none }
def dimsWithRow : OpenClaim := { program := "ytjoinifjkpaapaadoor", sum := "1ff8343ed1950596d0af7d88f2337f4051233f4f258f4d10a2bb83bece1f477b", func := "accounting/accountinglaw09.DimsWith", spec := "dimsWith", inPlace := ["internal/bytealg.abigen_runtime_cmpstring", "internal/abi.NoEscape", "internal/bytealg.MakeNoZero", "internal/bytealg.IndexByteString", "internal/bytealg.IndexString"], unfollowed := true, recurses := true, named := ["unicode/utf8.first", "unicode/utf8.acceptRanges", "internal/bytealg.MaxLen"], apart := false, laid := [("unicode/utf8.acceptRanges", laid_unicode_utf8_acceptRanges), ("unicode/utf8.first", laid_unicode_utf8_first)] }
def DimsWithSaid : Prop := dimsWithRow.holds Tryd.pinned (OpenSpec.ofChange dimsWithSpec)

/-- ITS FALSE NEIGHBOUR: 'it returns false'. Refute it at one input. -/
def dimsWithWrong : ChangeSpec := { name := "dimsWith", fn := fun _ => fun
  | [d1, d2] => { results := [.lit (.bool false)], args := [d1, d2] }
  | _ => none }
def DimsWithWrongFalsely : Prop := dimsWithRow.holds Tryd.pinned (OpenSpec.ofChange dimsWithWrong)

/-- 'accountinglaw09.DimsMatch': WHATEVER THE INPUT: true; the input reads as it did. -/
def dimsMatchSpec : ChangeSpec := { name := "dimsMatch", fn := fun _ => fun
  | [d1, d2] => { results := [.lit (.bool true)], args := [d1, d2] }
  | _ => none }
def dimsMatchRow : OpenClaim := { program := "ytjoinifjkpaapaadoor", sum := "1ff8343ed1950596d0af7d88f2337f4051233f4f258f4d10a2bb83bece1f477b", func := "accounting/accountinglaw09.DimsMatch", spec := "dimsMatch", inPlace := ["internal/bytealg.abigen_runtime_cmpstring", "internal/abi.NoEscape", "internal/bytealg.MakeNoZero", "internal/bytealg.IndexByteString", "internal/bytealg.IndexString"], unfollowed := true, recurses := true, named := ["unicode/utf8.first", "unicode/utf8.acceptRanges", "internal/bytealg.MaxLen"], apart := false, laid := [("unicode/utf8.acceptRanges", laid_unicode_utf8_acceptRanges), ("unicode/utf8.first", laid_unicode_utf8_first)] }
def DimsMatchSaid : Prop := dimsMatchRow.holds Tryd.pinned (OpenSpec.ofChange dimsMatchSpec)

/-- ITS FALSE NEIGHBOUR: 'it returns false'. Refute it at one input. -/
def dimsMatchWrong : ChangeSpec := { name := "dimsMatch", fn := fun _ => fun
  | [d1, d2] => { results := [.lit (.bool false)], args := [d1, d2] }
  | _ => none }
def DimsMatchWrongFalsely : Prop := dimsMatchRow.holds Tryd.pinned (OpenSpec.ofChange dimsMatchWrong)

/-- 'accountinglaw09.DimsText': WHATEVER THE INPUT: true; the input reads as it did. -/
def dimsTextSpec : ChangeSpec := { name := "dimsText", fn := fun _ => fun
  | [d1, d2] => { results := [.lit (.bool true)], args := [d1, d2] }
  | _ => none }
def dimsTextRow : OpenClaim := { program := "ytjoinifjkpaapaadoor", sum := "1ff8343ed1950596d0af7d88f2337f4051233f4f258f4d10a2bb83bece1f477b", func := "accounting/accountinglaw09.DimsText", spec := "dimsText", inPlace := ["internal/bytealg.abigen_runtime_cmpstring", "internal/abi.NoEscape", "internal/bytealg.MakeNoZero", "internal/bytealg.IndexByteString", "internal/bytealg.IndexString"], unfollowed := true, recurses := true, named := ["unicode/utf8.first", "unicode/utf8.acceptRanges", "internal/bytealg.MaxLen"], apart := false, laid := [("unicode/utf8.acceptRanges", laid_unicode_utf8_acceptRanges), ("unicode/utf8.first", laid_unicode_utf8_first)] }
def DimsTextSaid : Prop := dimsTextRow.holds Tryd.pinned (OpenSpec.ofChange dimsTextSpec)

/-- ITS FALSE NEIGHBOUR: 'it returns false'. Refute it at one input. -/
def dimsTextWrong : ChangeSpec := { name := "dimsText", fn := fun _ => fun
  | [d1, d2] => { results := [.lit (.bool false)], args := [d1, d2] }
  | _ => none }
def DimsTextWrongFalsely : Prop := dimsTextRow.holds Tryd.pinned (OpenSpec.ofChange dimsTextWrong)

/-- 'accountinglaw09.DimsBack': WHATEVER THE INPUT: true; the input reads as it did. -/
def dimsBackSpec : ChangeSpec := { name := "dimsBack", fn := fun _ => fun
  | [d1, d2] => { results := [.lit (.bool true)], args := [d1, d2] }
  | _ => none }
def dimsBackRow : OpenClaim := { program := "ytjoinifjkpaapaadoor", sum := "1ff8343ed1950596d0af7d88f2337f4051233f4f258f4d10a2bb83bece1f477b", func := "accounting/accountinglaw09.DimsBack", spec := "dimsBack", inPlace := ["internal/bytealg.abigen_runtime_cmpstring", "internal/abi.NoEscape", "internal/bytealg.MakeNoZero", "internal/bytealg.IndexByteString", "internal/bytealg.IndexString"], unfollowed := true, recurses := true, named := ["unicode/utf8.first", "unicode/utf8.acceptRanges", "internal/bytealg.MaxLen"], apart := false, laid := [("unicode/utf8.acceptRanges", laid_unicode_utf8_acceptRanges), ("unicode/utf8.first", laid_unicode_utf8_first)] }
def DimsBackSaid : Prop := dimsBackRow.holds Tryd.pinned (OpenSpec.ofChange dimsBackSpec)

/-- ITS FALSE NEIGHBOUR: 'it returns false'. Refute it at one input. -/
def dimsBackWrong : ChangeSpec := { name := "dimsBack", fn := fun _ => fun
  | [d1, d2] => { results := [.lit (.bool false)], args := [d1, d2] }
  | _ => none }
def DimsBackWrongFalsely : Prop := dimsBackRow.holds Tryd.pinned (OpenSpec.ofChange dimsBackWrong)

/- THE SECOND FORM. 'bulk': how many values and letters a reading holds, each counted each time it is reached (what is shared counts as often as it is met; a slice's spare places count too). A statement '..UptoSaid' is the law's where the arguments, and the package variables that the reading takes, are together of bulk at most 1048576: NARROWER than '..Said'. Prove '..Said' where nothing that the law and all that it calls make is longer than what came in: it says more and counts as full. Else prove '..UptoSaid'. A law counts once. -/
mutual
def uptoBulk {H : Type} : DataW H → Nat
  | .lit (.string bytes) => bytes.length + 1
  | .lit _ => 1
  | .nil => 1
  | .ptr d => uptoBulk d + 1
  | .slice elems spare => uptoBulkAll elems + uptoBulkAll spare + 1
  | .agg parts => uptoBulkAll parts + 1
  | .iface _ d => uptoBulk d + 1
  | .map entries => uptoBulkEntries entries + 1
  | .held _ => 1
def uptoBulkAll {H : Type} : List (DataW H) → Nat
  | [] => 0
  | d :: r => uptoBulk d + uptoBulkAll r
def uptoBulkEntries {H : Type} : List (Lit × DataW H) → Nat
  | [] => 0
  | x :: r => uptoBulkEntry x + uptoBulkEntries r
def uptoBulkEntry {H : Type} : Lit × DataW H → Nat
  | (.string bytes, d) => bytes.length + uptoBulk d + 1
  | (_, d) => uptoBulk d + 1
 end
def uptoSmall : (H : Type) → List (DataW H) → Bool := fun _ ds => decide (uptoBulkAll ds ≤ 1048576)
def OpenSpec.upto (s : _root_.Go.ChangeSpec) : _root_.Go.OpenSpec := { _root_.Go.OpenSpec.ofChange s with cond := some uptoSmall }

/-- 'accountinglaw09.DimsMake', WHERE WHAT IT READS IS OF BULK AT MOST 1048576: true; the input reads as it did. -/
def dimsMakeUptoRow : OpenClaim := { program := "ytjoinifjkpaapaadoor", sum := "1ff8343ed1950596d0af7d88f2337f4051233f4f258f4d10a2bb83bece1f477b", func := "accounting/accountinglaw09.DimsMake", spec := "dimsMake", inPlace := ["internal/bytealg.abigen_runtime_cmpstring", "internal/abi.NoEscape", "internal/bytealg.MakeNoZero", "internal/bytealg.IndexByteString", "internal/bytealg.IndexString"], unfollowed := true, recurses := true, named := ["unicode/utf8.first", "unicode/utf8.acceptRanges", "internal/bytealg.MaxLen"], apart := false, laid := [("unicode/utf8.acceptRanges", laid_unicode_utf8_acceptRanges), ("unicode/utf8.first", laid_unicode_utf8_first)], narrowed := true }
def DimsMakeUptoSaid : Prop := dimsMakeUptoRow.holds Tryd.pinned (OpenSpec.upto dimsMakeSpec)

/-- 'accountinglaw09.DimsWith', WHERE WHAT IT READS IS OF BULK AT MOST 1048576: true; the input reads as it did. -/
def dimsWithUptoRow : OpenClaim := { program := "ytjoinifjkpaapaadoor", sum := "1ff8343ed1950596d0af7d88f2337f4051233f4f258f4d10a2bb83bece1f477b", func := "accounting/accountinglaw09.DimsWith", spec := "dimsWith", inPlace := ["internal/bytealg.abigen_runtime_cmpstring", "internal/abi.NoEscape", "internal/bytealg.MakeNoZero", "internal/bytealg.IndexByteString", "internal/bytealg.IndexString"], unfollowed := true, recurses := true, named := ["unicode/utf8.first", "unicode/utf8.acceptRanges", "internal/bytealg.MaxLen"], apart := false, laid := [("unicode/utf8.acceptRanges", laid_unicode_utf8_acceptRanges), ("unicode/utf8.first", laid_unicode_utf8_first)], narrowed := true }
def DimsWithUptoSaid : Prop := dimsWithUptoRow.holds Tryd.pinned (OpenSpec.upto dimsWithSpec)

/-- 'accountinglaw09.DimsMatch', WHERE WHAT IT READS IS OF BULK AT MOST 1048576: true; the input reads as it did. -/
def dimsMatchUptoRow : OpenClaim := { program := "ytjoinifjkpaapaadoor", sum := "1ff8343ed1950596d0af7d88f2337f4051233f4f258f4d10a2bb83bece1f477b", func := "accounting/accountinglaw09.DimsMatch", spec := "dimsMatch", inPlace := ["internal/bytealg.abigen_runtime_cmpstring", "internal/abi.NoEscape", "internal/bytealg.MakeNoZero", "internal/bytealg.IndexByteString", "internal/bytealg.IndexString"], unfollowed := true, recurses := true, named := ["unicode/utf8.first", "unicode/utf8.acceptRanges", "internal/bytealg.MaxLen"], apart := false, laid := [("unicode/utf8.acceptRanges", laid_unicode_utf8_acceptRanges), ("unicode/utf8.first", laid_unicode_utf8_first)], narrowed := true }
def DimsMatchUptoSaid : Prop := dimsMatchUptoRow.holds Tryd.pinned (OpenSpec.upto dimsMatchSpec)

/-- 'accountinglaw09.DimsText', WHERE WHAT IT READS IS OF BULK AT MOST 1048576: true; the input reads as it did. -/
def dimsTextUptoRow : OpenClaim := { program := "ytjoinifjkpaapaadoor", sum := "1ff8343ed1950596d0af7d88f2337f4051233f4f258f4d10a2bb83bece1f477b", func := "accounting/accountinglaw09.DimsText", spec := "dimsText", inPlace := ["internal/bytealg.abigen_runtime_cmpstring", "internal/abi.NoEscape", "internal/bytealg.MakeNoZero", "internal/bytealg.IndexByteString", "internal/bytealg.IndexString"], unfollowed := true, recurses := true, named := ["unicode/utf8.first", "unicode/utf8.acceptRanges", "internal/bytealg.MaxLen"], apart := false, laid := [("unicode/utf8.acceptRanges", laid_unicode_utf8_acceptRanges), ("unicode/utf8.first", laid_unicode_utf8_first)], narrowed := true }
def DimsTextUptoSaid : Prop := dimsTextUptoRow.holds Tryd.pinned (OpenSpec.upto dimsTextSpec)

/-- 'accountinglaw09.DimsBack', WHERE WHAT IT READS IS OF BULK AT MOST 1048576: true; the input reads as it did. -/
def dimsBackUptoRow : OpenClaim := { program := "ytjoinifjkpaapaadoor", sum := "1ff8343ed1950596d0af7d88f2337f4051233f4f258f4d10a2bb83bece1f477b", func := "accounting/accountinglaw09.DimsBack", spec := "dimsBack", inPlace := ["internal/bytealg.abigen_runtime_cmpstring", "internal/abi.NoEscape", "internal/bytealg.MakeNoZero", "internal/bytealg.IndexByteString", "internal/bytealg.IndexString"], unfollowed := true, recurses := true, named := ["unicode/utf8.first", "unicode/utf8.acceptRanges", "internal/bytealg.MaxLen"], apart := false, laid := [("unicode/utf8.acceptRanges", laid_unicode_utf8_acceptRanges), ("unicode/utf8.first", laid_unicode_utf8_first)], narrowed := true }
def DimsBackUptoSaid : Prop := dimsBackUptoRow.holds Tryd.pinned (OpenSpec.upto dimsBackSpec)

end Rows
end Go.Proofs.YtjoinifjkpaapaaDoor
