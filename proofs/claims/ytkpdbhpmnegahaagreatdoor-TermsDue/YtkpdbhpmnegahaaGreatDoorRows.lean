/-
  NARROWER THAN 'FOR EVERY INPUT', by the rows' own cells (each row's printed sentence says how): TermsRight: laid · TermsDue: laid · TermsCut: laid · TermsParse: laid.
  DERIVED. THE GIVEN ROWS OF THIS SEAT. 4 by the template 'for every input the law returns true; each argument reads behind the call as it read before'; 0 by the template 'total and deterministic' (their statements: YtkpdbhpmnegahaaGreatDoorTotals.lean).
  GIVEN WITH THE SEED: the statements are not yours to turn. If you find one false, say at which input.
  Laid BY PROGRAM, IN A SANDBOX (cutbox-rows.mjs): the forced cells as the released guide's own fill.sh prints them over the translation bfd147e70d0107f6… (all of the seat's roots in one cut). By AI agents, Wed Nov 11 2026. No macro, syntax, notation, axiom, sorry.
-/
import Derived.Test.YtkpdbhpmnegahaaGreatDoorChecked
import GoSem.Claim
import GoSem.ClaimJoined
import GoSem.ClaimMapViews
import Derived.JoinedTies
import Derived.KernelRfl
namespace Go.Proofs.YtkpdbhpmnegahaaGreatDoor
/- THE CELL 'sum', in the pinned program and in every row, IS THE sha256 OF THE DUMP (.gsa) THAT YtkpdbhpmnegahaaGreatDoorProg.lean LOADS. Nothing in Lean hashes anything: it is a label: what it is worth is what the hold of that sum in a sandbox is worth. -/
noncomputable def Tryz.pinned : Pinned := { name := "ytkpdbhpmnegahaagreatdoor", sum := "bfd147e70d0107f64fa10a59041a085b94b15f2e5e8edd942a98b64d0c75c506", checked := Tryz.checked }
namespace Rows
def none {H : Type} : Left H := { results := [], args := [] }

/- WHAT THE LISTED PACKAGE-LEVEL VARIABLES READ AS WHEN THE CALL BEGINS. Each datum BY PROGRAM (the guide's laid-datum.mjs) off the statement by which the dump's own 'gosem.cut.vars' lays the variable. In a bare row this is a premise. The card (YtkpdbhpmnegahaaGreatDoorCards.lean) ties it to the program's text. -/
def laid_accounting_days_lengths {H : Type} : DataW H := .agg [.lit (.int .i64 31), .lit (.int .i64 28), .lit (.int .i64 31), .lit (.int .i64 30), .lit (.int .i64 31), .lit (.int .i64 30), .lit (.int .i64 31), .lit (.int .i64 31), .lit (.int .i64 30), .lit (.int .i64 31), .lit (.int .i64 30), .lit (.int .i64 31)]

/-- 'accountinglaw24.TermsRight': WHATEVER THE INPUT: true; the input reads as it did. -/
def termsRightSpec : ChangeSpec := { name := "termsRight", fn := fun _ => fun
  | [d] => { results := [.lit (.bool true)], args := [d] }
  | _ => none }
def termsRightRow : OpenClaim := { program := "ytkpdbhpmnegahaagreatdoor", sum := "bfd147e70d0107f64fa10a59041a085b94b15f2e5e8edd942a98b64d0c75c506", func := "accounting/accountinglaw24.TermsRight", spec := "termsRight", inPlace := ["internal/abi.NoEscape", "internal/bytealg.MakeNoZero", "internal/bytealg.IndexByteString"], unfollowed := true, recurses := true, named := ["accounting/days.lengths"], apart := false, laid := [("accounting/days.lengths", laid_accounting_days_lengths)] }
def TermsRightSaid : Prop := termsRightRow.holds Tryz.pinned (OpenSpec.ofChange termsRightSpec)

/-- ITS FALSE NEIGHBOUR: 'it returns false'. Refute it at one input. -/
def termsRightWrong : ChangeSpec := { name := "termsRight", fn := fun _ => fun
  | [d] => { results := [.lit (.bool false)], args := [d] }
  | _ => none }
def TermsRightWrongFalsely : Prop := termsRightRow.holds Tryz.pinned (OpenSpec.ofChange termsRightWrong)

/-- 'accountinglaw24.TermsDue': WHATEVER THE INPUT: true; the input reads as it did. -/
def termsDueSpec : ChangeSpec := { name := "termsDue", fn := fun _ => fun
  | [d1, d2] => { results := [.lit (.bool true)], args := [d1, d2] }
  | _ => none }
def termsDueRow : OpenClaim := { program := "ytkpdbhpmnegahaagreatdoor", sum := "bfd147e70d0107f64fa10a59041a085b94b15f2e5e8edd942a98b64d0c75c506", func := "accounting/accountinglaw24.TermsDue", spec := "termsDue", inPlace := ["internal/abi.NoEscape", "internal/bytealg.MakeNoZero", "internal/bytealg.IndexByteString"], unfollowed := true, recurses := true, named := ["accounting/days.lengths"], apart := false, laid := [("accounting/days.lengths", laid_accounting_days_lengths)] }
def TermsDueSaid : Prop := termsDueRow.holds Tryz.pinned (OpenSpec.ofChange termsDueSpec)

/-- ITS FALSE NEIGHBOUR: 'it returns false'. Refute it at one input. -/
def termsDueWrong : ChangeSpec := { name := "termsDue", fn := fun _ => fun
  | [d1, d2] => { results := [.lit (.bool false)], args := [d1, d2] }
  | _ => none }
def TermsDueWrongFalsely : Prop := termsDueRow.holds Tryz.pinned (OpenSpec.ofChange termsDueWrong)

/-- 'accountinglaw24.TermsCut': WHATEVER THE INPUT: true; the input reads as it did. -/
def termsCutSpec : ChangeSpec := { name := "termsCut", fn := fun _ => fun
  | [d1, d2, d3] => { results := [.lit (.bool true)], args := [d1, d2, d3] }
  | _ => none }
def termsCutRow : OpenClaim := { program := "ytkpdbhpmnegahaagreatdoor", sum := "bfd147e70d0107f64fa10a59041a085b94b15f2e5e8edd942a98b64d0c75c506", func := "accounting/accountinglaw24.TermsCut", spec := "termsCut", inPlace := ["internal/abi.NoEscape", "internal/bytealg.MakeNoZero", "internal/bytealg.IndexByteString"], unfollowed := true, recurses := true, named := ["accounting/days.lengths"], apart := false, laid := [("accounting/days.lengths", laid_accounting_days_lengths)] }
def TermsCutSaid : Prop := termsCutRow.holds Tryz.pinned (OpenSpec.ofChange termsCutSpec)

/-- ITS FALSE NEIGHBOUR: 'it returns false'. Refute it at one input. -/
def termsCutWrong : ChangeSpec := { name := "termsCut", fn := fun _ => fun
  | [d1, d2, d3] => { results := [.lit (.bool false)], args := [d1, d2, d3] }
  | _ => none }
def TermsCutWrongFalsely : Prop := termsCutRow.holds Tryz.pinned (OpenSpec.ofChange termsCutWrong)

/-- 'accountinglaw24.TermsParse': WHATEVER THE INPUT: true; the input reads as it did. -/
def termsParseSpec : ChangeSpec := { name := "termsParse", fn := fun _ => fun
  | [d] => { results := [.lit (.bool true)], args := [d] }
  | _ => none }
def termsParseRow : OpenClaim := { program := "ytkpdbhpmnegahaagreatdoor", sum := "bfd147e70d0107f64fa10a59041a085b94b15f2e5e8edd942a98b64d0c75c506", func := "accounting/accountinglaw24.TermsParse", spec := "termsParse", inPlace := ["internal/abi.NoEscape", "internal/bytealg.MakeNoZero", "internal/bytealg.IndexByteString"], unfollowed := true, recurses := true, named := ["accounting/days.lengths"], apart := false, laid := [("accounting/days.lengths", laid_accounting_days_lengths)] }
def TermsParseSaid : Prop := termsParseRow.holds Tryz.pinned (OpenSpec.ofChange termsParseSpec)

/-- ITS FALSE NEIGHBOUR: 'it returns false'. Refute it at one input. -/
def termsParseWrong : ChangeSpec := { name := "termsParse", fn := fun _ => fun
  | [d] => { results := [.lit (.bool false)], args := [d] }
  | _ => none }
def TermsParseWrongFalsely : Prop := termsParseRow.holds Tryz.pinned (OpenSpec.ofChange termsParseWrong)

/- THE SECOND FORM. 'bulk': how many values and letters a reading holds, each counted each time it is reached (what is shared counts as often as it is met; a slice's spare places count too). A statement '..UptoSaid' is the law's where the arguments, and the package variables that the reading takes, are together of bulk at most 1048576: NARROWER than '..Said'. Prove '..Said' where nothing that the law and all that it calls make is longer than what came in: it says more and counts as full. Else prove '..UptoSaid'. A law counts once. -/
mutual
def uptoBulk {H : Type} : DataW H → Nat
  | .lit (.string bytes) => bytes.length + 1
  | .lit _ => 1
  | .nil => 1
  | .ptr d => uptoBulk d + 1
  | .slice elems spare => uptoBulkAll elems + uptoBulkAll spare + 1
  | .agg parts => uptoBulkAll parts + 1
  | .iface _ d => uptoBulk d + 1
  | .map entries => uptoBulkEntries entries + 1
  | .held _ => 1
def uptoBulkAll {H : Type} : List (DataW H) → Nat
  | [] => 0
  | d :: r => uptoBulk d + uptoBulkAll r
def uptoBulkEntries {H : Type} : List (Lit × DataW H) → Nat
  | [] => 0
  | x :: r => uptoBulkEntry x + uptoBulkEntries r
def uptoBulkEntry {H : Type} : Lit × DataW H → Nat
  | (.string bytes, d) => bytes.length + uptoBulk d + 1
  | (_, d) => uptoBulk d + 1
 end
def uptoSmall : (H : Type) → List (DataW H) → Bool := fun _ ds => decide (uptoBulkAll ds ≤ 1048576)
def OpenSpec.upto (s : _root_.Go.ChangeSpec) : _root_.Go.OpenSpec := { _root_.Go.OpenSpec.ofChange s with cond := some uptoSmall }

/-- 'accountinglaw24.TermsRight', WHERE WHAT IT READS IS OF BULK AT MOST 1048576: true; the input reads as it did. -/
def termsRightUptoRow : OpenClaim := { program := "ytkpdbhpmnegahaagreatdoor", sum := "bfd147e70d0107f64fa10a59041a085b94b15f2e5e8edd942a98b64d0c75c506", func := "accounting/accountinglaw24.TermsRight", spec := "termsRight", inPlace := ["internal/abi.NoEscape", "internal/bytealg.MakeNoZero", "internal/bytealg.IndexByteString"], unfollowed := true, recurses := true, named := ["accounting/days.lengths"], apart := false, laid := [("accounting/days.lengths", laid_accounting_days_lengths)], narrowed := true }
def TermsRightUptoSaid : Prop := termsRightUptoRow.holds Tryz.pinned (OpenSpec.upto termsRightSpec)

/-- 'accountinglaw24.TermsDue', WHERE WHAT IT READS IS OF BULK AT MOST 1048576: true; the input reads as it did. -/
def termsDueUptoRow : OpenClaim := { program := "ytkpdbhpmnegahaagreatdoor", sum := "bfd147e70d0107f64fa10a59041a085b94b15f2e5e8edd942a98b64d0c75c506", func := "accounting/accountinglaw24.TermsDue", spec := "termsDue", inPlace := ["internal/abi.NoEscape", "internal/bytealg.MakeNoZero", "internal/bytealg.IndexByteString"], unfollowed := true, recurses := true, named := ["accounting/days.lengths"], apart := false, laid := [("accounting/days.lengths", laid_accounting_days_lengths)], narrowed := true }
def TermsDueUptoSaid : Prop := termsDueUptoRow.holds Tryz.pinned (OpenSpec.upto termsDueSpec)

/-- 'accountinglaw24.TermsCut', WHERE WHAT IT READS IS OF BULK AT MOST 1048576: true; the input reads as it did. -/
def termsCutUptoRow : OpenClaim := { program := "ytkpdbhpmnegahaagreatdoor", sum := "bfd147e70d0107f64fa10a59041a085b94b15f2e5e8edd942a98b64d0c75c506", func := "accounting/accountinglaw24.TermsCut", spec := "termsCut", inPlace := ["internal/abi.NoEscape", "internal/bytealg.MakeNoZero", "internal/bytealg.IndexByteString"], unfollowed := true, recurses := true, named := ["accounting/days.lengths"], apart := false, laid := [("accounting/days.lengths", laid_accounting_days_lengths)], narrowed := true }
def TermsCutUptoSaid : Prop := termsCutUptoRow.holds Tryz.pinned (OpenSpec.upto termsCutSpec)

/-- 'accountinglaw24.TermsParse', WHERE WHAT IT READS IS OF BULK AT MOST 1048576: true; the input reads as it did. -/
def termsParseUptoRow : OpenClaim := { program := "ytkpdbhpmnegahaagreatdoor", sum := "bfd147e70d0107f64fa10a59041a085b94b15f2e5e8edd942a98b64d0c75c506", func := "accounting/accountinglaw24.TermsParse", spec := "termsParse", inPlace := ["internal/abi.NoEscape", "internal/bytealg.MakeNoZero", "internal/bytealg.IndexByteString"], unfollowed := true, recurses := true, named := ["accounting/days.lengths"], apart := false, laid := [("accounting/days.lengths", laid_accounting_days_lengths)], narrowed := true }
def TermsParseUptoSaid : Prop := termsParseUptoRow.holds Tryz.pinned (OpenSpec.upto termsParseSpec)

end Rows
end Go.Proofs.YtkpdbhpmnegahaaGreatDoor
