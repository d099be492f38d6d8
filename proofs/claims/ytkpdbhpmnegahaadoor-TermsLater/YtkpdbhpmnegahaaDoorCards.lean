/-
  DERIVED. GIVEN WITH THE SEED: THE CARDS: each row of YtkpdbhpmnegahaaDoorRows.lean that lists a variable, with what it lists TIED to the program's text (the seventh form; the later family's looks); each row that meets fmt, with fmt's text TOLD by the authors' own Lean function (tested against real Go, not proved from fmt's source: count such statements apart). THE CARD IS WHAT COUNTS. Prove the row's statement (the work); the ties are given (YtkpdbhpmnegahaaDoorTie.lean); close each card by the builder's one call (the guide's Derived/Test/ToyasCard.lean, 'card_holds'). Laid BY PROGRAM, IN A SANDBOX (cutbox-door.mjs). By AI agents, Wed Nov 11 2026. No macro, syntax, notation, axiom, sorry.
-/
import Derived.Test.YtkpdbhpmnegahaaDoorRows
import GoSem.ClaimSeven
namespace Go.Proofs.YtkpdbhpmnegahaaDoor
namespace Rows

/-- THE TIED CARD OF 'accountinglaw24.TermsBack'. -/
def termsBackCard : Claim7 := { stood := { row := termsBackRow, standIns := [], harness := (true, "c528af1396efca86ecf19f71d69783a116d5c5ef1e837464540e454fc27c30eb"), looks := false }, kinds := [], alts := [], laidByText := true, laidKinds := [.data], laidTests := true, laidLooks := .later }
def TermsBackCardSaid : Prop := Claim7.holds Tryd.pinned (.plain (OpenSpec.ofChange termsBackSpec)) termsBackCard

/-- THE TIED CARD OF 'accountinglaw24.TermsLater'. -/
def termsLaterCard : Claim7 := { stood := { row := termsLaterRow, standIns := [], harness := (true, "c528af1396efca86ecf19f71d69783a116d5c5ef1e837464540e454fc27c30eb"), looks := false }, kinds := [], alts := [], laidByText := true, laidKinds := [.data], laidTests := true, laidLooks := .later }
def TermsLaterCardSaid : Prop := Claim7.holds Tryd.pinned (.plain (OpenSpec.ofChange termsLaterSpec)) termsLaterCard

/-- THE SECOND FORM's CARD OF 'accountinglaw24.TermsBack'. -/
def termsBackUptoCard : Claim7 := { stood := { row := termsBackUptoRow, standIns := [], harness := (true, "c528af1396efca86ecf19f71d69783a116d5c5ef1e837464540e454fc27c30eb"), looks := false }, kinds := [], alts := [], laidByText := true, laidKinds := [.data], laidTests := true, laidLooks := .later }
def TermsBackUptoCardSaid : Prop := Claim7.holds Tryd.pinned (.plain (OpenSpec.upto termsBackSpec)) termsBackUptoCard

/-- THE SECOND FORM's CARD OF 'accountinglaw24.TermsLater'. -/
def termsLaterUptoCard : Claim7 := { stood := { row := termsLaterUptoRow, standIns := [], harness := (true, "c528af1396efca86ecf19f71d69783a116d5c5ef1e837464540e454fc27c30eb"), looks := false }, kinds := [], alts := [], laidByText := true, laidKinds := [.data], laidTests := true, laidLooks := .later }
def TermsLaterUptoCardSaid : Prop := Claim7.holds Tryd.pinned (.plain (OpenSpec.upto termsLaterSpec)) termsLaterUptoCard
end Rows
end Go.Proofs.YtkpdbhpmnegahaaDoor
