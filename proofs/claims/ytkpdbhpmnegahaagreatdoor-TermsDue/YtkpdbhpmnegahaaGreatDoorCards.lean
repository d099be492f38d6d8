/-
  DERIVED. GIVEN WITH THE SEED: THE CARDS: each row of YtkpdbhpmnegahaaGreatDoorRows.lean that lists a variable, with what it lists TIED to the program's text (the seventh form; the later family's looks); each row that meets fmt, with fmt's text TOLD by the authors' own Lean function (tested against real Go, not proved from fmt's source: count such statements apart). THE CARD IS WHAT COUNTS. Prove the row's statement (the work); the ties are given (YtkpdbhpmnegahaaGreatDoorTie.lean); close each card by the builder's one call (the guide's Derived/Test/ToyasCard.lean, 'card_holds'). Laid BY PROGRAM, IN A SANDBOX (cutbox-door.mjs). By AI agents, Wed Nov 11 2026. No macro, syntax, notation, axiom, sorry.
-/
import Derived.Test.YtkpdbhpmnegahaaGreatDoorRows
import GoSem.ClaimSeven
namespace Go.Proofs.YtkpdbhpmnegahaaGreatDoor
namespace Rows

/-- THE TIED CARD OF 'accountinglaw24.TermsRight'. -/
def termsRightCard : Claim7 := { stood := { row := termsRightRow, standIns := [], harness := (true, "d64baf965e1211696b7cdfd106be2b47ab5c97150ef00f545e5819cb499a7e26"), looks := false }, kinds := [], alts := [], laidByText := true, laidKinds := [.data], laidTests := true, laidLooks := .later }
def TermsRightCardSaid : Prop := Claim7.holds Tryz.pinned (.plain (OpenSpec.ofChange termsRightSpec)) termsRightCard

/-- THE TIED CARD OF 'accountinglaw24.TermsDue'. -/
def termsDueCard : Claim7 := { stood := { row := termsDueRow, standIns := [], harness := (true, "d64baf965e1211696b7cdfd106be2b47ab5c97150ef00f545e5819cb499a7e26"), looks := false }, kinds := [], alts := [], laidByText := true, laidKinds := [.data], laidTests := true, laidLooks := .later }
def TermsDueCardSaid : Prop := Claim7.holds Tryz.pinned (.plain (OpenSpec.ofChange termsDueSpec)) termsDueCard

/-- THE TIED CARD OF 'accountinglaw24.TermsCut'. -/
def termsCutCard : Claim7 := { stood := { row := termsCutRow, standIns := [], harness := (true, "d64baf965e1211696b7cdfd106be2b47ab5c97150ef00f545e5819cb499a7e26"), looks := false }, kinds := [], alts := [], laidByText := true, laidKinds := [.data], laidTests := true, laidLooks := .later }
def TermsCutCardSaid : Prop := Claim7.holds Tryz.pinned (.plain (OpenSpec.ofChange termsCutSpec)) termsCutCard

/-- THE TIED CARD OF 'accountinglaw24.TermsParse'. -/
def termsParseCard : Claim7 := { stood := { row := termsParseRow, standIns := [], harness := (true, "d64baf965e1211696b7cdfd106be2b47ab5c97150ef00f545e5819cb499a7e26"), looks := false }, kinds := [], alts := [], laidByText := true, laidKinds := [.data], laidTests := true, laidLooks := .later }
def TermsParseCardSaid : Prop := Claim7.holds Tryz.pinned (.plain (OpenSpec.ofChange termsParseSpec)) termsParseCard

/-- THE SECOND FORM's CARD OF 'accountinglaw24.TermsRight'. -/
def termsRightUptoCard : Claim7 := { stood := { row := termsRightUptoRow, standIns := [], harness := (true, "d64baf965e1211696b7cdfd106be2b47ab5c97150ef00f545e5819cb499a7e26"), looks := false }, kinds := [], alts := [], laidByText := true, laidKinds := [.data], laidTests := true, laidLooks := .later }
def TermsRightUptoCardSaid : Prop := Claim7.holds Tryz.pinned (.plain (OpenSpec.upto termsRightSpec)) termsRightUptoCard

/-- THE SECOND FORM's CARD OF 'accountinglaw24.TermsDue'. -/
def termsDueUptoCard : Claim7 := { stood := { row := termsDueUptoRow, standIns := [], harness := (true, "d64baf965e1211696b7cdfd106be2b47ab5c97150ef00f545e5819cb499a7e26"), looks := false }, kinds := [], alts := [], laidByText := true, laidKinds := [.data], laidTests := true, laidLooks := .later }
def TermsDueUptoCardSaid : Prop := Claim7.holds Tryz.pinned (.plain (OpenSpec.upto termsDueSpec)) termsDueUptoCard

/-- THE SECOND FORM's CARD OF 'accountinglaw24.TermsCut'. -/
def termsCutUptoCard : Claim7 := { stood := { row := termsCutUptoRow, standIns := [], harness := (true, "d64baf965e1211696b7cdfd106be2b47ab5c97150ef00f545e5819cb499a7e26"), looks := false }, kinds := [], alts := [], laidByText := true, laidKinds := [.data], laidTests := true, laidLooks := .later }
def TermsCutUptoCardSaid : Prop := Claim7.holds Tryz.pinned (.plain (OpenSpec.upto termsCutSpec)) termsCutUptoCard

/-- THE SECOND FORM's CARD OF 'accountinglaw24.TermsParse'. -/
def termsParseUptoCard : Claim7 := { stood := { row := termsParseUptoRow, standIns := [], harness := (true, "d64baf965e1211696b7cdfd106be2b47ab5c97150ef00f545e5819cb499a7e26"), looks := false }, kinds := [], alts := [], laidByText := true, laidKinds := [.data], laidTests := true, laidLooks := .later }
def TermsParseUptoCardSaid : Prop := Claim7.holds Tryz.pinned (.plain (OpenSpec.upto termsParseSpec)) termsParseUptoCard
end Rows
end Go.Proofs.YtkpdbhpmnegahaaGreatDoor
