/-
  DERIVED. GIVEN WITH THE SEED: THE CARDS: each row of YtjoinifjkpaapaaDoorRows.lean that lists a variable, with what it lists TIED to the program's text (the seventh form; the later family's looks); each row that meets fmt, with fmt's text TOLD by the authors' own Lean function (tested against real Go, not proved from fmt's source: count such statements apart). THE CARD IS WHAT COUNTS. Prove the row's statement (the work); the ties are given (YtjoinifjkpaapaaDoorTie.lean); close each card by the builder's one call (the guide's Derived/Test/ToyasCard.lean, 'card_holds'). Laid BY PROGRAM, IN A SANDBOX (cutbox-door.mjs). By AI agents, Wed Nov 11 2026. No macro, syntax, notation, axiom, sorry.
-/
import Derived.Test.YtjoinifjkpaapaaDoorRows
import GoSem.ClaimSeven
namespace Go.Proofs.YtjoinifjkpaapaaDoor
namespace Rows

/-- THE TIED CARD OF 'accountinglaw09.DimsMake'. -/
def dimsMakeCard : Claim7 := { stood := { row := dimsMakeRow, standIns := [], harness := (true, "130b063a58d1974b36662f7612b314410bafefe9ef91363fdc5b0384c72557fc"), looks := false }, kinds := [], alts := [], laidByText := true, laidKinds := [.data, .pinned], laidTests := true, laidLooks := .later }
def DimsMakeCardSaid : Prop := Claim7.holds Tryd.pinned (.plain (OpenSpec.ofChange dimsMakeSpec)) dimsMakeCard

/-- THE TIED CARD OF 'accountinglaw09.DimsWith'. -/
def dimsWithCard : Claim7 := { stood := { row := dimsWithRow, standIns := [], harness := (true, "130b063a58d1974b36662f7612b314410bafefe9ef91363fdc5b0384c72557fc"), looks := false }, kinds := [], alts := [], laidByText := true, laidKinds := [.data, .pinned], laidTests := true, laidLooks := .later }
def DimsWithCardSaid : Prop := Claim7.holds Tryd.pinned (.plain (OpenSpec.ofChange dimsWithSpec)) dimsWithCard

/-- THE TIED CARD OF 'accountinglaw09.DimsMatch'. -/
def dimsMatchCard : Claim7 := { stood := { row := dimsMatchRow, standIns := [], harness := (true, "130b063a58d1974b36662f7612b314410bafefe9ef91363fdc5b0384c72557fc"), looks := false }, kinds := [], alts := [], laidByText := true, laidKinds := [.data, .pinned], laidTests := true, laidLooks := .later }
def DimsMatchCardSaid : Prop := Claim7.holds Tryd.pinned (.plain (OpenSpec.ofChange dimsMatchSpec)) dimsMatchCard

/-- THE TIED CARD OF 'accountinglaw09.DimsText'. -/
def dimsTextCard : Claim7 := { stood := { row := dimsTextRow, standIns := [], harness := (true, "130b063a58d1974b36662f7612b314410bafefe9ef91363fdc5b0384c72557fc"), looks := false }, kinds := [], alts := [], laidByText := true, laidKinds := [.data, .pinned], laidTests := true, laidLooks := .later }
def DimsTextCardSaid : Prop := Claim7.holds Tryd.pinned (.plain (OpenSpec.ofChange dimsTextSpec)) dimsTextCard

/-- THE TIED CARD OF 'accountinglaw09.DimsBack'. -/
def dimsBackCard : Claim7 := { stood := { row := dimsBackRow, standIns := [], harness := (true, "130b063a58d1974b36662f7612b314410bafefe9ef91363fdc5b0384c72557fc"), looks := false }, kinds := [], alts := [], laidByText := true, laidKinds := [.data, .pinned], laidTests := true, laidLooks := .later }
def DimsBackCardSaid : Prop := Claim7.holds Tryd.pinned (.plain (OpenSpec.ofChange dimsBackSpec)) dimsBackCard

/-- THE SECOND FORM's CARD OF 'accountinglaw09.DimsMake'. -/
def dimsMakeUptoCard : Claim7 := { stood := { row := dimsMakeUptoRow, standIns := [], harness := (true, "130b063a58d1974b36662f7612b314410bafefe9ef91363fdc5b0384c72557fc"), looks := false }, kinds := [], alts := [], laidByText := true, laidKinds := [.data, .pinned], laidTests := true, laidLooks := .later }
def DimsMakeUptoCardSaid : Prop := Claim7.holds Tryd.pinned (.plain (OpenSpec.upto dimsMakeSpec)) dimsMakeUptoCard

/-- THE SECOND FORM's CARD OF 'accountinglaw09.DimsWith'. -/
def dimsWithUptoCard : Claim7 := { stood := { row := dimsWithUptoRow, standIns := [], harness := (true, "130b063a58d1974b36662f7612b314410bafefe9ef91363fdc5b0384c72557fc"), looks := false }, kinds := [], alts := [], laidByText := true, laidKinds := [.data, .pinned], laidTests := true, laidLooks := .later }
def DimsWithUptoCardSaid : Prop := Claim7.holds Tryd.pinned (.plain (OpenSpec.upto dimsWithSpec)) dimsWithUptoCard

/-- THE SECOND FORM's CARD OF 'accountinglaw09.DimsMatch'. -/
def dimsMatchUptoCard : Claim7 := { stood := { row := dimsMatchUptoRow, standIns := [], harness := (true, "130b063a58d1974b36662f7612b314410bafefe9ef91363fdc5b0384c72557fc"), looks := false }, kinds := [], alts := [], laidByText := true, laidKinds := [.data, .pinned], laidTests := true, laidLooks := .later }
def DimsMatchUptoCardSaid : Prop := Claim7.holds Tryd.pinned (.plain (OpenSpec.upto dimsMatchSpec)) dimsMatchUptoCard

/-- THE SECOND FORM's CARD OF 'accountinglaw09.DimsText'. -/
def dimsTextUptoCard : Claim7 := { stood := { row := dimsTextUptoRow, standIns := [], harness := (true, "130b063a58d1974b36662f7612b314410bafefe9ef91363fdc5b0384c72557fc"), looks := false }, kinds := [], alts := [], laidByText := true, laidKinds := [.data, .pinned], laidTests := true, laidLooks := .later }
def DimsTextUptoCardSaid : Prop := Claim7.holds Tryd.pinned (.plain (OpenSpec.upto dimsTextSpec)) dimsTextUptoCard

/-- THE SECOND FORM's CARD OF 'accountinglaw09.DimsBack'. -/
def dimsBackUptoCard : Claim7 := { stood := { row := dimsBackUptoRow, standIns := [], harness := (true, "130b063a58d1974b36662f7612b314410bafefe9ef91363fdc5b0384c72557fc"), looks := false }, kinds := [], alts := [], laidByText := true, laidKinds := [.data, .pinned], laidTests := true, laidLooks := .later }
def DimsBackUptoCardSaid : Prop := Claim7.holds Tryd.pinned (.plain (OpenSpec.upto dimsBackSpec)) dimsBackUptoCard
end Rows
end Go.Proofs.YtjoinifjkpaapaaDoor
