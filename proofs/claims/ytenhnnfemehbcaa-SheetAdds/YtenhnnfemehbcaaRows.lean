/-
  No cell of these rows narrows 'for every input' (looked for: loops, veiled, ifaces, maps, wideKeys, modest, calm, conditions, laid).
  DERIVED. THE GIVEN ROWS OF THIS SEAT. 9 by the template 'for every input the law returns true; each argument reads behind the call as it read before'; 0 by the template 'total and deterministic' (their statements: YtenhnnfemehbcaaTotals.lean).
  GIVEN WITH THE SEED: the statements are not yours to turn. If you find one false, say at which input.
  Laid BY PROGRAM, IN A SANDBOX (cutbox-rows.mjs): the forced cells as the released guide's own fill.sh prints them over the translation 274ab0b12826046d… (all of the seat's roots in one cut). By AI agents, Wed Nov 11 2026. No macro, syntax, notation, axiom, sorry.
-/
import Derived.Test.YtenhnnfemehbcaaChecked
import GoSem.Claim
import GoSem.ClaimJoined
import GoSem.ClaimMapViews
import Derived.JoinedTies
import Derived.KernelRfl
namespace Go.Proofs.Ytenhnnfemehbcaa
/- THE CELL 'sum', in the pinned program and in every row, IS THE sha256 OF THE DUMP (.gsa) THAT YtenhnnfemehbcaaProg.lean LOADS. Nothing in Lean hashes anything: it is a label: what it is worth is what the hold of that sum in a sandbox is worth. -/
noncomputable def Try.pinned : Pinned := { name := "ytenhnnfemehbcaa", sum := "274ab0b12826046d9039ac87ece193c74490c91de8f8208d5091834c36690b0d", checked := Try.checked }
namespace Rows
def none {H : Type} : Left H := { results := [], args := [] }

/-- 'accountinglaw19.SheetOrders': WHATEVER THE INPUT: true; the input reads as it did. -/
def sheetOrdersSpec : ChangeSpec := { name := "sheetOrders", fn := fun _ => fun
  | [d1, d2, d3] => { results := [.lit (.bool true)], args := [d1, d2, d3] }
  | _ => none }
def sheetOrdersRow : OpenClaim := { program := "ytenhnnfemehbcaa", sum := "274ab0b12826046d9039ac87ece193c74490c91de8f8208d5091834c36690b0d", func := "accounting/accountinglaw19.SheetOrders", spec := "sheetOrders", inPlace := ["internal/bytealg.abigen_runtime_cmpstring"], unfollowed := true, recurses := true, apart := false }
def SheetOrdersSaid : Prop := sheetOrdersRow.holds Try.pinned (OpenSpec.ofChange sheetOrdersSpec)

/-- ITS FALSE NEIGHBOUR: 'it returns false'. Refute it at one input. -/
def sheetOrdersWrong : ChangeSpec := { name := "sheetOrders", fn := fun _ => fun
  | [d1, d2, d3] => { results := [.lit (.bool false)], args := [d1, d2, d3] }
  | _ => none }
def SheetOrdersWrongFalsely : Prop := sheetOrdersRow.holds Try.pinned (OpenSpec.ofChange sheetOrdersWrong)

/-- 'accountinglaw19.SheetOf': WHATEVER THE INPUT: true; the input reads as it did. -/
def sheetOfSpec : ChangeSpec := { name := "sheetOf", fn := fun _ => fun
  | [d] => { results := [.lit (.bool true)], args := [d] }
  | _ => none }
def sheetOfRow : OpenClaim := { program := "ytenhnnfemehbcaa", sum := "274ab0b12826046d9039ac87ece193c74490c91de8f8208d5091834c36690b0d", func := "accounting/accountinglaw19.SheetOf", spec := "sheetOf", inPlace := ["internal/bytealg.abigen_runtime_cmpstring"], unfollowed := true, recurses := true, apart := false }
def SheetOfSaid : Prop := sheetOfRow.holds Try.pinned (OpenSpec.ofChange sheetOfSpec)

/-- ITS FALSE NEIGHBOUR: 'it returns false'. Refute it at one input. -/
def sheetOfWrong : ChangeSpec := { name := "sheetOf", fn := fun _ => fun
  | [d] => { results := [.lit (.bool false)], args := [d] }
  | _ => none }
def SheetOfWrongFalsely : Prop := sheetOfRow.holds Try.pinned (OpenSpec.ofChange sheetOfWrong)

/-- 'accountinglaw19.SheetAny': WHATEVER THE INPUT: true; the input reads as it did. -/
def sheetAnySpec : ChangeSpec := { name := "sheetAny", fn := fun _ => fun
  | [d] => { results := [.lit (.bool true)], args := [d] }
  | _ => none }
def sheetAnyRow : OpenClaim := { program := "ytenhnnfemehbcaa", sum := "274ab0b12826046d9039ac87ece193c74490c91de8f8208d5091834c36690b0d", func := "accounting/accountinglaw19.SheetAny", spec := "sheetAny", inPlace := ["internal/bytealg.abigen_runtime_cmpstring"], unfollowed := true, recurses := true, apart := false }
def SheetAnySaid : Prop := sheetAnyRow.holds Try.pinned (OpenSpec.ofChange sheetAnySpec)

/-- ITS FALSE NEIGHBOUR: 'it returns false'. Refute it at one input. -/
def sheetAnyWrong : ChangeSpec := { name := "sheetAny", fn := fun _ => fun
  | [d] => { results := [.lit (.bool false)], args := [d] }
  | _ => none }
def SheetAnyWrongFalsely : Prop := sheetAnyRow.holds Try.pinned (OpenSpec.ofChange sheetAnyWrong)

/-- 'accountinglaw19.SheetAdds': WHATEVER THE INPUT: true; the input reads as it did. -/
def sheetAddsSpec : ChangeSpec := { name := "sheetAdds", fn := fun _ => fun
  | [d1, d2] => { results := [.lit (.bool true)], args := [d1, d2] }
  | _ => none }
def sheetAddsRow : OpenClaim := { program := "ytenhnnfemehbcaa", sum := "274ab0b12826046d9039ac87ece193c74490c91de8f8208d5091834c36690b0d", func := "accounting/accountinglaw19.SheetAdds", spec := "sheetAdds", inPlace := ["internal/bytealg.abigen_runtime_cmpstring"], unfollowed := true, recurses := true, apart := false }
def SheetAddsSaid : Prop := sheetAddsRow.holds Try.pinned (OpenSpec.ofChange sheetAddsSpec)

/-- ITS FALSE NEIGHBOUR: 'it returns false'. Refute it at one input. -/
def sheetAddsWrong : ChangeSpec := { name := "sheetAdds", fn := fun _ => fun
  | [d1, d2] => { results := [.lit (.bool false)], args := [d1, d2] }
  | _ => none }
def SheetAddsWrongFalsely : Prop := sheetAddsRow.holds Try.pinned (OpenSpec.ofChange sheetAddsWrong)

/-- 'accountinglaw19.SheetGroup': WHATEVER THE INPUT: true; the input reads as it did. -/
def sheetGroupSpec : ChangeSpec := { name := "sheetGroup", fn := fun _ => fun
  | [d1, d2] => { results := [.lit (.bool true)], args := [d1, d2] }
  | _ => none }
def sheetGroupRow : OpenClaim := { program := "ytenhnnfemehbcaa", sum := "274ab0b12826046d9039ac87ece193c74490c91de8f8208d5091834c36690b0d", func := "accounting/accountinglaw19.SheetGroup", spec := "sheetGroup", inPlace := ["internal/bytealg.abigen_runtime_cmpstring"], unfollowed := true, recurses := true, apart := false }
def SheetGroupSaid : Prop := sheetGroupRow.holds Try.pinned (OpenSpec.ofChange sheetGroupSpec)

/-- ITS FALSE NEIGHBOUR: 'it returns false'. Refute it at one input. -/
def sheetGroupWrong : ChangeSpec := { name := "sheetGroup", fn := fun _ => fun
  | [d1, d2] => { results := [.lit (.bool false)], args := [d1, d2] }
  | _ => none }
def SheetGroupWrongFalsely : Prop := sheetGroupRow.holds Try.pinned (OpenSpec.ofChange sheetGroupWrong)

/-- 'accountinglaw19.SheetPicks': WHATEVER THE INPUT: true; the input reads as it did. -/
def sheetPicksSpec : ChangeSpec := { name := "sheetPicks", fn := fun _ => fun
  | [d1, d2] => { results := [.lit (.bool true)], args := [d1, d2] }
  | _ => none }
def sheetPicksRow : OpenClaim := { program := "ytenhnnfemehbcaa", sum := "274ab0b12826046d9039ac87ece193c74490c91de8f8208d5091834c36690b0d", func := "accounting/accountinglaw19.SheetPicks", spec := "sheetPicks", inPlace := ["internal/bytealg.abigen_runtime_cmpstring"], unfollowed := true, recurses := true, apart := false }
def SheetPicksSaid : Prop := sheetPicksRow.holds Try.pinned (OpenSpec.ofChange sheetPicksSpec)

/-- ITS FALSE NEIGHBOUR: 'it returns false'. Refute it at one input. -/
def sheetPicksWrong : ChangeSpec := { name := "sheetPicks", fn := fun _ => fun
  | [d1, d2] => { results := [.lit (.bool false)], args := [d1, d2] }
  | _ => none }
def SheetPicksWrongFalsely : Prop := sheetPicksRow.holds Try.pinned (OpenSpec.ofChange sheetPicksWrong)

/-- 'accountinglaw19.SheetFolds': WHATEVER THE INPUT: true; the input reads as it did. -/
def sheetFoldsSpec : ChangeSpec := { name := "sheetFolds", fn := fun _ => fun
  | [d1, d2] => { results := [.lit (.bool true)], args := [d1, d2] }
  | _ => none }
def sheetFoldsRow : OpenClaim := { program := "ytenhnnfemehbcaa", sum := "274ab0b12826046d9039ac87ece193c74490c91de8f8208d5091834c36690b0d", func := "accounting/accountinglaw19.SheetFolds", spec := "sheetFolds", inPlace := ["internal/bytealg.abigen_runtime_cmpstring"], unfollowed := true, recurses := true, apart := false }
def SheetFoldsSaid : Prop := sheetFoldsRow.holds Try.pinned (OpenSpec.ofChange sheetFoldsSpec)

/-- ITS FALSE NEIGHBOUR: 'it returns false'. Refute it at one input. -/
def sheetFoldsWrong : ChangeSpec := { name := "sheetFolds", fn := fun _ => fun
  | [d1, d2] => { results := [.lit (.bool false)], args := [d1, d2] }
  | _ => none }
def SheetFoldsWrongFalsely : Prop := sheetFoldsRow.holds Try.pinned (OpenSpec.ofChange sheetFoldsWrong)

/-- 'accountinglaw19.SheetKeeps': WHATEVER THE INPUT: true; the input reads as it did. -/
def sheetKeepsSpec : ChangeSpec := { name := "sheetKeeps", fn := fun _ => fun
  | [d1, d2, d3] => { results := [.lit (.bool true)], args := [d1, d2, d3] }
  | _ => none }
def sheetKeepsRow : OpenClaim := { program := "ytenhnnfemehbcaa", sum := "274ab0b12826046d9039ac87ece193c74490c91de8f8208d5091834c36690b0d", func := "accounting/accountinglaw19.SheetKeeps", spec := "sheetKeeps", inPlace := ["internal/bytealg.abigen_runtime_cmpstring"], unfollowed := true, recurses := true, apart := false }
def SheetKeepsSaid : Prop := sheetKeepsRow.holds Try.pinned (OpenSpec.ofChange sheetKeepsSpec)

/-- ITS FALSE NEIGHBOUR: 'it returns false'. Refute it at one input. -/
def sheetKeepsWrong : ChangeSpec := { name := "sheetKeeps", fn := fun _ => fun
  | [d1, d2, d3] => { results := [.lit (.bool false)], args := [d1, d2, d3] }
  | _ => none }
def SheetKeepsWrongFalsely : Prop := sheetKeepsRow.holds Try.pinned (OpenSpec.ofChange sheetKeepsWrong)

/-- 'accountinglaw19.SheetBases': WHATEVER THE INPUT: true; the input reads as it did. -/
def sheetBasesSpec : ChangeSpec := { name := "sheetBases", fn := fun _ => fun
  | [d] => { results := [.lit (.bool true)], args := [d] }
  | _ => none }
def sheetBasesRow : OpenClaim := { program := "ytenhnnfemehbcaa", sum := "274ab0b12826046d9039ac87ece193c74490c91de8f8208d5091834c36690b0d", func := "accounting/accountinglaw19.SheetBases", spec := "sheetBases", inPlace := ["internal/bytealg.abigen_runtime_cmpstring"], unfollowed := true, recurses := true, apart := false }
def SheetBasesSaid : Prop := sheetBasesRow.holds Try.pinned (OpenSpec.ofChange sheetBasesSpec)

/-- ITS FALSE NEIGHBOUR: 'it returns false'. Refute it at one input. -/
def sheetBasesWrong : ChangeSpec := { name := "sheetBases", fn := fun _ => fun
  | [d] => { results := [.lit (.bool false)], args := [d] }
  | _ => none }
def SheetBasesWrongFalsely : Prop := sheetBasesRow.holds Try.pinned (OpenSpec.ofChange sheetBasesWrong)

/- THE SECOND FORM. 'bulk': how many values and letters a reading holds, each counted each time it is reached (what is shared counts as often as it is met; a slice's spare places count too). A statement '..UptoSaid' is the law's where the arguments, and the package variables that the reading takes, are together of bulk at most 1048576: NARROWER than '..Said'. Prove '..Said' where nothing that the law and all that it calls make is longer than what came in: it says more and counts as full. Else prove '..UptoSaid'. A law counts once. -/
mutual
def uptoBulk {H : Type} : DataW H → Nat
  | .lit (.string bytes) => bytes.length + 1
  | .lit _ => 1
  | .nil => 1
  | .ptr d => uptoBulk d + 1
  | .slice elems spare => uptoBulkAll elems + uptoBulkAll spare + 1
  | .agg parts => uptoBulkAll parts + 1
  | .iface _ d => uptoBulk d + 1
  | .map entries => uptoBulkEntries entries + 1
  | .held _ => 1
def uptoBulkAll {H : Type} : List (DataW H) → Nat
  | [] => 0
  | d :: r => uptoBulk d + uptoBulkAll r
def uptoBulkEntries {H : Type} : List (Lit × DataW H) → Nat
  | [] => 0
  | x :: r => uptoBulkEntry x + uptoBulkEntries r
def uptoBulkEntry {H : Type} : Lit × DataW H → Nat
  | (.string bytes, d) => bytes.length + uptoBulk d + 1
  | (_, d) => uptoBulk d + 1
 end
def uptoSmall : (H : Type) → List (DataW H) → Bool := fun _ ds => decide (uptoBulkAll ds ≤ 1048576)
def OpenSpec.upto (s : _root_.Go.ChangeSpec) : _root_.Go.OpenSpec := { _root_.Go.OpenSpec.ofChange s with cond := some uptoSmall }

/-- 'accountinglaw19.SheetOrders', WHERE WHAT IT READS IS OF BULK AT MOST 1048576: true; the input reads as it did. -/
def sheetOrdersUptoRow : OpenClaim := { program := "ytenhnnfemehbcaa", sum := "274ab0b12826046d9039ac87ece193c74490c91de8f8208d5091834c36690b0d", func := "accounting/accountinglaw19.SheetOrders", spec := "sheetOrders", inPlace := ["internal/bytealg.abigen_runtime_cmpstring"], unfollowed := true, recurses := true, apart := false, narrowed := true }
def SheetOrdersUptoSaid : Prop := sheetOrdersUptoRow.holds Try.pinned (OpenSpec.upto sheetOrdersSpec)

/-- 'accountinglaw19.SheetOf', WHERE WHAT IT READS IS OF BULK AT MOST 1048576: true; the input reads as it did. -/
def sheetOfUptoRow : OpenClaim := { program := "ytenhnnfemehbcaa", sum := "274ab0b12826046d9039ac87ece193c74490c91de8f8208d5091834c36690b0d", func := "accounting/accountinglaw19.SheetOf", spec := "sheetOf", inPlace := ["internal/bytealg.abigen_runtime_cmpstring"], unfollowed := true, recurses := true, apart := false, narrowed := true }
def SheetOfUptoSaid : Prop := sheetOfUptoRow.holds Try.pinned (OpenSpec.upto sheetOfSpec)

/-- 'accountinglaw19.SheetAny', WHERE WHAT IT READS IS OF BULK AT MOST 1048576: true; the input reads as it did. -/
def sheetAnyUptoRow : OpenClaim := { program := "ytenhnnfemehbcaa", sum := "274ab0b12826046d9039ac87ece193c74490c91de8f8208d5091834c36690b0d", func := "accounting/accountinglaw19.SheetAny", spec := "sheetAny", inPlace := ["internal/bytealg.abigen_runtime_cmpstring"], unfollowed := true, recurses := true, apart := false, narrowed := true }
def SheetAnyUptoSaid : Prop := sheetAnyUptoRow.holds Try.pinned (OpenSpec.upto sheetAnySpec)

/-- 'accountinglaw19.SheetAdds', WHERE WHAT IT READS IS OF BULK AT MOST 1048576: true; the input reads as it did. -/
def sheetAddsUptoRow : OpenClaim := { program := "ytenhnnfemehbcaa", sum := "274ab0b12826046d9039ac87ece193c74490c91de8f8208d5091834c36690b0d", func := "accounting/accountinglaw19.SheetAdds", spec := "sheetAdds", inPlace := ["internal/bytealg.abigen_runtime_cmpstring"], unfollowed := true, recurses := true, apart := false, narrowed := true }
def SheetAddsUptoSaid : Prop := sheetAddsUptoRow.holds Try.pinned (OpenSpec.upto sheetAddsSpec)

/-- 'accountinglaw19.SheetGroup', WHERE WHAT IT READS IS OF BULK AT MOST 1048576: true; the input reads as it did. -/
def sheetGroupUptoRow : OpenClaim := { program := "ytenhnnfemehbcaa", sum := "274ab0b12826046d9039ac87ece193c74490c91de8f8208d5091834c36690b0d", func := "accounting/accountinglaw19.SheetGroup", spec := "sheetGroup", inPlace := ["internal/bytealg.abigen_runtime_cmpstring"], unfollowed := true, recurses := true, apart := false, narrowed := true }
def SheetGroupUptoSaid : Prop := sheetGroupUptoRow.holds Try.pinned (OpenSpec.upto sheetGroupSpec)

/-- 'accountinglaw19.SheetPicks', WHERE WHAT IT READS IS OF BULK AT MOST 1048576: true; the input reads as it did. -/
def sheetPicksUptoRow : OpenClaim := { program := "ytenhnnfemehbcaa", sum := "274ab0b12826046d9039ac87ece193c74490c91de8f8208d5091834c36690b0d", func := "accounting/accountinglaw19.SheetPicks", spec := "sheetPicks", inPlace := ["internal/bytealg.abigen_runtime_cmpstring"], unfollowed := true, recurses := true, apart := false, narrowed := true }
def SheetPicksUptoSaid : Prop := sheetPicksUptoRow.holds Try.pinned (OpenSpec.upto sheetPicksSpec)

/-- 'accountinglaw19.SheetFolds', WHERE WHAT IT READS IS OF BULK AT MOST 1048576: true; the input reads as it did. -/
def sheetFoldsUptoRow : OpenClaim := { program := "ytenhnnfemehbcaa", sum := "274ab0b12826046d9039ac87ece193c74490c91de8f8208d5091834c36690b0d", func := "accounting/accountinglaw19.SheetFolds", spec := "sheetFolds", inPlace := ["internal/bytealg.abigen_runtime_cmpstring"], unfollowed := true, recurses := true, apart := false, narrowed := true }
def SheetFoldsUptoSaid : Prop := sheetFoldsUptoRow.holds Try.pinned (OpenSpec.upto sheetFoldsSpec)

/-- 'accountinglaw19.SheetKeeps', WHERE WHAT IT READS IS OF BULK AT MOST 1048576: true; the input reads as it did. -/
def sheetKeepsUptoRow : OpenClaim := { program := "ytenhnnfemehbcaa", sum := "274ab0b12826046d9039ac87ece193c74490c91de8f8208d5091834c36690b0d", func := "accounting/accountinglaw19.SheetKeeps", spec := "sheetKeeps", inPlace := ["internal/bytealg.abigen_runtime_cmpstring"], unfollowed := true, recurses := true, apart := false, narrowed := true }
def SheetKeepsUptoSaid : Prop := sheetKeepsUptoRow.holds Try.pinned (OpenSpec.upto sheetKeepsSpec)

/-- 'accountinglaw19.SheetBases', WHERE WHAT IT READS IS OF BULK AT MOST 1048576: true; the input reads as it did. -/
def sheetBasesUptoRow : OpenClaim := { program := "ytenhnnfemehbcaa", sum := "274ab0b12826046d9039ac87ece193c74490c91de8f8208d5091834c36690b0d", func := "accounting/accountinglaw19.SheetBases", spec := "sheetBases", inPlace := ["internal/bytealg.abigen_runtime_cmpstring"], unfollowed := true, recurses := true, apart := false, narrowed := true }
def SheetBasesUptoSaid : Prop := sheetBasesUptoRow.holds Try.pinned (OpenSpec.upto sheetBasesSpec)

end Rows
end Go.Proofs.Ytenhnnfemehbcaa
