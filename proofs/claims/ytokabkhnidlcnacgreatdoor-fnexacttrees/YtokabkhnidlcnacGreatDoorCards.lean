/-
  DERIVED. GIVEN WITH THE SEED: THE CARDS: each row of YtokabkhnidlcnacGreatDoorRows.lean that lists a variable, with what it lists TIED to the program's text (the seventh form; the later family's looks); each row that meets fmt, with fmt's text TOLD by the authors' own Lean function (tested against real Go, not proved from fmt's source: count such statements apart). THE CARD IS WHAT COUNTS. Prove the row's statement (the work); the ties are given (YtokabkhnidlcnacGreatDoorTie.lean); close each card by the builder's one call (the guide's Derived/Test/ToyasCard.lean, 'card_holds'). Laid BY PROGRAM, IN A SANDBOX (cutbox-door.mjs). By AI agents, Wed Nov 11 2026. No macro, syntax, notation, axiom, sorry.
-/
import Derived.Test.YtokabkhnidlcnacGreatDoorRows
import GoSem.ClaimSeven
namespace Go.Proofs.YtokabkhnidlcnacGreatDoor
namespace Rows

/-- THE TIED CARD OF 'laws.FnExactTrees'. -/
def fnExactTreesCard : Claim7 := { stood := { row := fnExactTreesRow, standIns := [], harness := (true, "e9601b265ef9fe711b86a2fb7939e793d38596731f21ba3e59b9e6587ab5ba8d"), looks := true }, kinds := [], alts := [], laidByText := true, laidKinds := [.data, .data, .data, .data, .sentinel, .sentinel, .pinned], laidTests := true, laidLooks := .later }
def FnExactTreesCardSaid : Prop := Claim7.holds Tryz.pinned (.plain (OpenSpec.ofChange fnExactTreesSpec)) fnExactTreesCard

/-- THE TIED CARD OF 'laws.FnExactRefactor'. -/
def fnExactRefactorCard : Claim7 := { stood := { row := fnExactRefactorRow, standIns := [], harness := (true, "e9601b265ef9fe711b86a2fb7939e793d38596731f21ba3e59b9e6587ab5ba8d"), looks := true }, kinds := [], alts := [], laidByText := true, laidKinds := [.data, .data, .data, .data, .sentinel, .sentinel, .pinned], laidTests := true, laidLooks := .later }
def FnExactRefactorCardSaid : Prop := Claim7.holds Tryz.pinned (.plain (OpenSpec.ofChange fnExactRefactorSpec)) fnExactRefactorCard

/-- THE SECOND FORM's CARD OF 'laws.FnExactTrees'. -/
def fnExactTreesUptoCard : Claim7 := { stood := { row := fnExactTreesUptoRow, standIns := [], harness := (true, "e9601b265ef9fe711b86a2fb7939e793d38596731f21ba3e59b9e6587ab5ba8d"), looks := true }, kinds := [], alts := [], laidByText := true, laidKinds := [.data, .data, .data, .data, .sentinel, .sentinel, .pinned], laidTests := true, laidLooks := .later }
def FnExactTreesUptoCardSaid : Prop := Claim7.holds Tryz.pinned (.plain (OpenSpec.upto fnExactTreesSpec)) fnExactTreesUptoCard

/-- THE SECOND FORM's CARD OF 'laws.FnExactRefactor'. -/
def fnExactRefactorUptoCard : Claim7 := { stood := { row := fnExactRefactorUptoRow, standIns := [], harness := (true, "e9601b265ef9fe711b86a2fb7939e793d38596731f21ba3e59b9e6587ab5ba8d"), looks := true }, kinds := [], alts := [], laidByText := true, laidKinds := [.data, .data, .data, .data, .sentinel, .sentinel, .pinned], laidTests := true, laidLooks := .later }
def FnExactRefactorUptoCardSaid : Prop := Claim7.holds Tryz.pinned (.plain (OpenSpec.upto fnExactRefactorSpec)) fnExactRefactorUptoCard
end Rows
end Go.Proofs.YtokabkhnidlcnacGreatDoor
