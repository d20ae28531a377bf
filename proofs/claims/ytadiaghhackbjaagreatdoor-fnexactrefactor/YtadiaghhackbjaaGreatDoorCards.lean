/-
  DERIVED. GIVEN WITH THE SEED: THE CARDS: each row of YtadiaghhackbjaaGreatDoorRows.lean that lists a variable, with what it lists TIED to the program's text (the seventh form; the later family's looks); each row that meets fmt, with fmt's text TOLD by the authors' own Lean function (tested against real Go, not proved from fmt's source: count such statements apart). THE CARD IS WHAT COUNTS. Prove the row's statement (the work); the ties are given (YtadiaghhackbjaaGreatDoorTie.lean); close each card by the builder's one call (the guide's Derived/Test/ToyasCard.lean, 'card_holds'). Laid BY PROGRAM, IN A SANDBOX (cutbox-door.mjs). By AI agents, Wed Nov 11 2026. No macro, syntax, notation, axiom, sorry.
-/
import Derived.Test.YtadiaghhackbjaaGreatDoorRows
import GoSem.ClaimSeven
namespace Go.Proofs.YtadiaghhackbjaaGreatDoor
namespace Rows

/-- THE TIED CARD OF 'laws.FnExactRefactor'. -/
def fnExactRefactorCard : Claim7 := { stood := { row := fnExactRefactorRow, standIns := [], harness := (true, "c378fe8df6407122d89136f757c40ee901319a03bcc45ef26a707f7223b43e77"), looks := true }, kinds := [], alts := [], laidByText := true, laidKinds := [.data, .data, .data, .data, .sentinel, .sentinel, .pinned], laidTests := true, laidLooks := .later }
def FnExactRefactorCardSaid : Prop := Claim7.holds Tryz.pinned (.plain (OpenSpec.ofChange fnExactRefactorSpec)) fnExactRefactorCard

/-- THE SECOND FORM's CARD OF 'laws.FnExactRefactor'. -/
def fnExactRefactorUptoCard : Claim7 := { stood := { row := fnExactRefactorUptoRow, standIns := [], harness := (true, "c378fe8df6407122d89136f757c40ee901319a03bcc45ef26a707f7223b43e77"), looks := true }, kinds := [], alts := [], laidByText := true, laidKinds := [.data, .data, .data, .data, .sentinel, .sentinel, .pinned], laidTests := true, laidLooks := .later }
def FnExactRefactorUptoCardSaid : Prop := Claim7.holds Tryz.pinned (.plain (OpenSpec.upto fnExactRefactorSpec)) fnExactRefactorUptoCard
end Rows
end Go.Proofs.YtadiaghhackbjaaGreatDoor
