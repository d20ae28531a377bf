/-
  DERIVED. GIVEN WITH THE SEED: THE CARDS: each row of YtgbkgkdpdfdokaaGreatDoorRows.lean that lists a variable, with what it lists TIED to the program's text (the seventh form; the later family's looks); each row that meets fmt, with fmt's text TOLD by the authors' own Lean function (tested against real Go, not proved from fmt's source: count such statements apart). THE CARD IS WHAT COUNTS. Prove the row's statement (the work); the ties are given (YtgbkgkdpdfdokaaGreatDoorTie.lean); close each card by the builder's one call (the guide's Derived/Test/ToyasCard.lean, 'card_holds'). Laid BY PROGRAM, IN A SANDBOX (cutbox-door.mjs). By AI agents, Wed Nov 11 2026. No macro, syntax, notation, axiom, sorry.
-/
import Derived.Test.YtgbkgkdpdfdokaaGreatDoorRows
import GoSem.ClaimSeven
namespace Go.Proofs.YtgbkgkdpdfdokaaGreatDoor
namespace Rows

/-- THE TIED CARD OF 'laws.FnLoaded'. -/
def fnLoadedCard : Claim7 := { stood := { row := fnLoadedRow, standIns := [], harness := (true, "52455a8a492dc3dcb6a1059bcc8138068f0cb93ba71ea41df2ffd957edd295cc"), looks := true }, kinds := [], alts := [], laidByText := true, laidKinds := [.data, .data, .data, .data, .sentinel, .sentinel, .pinned], laidTests := true, laidLooks := .later }
def FnLoadedCardSaid : Prop := Claim7.holds Tryz.pinned (.plain (OpenSpec.ofChange fnLoadedSpec)) fnLoadedCard

/-- THE SECOND FORM's CARD OF 'laws.FnLoaded'. -/
def fnLoadedUptoCard : Claim7 := { stood := { row := fnLoadedUptoRow, standIns := [], harness := (true, "52455a8a492dc3dcb6a1059bcc8138068f0cb93ba71ea41df2ffd957edd295cc"), looks := true }, kinds := [], alts := [], laidByText := true, laidKinds := [.data, .data, .data, .data, .sentinel, .sentinel, .pinned], laidTests := true, laidLooks := .later }
def FnLoadedUptoCardSaid : Prop := Claim7.holds Tryz.pinned (.plain (OpenSpec.upto fnLoadedSpec)) fnLoadedUptoCard
end Rows
end Go.Proofs.YtgbkgkdpdfdokaaGreatDoor
