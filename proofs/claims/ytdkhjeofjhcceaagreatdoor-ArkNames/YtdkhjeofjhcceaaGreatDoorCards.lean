/-
  DERIVED. GIVEN WITH THE SEED: THE CARDS: each row of YtdkhjeofjhcceaaGreatDoorRows.lean that lists a variable, with what it lists TIED to the program's text (the seventh form; the later family's looks); each row that meets fmt, with fmt's text TOLD by the authors' own Lean function (tested against real Go, not proved from fmt's source: count such statements apart). THE CARD IS WHAT COUNTS. Prove the row's statement (the work); the ties are given (YtdkhjeofjhcceaaGreatDoorTie.lean); close each card by the builder's one call (the guide's Derived/Test/ToyasCard.lean, 'card_holds'). Laid BY PROGRAM, IN A SANDBOX (cutbox-door.mjs). By AI agents, Wed Nov 11 2026. No macro, syntax, notation, axiom, sorry.
-/
import Derived.Test.YtdkhjeofjhcceaaGreatDoorRows
import GoSem.ClaimSeven
namespace Go.Proofs.YtdkhjeofjhcceaaGreatDoor
namespace Rows

/-- THE TIED CARD OF 'pleachlaw13.ArkNames'. -/
def arkNamesCard : Claim7 := { stood := { row := arkNamesRow, standIns := [], harness := (true, "73993f5b011d5957955fff0db63dbd500c60babcab02da5fa2670dd81af2bae1"), looks := true }, kinds := [], alts := [], laidByText := true, laidKinds := [.handle], laidTests := true, laidLooks := .later }
def ArkNamesCardSaid : Prop := Claim7.holds Tryz.pinned (.plain (OpenSpec.ofChange arkNamesSpec)) arkNamesCard

/-- THE SECOND FORM's CARD OF 'pleachlaw13.ArkNames'. -/
def arkNamesUptoCard : Claim7 := { stood := { row := arkNamesUptoRow, standIns := [], harness := (true, "73993f5b011d5957955fff0db63dbd500c60babcab02da5fa2670dd81af2bae1"), looks := true }, kinds := [], alts := [], laidByText := true, laidKinds := [.handle], laidTests := true, laidLooks := .later }
def ArkNamesUptoCardSaid : Prop := Claim7.holds Tryz.pinned (.plain (OpenSpec.upto arkNamesSpec)) arkNamesUptoCard
end Rows
end Go.Proofs.YtdkhjeofjhcceaaGreatDoor
