/-
  DERIVED. GIVEN WITH THE SEED: THE CARDS: each row of YtommfpglifpnfaaGreatDoorRows.lean that lists a variable, with what it lists TIED to the program's text (the seventh form; the later family's looks); each row that meets fmt, with fmt's text TOLD by the authors' own Lean function (tested against real Go, not proved from fmt's source: count such statements apart). THE CARD IS WHAT COUNTS. Prove the row's statement (the work); the ties are given (YtommfpglifpnfaaGreatDoorTie.lean); close each card by the builder's one call (the guide's Derived/Test/ToyasCard.lean, 'card_holds'). Laid BY PROGRAM, IN A SANDBOX (cutbox-door.mjs). By AI agents, Wed Nov 11 2026. No macro, syntax, notation, axiom, sorry.
-/
import Derived.Test.YtommfpglifpnfaaGreatDoorRows
import GoSem.ClaimSeven
namespace Go.Proofs.YtommfpglifpnfaaGreatDoor
namespace Rows

/-- THE TIED CARD OF 'pleachlaw22.ReplicaNames'. -/
def replicaNamesCard : Claim7 := { stood := { row := replicaNamesRow, standIns := [], harness := (true, "48a6fc6441d2ef09734db85534140c869813e21925d43fc4dc4bb832cd38ad78"), looks := true }, kinds := [], alts := [], laidByText := true, laidKinds := [.data, .data, .data], laidTests := true, laidLooks := .later }
def ReplicaNamesCardSaid : Prop := Claim7.holds Tryz.pinned (.plain (OpenSpec.ofChange replicaNamesSpec)) replicaNamesCard

/-- THE SECOND FORM's CARD OF 'pleachlaw22.ReplicaNames'. -/
def replicaNamesUptoCard : Claim7 := { stood := { row := replicaNamesUptoRow, standIns := [], harness := (true, "48a6fc6441d2ef09734db85534140c869813e21925d43fc4dc4bb832cd38ad78"), looks := true }, kinds := [], alts := [], laidByText := true, laidKinds := [.data, .data, .data], laidTests := true, laidLooks := .later }
def ReplicaNamesUptoCardSaid : Prop := Claim7.holds Tryz.pinned (.plain (OpenSpec.upto replicaNamesSpec)) replicaNamesUptoCard
end Rows
end Go.Proofs.YtommfpglifpnfaaGreatDoor
