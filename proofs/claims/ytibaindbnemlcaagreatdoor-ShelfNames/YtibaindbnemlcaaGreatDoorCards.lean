/-
  DERIVED. GIVEN WITH THE SEED: THE CARDS: each row of YtibaindbnemlcaaGreatDoorRows.lean that lists a variable, with what it lists TIED to the program's text (the seventh form; the later family's looks); each row that meets fmt, with fmt's text TOLD by the authors' own Lean function (tested against real Go, not proved from fmt's source: count such statements apart). THE CARD IS WHAT COUNTS. Prove the row's statement (the work); the ties are given (YtibaindbnemlcaaGreatDoorTie.lean); close each card by the builder's one call (the guide's Derived/Test/ToyasCard.lean, 'card_holds'). Laid BY PROGRAM, IN A SANDBOX (cutbox-door.mjs). By AI agents, Wed Nov 11 2026. No macro, syntax, notation, axiom, sorry.
-/
import Derived.Test.YtibaindbnemlcaaGreatDoorRows
import GoSem.ClaimSeven
namespace Go.Proofs.YtibaindbnemlcaaGreatDoor
namespace Rows

/-- THE TIED CARD OF 'pleachlaw12.ShelfNames'. -/
def shelfNamesCard : Claim7 := { stood := { row := shelfNamesRow, standIns := [], harness := (true, "08414d6092b3abe42c2c7e55bd737f13eca81b4405c5ab2e37da4ac86aa46747"), looks := true }, kinds := [], alts := [], laidByText := true, laidKinds := [.handle], laidTests := true, laidLooks := .later }
def ShelfNamesCardSaid : Prop := Claim7.holds Tryz.pinned (.plain (OpenSpec.ofChange shelfNamesSpec)) shelfNamesCard

/-- THE SECOND FORM's CARD OF 'pleachlaw12.ShelfNames'. -/
def shelfNamesUptoCard : Claim7 := { stood := { row := shelfNamesUptoRow, standIns := [], harness := (true, "08414d6092b3abe42c2c7e55bd737f13eca81b4405c5ab2e37da4ac86aa46747"), looks := true }, kinds := [], alts := [], laidByText := true, laidKinds := [.handle], laidTests := true, laidLooks := .later }
def ShelfNamesUptoCardSaid : Prop := Claim7.holds Tryz.pinned (.plain (OpenSpec.upto shelfNamesSpec)) shelfNamesUptoCard
end Rows
end Go.Proofs.YtibaindbnemlcaaGreatDoor
