/-
  DERIVED. GIVEN WITH THE SEED: THE CARDS: each row of YtlggejehaonkcaaDoorRows.lean that lists a variable, with what it lists TIED to the program's text (the seventh form; the later family's looks); each row that meets fmt, with fmt's text TOLD by the authors' own Lean function (tested against real Go, not proved from fmt's source: count such statements apart). THE CARD IS WHAT COUNTS. Prove the row's statement (the work); the ties are given (YtlggejehaonkcaaDoorTie.lean); close each card by the builder's one call (the guide's Derived/Test/ToyasCard.lean, 'card_holds'). Laid BY PROGRAM, IN A SANDBOX (cutbox-door.mjs). By AI agents, Wed Nov 11 2026. No macro, syntax, notation, axiom, sorry.
-/
import Derived.Test.YtlggejehaonkcaaDoorRows
import GoSem.ClaimSeven
namespace Go.Proofs.YtlggejehaonkcaaDoor
namespace Rows

/-- THE TIED CARD OF 'pleachlaw09.BlocksCrash'. -/
def blocksCrashCard : Claim7 := { stood := { row := blocksCrashRow, standIns := [], harness := (true, "45aa2342693a0504114a6c00e81c4b09002c00367ce39d35a6a53bb6038036b9"), looks := false }, kinds := [], alts := [], laidByText := true, laidKinds := [.data, .data, .data], laidTests := true, laidLooks := .later }
def BlocksCrashCardSaid : Prop := Claim7.holds Tryd.pinned (.plain (OpenSpec.ofChange blocksCrashSpec)) blocksCrashCard

/-- THE SECOND FORM's CARD OF 'pleachlaw09.BlocksCrash'. -/
def blocksCrashUptoCard : Claim7 := { stood := { row := blocksCrashUptoRow, standIns := [], harness := (true, "45aa2342693a0504114a6c00e81c4b09002c00367ce39d35a6a53bb6038036b9"), looks := false }, kinds := [], alts := [], laidByText := true, laidKinds := [.data, .data, .data], laidTests := true, laidLooks := .later }
def BlocksCrashUptoCardSaid : Prop := Claim7.holds Tryd.pinned (.plain (OpenSpec.upto blocksCrashSpec)) blocksCrashUptoCard
end Rows
end Go.Proofs.YtlggejehaonkcaaDoor
