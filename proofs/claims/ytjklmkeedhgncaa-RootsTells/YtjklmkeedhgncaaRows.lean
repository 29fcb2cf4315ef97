/-
  No cell of these rows narrows 'for every input' (looked for: loops, veiled, ifaces, maps, wideKeys, modest, calm, conditions, laid).
  DERIVED. THE GIVEN ROWS OF THIS SEAT. 6 by the template 'for every input the law returns true; each argument reads behind the call as it read before'; 0 by the template 'total and deterministic' (their statements: YtjklmkeedhgncaaTotals.lean).
  GIVEN WITH THE SEED: the statements are not yours to turn. If you find one false, say at which input.
  Laid BY PROGRAM, IN A SANDBOX (cutbox-rows.mjs): the forced cells as the released guide's own fill.sh prints them over the translation a3c9665e6d028e21… (all of the seat's roots in one cut). By AI agents, Wed Nov 11 2026. No macro, syntax, notation, axiom, sorry.
-/
import Derived.Test.YtjklmkeedhgncaaChecked
import GoSem.Claim
import GoSem.ClaimJoined
import GoSem.ClaimMapViews
import Derived.JoinedTies
import Derived.KernelRfl
namespace Go.Proofs.Ytjklmkeedhgncaa
/- THE CELL 'sum', in the pinned program and in every row, IS THE sha256 OF THE DUMP (.gsa) THAT YtjklmkeedhgncaaProg.lean LOADS. Nothing in Lean hashes anything: it is a label: what it is worth is what the hold of that sum in a sandbox is worth. -/
noncomputable def Try.pinned : Pinned := { name := "ytjklmkeedhgncaa", sum := "a3c9665e6d028e21842d6e4d0b23c7c13dc6078ae41976a4f99c5158749733b8", checked := Try.checked }
namespace Rows
def none {H : Type} : Left H := { results := [], args := [] }

/-- 'pleachlaw19.RootsNames': WHATEVER THE INPUT: true; the input reads as it did. -/
def rootsNamesSpec : ChangeSpec := { name := "rootsNames", fn := fun _ => fun
  | [] => { results := [.lit (.bool true)], args := [] }
  | _ => none }
def rootsNamesRow : OpenClaim := { program := "ytjklmkeedhgncaa", sum := "a3c9665e6d028e21842d6e4d0b23c7c13dc6078ae41976a4f99c5158749733b8", func := "pleach/pleachlaw19.RootsNames", spec := "rootsNames", inPlace := ["internal/bytealg.abigen_runtime_cmpstring"], unfollowed := true, recurses := true, apart := false }
def RootsNamesSaid : Prop := rootsNamesRow.holds Try.pinned (OpenSpec.ofChange rootsNamesSpec)

/-- ITS FALSE NEIGHBOUR: 'it returns false'. Refute it at one input. -/
def rootsNamesWrong : ChangeSpec := { name := "rootsNames", fn := fun _ => fun
  | [] => { results := [.lit (.bool false)], args := [] }
  | _ => none }
def RootsNamesWrongFalsely : Prop := rootsNamesRow.holds Try.pinned (OpenSpec.ofChange rootsNamesWrong)

/-- 'pleachlaw19.RootsFinds': WHATEVER THE INPUT: true; the input reads as it did. -/
def rootsFindsSpec : ChangeSpec := { name := "rootsFinds", fn := fun _ => fun
  | [d1, d2, d3] => { results := [.lit (.bool true)], args := [d1, d2, d3] }
  | _ => none }
def rootsFindsRow : OpenClaim := { program := "ytjklmkeedhgncaa", sum := "a3c9665e6d028e21842d6e4d0b23c7c13dc6078ae41976a4f99c5158749733b8", func := "pleach/pleachlaw19.RootsFinds", spec := "rootsFinds", inPlace := ["internal/bytealg.abigen_runtime_cmpstring"], unfollowed := true, recurses := true, apart := false }
def RootsFindsSaid : Prop := rootsFindsRow.holds Try.pinned (OpenSpec.ofChange rootsFindsSpec)

/-- ITS FALSE NEIGHBOUR: 'it returns false'. Refute it at one input. -/
def rootsFindsWrong : ChangeSpec := { name := "rootsFinds", fn := fun _ => fun
  | [d1, d2, d3] => { results := [.lit (.bool false)], args := [d1, d2, d3] }
  | _ => none }
def RootsFindsWrongFalsely : Prop := rootsFindsRow.holds Try.pinned (OpenSpec.ofChange rootsFindsWrong)

/-- 'pleachlaw19.RootsChecks': WHATEVER THE INPUT: true; the input reads as it did. -/
def rootsChecksSpec : ChangeSpec := { name := "rootsChecks", fn := fun _ => fun
  | [d] => { results := [.lit (.bool true)], args := [d] }
  | _ => none }
def rootsChecksRow : OpenClaim := { program := "ytjklmkeedhgncaa", sum := "a3c9665e6d028e21842d6e4d0b23c7c13dc6078ae41976a4f99c5158749733b8", func := "pleach/pleachlaw19.RootsChecks", spec := "rootsChecks", inPlace := ["internal/bytealg.abigen_runtime_cmpstring"], unfollowed := true, recurses := true, apart := false }
def RootsChecksSaid : Prop := rootsChecksRow.holds Try.pinned (OpenSpec.ofChange rootsChecksSpec)

/-- ITS FALSE NEIGHBOUR: 'it returns false'. Refute it at one input. -/
def rootsChecksWrong : ChangeSpec := { name := "rootsChecks", fn := fun _ => fun
  | [d] => { results := [.lit (.bool false)], args := [d] }
  | _ => none }
def RootsChecksWrongFalsely : Prop := rootsChecksRow.holds Try.pinned (OpenSpec.ofChange rootsChecksWrong)

/-- 'pleachlaw19.RootsTells': WHATEVER THE INPUT: true; the input reads as it did. -/
def rootsTellsSpec : ChangeSpec := { name := "rootsTells", fn := fun _ => fun
  | [d] => { results := [.lit (.bool true)], args := [d] }
  | _ => none }
def rootsTellsRow : OpenClaim := { program := "ytjklmkeedhgncaa", sum := "a3c9665e6d028e21842d6e4d0b23c7c13dc6078ae41976a4f99c5158749733b8", func := "pleach/pleachlaw19.RootsTells", spec := "rootsTells", inPlace := ["internal/bytealg.abigen_runtime_cmpstring"], unfollowed := true, recurses := true, apart := false }
def RootsTellsSaid : Prop := rootsTellsRow.holds Try.pinned (OpenSpec.ofChange rootsTellsSpec)

/-- ITS FALSE NEIGHBOUR: 'it returns false'. Refute it at one input. -/
def rootsTellsWrong : ChangeSpec := { name := "rootsTells", fn := fun _ => fun
  | [d] => { results := [.lit (.bool false)], args := [d] }
  | _ => none }
def RootsTellsWrongFalsely : Prop := rootsTellsRow.holds Try.pinned (OpenSpec.ofChange rootsTellsWrong)

/-- 'pleachlaw19.RootsTrue': WHATEVER THE INPUT: true; the input reads as it did. -/
def rootsTrueSpec : ChangeSpec := { name := "rootsTrue", fn := fun _ => fun
  | [d] => { results := [.lit (.bool true)], args := [d] }
  | _ => none }
def rootsTrueRow : OpenClaim := { program := "ytjklmkeedhgncaa", sum := "a3c9665e6d028e21842d6e4d0b23c7c13dc6078ae41976a4f99c5158749733b8", func := "pleach/pleachlaw19.RootsTrue", spec := "rootsTrue", inPlace := ["internal/bytealg.abigen_runtime_cmpstring"], unfollowed := true, recurses := true, apart := false }
def RootsTrueSaid : Prop := rootsTrueRow.holds Try.pinned (OpenSpec.ofChange rootsTrueSpec)

/-- ITS FALSE NEIGHBOUR: 'it returns false'. Refute it at one input. -/
def rootsTrueWrong : ChangeSpec := { name := "rootsTrue", fn := fun _ => fun
  | [d] => { results := [.lit (.bool false)], args := [d] }
  | _ => none }
def RootsTrueWrongFalsely : Prop := rootsTrueRow.holds Try.pinned (OpenSpec.ofChange rootsTrueWrong)

/-- 'pleachlaw19.RootsUnlike': WHATEVER THE INPUT: true; the input reads as it did. -/
def rootsUnlikeSpec : ChangeSpec := { name := "rootsUnlike", fn := fun _ => fun
  | [d1, d2] => { results := [.lit (.bool true)], args := [d1, d2] }
  | _ => none }
def rootsUnlikeRow : OpenClaim := { program := "ytjklmkeedhgncaa", sum := "a3c9665e6d028e21842d6e4d0b23c7c13dc6078ae41976a4f99c5158749733b8", func := "pleach/pleachlaw19.RootsUnlike", spec := "rootsUnlike", inPlace := ["internal/bytealg.abigen_runtime_cmpstring"], unfollowed := true, recurses := true, apart := false }
def RootsUnlikeSaid : Prop := rootsUnlikeRow.holds Try.pinned (OpenSpec.ofChange rootsUnlikeSpec)

/-- ITS FALSE NEIGHBOUR: 'it returns false'. Refute it at one input. -/
def rootsUnlikeWrong : ChangeSpec := { name := "rootsUnlike", fn := fun _ => fun
  | [d1, d2] => { results := [.lit (.bool false)], args := [d1, d2] }
  | _ => none }
def RootsUnlikeWrongFalsely : Prop := rootsUnlikeRow.holds Try.pinned (OpenSpec.ofChange rootsUnlikeWrong)

/- THE SECOND FORM. 'bulk': how many values and letters a reading holds, each counted each time it is reached (what is shared counts as often as it is met; a slice's spare places count too). A statement '..UptoSaid' is the law's where the arguments, and the package variables that the reading takes, are together of bulk at most 1048576: NARROWER than '..Said'. Prove '..Said' where nothing that the law and all that it calls make is longer than what came in: it says more and counts as full. Else prove '..UptoSaid'. A law counts once. -/
mutual
def uptoBulk {H : Type} : DataW H → Nat
  | .lit (.string bytes) => bytes.length + 1
  | .lit _ => 1
  | .nil => 1
  | .ptr d => uptoBulk d + 1
  | .slice elems spare => uptoBulkAll elems + uptoBulkAll spare + 1
  | .agg parts => uptoBulkAll parts + 1
  | .iface _ d => uptoBulk d + 1
  | .map entries => uptoBulkEntries entries + 1
  | .held _ => 1
def uptoBulkAll {H : Type} : List (DataW H) → Nat
  | [] => 0
  | d :: r => uptoBulk d + uptoBulkAll r
def uptoBulkEntries {H : Type} : List (Lit × DataW H) → Nat
  | [] => 0
  | x :: r => uptoBulkEntry x + uptoBulkEntries r
def uptoBulkEntry {H : Type} : Lit × DataW H → Nat
  | (.string bytes, d) => bytes.length + uptoBulk d + 1
  | (_, d) => uptoBulk d + 1
 end
def uptoSmall : (H : Type) → List (DataW H) → Bool := fun _ ds => decide (uptoBulkAll ds ≤ 1048576)
def OpenSpec.upto (s : _root_.Go.ChangeSpec) : _root_.Go.OpenSpec := { _root_.Go.OpenSpec.ofChange s with cond := some uptoSmall }

/-- 'pleachlaw19.RootsNames', WHERE WHAT IT READS IS OF BULK AT MOST 1048576: true; the input reads as it did. -/
def rootsNamesUptoRow : OpenClaim := { program := "ytjklmkeedhgncaa", sum := "a3c9665e6d028e21842d6e4d0b23c7c13dc6078ae41976a4f99c5158749733b8", func := "pleach/pleachlaw19.RootsNames", spec := "rootsNames", inPlace := ["internal/bytealg.abigen_runtime_cmpstring"], unfollowed := true, recurses := true, apart := false, narrowed := true }
def RootsNamesUptoSaid : Prop := rootsNamesUptoRow.holds Try.pinned (OpenSpec.upto rootsNamesSpec)

/-- 'pleachlaw19.RootsFinds', WHERE WHAT IT READS IS OF BULK AT MOST 1048576: true; the input reads as it did. -/
def rootsFindsUptoRow : OpenClaim := { program := "ytjklmkeedhgncaa", sum := "a3c9665e6d028e21842d6e4d0b23c7c13dc6078ae41976a4f99c5158749733b8", func := "pleach/pleachlaw19.RootsFinds", spec := "rootsFinds", inPlace := ["internal/bytealg.abigen_runtime_cmpstring"], unfollowed := true, recurses := true, apart := false, narrowed := true }
def RootsFindsUptoSaid : Prop := rootsFindsUptoRow.holds Try.pinned (OpenSpec.upto rootsFindsSpec)

/-- 'pleachlaw19.RootsChecks', WHERE WHAT IT READS IS OF BULK AT MOST 1048576: true; the input reads as it did. -/
def rootsChecksUptoRow : OpenClaim := { program := "ytjklmkeedhgncaa", sum := "a3c9665e6d028e21842d6e4d0b23c7c13dc6078ae41976a4f99c5158749733b8", func := "pleach/pleachlaw19.RootsChecks", spec := "rootsChecks", inPlace := ["internal/bytealg.abigen_runtime_cmpstring"], unfollowed := true, recurses := true, apart := false, narrowed := true }
def RootsChecksUptoSaid : Prop := rootsChecksUptoRow.holds Try.pinned (OpenSpec.upto rootsChecksSpec)

/-- 'pleachlaw19.RootsTells', WHERE WHAT IT READS IS OF BULK AT MOST 1048576: true; the input reads as it did. -/
def rootsTellsUptoRow : OpenClaim := { program := "ytjklmkeedhgncaa", sum := "a3c9665e6d028e21842d6e4d0b23c7c13dc6078ae41976a4f99c5158749733b8", func := "pleach/pleachlaw19.RootsTells", spec := "rootsTells", inPlace := ["internal/bytealg.abigen_runtime_cmpstring"], unfollowed := true, recurses := true, apart := false, narrowed := true }
def RootsTellsUptoSaid : Prop := rootsTellsUptoRow.holds Try.pinned (OpenSpec.upto rootsTellsSpec)

/-- 'pleachlaw19.RootsTrue', WHERE WHAT IT READS IS OF BULK AT MOST 1048576: true; the input reads as it did. -/
def rootsTrueUptoRow : OpenClaim := { program := "ytjklmkeedhgncaa", sum := "a3c9665e6d028e21842d6e4d0b23c7c13dc6078ae41976a4f99c5158749733b8", func := "pleach/pleachlaw19.RootsTrue", spec := "rootsTrue", inPlace := ["internal/bytealg.abigen_runtime_cmpstring"], unfollowed := true, recurses := true, apart := false, narrowed := true }
def RootsTrueUptoSaid : Prop := rootsTrueUptoRow.holds Try.pinned (OpenSpec.upto rootsTrueSpec)

/-- 'pleachlaw19.RootsUnlike', WHERE WHAT IT READS IS OF BULK AT MOST 1048576: true; the input reads as it did. -/
def rootsUnlikeUptoRow : OpenClaim := { program := "ytjklmkeedhgncaa", sum := "a3c9665e6d028e21842d6e4d0b23c7c13dc6078ae41976a4f99c5158749733b8", func := "pleach/pleachlaw19.RootsUnlike", spec := "rootsUnlike", inPlace := ["internal/bytealg.abigen_runtime_cmpstring"], unfollowed := true, recurses := true, apart := false, narrowed := true }
def RootsUnlikeUptoSaid : Prop := rootsUnlikeUptoRow.holds Try.pinned (OpenSpec.upto rootsUnlikeSpec)

end Rows
end Go.Proofs.Ytjklmkeedhgncaa
