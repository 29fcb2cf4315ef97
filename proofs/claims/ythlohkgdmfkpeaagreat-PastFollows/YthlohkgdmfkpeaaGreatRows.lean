/-
  No cell of these rows narrows 'for every input' (looked for: loops, veiled, ifaces, maps, wideKeys, modest, calm, conditions, laid).
  DERIVED. THE GIVEN ROWS OF THIS SEAT. 6 by the template 'for every input the law returns true; each argument reads behind the call as it read before'; 0 by the template 'total and deterministic' (their statements: YthlohkgdmfkpeaaGreatTotals.lean).
  GIVEN WITH THE SEED: the statements are not yours to turn. If you find one false, say at which input.
  Laid BY PROGRAM, IN A SANDBOX (cutbox-rows.mjs): the forced cells as the released guide's own fill.sh prints them over the translation bbc26572957195d0… (all of the seat's roots in one cut). By AI agents, Wed Nov 11 2026. No macro, syntax, notation, axiom, sorry.
-/
import Derived.Test.YthlohkgdmfkpeaaGreatChecked
import GoSem.Claim
import GoSem.ClaimJoined
import GoSem.ClaimMapViews
import Derived.JoinedTies
import Derived.KernelRfl
namespace Go.Proofs.YthlohkgdmfkpeaaGreat
/- THE CELL 'sum', in the pinned program and in every row, IS THE sha256 OF THE DUMP (.gsa) THAT YthlohkgdmfkpeaaGreatProg.lean LOADS. Nothing in Lean hashes anything: it is a label: what it is worth is what the hold of that sum in a sandbox is worth. -/
noncomputable def Tryz.pinned : Pinned := { name := "ythlohkgdmfkpeaagreat", sum := "bbc26572957195d0739ec627e42f99e66f73d8e167b14eb3531c1ad3e1e34fb0", checked := Tryz.checked }
namespace Rows
def none {H : Type} : Left H := { results := [], args := [] }

/-- 'pleachlaw11.PastNames': WHATEVER THE INPUT: true; the input reads as it did. -/
def pastNamesSpec : ChangeSpec := { name := "pastNames", fn := fun _ => fun
  | [] => { results := [.lit (.bool true)], args := [] }
  | _ => none }
def pastNamesRow : OpenClaim := { program := "ythlohkgdmfkpeaagreat", sum := "bbc26572957195d0739ec627e42f99e66f73d8e167b14eb3531c1ad3e1e34fb0", func := "pleach/pleachlaw11.PastNames", spec := "pastNames", inPlace := ["slices.overlaps[pleach/api.Hash]"], unfollowed := true, recurses := true, plainKeys := false, apart := false }
def PastNamesSaid : Prop := pastNamesRow.holds Tryz.pinned (OpenSpec.ofChange pastNamesSpec)

/-- ITS FALSE NEIGHBOUR: 'it returns false'. Refute it at one input. -/
def pastNamesWrong : ChangeSpec := { name := "pastNames", fn := fun _ => fun
  | [] => { results := [.lit (.bool false)], args := [] }
  | _ => none }
def PastNamesWrongFalsely : Prop := pastNamesRow.holds Tryz.pinned (OpenSpec.ofChange pastNamesWrong)

/-- 'pleachlaw11.PastOf': WHATEVER THE INPUT: true; the input reads as it did. -/
def pastOfSpec : ChangeSpec := { name := "pastOf", fn := fun _ => fun
  | [d1, d2] => { results := [.lit (.bool true)], args := [d1, d2] }
  | _ => none }
def pastOfRow : OpenClaim := { program := "ythlohkgdmfkpeaagreat", sum := "bbc26572957195d0739ec627e42f99e66f73d8e167b14eb3531c1ad3e1e34fb0", func := "pleach/pleachlaw11.PastOf", spec := "pastOf", inPlace := ["slices.overlaps[pleach/api.Hash]"], unfollowed := true, recurses := true, plainKeys := false, apart := false }
def PastOfSaid : Prop := pastOfRow.holds Tryz.pinned (OpenSpec.ofChange pastOfSpec)

/-- ITS FALSE NEIGHBOUR: 'it returns false'. Refute it at one input. -/
def pastOfWrong : ChangeSpec := { name := "pastOf", fn := fun _ => fun
  | [d1, d2] => { results := [.lit (.bool false)], args := [d1, d2] }
  | _ => none }
def PastOfWrongFalsely : Prop := pastOfRow.holds Tryz.pinned (OpenSpec.ofChange pastOfWrong)

/-- 'pleachlaw11.PastAsks': WHATEVER THE INPUT: true; the input reads as it did. -/
def pastAsksSpec : ChangeSpec := { name := "pastAsks", fn := fun _ => fun
  | [d1, d2] => { results := [.lit (.bool true)], args := [d1, d2] }
  | _ => none }
def pastAsksRow : OpenClaim := { program := "ythlohkgdmfkpeaagreat", sum := "bbc26572957195d0739ec627e42f99e66f73d8e167b14eb3531c1ad3e1e34fb0", func := "pleach/pleachlaw11.PastAsks", spec := "pastAsks", inPlace := ["slices.overlaps[pleach/api.Hash]"], unfollowed := true, recurses := true, plainKeys := false, apart := false }
def PastAsksSaid : Prop := pastAsksRow.holds Tryz.pinned (OpenSpec.ofChange pastAsksSpec)

/-- ITS FALSE NEIGHBOUR: 'it returns false'. Refute it at one input. -/
def pastAsksWrong : ChangeSpec := { name := "pastAsks", fn := fun _ => fun
  | [d1, d2] => { results := [.lit (.bool false)], args := [d1, d2] }
  | _ => none }
def PastAsksWrongFalsely : Prop := pastAsksRow.holds Tryz.pinned (OpenSpec.ofChange pastAsksWrong)

/-- 'pleachlaw11.PastOrders': WHATEVER THE INPUT: true; the input reads as it did. -/
def pastOrdersSpec : ChangeSpec := { name := "pastOrders", fn := fun _ => fun
  | [d1, d2] => { results := [.lit (.bool true)], args := [d1, d2] }
  | _ => none }
def pastOrdersRow : OpenClaim := { program := "ythlohkgdmfkpeaagreat", sum := "bbc26572957195d0739ec627e42f99e66f73d8e167b14eb3531c1ad3e1e34fb0", func := "pleach/pleachlaw11.PastOrders", spec := "pastOrders", inPlace := ["slices.overlaps[pleach/api.Hash]"], unfollowed := true, recurses := true, plainKeys := false, apart := false }
def PastOrdersSaid : Prop := pastOrdersRow.holds Tryz.pinned (OpenSpec.ofChange pastOrdersSpec)

/-- ITS FALSE NEIGHBOUR: 'it returns false'. Refute it at one input. -/
def pastOrdersWrong : ChangeSpec := { name := "pastOrders", fn := fun _ => fun
  | [d1, d2] => { results := [.lit (.bool false)], args := [d1, d2] }
  | _ => none }
def PastOrdersWrongFalsely : Prop := pastOrdersRow.holds Tryz.pinned (OpenSpec.ofChange pastOrdersWrong)

/-- 'pleachlaw11.PastGrows': WHATEVER THE INPUT: true; the input reads as it did. -/
def pastGrowsSpec : ChangeSpec := { name := "pastGrows", fn := fun _ => fun
  | [d1, d2, d3] => { results := [.lit (.bool true)], args := [d1, d2, d3] }
  | _ => none }
def pastGrowsRow : OpenClaim := { program := "ythlohkgdmfkpeaagreat", sum := "bbc26572957195d0739ec627e42f99e66f73d8e167b14eb3531c1ad3e1e34fb0", func := "pleach/pleachlaw11.PastGrows", spec := "pastGrows", inPlace := ["slices.overlaps[pleach/api.Hash]"], unfollowed := true, recurses := true, plainKeys := false, apart := false }
def PastGrowsSaid : Prop := pastGrowsRow.holds Tryz.pinned (OpenSpec.ofChange pastGrowsSpec)

/-- ITS FALSE NEIGHBOUR: 'it returns false'. Refute it at one input. -/
def pastGrowsWrong : ChangeSpec := { name := "pastGrows", fn := fun _ => fun
  | [d1, d2, d3] => { results := [.lit (.bool false)], args := [d1, d2, d3] }
  | _ => none }
def PastGrowsWrongFalsely : Prop := pastGrowsRow.holds Tryz.pinned (OpenSpec.ofChange pastGrowsWrong)

/-- 'pleachlaw11.PastFollows': WHATEVER THE INPUT: true; the input reads as it did. -/
def pastFollowsSpec : ChangeSpec := { name := "pastFollows", fn := fun _ => fun
  | [d1, d2] => { results := [.lit (.bool true)], args := [d1, d2] }
  | _ => none }
def pastFollowsRow : OpenClaim := { program := "ythlohkgdmfkpeaagreat", sum := "bbc26572957195d0739ec627e42f99e66f73d8e167b14eb3531c1ad3e1e34fb0", func := "pleach/pleachlaw11.PastFollows", spec := "pastFollows", inPlace := ["slices.overlaps[pleach/api.Hash]"], unfollowed := true, recurses := true, plainKeys := false, apart := false }
def PastFollowsSaid : Prop := pastFollowsRow.holds Tryz.pinned (OpenSpec.ofChange pastFollowsSpec)

/-- ITS FALSE NEIGHBOUR: 'it returns false'. Refute it at one input. -/
def pastFollowsWrong : ChangeSpec := { name := "pastFollows", fn := fun _ => fun
  | [d1, d2] => { results := [.lit (.bool false)], args := [d1, d2] }
  | _ => none }
def PastFollowsWrongFalsely : Prop := pastFollowsRow.holds Tryz.pinned (OpenSpec.ofChange pastFollowsWrong)

/- THE SECOND FORM. 'bulk': how many values and letters a reading holds, each counted each time it is reached (what is shared counts as often as it is met; a slice's spare places count too). A statement '..UptoSaid' is the law's where the arguments, and the package variables that the reading takes, are together of bulk at most 1048576: NARROWER than '..Said'. Prove '..Said' where nothing that the law and all that it calls make is longer than what came in: it says more and counts as full. Else prove '..UptoSaid'. A law counts once. -/
mutual
def uptoBulk {H : Type} : DataW H → Nat
  | .lit (.string bytes) => bytes.length + 1
  | .lit _ => 1
  | .nil => 1
  | .ptr d => uptoBulk d + 1
  | .slice elems spare => uptoBulkAll elems + uptoBulkAll spare + 1
  | .agg parts => uptoBulkAll parts + 1
  | .iface _ d => uptoBulk d + 1
  | .map entries => uptoBulkEntries entries + 1
  | .held _ => 1
def uptoBulkAll {H : Type} : List (DataW H) → Nat
  | [] => 0
  | d :: r => uptoBulk d + uptoBulkAll r
def uptoBulkEntries {H : Type} : List (Lit × DataW H) → Nat
  | [] => 0
  | x :: r => uptoBulkEntry x + uptoBulkEntries r
def uptoBulkEntry {H : Type} : Lit × DataW H → Nat
  | (.string bytes, d) => bytes.length + uptoBulk d + 1
  | (_, d) => uptoBulk d + 1
 end
def uptoSmall : (H : Type) → List (DataW H) → Bool := fun _ ds => decide (uptoBulkAll ds ≤ 1048576)
def OpenSpec.upto (s : _root_.Go.ChangeSpec) : _root_.Go.OpenSpec := { _root_.Go.OpenSpec.ofChange s with cond := some uptoSmall }

/-- 'pleachlaw11.PastNames', WHERE WHAT IT READS IS OF BULK AT MOST 1048576: true; the input reads as it did. -/
def pastNamesUptoRow : OpenClaim := { program := "ythlohkgdmfkpeaagreat", sum := "bbc26572957195d0739ec627e42f99e66f73d8e167b14eb3531c1ad3e1e34fb0", func := "pleach/pleachlaw11.PastNames", spec := "pastNames", inPlace := ["slices.overlaps[pleach/api.Hash]"], unfollowed := true, recurses := true, plainKeys := false, apart := false, narrowed := true }
def PastNamesUptoSaid : Prop := pastNamesUptoRow.holds Tryz.pinned (OpenSpec.upto pastNamesSpec)

/-- 'pleachlaw11.PastOf', WHERE WHAT IT READS IS OF BULK AT MOST 1048576: true; the input reads as it did. -/
def pastOfUptoRow : OpenClaim := { program := "ythlohkgdmfkpeaagreat", sum := "bbc26572957195d0739ec627e42f99e66f73d8e167b14eb3531c1ad3e1e34fb0", func := "pleach/pleachlaw11.PastOf", spec := "pastOf", inPlace := ["slices.overlaps[pleach/api.Hash]"], unfollowed := true, recurses := true, plainKeys := false, apart := false, narrowed := true }
def PastOfUptoSaid : Prop := pastOfUptoRow.holds Tryz.pinned (OpenSpec.upto pastOfSpec)

/-- 'pleachlaw11.PastAsks', WHERE WHAT IT READS IS OF BULK AT MOST 1048576: true; the input reads as it did. -/
def pastAsksUptoRow : OpenClaim := { program := "ythlohkgdmfkpeaagreat", sum := "bbc26572957195d0739ec627e42f99e66f73d8e167b14eb3531c1ad3e1e34fb0", func := "pleach/pleachlaw11.PastAsks", spec := "pastAsks", inPlace := ["slices.overlaps[pleach/api.Hash]"], unfollowed := true, recurses := true, plainKeys := false, apart := false, narrowed := true }
def PastAsksUptoSaid : Prop := pastAsksUptoRow.holds Tryz.pinned (OpenSpec.upto pastAsksSpec)

/-- 'pleachlaw11.PastOrders', WHERE WHAT IT READS IS OF BULK AT MOST 1048576: true; the input reads as it did. -/
def pastOrdersUptoRow : OpenClaim := { program := "ythlohkgdmfkpeaagreat", sum := "bbc26572957195d0739ec627e42f99e66f73d8e167b14eb3531c1ad3e1e34fb0", func := "pleach/pleachlaw11.PastOrders", spec := "pastOrders", inPlace := ["slices.overlaps[pleach/api.Hash]"], unfollowed := true, recurses := true, plainKeys := false, apart := false, narrowed := true }
def PastOrdersUptoSaid : Prop := pastOrdersUptoRow.holds Tryz.pinned (OpenSpec.upto pastOrdersSpec)

/-- 'pleachlaw11.PastGrows', WHERE WHAT IT READS IS OF BULK AT MOST 1048576: true; the input reads as it did. -/
def pastGrowsUptoRow : OpenClaim := { program := "ythlohkgdmfkpeaagreat", sum := "bbc26572957195d0739ec627e42f99e66f73d8e167b14eb3531c1ad3e1e34fb0", func := "pleach/pleachlaw11.PastGrows", spec := "pastGrows", inPlace := ["slices.overlaps[pleach/api.Hash]"], unfollowed := true, recurses := true, plainKeys := false, apart := false, narrowed := true }
def PastGrowsUptoSaid : Prop := pastGrowsUptoRow.holds Tryz.pinned (OpenSpec.upto pastGrowsSpec)

/-- 'pleachlaw11.PastFollows', WHERE WHAT IT READS IS OF BULK AT MOST 1048576: true; the input reads as it did. -/
def pastFollowsUptoRow : OpenClaim := { program := "ythlohkgdmfkpeaagreat", sum := "bbc26572957195d0739ec627e42f99e66f73d8e167b14eb3531c1ad3e1e34fb0", func := "pleach/pleachlaw11.PastFollows", spec := "pastFollows", inPlace := ["slices.overlaps[pleach/api.Hash]"], unfollowed := true, recurses := true, plainKeys := false, apart := false, narrowed := true }
def PastFollowsUptoSaid : Prop := pastFollowsUptoRow.holds Tryz.pinned (OpenSpec.upto pastFollowsSpec)

end Rows
end Go.Proofs.YthlohkgdmfkpeaaGreat
