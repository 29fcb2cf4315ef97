import Derived.Test.YtpakaladpdoejaaDoorSealR
namespace Go.Proofs.YtpakaladpdoejaaDoor
open Go.RowKit

/-- What is asked of the program's Seal. -/
def SealOkPost (key : List Int) (f t : Int) (body : List Int) (w : World) (e : Ending) (w' : World) : Prop :=
  ∃ v l, e = .returned (.tuple #[v, .int .i64 (sealW key f t body)]) ∧ Below w.heap.size w w' ∧ OwnT w' v l ∧ (∀ k, v.ownBlock = some k → w.heap.size ≤ k) ∧ ((sealW key f t body = 0 ∧ l = sealL key f t body) ∨ (sealW key f t body ≠ 0 ∧ l = []))
/-- What is asked of the program's Open, as far as it needs no look into the error. -/
def OpenOkPost (key b : List Int) (w : World) (e : Ending) (w' : World) : Prop :=
  ∃ v l f t er, e = .returned (.tuple #[.agg #[.int .i64 f, .int .i64 t, v], er]) ∧ Below w.heap.size w w' ∧ OwnT w' v l ∧ (∀ k, v.ownBlock = some k → w.heap.size ≤ k) ∧
    (((openE key b).1 = 0 ∧ er = .nilIface ∧ f = b.getD 4 0 ∧ t = b.getD 5 0 ∧ l = openB b) ∨ ((openE key b).1 ≠ 0 ∧ (∃ T x, er = .iface T x) ∧ f = 0 ∧ t = 0 ∧ l = []))
def OpenOk : Prop := ∀ (vk vb : Value) (key b : List Int) (w : World), RowAt w vk key → RowAt w vb b → key.length ≤ 140737488351232 → b.length ≤ 140737500000000 → Byts b →
  Calls Tryd.prog 7 #[vk, vb] w (OpenOkPost key b w)
theorem Tryd.new26 (w : World) : (Instr.alloc 26 true (.tuple #[])).run Tryd.prog w = .ok (.pointer (some ⟨w.heap.size, 0, none⟩)) (w.alloc (.cells #[.int .i64 0, .int .i64 0, .slice none 0 0] 26)) := by kernel_rfl
set_option maxRecDepth 8000 in
theorem neq_iface (T : TypeId) (x : Value) (w : World) : (binOp .neq 31 (.iface T x) .nilIface).run Tryd.prog w = .ok (.bool true) w := run_neq_held_nil w 31 T x Tryd.underlying31
set_option maxRecDepth 8000 in
theorem eql_iface (T : TypeId) (x : Value) (w : World) : (binOp .eql 31 (.iface T x) .nilIface).run Tryd.prog w = .ok (.bool false) w := run_eql_held_nil w 31 T x Tryd.underlying31

end Go.Proofs.YtpakaladpdoejaaDoor
