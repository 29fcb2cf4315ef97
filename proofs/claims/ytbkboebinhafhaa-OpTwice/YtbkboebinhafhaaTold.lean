import Derived.Test.YtbkboebinhafhaaInE
namespace Go.Proofs.Ytbkboebinhafhaa
open Go.RowKit

def ev (why at_ : Int) : Array Value := #[.int .i64 why, .int .i64 at_]
theorem Try.new49 (w : World) : (Instr.alloc 49 true (.tuple #[])).run Try.prog w = .ok (.pointer (some ⟨w.heap.size, 0, none⟩)) (w.alloc (.cells #[.int .i64 0, .int .i64 0] 49)) := by kernel_rfl
theorem Try.size49 : (Try.prog.info? 49).map (·.size) = some 2 := by kernel_rfl

theorem assert22 (v : Value) (W : World) : (Instr.typeAssert (.iface 88 v) 53 88 true).run Try.prog W = .ok (.tuple #[v, .bool true]) W := by kernel_rfl
/-- The facts of a fixed row. -/
theorem num300 : numL 300 = [172, 2] := by decide
theorem num1 : numL (zig (-1)) = [1] := by decide
theorem bfab : bform (lst { data := #[97, 98] }) = [2, 97, 98] := by decide
theorem fst300 : fstM [172, 2, 128] 300 = (300, 2, 0) := by decide
theorem fst9 : fstM [128] 9 = (0, 0, 20) := by decide
theorem row3 (w : World) (a b c : Int) : RowAt (w.alloc (.cells #[.int .u8 a, .int .u8 b, .int .u8 c] 5)) (.slice (some ⟨w.heap.size, 0, none⟩) 3 3) [a, b, c] := by
  refine .inr (.inr ⟨w.heap.size, 0, 3, rfl, by simp, fun i hi => ?_⟩)
  rw [Nat.zero_add, (Blk.new w 5 #[.int .u8 a, .int .u8 b, .int .u8 c]).cell]
  match i, hi with
  | 0, _ => rfl
  | 1, _ => rfl
  | 2, _ => rfl

end Go.Proofs.Ytbkboebinhafhaa
