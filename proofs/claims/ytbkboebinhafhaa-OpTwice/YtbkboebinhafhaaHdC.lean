import Derived.Test.YtbkboebinhafhaaRdF
import Derived.LaidEql
namespace Go.Proofs.Ytbkboebinhafhaa
open Go.RowKit

theorem eqErr (a b : Int) (w : World) : (binOp .neq 49 (.agg #[.int .i64 a, .int .i64 b]) (.agg #[.int .i64 a, .int .i64 b])).run Try.prog w = .ok (.bool false) w := by
  go_simp
theorem eqPtr (q : Nat) (w : World) : (binOp .eql 53 (.iface 88 (ptr q)) (.iface 88 (ptr q))).run Try.prog w = .ok (.bool true) w := by
  obtain ⟨i, hi, hc⟩ := Option.map_eq_some_iff.1 (show (Try.prog.info? 88).map (·.comparable) = some true by kernel_rfl)
  obtain ⟨j, hj⟩ := Option.isSome_iff_exists.1 (show (Try.prog.info? 104).isSome = true by kernel_rfl)
  exact run_eql_iface_ptr_same (te := 104) w _ Try.underlying53 Try.underlying88 hi hc hj

end Go.Proofs.Ytbkboebinhafhaa
