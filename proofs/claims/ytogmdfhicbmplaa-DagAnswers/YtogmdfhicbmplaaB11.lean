import Derived.Test.YtogmdfhicbmplaaB09
import Derived.Test.YtogmdfhicbmplaaB10
import Derived.Test.YtogmdfhicbmplaaB08
namespace Go.Proofs.Ytogmdfhicbmplaa
open Go.RowKit
set_option linter.unusedSimpArgs false
set_option linter.unusedVariables false

end Go.Proofs.Ytogmdfhicbmplaa
namespace Go.Proofs.Ytogmdfhicbmplaa
open Go.RowKit
set_option linter.unusedSimpArgs false
set_option linter.unusedVariables false

/-! ### Marks. -/
/-! ### An append that leaves alone what stood there. -/
end Go.Proofs.Ytogmdfhicbmplaa
namespace Go.Proofs.Ytogmdfhicbmplaa
open Go.RowKit
set_option linter.unusedSimpArgs false
set_option linter.unusedVariables false

end Go.Proofs.Ytogmdfhicbmplaa
namespace Go.Proofs.Ytogmdfhicbmplaa
open Go.RowKit
set_option linter.unusedSimpArgs false
set_option linter.unusedVariables false

/-- A step of a script: what it is, and its vertex's parents' slice. -/
structure OP where
 k : Int
 on : Int
 q : VP
 h : Hs
def opA (o : OP) : Array Value := #[.int .i64 o.k, .int .i64 o.on] ++ vtx o.q.1.id.f o.q.1.ck o.q.2 ++ bytesA 32 o.h.f
theorem opA_size (o : OP) : (opA o).size = 68 := by simp [opA, vtx_size, bytesA_size]
theorem Try.sizeOp (o : OP) : (Try.prog.info? 41).map (·.size) = some (opA o).size := by rw [opA_size]; kernel_rfl
theorem opA_v {w : World} {b off : Nat} {o : OP} (h : w.rangeAt b off (opA o).toList) : w.rangeAt b (off + 2) (vtx o.q.1.id.f o.q.1.ck o.q.2).toList := fun j v hv => by
 have hj := (List.getElem?_eq_some_iff.1 hv).1
 rw [Array.length_toList, vtx_size] at hj
 have := h (2 + j) v (by
  unfold opA
  rw [Array.toList_append, Array.toList_append, List.append_assoc, List.getElem?_append_right (by simp), List.getElem?_append_left (by rw [show (vtx o.q.1.id.f o.q.1.ck o.q.2).toList.length = 34 from by rw [Array.length_toList, vtx_size]]; simp; omega)]
  rw [show 2 + j - (#[Value.int .i64 o.k, .int .i64 o.on] : Array Value).toList.length = j by simp]
  exact hv)
 rw [← Nat.add_assoc] at this
 exact this
theorem opA_h {w : World} {b off : Nat} {o : OP} (h : w.rangeAt b off (opA o).toList) : w.rangeAt b (off + 36) (bytesA 32 o.h.f).toList := fun j v hv => by
 have hj := (List.getElem?_eq_some_iff.1 hv).1
 rw [Array.length_toList, bytesA_size] at hj
 have hl : (#[Value.int .i64 o.k, .int .i64 o.on] ++ vtx o.q.1.id.f o.q.1.ck o.q.2 : Array Value).toList.length = 36 := by rw [Array.length_toList, Array.size_append, vtx_size]; rfl
 have := h (36 + j) v (by
  unfold opA
  rw [Array.toList_append, List.getElem?_append_right (by omega), hl, show 36 + j - 36 = j by omega]
  exact hv)
 rw [← Nat.add_assoc] at this
 exact this
theorem vtx_id {w : World} {b off : Nat} {c : Nat → Int} {k : Int} {p : Value} (h : w.rangeAt b off (vtx c k p).toList) : w.rangeAt b off (bytesA 32 c).toList := fun j v hv => by
 have hj := (List.getElem?_eq_some_iff.1 hv).1
 refine h j v ?_
 unfold vtx
 rw [Array.toList_append, List.getElem?_append_left hj]
 exact hv
theorem opA_k {w : World} {b : Nat} {o : OP} (h : w.rangeAt b 0 (opA o).toList) : w.cell? ⟨b, 0, none⟩ = some (.int .i64 o.k) := h 0 _ (by unfold opA; rw [Array.toList_append, Array.toList_append, List.append_assoc]; rfl)
end Go.Proofs.Ytogmdfhicbmplaa
