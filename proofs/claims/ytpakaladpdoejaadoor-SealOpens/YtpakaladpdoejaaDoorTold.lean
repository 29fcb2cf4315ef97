import Derived.Test.YtpakaladpdoejaaDoorAs
namespace Go.Proofs.YtpakaladpdoejaaDoor
open Go.RowKit Go.Extern.Stop Go.Stop Go.Extern

section
variable {P : Program} (w : World)
theorem run_equalIn_iface_int (d : Nat) {ti tn : TypeId} {ms : Array (String × TypeId)} {i : TypeInfo} {k : IntKind} (a b : Int)
    (hi : P.underlying ti = some (.interface ms)) (hn : P.underlying tn = some (.int k)) (hinfo : P.info? tn = some i) (hcomp : i.comparable = true) :
    (Op.equalIn (d + 2) ti (.iface tn (.int k a)) (.iface tn (.int k b))).run P w = .ok (a == b) w := by
  simp [Op.equalIn, run_underlying hi, run_underlying hn, typeInfo, hinfo, hcomp]
theorem run_eql_iface_int {ti tn : TypeId} {ms : Array (String × TypeId)} {i : TypeInfo} {k : IntKind} (a b : Int)
    (hi : P.underlying ti = some (.interface ms)) (hn : P.underlying tn = some (.int k)) (hinfo : P.info? tn = some i) (hcomp : i.comparable = true) :
    (binOp .eql ti (.iface tn (.int k a)) (.iface tn (.int k b))).run P w = .ok (.bool (a == b)) w := by
  simp only [binOp]
  simp [Op.equal, Op.maxDepth, run_equalIn_iface_int w 9998 a b hi hn hinfo hcomp]
end
/-- The variable of package errors. -/
def ErrT (w : World) : Prop := w.cell? ⟨0, 0, none⟩ = some (.iface 80 (.agg #[.pointer (some ⟨1, 31, none⟩)]))
theorem ErrT.lt {w : World} (h : ErrT w) : 0 < w.heap.size := cell_lt h
theorem ErrT.below {w w' : World} {B : Nat} (h : ErrT w) (hb : Below B w w') (h0 : 0 < B) : ErrT w' := by
  unfold ErrT
  rw [hb.cell (p := ⟨0, 0, none⟩) h0]
  exact h
theorem ErrT.grown {w w' : World} {S : Nat → Prop} (h : ErrT w) (hg : Grown w w' S) (hs : ¬ S 0) : ErrT w' := hg.cell h hs
theorem Tryd.comp27 : (Tryd.prog.info? 27).map (·.comparable) = some true := by kernel_rfl
theorem eql_errno (y : Int) (w : World) : (binOp .eql 31 (.iface 27 (.int .i64 y)) (.iface 27 (.int .i64 y))).run Tryd.prog w = .ok (.bool true) w := by
  obtain ⟨i, hi, hc⟩ := Option.map_eq_some_iff.1 Tryd.comp27
  rw [run_eql_iface_int w y y Tryd.underlying31 Tryd.underlying27 hi hc, beq_self_eq_true]
theorem as_hit2 (g t : Nat) (w : World) (hg : ErrT w) (ht : Blk w t 43 #[.pointer none]) :
    Calls Tryd.prog 17 #[.iface 43 (ptr g), .iface 48 (ptr t)] w fun ev w' => ev = .returned (.bool true) ∧ Blk w' t 43 #[ptr g] ∧ Grown w w' fun k => k = t := by
  refine (as_hit ⟨g, 0, none⟩ ⟨t, 0, none⟩ (.pointer none) w hg (by rw [ht.cell]; rfl) (ht.frozen 0)).mono ?_
  rintro e w' ⟨rfl, rfl⟩
  refine ⟨rfl, ?_, ?_⟩
  · have h := ((((ht.alloc (.cells #[.pointer (some ⟨t, 0, none⟩)] 48)).alloc (.cells #[.pointer (some ⟨1, 48, none⟩), .pointer (some ⟨w.heap.size, 0, none⟩), .int .u64 150] 60)).alloc (.cells #[.pointer (some ⟨1, 48, none⟩), .pointer (some ⟨w.heap.size, 0, none⟩), .int .u64 150] 60)).alloc (.cells #[.pointer (some ⟨g, 0, none⟩)] 43)).set 0 (ptr g)
    exact h
  · refine Grown.next ?_ (Grown.setCell _ t 0 _ (S := fun k => k = t) fun _ => rfl) fun _ _ h => h
    exact (((Grown.alloc w _ _).next (Grown.alloc _ _ fun _ => False) fun _ _ h => h.elim).next (Grown.alloc _ _ fun _ => False) fun _ _ h => h.elim).next (Grown.alloc _ _ fun _ => False) fun _ _ h => h.elim
theorem Tryd.new43 (w : World) : (Instr.alloc 43 true (.tuple #[])).run Tryd.prog w = .ok (.pointer (some ⟨w.heap.size, 0, none⟩)) (w.alloc (.cells #[.pointer none] 43)) := by kernel_rfl
theorem told_nil (p : Int) (w : World) : Calls Tryd.prog 9 #[.nilIface, .int .i64 0, .int .i64 p] w fun e w' => e = .returned (.bool true) ∧ w' = w := by
  go_enter Tryd.func9, Tryd.ntmps9
  go_wp2
  go_ret
  exact ⟨rfl, rfl⟩
set_option maxHeartbeats 1000000 in
theorem told_num (y : Int) (hy : y ≠ 0) (w : World) (hg : ErrT w) : Calls Tryd.prog 9 #[.iface 27 (.int .i64 y), .int .i64 y, .int .i64 (-1)] w fun e w' => e = .returned (.bool true) ∧ Below w.heap.size w w' := by
  have hyb : (y == 0) = false := by simpa using hy
  have HG := Keep.mk hg
  have HB := Keep.mk (below_new w (.cells #[.pointer none] 43))
  have he := eql_errno y
  clear hg
  go_enter Tryd.func9, Tryd.ntmps9
  go_wp2_with (first | (refine wpList_new rfl 43 rfl _ Tryd.new43 ?_; refine Hid.out ?_))
  refine hid_in ?_
  generalize w.alloc (.cells #[.pointer none] 43) = w1 at *
  go_wp2_with fail
  refine (as_miss _ _ w1 (HG.out.below HB.out HG.out.lt)).mono ?_
  rintro e w2 ⟨rfl, hb2⟩
  have HB2 := Keep.mk (HB.out.trans (hb2.mono HB.out.size))
  clear hb2 HB
  go_wp2
  go_ret
  exact ⟨rfl, HB2.out⟩
set_option maxHeartbeats 1000000 in
theorem told_bad (y p : Int) (hy : y ≠ 0) (hp : 0 ≤ p) (g : Nat) (w : World) (hB : Blk w g 46 #[.int .i64 y, .int .i64 p]) (hg : ErrT w) : Calls Tryd.prog 9 #[.iface 43 (ptr g), .int .i64 y, .int .i64 p] w fun e w' => e = .returned (.bool true) ∧ Below w.heap.size w w' := by
  have hyb : (y == 0) = false := by simpa using hy
  have hpn : ¬ p < 0 := by omega
  have HG := Keep.mk hg
  have HB := Keep.mk (below_new w (.cells #[.pointer none] 43))
  have HT := Keep.mk (Blk.new w 43 #[.pointer none])
  have HX := Keep.mk (hB.alloc (.cells #[.pointer none] 43))
  have Hlt := Keep.mk hB.lt
  clear hg hB
  go_enter Tryd.func9, Tryd.ntmps9
  go_wp2_with (first | (refine wpList_new rfl 43 rfl _ Tryd.new43 ?_; refine Hid.out ?_))
  refine hid_in ?_
  generalize w.alloc (.cells #[.pointer none] 43) = w1 at *
  go_wp2_with fail
  refine (as_hit2 g w.heap.size w1 (HG.out.below HB.out HG.out.lt) HT.out).mono ?_
  rintro e w2 ⟨rfl, hT2, hg2⟩
  have HB2 := Keep.mk (HB.out.trans (hg2.to_below (fun k hk e => by omega) HB.out.size))
  have hX2 := hg2.blk HX.out (show ¬ g = w.heap.size by have := Hlt.out; omega)
  have t0 : w2.cell? ⟨w.heap.size, 0, none⟩ = some (ptr g) := by rw [hT2.cell]; rfl
  have x0 : w2.cell? ⟨g, 0, none⟩ = some (.int .i64 y) := by rw [hX2.cell]; rfl
  have x1 : w2.cell? ⟨g, 1, none⟩ = some (.int .i64 p) := by rw [hX2.cell]; rfl
  clear hg2 HB hT2 hX2
  go_wp2
  go_ret
  exact ⟨rfl, HB2.out⟩
end Go.Proofs.YtpakaladpdoejaaDoor
