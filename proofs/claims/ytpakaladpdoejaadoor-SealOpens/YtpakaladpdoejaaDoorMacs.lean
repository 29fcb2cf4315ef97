import Derived.Test.YtpakaladpdoejaaDoorMacR
import Derived.Test.YtpakaladpdoejaaDoorHelp
import Derived.Test.YtpakaladpdoejaaDoorJefe
import Derived.Lib.SlBytesConst
namespace Go.Proofs.YtpakaladpdoejaaDoor
open Go.RowKit

theorem Wd.below {w w' : World} {B g : Nat} {l : List Int} (h : Wd w g l) (hb : Below B w w') (hlt : g < B) : Wd w' g l := Blk.below h hb hlt
theorem Wd.lt {w : World} {g : Nat} {l : List Int} (h : Wd w g l) : g < w.heap.size := Blk.lt h
theorem wpList_load_rowW {P : Program} {ops : Array Oper} {rest : List Oper} {o : Oper} {a : Act} {w : World} {Q : Exit → Act → World → Prop} (hw : Region.wanted o (yielded ops a.tmps) = true) (ty : TypeId) (x : Operand) (ho : o.op = .load ty x)
    (g : Nat) (hx : a.eval x = .pointer (some ⟨g, 0, none⟩)) (t : TypeId) (cs : Array Value) (fr : Nat × Nat) (d : TypeDesc) (hg : w.heap[g]? = some (.cells cs t fr))
    (hu : P.underlying ty = some d) (hd : (match d with | .struct _ | .array _ _ => true | _ => false) = true) (hi : (P.info? ty).map (·.size) = some cs.size)
    (h : wpList P ops Q rest (a.put o.dst (.agg cs)) w) : wpList P ops Q (o :: rest) a w := by
  unfold wpList
  rw [if_pos hw]
  exact .inl (wp_load_row ty x ho g hx t cs fr d hg hu hd hi h)
theorem wp_newA {P : Program} {o : Oper} {a : Act} {w : World} {K : Act → World → Prop} {Q : Exit → Act → World → Prop} (t : TypeId) (ho : o.op = .alloc t)
    (cells : Array Value) (hf : ∀ w : World, (Instr.alloc t true (.tuple #[])).run P w = .ok (.pointer (some ⟨w.heap.size, 0, none⟩)) (w.alloc (.cells cells t)))
    (h : K (a.put o.dst (.pointer (some ⟨w.heap.size, 0, none⟩))) (w.alloc (.cells cells t))) : o.wp P a w K Q := by
  unfold Oper.wp execOp
  simp only [ho, Sem.run_bind, hf w, Result.andThen_ok]
  exact h
theorem Tryd.enter13 (w : World) (vs : Array Value) : (callFunc 13 vs).run Tryd.prog w = .ok (.enter 13 vs) w := by kernel_rfl
theorem Tryd.enter15 (w : World) (vs : Array Value) : (callFunc 15 vs).run Tryd.prog w = .ok (.enter 15 vs) w := by kernel_rfl
theorem neq_arr (c : Nat → Int) (w : World) : (binOp .neq 40 (.agg (bytesA 32 c)) (.agg (bytesA 32 c))).run Tryd.prog w = .ok (.bool false) w := by
  have h := run_eql_arr c w
  rw [run_eql_struct] at h
  rw [run_neq_struct]
  revert h
  cases (Op.equalIn 10000 40 (.agg (bytesA 32 c)) (.agg (bytesA 32 c))).run Tryd.prog w with
  | ok b w' => intro h; simp only [Result.andThen_ok, Result.ok.injEq, Value.bool.injEq] at h ⊢; obtain ⟨rfl, rfl⟩ := h; exact ⟨rfl, rfl⟩
  | halt x w' => intro h; simp [Result.andThen] at h
/-- What is asked of the program's Mac. -/
def MacOk : Prop := ∀ (vk vb : Value) (key b : List Int) (w : World), RowAt w vk key → RowAt w vb b → key.length ≤ 140737488351232 → b.length ≤ 140737488351232 →
  Calls Tryd.prog 13 #[vk, vb] w fun e w' => e = .returned (.agg (bytesA 32 (macP key b))) ∧ Below w.heap.size w w'
theorem jefe_pad1 : padL [74, 101, 102, 101] 54 = jaA := by decide +kernel
theorem jefe_pad2 : padL [74, 101, 102, 101] 92 = jbA := by decide +kernel
theorem jefe_h : hl 32 (shaP (jaA ++ jaC)) = jbC := by
  have e : hl 32 (shaP (jaA ++ jaC)) = hl 32 (fun i => jaH.getD i 0) := by
    unfold hl
    exact List.map_congr_left fun i hi => by rw [ja_sha i (List.mem_range.1 hi)]
  rw [e]
  decide +kernel
theorem jefe_mac (i : Nat) (hi : i < 32) : macP [74, 101, 102, 101] jaC i = jbH.getD i 0 := by
  unfold macP
  rw [jefe_pad1, jefe_pad2, jefe_h]
  exact jb_sha i hi

theorem row_blk {w : World} {g : Nat} {l : List Int} (h : Blk w g 5 (bv l).toArray) (cap : Nat) (hc : l.length ≤ cap) : RowAt w (.slice (some ⟨g, 0, none⟩) l.length cap) l :=
  .inr (.inr ⟨g, 0, cap, rfl, hc, fun i hi => by rw [Nat.zero_add, Blk.cell h, List.getElem?_toArray, bv_get _ _ hi]⟩)
theorem row_fr {w : World} {g : Nat} {l : List Int} {cs : Array Value} {fr : Nat × Nat} (h : w.heap[g]? = some (.cells cs 5 fr)) (he : cs = (bv l).toArray) (cap : Nat) (hc : l.length ≤ cap) : RowAt w (.slice (some ⟨g, 0, none⟩) l.length cap) l :=
  .inr (.inr ⟨g, 0, cap, rfl, hc, fun i hi => by rw [Nat.zero_add, cell_of_row w g i cs 5 fr h, he, List.getElem?_toArray, bv_get _ _ hi]⟩)
set_option maxRecDepth 8000 in
set_option maxHeartbeats 1000000 in
theorem fixed3_any (hM : MacOk) (w : World) : Calls Tryd.prog 4 #[] w fun e w' => e = .returned (.bool true) ∧ Below w.heap.size w w' := by
  have HMac := Keep.mk hM
  have hv1 := Lib.run_convert_bytes_const (P := Tryd.prog) w 22 5 #[.int .u8 74, .int .u8 101, .int .u8 102, .int .u8 101] 4 4 Tryd.underlying22 Tryd.underlying5
  obtain ⟨w1, hw1⟩ : ∃ w1, Keep (w1 = w.alloc (.cells #[.int .u8 74, .int .u8 101, .int .u8 102, .int .u8 101] 5 ((#[.int .u8 74, .int .u8 101, .int .u8 102, .int .u8 101] : Array Value).size, (#[.int .u8 74, .int .u8 101, .int .u8 102, .int .u8 101] : Array Value).size + 1))) := ⟨_, ⟨rfl⟩⟩
  rw [← hw1.out] at hv1
  have hv2 := Lib.run_convert_bytes_const (P := Tryd.prog) w1 22 5 #[.int .u8 119, .int .u8 104, .int .u8 97, .int .u8 116, .int .u8 32, .int .u8 100, .int .u8 111, .int .u8 32, .int .u8 121, .int .u8 97, .int .u8 32, .int .u8 119, .int .u8 97, .int .u8 110, .int .u8 116, .int .u8 32, .int .u8 102, .int .u8 111, .int .u8 114, .int .u8 32, .int .u8 110, .int .u8 111, .int .u8 116, .int .u8 104, .int .u8 105, .int .u8 110, .int .u8 103, .int .u8 63] 28 28 Tryd.underlying22 Tryd.underlying5
  obtain ⟨w2, hw2⟩ : ∃ w2, Keep (w2 = w1.alloc (.cells #[.int .u8 119, .int .u8 104, .int .u8 97, .int .u8 116, .int .u8 32, .int .u8 100, .int .u8 111, .int .u8 32, .int .u8 121, .int .u8 97, .int .u8 32, .int .u8 119, .int .u8 97, .int .u8 110, .int .u8 116, .int .u8 32, .int .u8 102, .int .u8 111, .int .u8 114, .int .u8 32, .int .u8 110, .int .u8 111, .int .u8 116, .int .u8 104, .int .u8 105, .int .u8 110, .int .u8 103, .int .u8 63] 5 ((#[.int .u8 119, .int .u8 104, .int .u8 97, .int .u8 116, .int .u8 32, .int .u8 100, .int .u8 111, .int .u8 32, .int .u8 121, .int .u8 97, .int .u8 32, .int .u8 119, .int .u8 97, .int .u8 110, .int .u8 116, .int .u8 32, .int .u8 102, .int .u8 111, .int .u8 114, .int .u8 32, .int .u8 110, .int .u8 111, .int .u8 116, .int .u8 104, .int .u8 105, .int .u8 110, .int .u8 103, .int .u8 63] : Array Value).size, (#[.int .u8 119, .int .u8 104, .int .u8 97, .int .u8 116, .int .u8 32, .int .u8 100, .int .u8 111, .int .u8 32, .int .u8 121, .int .u8 97, .int .u8 32, .int .u8 119, .int .u8 97, .int .u8 110, .int .u8 116, .int .u8 32, .int .u8 102, .int .u8 111, .int .u8 114, .int .u8 32, .int .u8 110, .int .u8 111, .int .u8 116, .int .u8 104, .int .u8 105, .int .u8 110, .int .u8 103, .int .u8 63] : Array Value).size + 1))) := ⟨_, ⟨rfl⟩⟩
  rw [← hw2.out] at hv2
  have HB2 : Keep (Below w.heap.size w w2) := ⟨by rw [hw2.out, hw1.out]; exact ((Below.refl _ _).alloc (Nat.le_refl _) _).alloc (by simp) _⟩
  have c1 : w1.heap[w.heap.size]? = some (.cells #[.int .u8 74, .int .u8 101, .int .u8 102, .int .u8 101] 5 ((#[.int .u8 74, .int .u8 101, .int .u8 102, .int .u8 101] : Array Value).size, (#[.int .u8 74, .int .u8 101, .int .u8 102, .int .u8 101] : Array Value).size + 1)) := by rw [hw1.out]; exact heap_alloc_new w _
  have l1 : w.heap.size < w1.heap.size := by rw [hw1.out]; simp
  have c1' : w2.heap[w.heap.size]? = some (.cells #[.int .u8 74, .int .u8 101, .int .u8 102, .int .u8 101] 5 ((#[.int .u8 74, .int .u8 101, .int .u8 102, .int .u8 101] : Array Value).size, (#[.int .u8 74, .int .u8 101, .int .u8 102, .int .u8 101] : Array Value).size + 1)) := by rw [hw2.out, Below.heap_alloc w1 _ _ l1]; exact c1
  have c2' : w2.heap[w1.heap.size]? = some (.cells #[.int .u8 119, .int .u8 104, .int .u8 97, .int .u8 116, .int .u8 32, .int .u8 100, .int .u8 111, .int .u8 32, .int .u8 121, .int .u8 97, .int .u8 32, .int .u8 119, .int .u8 97, .int .u8 110, .int .u8 116, .int .u8 32, .int .u8 102, .int .u8 111, .int .u8 114, .int .u8 32, .int .u8 110, .int .u8 111, .int .u8 116, .int .u8 104, .int .u8 105, .int .u8 110, .int .u8 103, .int .u8 63] 5 ((#[.int .u8 119, .int .u8 104, .int .u8 97, .int .u8 116, .int .u8 32, .int .u8 100, .int .u8 111, .int .u8 32, .int .u8 121, .int .u8 97, .int .u8 32, .int .u8 119, .int .u8 97, .int .u8 110, .int .u8 116, .int .u8 32, .int .u8 102, .int .u8 111, .int .u8 114, .int .u8 32, .int .u8 110, .int .u8 111, .int .u8 116, .int .u8 104, .int .u8 105, .int .u8 110, .int .u8 103, .int .u8 63] : Array Value).size, (#[.int .u8 119, .int .u8 104, .int .u8 97, .int .u8 116, .int .u8 32, .int .u8 100, .int .u8 111, .int .u8 32, .int .u8 121, .int .u8 97, .int .u8 32, .int .u8 119, .int .u8 97, .int .u8 110, .int .u8 116, .int .u8 32, .int .u8 102, .int .u8 111, .int .u8 114, .int .u8 32, .int .u8 110, .int .u8 111, .int .u8 116, .int .u8 104, .int .u8 105, .int .u8 110, .int .u8 103, .int .u8 63] : Array Value).size + 1)) := by rw [hw2.out]; exact heap_alloc_new w1 _
  have HR1 : Keep (RowAt w2 (.slice (some ⟨w.heap.size, 0, none⟩) 4 4) [74, 101, 102, 101]) := ⟨row_fr (l := [74, 101, 102, 101]) c1' rfl 4 (by decide)⟩
  have HR2 : Keep (RowAt w2 (.slice (some ⟨w1.heap.size, 0, none⟩) 28 28) jaC) := ⟨row_fr (l := jaC) c2' rfl 28 (by decide)⟩
  clear hM c1 l1 c1' c2' hw1 hw2
  go_enter Tryd.func4, Tryd.ntmps4
  go_wp2_with fail
  refine (HMac.out _ _ [74, 101, 102, 101] jaC w2 HR1.out HR2.out (by decide) (by decide)).mono ?_
  rintro e w3 ⟨rfl, hb3⟩
  have HB3 := Keep.mk (HB2.out.trans (hb3.mono HB2.out.size))
  clear hb3 HB2 HR1 HR2 hv1 hv2
  obtain ⟨cb, hcb⟩ : ∃ cb, Keep (cb = bytesA 32 (macP [74, 101, 102, 101] jaC)) := ⟨_, ⟨rfl⟩⟩
  rw [← hcb.out]
  have HJ : Keep ((Tryd.prog.info? 40).map (·.size) = some cb.size) := ⟨by rw [hcb.out]; exact Tryd.size40B _⟩
  have HJz : Keep ((bytesA 32 fun _ => 0).size = cb.size) := ⟨by rw [hcb.out]; exact bytesA_sizes _ _ _⟩
  have HJo : Keep (cb.all (·.oneCell') = true) := ⟨by rw [hcb.out]; exact bytesA_one _ _⟩
  go_wp2_with (first | (refine wpList_new rfl 40 rfl _ Tryd.new40 ?_; refine Hid.out ?_))
  refine hid_in ?_
  have HN := Keep.mk (Blk.new w3 40 (bytesA 32 fun _ => 0))
  have HB4 := Keep.mk (HB3.out.alloc HB3.out.size (.cells (bytesA 32 fun _ => 0) 40))
  generalize w3.alloc (.cells (bytesA 32 fun _ => 0) 40) = w4 at *
  go_wp2_with (first | (refine wpList_store_row rfl 40 (.tmp 1) (.tmp 6) rfl w3.heap.size cb rfl rfl 40 (bytesA 32 fun _ => 0) HN.out HJ.out HJz.out HJo.out ?_; refine Hid.out ?_))
  refine hid_in ?_
  have hN5 := HN.out.setRow cb
  have HB5 := Keep.mk (below_setRow HB4.out HB3.out.size cb)
  generalize w4.setRow w3.heap.size cb = w5 at *
  have d0 : w5.cell? ⟨w3.heap.size, 0, none⟩ = some (.int .u8 91) := by rw [hN5.cell, hcb.out, bytesA_get _ _ _ (by decide), jefe_mac 0 (by decide)]; rfl
  have d1 : w5.cell? ⟨w3.heap.size, 1, none⟩ = some (.int .u8 220) := by rw [hN5.cell, hcb.out, bytesA_get _ _ _ (by decide), jefe_mac 1 (by decide)]; rfl
  have d2 : w5.cell? ⟨w3.heap.size, 2, none⟩ = some (.int .u8 193) := by rw [hN5.cell, hcb.out, bytesA_get _ _ _ (by decide), jefe_mac 2 (by decide)]; rfl
  have d3 : w5.cell? ⟨w3.heap.size, 31, none⟩ = some (.int .u8 67) := by rw [hN5.cell, hcb.out, bytesA_get _ _ _ (by decide), jefe_mac 31 (by decide)]; rfl
  clear hN5 HN HB4 HB3 hcb HJ HJz HJo
  go_wp2
  go_ret
  exact ⟨rfl, HB5.out⟩

end Go.Proofs.YtpakaladpdoejaaDoor
