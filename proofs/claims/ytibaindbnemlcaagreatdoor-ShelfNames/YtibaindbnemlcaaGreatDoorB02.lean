import Derived.Test.YtibaindbnemlcaaGreatDoorB01
namespace Go.Proofs.YtibaindbnemlcaaGreatDoor.Nd
open Go.RowKit

def OpsAt (w : World) (v : Value) (l : List OpV) : Prop :=
  (∃ a c, v = .slice a 0 c ∧ l = []) ∨ ∃ b off cap, v = .slice (some ⟨b, off, none⟩) l.length cap ∧ l.length ≤ cap ∧ ∀ i x, l[i]? = some x → w.rangeAt b (off + i * 37) (opL x)
theorem OpsAt.form {w : World} {v : Value} {l : List OpV} (h : OpsAt w v l) : ∃ a c, v = .slice a l.length c := by
  rcases h with ⟨a, c, rfl, rfl⟩ | ⟨b, off, cap, rfl, _⟩
  · exact ⟨_, _, rfl⟩
  · exact ⟨_, _, rfl⟩
theorem range_lt {w : World} {b o : Nat} {cs : List Value} (h : w.rangeAt b o cs) (h0 : 0 < cs.length) : b < w.heap.size := by
  have := h 0 cs[0] (by simp)
  exact cell_lt this
theorem range_grown {w w' : World} {b o : Nat} {cs : List Value} {S : Nat → Prop} (h : w.rangeAt b o cs) (hg : Grown w w' S) (hs : ¬ S b) : w'.rangeAt b o cs := fun j v hv => hg.cell (h j v hv) hs
theorem OpsAt.grown {w w' : World} {v : Value} {l : List OpV} {S : Nat → Prop} (h : OpsAt w v l) (hg : Grown w w' S) (hs : ∀ b, v.ownBlock = some b → b < w.heap.size → ¬ S b) : OpsAt w' v l := by
  rcases h with h | ⟨b, off, cap, rfl, h2, h3⟩
  · exact .inl h
  · refine .inr ⟨b, off, cap, rfl, h2, fun i x hx => range_grown (h3 i x hx) hg (hs b rfl ?_)⟩
    exact range_lt (h3 i x hx) (by rw [opL_len]; omega)
theorem OpsAt.below {w w' : World} {v : Value} {l : List OpV} (h : OpsAt w v l) (hb : Below w.heap.size w w') : OpsAt w' v l :=
  h.grown (Grown.below (S := fun _ => False) hb) fun _ _ _ h => h
theorem OpsAt.at {w : World} {a : Option Addr} {n c : Nat} {l : List OpV} (h : OpsAt w (.slice a n c) l) {t : Nat} (ht : t < l.length) :
    ∃ b off, a = some ⟨b, off, none⟩ ∧ w.rangeAt b (off + t * 37) (opL (l.getD t zeroOp)) := by
  rcases h with ⟨_, _, _, rfl⟩ | ⟨b, off, cap, e, h2, h3⟩
  · simp at ht
  · injection e with e1 e2 e3
    refine ⟨b, off, e1, h3 t _ ?_⟩
    simp [List.getD_eq_getElem?_getD, ht]
theorem run_eql31L (c e : List Int) (o p : Int) (w : World) : (binOp .eql 162 (.agg (idL c o).toArray) (.agg (idA e p))).run Tryz.prog w = .ok (.bool (nd c e && o == p)) w := run_eql31 c e o p w
theorem run_neqHL (c e : List Int) (w : World) : (binOp .neq 51 (.agg (bytesA 32 (hof c)).toList.toArray) (.agg (bytesA 32 (hof e)))).run Tryz.prog w = .ok (.bool (!nd c e)) w := by rw [Array.toArray_toList]; exact run_neqH c e w

def mayAt (l : List OpV) (x : OpV) : Bool :=
  if (nd x.node z32 && x.op == 0) = true then x.kind == 8
  else if nd x.node z32 = false then decide (1 ≤ x.op) && decide (x.op ≤ 1024)
  else if x.op < 1 ∨ (l.length : Int) < x.op then false
  else (l.getD (x.op - 1).toNat zeroOp).kind == 8 && (l.getD (x.op - 1).toNat zeroOp).key == x.key

structure OpOk (x : OpV) : Prop where
  node : x.node.length = 32
  byts : Byts x.node
  k1 : -9223372036854775808 ≤ x.kind
  k2 : x.kind ≤ 9223372036854775807
  n1 : -9223372036854775808 ≤ x.n
  n2 : x.n ≤ 9223372036854775807
  o1 : -9223372036854775808 ≤ x.op
  o2 : x.op ≤ 9223372036854775807
  key : x.key.size ≤ 140737488355328
  text : x.text.size ≤ 140737488355328

set_option maxRecDepth 8000 in
set_option maxHeartbeats 1000000 in
theorem may_any (x : OpV) (v : Value) (l : List OpV) (w : World) (hx : OpOk x) (hl : OpsAt w v l) (hb : l.length ≤ 4398046511104) :
    Calls Tryz.prog 127 #[.agg (opA x), v] w fun e w' => e = .returned (.bool (mayAt l x)) ∧ Below w.heap.size w w' := by
  obtain ⟨va, vc, rfl⟩ := hl.form
  have HL := Keep.mk hl
  have HB := Keep.mk (Blk.new w 164 (opA x))
  have HW := Keep.mk (below_new w (.cells (opA x) 164))
  have HR : Keep ((w.alloc (.cells (opA x) 164)).rangeAt w.heap.size 4 (idL x.node x.op)) := ⟨fun j v hv => by
    rw [HB.out.cell]; unfold opA; rw [List.getElem?_toArray, ← List.getElem?_drop, opL_at]; exact hv⟩
  have HN : Keep ((w.alloc (.cells (opA x) 164)).rangeAt w.heap.size 4 (bytesA 32 (hof x.node)).toList) := ⟨fun j v hv => by
    rw [hl_bytesA, ← idL_node x.node x.op] at hv
    rw [List.getElem?_take] at hv
    split at hv
    · exact HR.out j v hv
    · cases hv⟩
  have c0 : (w.alloc (.cells (opA x) 164)).cell? ⟨w.heap.size, 0, none⟩ = some (.int .i64 x.kind) := by rw [HB.out.cell, opA_0]
  have c1 : (w.alloc (.cells (opA x) 164)).cell? ⟨w.heap.size, 1, none⟩ = some (.string x.key) := by rw [HB.out.cell, opA_1]
  have c36 : (w.alloc (.cells (opA x) 164)).cell? ⟨w.heap.size, 36, none⟩ = some (.int .i64 x.op) := by rw [HB.out.cell, opA_36]
  obtain ⟨R, hR⟩ : ∃ R, R = mayAt l x := ⟨_, rfl⟩
  rw [← hR]
  unfold mayAt at hR
  have HM := Keep.mk hR
  clear hR
  have h1 := run_eql31L x.node z32 x.op 0
  have h2 := run_neqHL x.node z32
  have hNs : Keep ((Tryz.prog.info? 51).map (·.size) = some (bytesA 32 (hof x.node)).toList.length) := ⟨by rw [Array.length_toList]; exact Tryz.size51B _⟩
  obtain ⟨E, hE⟩ : ∃ E, E = nd x.node z32 := ⟨_, rfl⟩
  rw [← hE] at h1 h2 HM
  obtain ⟨cN, hN⟩ : ∃ c, Keep (c = (bytesA 32 (hof x.node)).toList) := ⟨_, ⟨rfl⟩⟩
  rw [← hN.out] at h2 HN hNs
  obtain ⟨cI, hI⟩ : ∃ c, Keep (c = idL x.node x.op) := ⟨_, ⟨rfl⟩⟩
  have hIs : Keep ((Tryz.prog.info? 162).map (·.size) = some cI.length) := ⟨by rw [hI.out]; exact Tryz.size162L _ _⟩
  rw [← hI.out] at h1 HR
  obtain ⟨aZ, hZ⟩ : ∃ c, Keep (c = idA z32 0) := ⟨_, ⟨rfl⟩⟩
  have hbZ : Keep (Tryz.prog.built 162 [] = some aZ) := ⟨by rw [hZ.out]; exact Tryz.built162⟩
  rw [← hZ.out] at h1
  obtain ⟨aY, hY⟩ : ∃ c, Keep (c = bytesA 32 (hof z32)) := ⟨_, ⟨rfl⟩⟩
  have hbY : Keep (Tryz.prog.built 51 [] = some aY) := ⟨by rw [hY.out]; exact Tryz.built51⟩
  rw [← hY.out] at h2
  have HX := Keep.mk hx
  have Hlb := Keep.mk hb
  have ho1 := hx.o1
  have ho2 := hx.o2
  obtain ⟨w1, hw1⟩ : ∃ w1, Keep (w.alloc (.cells (opA x) 164) = w1) := ⟨_, ⟨rfl⟩⟩
  rw [hw1.out] at HB HW HR HN c0 c1 c36
  clear hx hl hE hb
  have LD31 := Keep.mk HR.out
  go_enter Tryz.func127, Tryz.ntmps127
  by_cases hA : (E && x.op == 0) = true
  · have hA2 : E = true ∧ x.op = 0 := by simpa using hA
    rw [if_pos hA] at HM
    rw [hA] at h1
    go_wp2_with (first | (refine wpList_boxA rfl 164 (.tmp 0) rfl (opA x) rfl ?_; rw [hw1.out]) | (refine wpList_load_mid rfl 162 (.tmp 7) rfl w.heap.size 4 rfl cI _ HR.out Tryz.underlying162 rfl hIs.out ?_; refine wpList_bld rfl 162 _ rfl aZ (by simpa using hbZ.out) ?_))
    go_ret
    exact ⟨by rw [HM.out]; rfl, HW.out⟩
  · rw [if_neg hA] at HM
    rw [show (E && x.op == 0) = false by simpa using hA] at h1
    clear hA
    cases E with
    | false =>
      rw [if_pos rfl] at HM
      by_cases g1 : 1 ≤ x.op
      · by_cases g2 : x.op ≤ 1024
        · go_wp2_with (first | (refine wpList_boxA rfl 164 (.tmp 0) rfl (opA x) rfl ?_; rw [hw1.out]) | (refine wpList_load_mid rfl 162 (.tmp 7) rfl w.heap.size 4 rfl cI _ HR.out Tryz.underlying162 rfl hIs.out ?_; refine wpList_bld rfl 162 _ rfl aZ (by simpa using hbZ.out) ?_) | (refine wpList_load_mid rfl 51 (.tmp 18) rfl w.heap.size 4 rfl cN _ HN.out Tryz.underlying51 rfl hNs.out ?_; refine wpList_bld rfl 51 _ rfl aY (by simpa using hbY.out) ?_))
          go_ret
          exact ⟨by rw [HM.out, decide_eq_true g1, decide_eq_true g2]; rfl, HW.out⟩
        · go_wp2_with (first | (refine wpList_boxA rfl 164 (.tmp 0) rfl (opA x) rfl ?_; rw [hw1.out]) | (refine wpList_load_mid rfl 162 (.tmp 7) rfl w.heap.size 4 rfl cI _ HR.out Tryz.underlying162 rfl hIs.out ?_; refine wpList_bld rfl 162 _ rfl aZ (by simpa using hbZ.out) ?_) | (refine wpList_load_mid rfl 51 (.tmp 18) rfl w.heap.size 4 rfl cN _ HN.out Tryz.underlying51 rfl hNs.out ?_; refine wpList_bld rfl 51 _ rfl aY (by simpa using hbY.out) ?_))
          go_ret
          exact ⟨by rw [HM.out, decide_eq_true g1, decide_eq_false (show ¬ x.op ≤ 1024 by omega)]; rfl, HW.out⟩
      · go_wp2_with (first | (refine wpList_boxA rfl 164 (.tmp 0) rfl (opA x) rfl ?_; rw [hw1.out]) | (refine wpList_load_mid rfl 162 (.tmp 7) rfl w.heap.size 4 rfl cI _ HR.out Tryz.underlying162 rfl hIs.out ?_; refine wpList_bld rfl 162 _ rfl aZ (by simpa using hbZ.out) ?_) | (refine wpList_load_mid rfl 51 (.tmp 18) rfl w.heap.size 4 rfl cN _ HN.out Tryz.underlying51 rfl hNs.out ?_; refine wpList_bld rfl 51 _ rfl aY (by simpa using hbY.out) ?_))
        go_ret
        exact ⟨by rw [HM.out, decide_eq_false (show ¬ 1 ≤ x.op by omega)]; rfl, HW.out⟩
    | true =>
      rw [if_neg (by simp)] at HM
      by_cases g1 : x.op < 1
      · rw [if_pos (.inl g1)] at HM
        go_wp2_with (first | (refine wpList_boxA rfl 164 (.tmp 0) rfl (opA x) rfl ?_; rw [hw1.out]) | (refine wpList_load_mid rfl 162 (.tmp 7) rfl w.heap.size 4 rfl cI _ HR.out Tryz.underlying162 rfl hIs.out ?_; refine wpList_bld rfl 162 _ rfl aZ (by simpa using hbZ.out) ?_) | (refine wpList_load_mid rfl 51 (.tmp 18) rfl w.heap.size 4 rfl cN _ HN.out Tryz.underlying51 rfl hNs.out ?_; refine wpList_bld rfl 51 _ rfl aY (by simpa using hbY.out) ?_))
        go_ret
        exact ⟨by rw [HM.out]; rfl, HW.out⟩
      · by_cases g2 : (l.length : Int) < x.op
        · rw [if_pos (.inr g2)] at HM
          go_wp2_with (first | (refine wpList_boxA rfl 164 (.tmp 0) rfl (opA x) rfl ?_; rw [hw1.out]) | (refine wpList_load_mid rfl 162 (.tmp 7) rfl w.heap.size 4 rfl cI _ HR.out Tryz.underlying162 rfl hIs.out ?_; refine wpList_bld rfl 162 _ rfl aZ (by simpa using hbZ.out) ?_) | (refine wpList_load_mid rfl 51 (.tmp 18) rfl w.heap.size 4 rfl cN _ HN.out Tryz.underlying51 rfl hNs.out ?_; refine wpList_bld rfl 51 _ rfl aY (by simpa using hbY.out) ?_))
          go_ret
          exact ⟨by rw [HM.out]; rfl, HW.out⟩
        · rw [if_neg (by simp [g1, g2])] at HM
          obtain ⟨t, ht⟩ : ∃ t : Nat, x.op = (t : Int) + 1 := ⟨(x.op - 1).toNat, by omega⟩
          have htl : t < l.length := by omega
          obtain ⟨b, off, rfl, hrt⟩ := (HL.out.below HW.out).at htl
          rw [ht, show ((t : Int) + 1 - 1).toNat = t by omega] at HM
          have hi : (t : Int) + 1 - 1 = (t : Int) := by omega
          obtain ⟨it, hit⟩ : ∃ it, it = l.getD t zeroOp := ⟨_, rfl⟩
          rw [← hit] at hrt HM
          have HT := Keep.mk hrt
          have HS : Keep (Blk (w1.alloc (.cells (opA zeroOp) 164)) w1.heap.size 164 (opA zeroOp)) := ⟨Blk.new w1 164 _⟩
          have hw2 : w.heap.size < w1.heap.size := HB.out.lt
          have hg2 : (l.length : Int) ≤ 4398046511104 := by have := Hlb.out; omega
          have htn : ((t : Int) + 1 - 1).toNat = t := by omega
          rw [ht] at c36 g1 g2 ho1 ho2
          clear hit hrt
          go_wp2_with (first | (refine wpList_boxA rfl 164 (.tmp 0) rfl (opA x) rfl ?_; rw [hw1.out]) | (refine wpList_load_mid rfl 162 (.tmp 7) rfl w.heap.size 4 rfl cI _ HR.out Tryz.underlying162 rfl hIs.out ?_; refine wpList_bld rfl 162 _ rfl aZ (by simpa using hbZ.out) ?_) | (refine wpList_load_mid rfl 51 (.tmp 18) rfl w.heap.size 4 rfl cN _ HN.out Tryz.underlying51 rfl hNs.out ?_; refine wpList_bld rfl 51 _ rfl aY (by simpa using hbY.out) ?_) | (refine wpList_load_mid rfl 164 (.tmp 39) rfl b (off + t * 37) rfl (opL it) _ HT.out Tryz.underlying164 rfl (Tryz.size164L it) ?_; refine wpList_new rfl 164 rfl _ Tryz.new164 ?_; refine wpList_store_row rfl 164 (.tmp 6) (.tmp 40) rfl w1.heap.size (opA it) rfl rfl 164 (opA zeroOp) HS.out (Tryz.size164B it) (opA_sizes _ _) (opA_one it) ?_; refine Hid.out ?_))
          refine hid_in ?_
          have HI := Keep.mk (HS.out.setRow (opA it))
          have HX2 := Keep.mk ((HB.out.alloc (.cells (opA zeroOp) 164)).setRow_ne (b' := w1.heap.size) (by omega) (opA it))
          have HW2 := Keep.mk (below_setRow (HW.out.alloc HW.out.size (.cells (opA zeroOp) 164)) HW.out.size (opA it) (b := w1.heap.size))
          generalize (w1.alloc (.cells (opA zeroOp) 164)).setRow w1.heap.size (opA it) = w2 at *
          have d0 : w2.cell? ⟨w1.heap.size, 0, none⟩ = some (.int .i64 it.kind) := by rw [HI.out.cell, opA_0]
          have d1 : w2.cell? ⟨w1.heap.size, 1, none⟩ = some (.string it.key) := by rw [HI.out.cell, opA_1]
          have e1 : w2.cell? ⟨w.heap.size, 1, none⟩ = some (.string x.key) := by rw [HX2.out.cell, opA_1]
          clear h1 h2 c0 c1 c36
          by_cases k8 : it.kind = 8
          · go_wp2
            go_ret
            exact ⟨by rw [HM.out, k8]; simp; exact (beq_toListBytes _ _).symm, HW2.out⟩
          · go_wp2
            go_ret
            exact ⟨by rw [HM.out, show (it.kind == 8) = false by simpa using k8]; rfl, HW2.out⟩
end Go.Proofs.YtibaindbnemlcaaGreatDoor.Nd
namespace Go.Proofs.YtibaindbnemlcaaGreatDoor.Nd
open Go.RowKit

theorem wp_val {P : Program} {Q : Exit → Act → World → Prop} {o : Oper} {a : Act} {w : World} {K : Act → World → Prop} (v : Value) (hrun : (execOp a.eval o).run P w = .ok (.value v) w) (h : K (a.put o.dst v) w) : o.wp P a w K Q := by
  unfold Oper.wp
  rw [hrun]
  exact h
theorem Tryz.sizeOf5 (w : World) : (sizeOf 5).run Tryz.prog w = .ok 1 w := by kernel_rfl
structure IntsAt (w : World) (v : Value) (m : Nat) (K : Nat → Int) : Prop where
  form : (∃ a c, v = .slice a 0 c ∧ m = 0) ∨ ∃ q o cap, v = .slice (some ⟨q, o, none⟩) m cap ∧ ∀ i, i < m → w.cell? ⟨q, o + i, none⟩ = some (.int .i64 (K i))
theorem IntsAt.sl {w : World} {v : Value} {m : Nat} {K : Nat → Int} (h : IntsAt w v m K) : ∃ a c, v = .slice a m c := by
  rcases h.form with ⟨a, c, rfl, rfl⟩ | ⟨q, o, cap, rfl, _⟩
  · exact ⟨_, _, rfl⟩
  · exact ⟨_, _, rfl⟩
theorem IntsAt.at {w : World} {a : Option Addr} {m c : Nat} {K : Nat → Int} (h : IntsAt w (.slice a m c) m K) {t : Nat} (ht : t < m) : ∃ q o, a = some ⟨q, o, none⟩ ∧ w.cell? ⟨q, o + t, none⟩ = some (.int .i64 (K t)) := by
  rcases h.form with ⟨_, _, _, h2⟩ | ⟨q, o, cap, h1, h2⟩
  · omega
  · injection h1 with h1 h3 h4
    exact ⟨q, o, h1, h2 t ht⟩

end Go.Proofs.YtibaindbnemlcaaGreatDoor.Nd
namespace Go.Proofs.YtibaindbnemlcaaGreatDoor.Nd
open Go.RowKit

theorem wpList_wanted {P : Program} {ops : Array Oper} {rest : List Oper} {o : Oper} {a : Act} {w : World} {Q : Exit → Act → World → Prop} (hw : Region.wanted o (yielded ops a.tmps) = true)
    (h : ∀ K : Act → World → Prop, (∀ a w, wpList P ops Q rest a w → K a w) → o.wp P a w K Q) : wpList P ops Q (o :: rest) a w :=
  wpList_step fun K hK => by rw [if_pos hw]; exact h K hK

theorem wp_bldG {P : Program} {o : Oper} {a : Act} {w : World} {K : Act → World → Prop} {Q : Exit → Act → World → Prop} (t : TypeId) (parts : Array (Nat × Operand)) (ho : o.op = .build t parts)
    (cells : Array Value) (hf : P.built t (parts.map fun (i, x) => (i, a.eval x)).toList = some cells) (h : K (a.put o.dst (.agg cells)) w) : o.wp P a w K Q :=
  wp_build t parts ho (by rw [hf]; rfl) (by rw [hf]; exact h)

structure WL (P : Program) (ops : Array Oper) (Q : Exit → Act → World → Prop) (l : List Oper) (a : Act) (w : World) : Prop where
  out : wpList P ops Q l a w
theorem WL.skip {P : Program} {ops : Array Oper} {rest : List Oper} {o : Oper} {a : Act} {w : World} {Q : Exit → Act → World → Prop} (hw : Region.wanted o (yielded ops a.tmps) = false)
    (h : WL P ops Q rest (a.put o.dst undef) w) : WL P ops Q (o :: rest) a w :=
  ⟨wpList_step fun K hK => by rw [if_neg (by rw [hw]; simp)]; exact hK _ _ h.out⟩
theorem WL.val {P : Program} {ops : Array Oper} {rest : List Oper} {o : Oper} {a : Act} {w : World} {Q : Exit → Act → World → Prop} (hw : Region.wanted o (yielded ops a.tmps) = true) (v : Value)
    (hrun : (execOp a.eval o).run P w = .ok (.value v) w) (h : WL P ops Q rest (a.put o.dst v) w) : WL P ops Q (o :: rest) a w :=
  ⟨wpList_wanted hw fun _ hK => wp_val v hrun (hK _ _ h.out)⟩
theorem WL.nil {P : Program} {ops : Array Oper} {a : Act} {w : World} {Q : Exit → Act → World → Prop} (h : Q .normal a w) : WL P ops Q [] a w := ⟨h⟩
theorem WL.mid {P : Program} {ops : Array Oper} {rest : List Oper} {op : Oper} {a : Act} {w : World} {Q : Exit → Act → World → Prop} (hw : Region.wanted op (yielded ops a.tmps) = true) (ty : TypeId) (x : Operand) (ho : op.op = .load ty x)
    (b o : Nat) (hx : a.eval x = .pointer (some ⟨b, o, none⟩)) (cs : List Value) (d : TypeDesc) (hc : w.rangeAt b o cs)
    (hu : P.underlying ty = some d) (hd : d.isRow = true) (hi : (P.info? ty).map (·.size) = some cs.length)
    (h : WL P ops Q rest (a.put op.dst (.agg cs.toArray)) w) : WL P ops Q (op :: rest) a w :=
  ⟨wpList_wanted hw fun _ hK => wp_load_mid ty x ho b o hx cs d hc hu hd hi (hK _ _ h.out)⟩
theorem WL.call {P : Program} {ops : Array Oper} {rest : List Oper} {o : Oper} {a : Act} {w : World} {Q : Exit → Act → World → Prop} (hw : Region.wanted o (yielded ops a.tmps) = true)
    (h : ∀ K : Act → World → Prop, (∀ a w, WL P ops Q rest a w → K a w) → o.wp P a w K Q) : WL P ops Q (o :: rest) a w :=
  ⟨wpList_wanted hw fun K hK => h K fun a w h => hK a w h.out⟩


end Go.Proofs.YtibaindbnemlcaaGreatDoor.Nd
namespace Go.Proofs.YtibaindbnemlcaaGreatDoor.Nd
open Go.RowKit

section
variable {P : Program} {ops : Array Oper} {rest : List Oper} {o : Oper} {a : Act} {w : World} {Q : Exit → Act → World → Prop}
theorem WL.row (hw : Region.wanted o (yielded ops a.tmps) = true) (ty : TypeId) (x : Operand) (ho : o.op = .load ty x)
    (b : Nat) (hx : a.eval x = .pointer (some ⟨b, 0, none⟩)) (t : TypeId) (cs : Array Value) (d : TypeDesc) (hc : Blk w b t cs)
    (hu : P.underlying ty = some d) (hd : d.isRow = true) (hi : (P.info? ty).map (·.size) = some cs.size)
    (h : WL P ops Q rest (a.put o.dst (.agg cs)) w) : WL P ops Q (o :: rest) a w :=
  WL.mid hw ty x ho b 0 hx cs.toList d (blk_range hc) hu hd (by rw [Array.length_toList]; exact hi) (by rw [Array.toArray_toList]; exact h)
theorem WL.midA (hw : Region.wanted o (yielded ops a.tmps) = true) (ty : TypeId) (x : Operand) (ho : o.op = .load ty x)
    (b of : Nat) (hx : a.eval x = .pointer (some ⟨b, of, none⟩)) (cs : Array Value) (d : TypeDesc) (hc : w.rangeAt b of cs.toList)
    (hu : P.underlying ty = some d) (hd : d.isRow = true) (hi : (P.info? ty).map (·.size) = some cs.size)
    (h : WL P ops Q rest (a.put o.dst (.agg cs)) w) : WL P ops Q (o :: rest) a w :=
  WL.mid hw ty x ho b of hx cs.toList d hc hu hd (by rw [Array.length_toList]; exact hi) (by rw [Array.toArray_toList]; exact h)
theorem WL.new (hw : Region.wanted o (yielded ops a.tmps) = true) (t : TypeId) (ho : o.op = .alloc t) (cells : Array Value)
    (hf : ∀ w : World, (Instr.alloc t true (.tuple #[])).run P w = .ok (.pointer (some ⟨w.heap.size, 0, none⟩)) (w.alloc (.cells cells t)))
    (h : WL P ops Q rest (a.put o.dst (.pointer (some ⟨w.heap.size, 0, none⟩))) (w.alloc (.cells cells t))) : WL P ops Q (o :: rest) a w :=
  ⟨wpList_wanted hw fun K hK => by
    unfold Oper.wp execOp
    simp only [ho, Sem.run_bind, hf w, Result.andThen_ok]
    exact hK _ _ h.out⟩
theorem WL.box (hw : Region.wanted o (yielded ops a.tmps) = true) (t : TypeId) (x : Operand) (ho : o.op = .box t x) (cs : Array Value) (hx : a.eval x = .agg cs)
    (h : WL P ops Q rest (a.put o.dst (.pointer (some ⟨w.heap.size, 0, none⟩))) (w.alloc (.cells cs t))) : WL P ops Q (o :: rest) a w :=
  ⟨wpList_wanted hw fun K hK => by
    unfold Oper.wp execOp
    simp only [ho, hx, Sem.run_bind, run_box_agg, Result.andThen_ok]
    exact hK _ _ h.out⟩
theorem WL.storeR (hw : Region.wanted o (yielded ops a.tmps) = true) (ty : TypeId) (x y : Operand) (ho : o.op = .store ty x y)
    (g : Nat) (cells : Array Value) (hx : a.eval x = .pointer (some ⟨g, 0, none⟩)) (hy : a.eval y = .agg cells)
    (t : TypeId) (old : Array Value) (hg : Blk w g t old) (hi : (P.info? ty).map (·.size) = some cells.size) (hold : old.size = cells.size) (h1 : cells.all (·.oneCell') = true)
    (h : WL P ops Q rest (a.put o.dst undef) (w.setRow g cells)) : WL P ops Q (o :: rest) a w :=
  ⟨wpList_wanted hw fun _ hK => wp_store_row ty x y ho g cells hx hy t old hg hi hold h1 (hK _ _ h.out)⟩
theorem WL.cell (hw : Region.wanted o (yielded ops a.tmps) = true) (w' : World) (hrun : (execOp a.eval o).run P w = .ok .skip w')
    (h : WL P ops Q rest (a.put o.dst undef) w') : WL P ops Q (o :: rest) a w :=
  ⟨wpList_wanted hw fun _ hK => by unfold Oper.wp; rw [hrun, Oper.upon_skip]; exact hK _ _ h.out⟩
theorem WL.bld (hw : Region.wanted o (yielded ops a.tmps) = true) (t : TypeId) (parts : Array (Nat × Operand)) (ho : o.op = .build t parts)
    (vs : List (Nat × Value)) (hv : (parts.map fun (i, x) => (i, a.eval x)).toList = vs) (cells : Array Value) (hf : P.built t vs = some cells)
    (h : WL P ops Q rest (a.put o.dst (.agg cells)) w) : WL P ops Q (o :: rest) a w :=
  ⟨wpList_wanted hw fun _ hK => wp_bldG t parts ho cells (by rw [hv]; exact hf) (hK _ _ h.out)⟩
theorem WL.bs (hw : Region.wanted o (yielded ops a.tmps) = true) (t : TypeId) (n : Nat) (parts : Array (Nat × Operand)) (ho : o.op = .buildSlice t n parts)
    (vs : Array (Nat × Value)) (hv : (parts.map fun (i, x) => (i, a.eval x)) = vs) (v : Value) (w' : World) (hrun : (Instr.buildSlice t n vs).run P w = .ok v w')
    (h : WL P ops Q rest (a.put o.dst v) w') : WL P ops Q (o :: rest) a w :=
  ⟨wpList_wanted hw fun K hK => by
    unfold Oper.wp execOp
    simp only [ho, hv, Sem.run_bind, hrun, Result.andThen_ok]
    exact hK _ _ h.out⟩
theorem WL.part (hw : Region.wanted o (yielded ops a.tmps) = true) (ty : TypeId) (x y : Operand) (ho : o.op = .store ty x y)
    (g off : Nat) (cells : Array Value) (hx : a.eval x = .pointer (some ⟨g, off, none⟩)) (hy : a.eval y = .agg cells)
    (t : TypeId) (cur : Array Value) (hg : Blk w g t cur) (hi : (P.info? ty).map (·.size) = some cells.size) (hfit : off + cells.size ≤ cur.size) (h1 : cells.all (·.oneCell') = true)
    (new : Array Value) (hn : (cur.toList.take off ++ cells.toList ++ cur.toList.drop (off + cells.size)).toArray = new)
    (h : WL P ops Q rest (a.put o.dst undef) (w.setRow g new)) : WL P ops Q (o :: rest) a w := by
  subst hn
  refine ⟨wpList_wanted hw fun K hK => ?_⟩
  have hst := run_storeCells_at P g off t cells.toList 0 cur w hg (by simpa using hfit) (fun v hv => (Array.all_eq_true_iff_forall_mem.1 h1) v (by simpa using hv))
  have hrun : (storeVar ty ⟨g, off, none⟩ (.agg cells)).run P w = .ok () (w.setRow g (cur.toList.take off ++ cells.toList ++ cur.toList.drop (off + cells.size)).toArray) := by
    cases hq : P.info? ty with
    | none => simp [hq] at hi
    | some i =>
      have hs : cells.size = i.size := by simp [hq] at hi; omega
      simp only [Nat.add_zero, Array.length_toList] at hst
      simp [storeVar, sizeOf, typeInfo, hq, Value.cells, hs, hst]
  unfold Oper.wp execOp
  simp only [ho, hx, hy, Instr.storeAt, Instr.sureAddr, Sem.run_bind, Sem.run_pure, Result.andThen_ok, hrun]
  exact hK _ _ h.out
theorem run_callF (a : Act) (o : Oper) (f : FuncId) (args : Array Operand) (ts : Array TypeId) (ho : o.op = .call { callee := .value (.func f), args := args, argTypes := ts })
    (hf : ∀ (w : World) (vs : Array Value), (callFunc f vs).run P w = .ok (.enter f vs) w) (w : World) :
    (execOp a.eval o).run P w = .ok (.enter f (args.map a.eval)) w := by
  unfold execOp
  simp only [ho]
  simp [resolve, Act.eval, go_sem]
  exact hf w _
theorem run_callV (a : Act) (o : Oper) (f : FuncId) (x : Operand) (args : Array Operand) (ts : Array TypeId) (ho : o.op = .call { callee := .value x, args := args, argTypes := ts }) (hx : a.eval x = .func (.func f) #[] #[])
    (hf : ∀ (w : World) (vs : Array Value), (callFunc f vs).run P w = .ok (.enter f vs) w) (w : World) :
    (execOp a.eval o).run P w = .ok (.enter f (args.map a.eval)) w := by
  unfold execOp
  simp only [ho, resolve, hx]
  generalize Array.map a.eval args = vs
  simp [go_sem]
  exact hf w _
theorem WL.callF (hw : Region.wanted o (yielded ops a.tmps) = true) (f : FuncId) (args : Array Operand) (ts : Array TypeId) (ho : o.op = .call { callee := .value (.func f), args := args, argTypes := ts })
    (hf : ∀ (w : World) (vs : Array Value), (callFunc f vs).run P w = .ok (.enter f vs) w) (vs : Array Value) (hvs : args.map a.eval = vs)
    (hc : Calls P f vs w fun e w' => ∃ v, e = .returned v ∧ WL P ops Q rest (a.put o.dst v) w') : WL P ops Q (o :: rest) a w :=
  ⟨wpList_wanted hw fun K hK => by
    unfold Oper.wp
    rw [run_callF a o f args ts ho hf w, Oper.upon_enter, hvs]
    refine hc.mono ?_
    rintro e w' ⟨v, rfl, hr⟩
    exact hK _ _ hr.out⟩
theorem WL.callV (hw : Region.wanted o (yielded ops a.tmps) = true) (f : FuncId) (x : Operand) (args : Array Operand) (ts : Array TypeId) (ho : o.op = .call { callee := .value x, args := args, argTypes := ts }) (hx : a.eval x = .func (.func f) #[] #[])
    (hf : ∀ (w : World) (vs : Array Value), (callFunc f vs).run P w = .ok (.enter f vs) w) (vs : Array Value) (hvs : args.map a.eval = vs)
    (hc : Calls P f vs w fun e w' => ∃ v, e = .returned v ∧ WL P ops Q rest (a.put o.dst v) w') : WL P ops Q (o :: rest) a w :=
  ⟨wpList_wanted hw fun K hK => by
    unfold Oper.wp
    rw [run_callV a o f x args ts ho hx hf w, Oper.upon_enter, hvs]
    refine hc.mono ?_
    rintro e w' ⟨v, rfl, hr⟩
    exact hK _ _ hr.out⟩
end
theorem Blk.c {w : World} {b : Nat} {T : TypeId} {cs : Array Value} (h : Blk w b T cs) (j : Nat) {v : Value} (hv : cs[j]? = some v) : w.cell? ⟨b, j, none⟩ = some v := by rw [h.cell]; exact hv
theorem Tryz.in31 (w : World) (vs : Array Value) : (callFunc 31 vs).run Tryz.prog w = .ok (.enter 31 vs) w := by kernel_rfl
theorem Tryz.in55 (w : World) (vs : Array Value) : (callFunc 55 vs).run Tryz.prog w = .ok (.enter 55 vs) w := by kernel_rfl
theorem Tryz.in47 (w : World) (vs : Array Value) : (callFunc 47 vs).run Tryz.prog w = .ok (.enter 47 vs) w := by kernel_rfl
theorem Tryz.in78 (w : World) (vs : Array Value) : (callFunc 78 vs).run Tryz.prog w = .ok (.enter 78 vs) w := by kernel_rfl
theorem Tryz.in76 (w : World) (vs : Array Value) : (callFunc 76 vs).run Tryz.prog w = .ok (.enter 76 vs) w := by kernel_rfl
theorem Tryz.in50 (w : World) (vs : Array Value) : (callFunc 50 vs).run Tryz.prog w = .ok (.enter 50 vs) w := by kernel_rfl
theorem Tryz.in77 (w : World) (vs : Array Value) : (callFunc 77 vs).run Tryz.prog w = .ok (.enter 77 vs) w := by kernel_rfl
theorem Tryz.in127 (w : World) (vs : Array Value) : (callFunc 127 vs).run Tryz.prog w = .ok (.enter 127 vs) w := by kernel_rfl
theorem Tryz.in69 (w : World) (vs : Array Value) : (callFunc 69 vs).run Tryz.prog w = .ok (.enter 69 vs) w := by kernel_rfl
theorem Tryz.in108 (w : World) (vs : Array Value) : (callFunc 108 vs).run Tryz.prog w = .ok (.enter 108 vs) w := by kernel_rfl
theorem Tryz.in109 (w : World) (vs : Array Value) : (callFunc 109 vs).run Tryz.prog w = .ok (.enter 109 vs) w := by kernel_rfl
theorem Tryz.in112 (w : World) (vs : Array Value) : (callFunc 112 vs).run Tryz.prog w = .ok (.enter 112 vs) w := by kernel_rfl
theorem Tryz.in116 (w : World) (vs : Array Value) : (callFunc 116 vs).run Tryz.prog w = .ok (.enter 116 vs) w := by kernel_rfl
theorem Tryz.in117 (w : World) (vs : Array Value) : (callFunc 117 vs).run Tryz.prog w = .ok (.enter 117 vs) w := by kernel_rfl
theorem Tryz.in120 (w : World) (vs : Array Value) : (callFunc 120 vs).run Tryz.prog w = .ok (.enter 120 vs) w := by kernel_rfl
theorem Tryz.in74 (w : World) (vs : Array Value) : (callFunc 74 vs).run Tryz.prog w = .ok (.enter 74 vs) w := by kernel_rfl
end Go.Proofs.YtibaindbnemlcaaGreatDoor.Nd
namespace Go.Proofs.YtibaindbnemlcaaGreatDoor.Nd
open Go.RowKit
set_option linter.unusedSimpArgs false

theorem FieldsAt.form {w : World} {v : Value} {is : List Nat} (h : FieldsAt w v is) : ∃ a c, v = .slice a is.length c := by
  rcases h with ⟨rfl, rfl⟩ | ⟨g, rfl, _⟩
  · exact ⟨_, _, rfl⟩
  · exact ⟨_, _, rfl⟩
theorem FieldsAt.below {w w' : World} {v : Value} {is : List Nat} (h : FieldsAt w v is) (hb : Below w.heap.size w w') : FieldsAt w' v is :=
  h.grown (Grown.below (S := fun _ => False) hb) fun _ _ h => h
theorem flatF_drop (is : List Nat) : ∀ t, (flatF is).toList.drop (t * 3) = (is.drop t).flatMap fun i => (fldA i).toList := by
  induction is with
  | nil => intro t; simp [flatF]
  | cons i is ih =>
    intro t
    cases t with
    | zero => simp [flatF]
    | succ t =>
      have := ih t
      simp only [flatF, List.flatMap_cons, List.drop_succ_cons] at this ⊢
      rw [← this, show (t + 1) * 3 = 3 + t * 3 by omega, ← List.drop_drop, List.drop_left' (by rw [Array.length_toList, fldA_size])]
theorem flat_range {w : World} {g : Nat} {is : List Nat} (h : Blk w g 192 (flatF is)) {t : Nat} (ht : t < is.length) : w.rangeAt g (t * 3) (fldA (is.getD t 0)).toList := fun j v hv => by
  rw [h.cell]
  have h3 : j < 3 := by have := (List.getElem?_eq_some_iff.1 hv).1; rw [Array.length_toList, fldA_size] at this; exact this
  have e : (flatF is)[t * 3 + j]? = ((flatF is).toList.drop (t * 3))[j]? := by rw [List.getElem?_drop, Array.getElem?_toList]
  rw [e, flatF_drop, List.drop_eq_getElem_cons ht, List.flatMap_cons, List.getElem?_append_left (by rw [Array.length_toList, fldA_size]; exact h3)]
  rw [show is[t] = is.getD t 0 by simp [List.getD_eq_getElem?_getD, ht]]
  exact hv
theorem FieldsAt.at {w : World} {a : Option Addr} {n c : Nat} {is : List Nat} (h : FieldsAt w (.slice a n c) is) {t : Nat} (ht : t < is.length) : ∃ g, a = some ⟨g, 0, none⟩ ∧ w.rangeAt g (0 + t * 3) (fldA (is.getD t 0)).toList := by
  rcases h with ⟨_, rfl⟩ | ⟨g, e, h2⟩
  · simp at ht
  · injection e with e1 e2 e3
    exact ⟨g, e1, by rw [Nat.zero_add]; exact flat_range h2 ht⟩
end Go.Proofs.YtibaindbnemlcaaGreatDoor.Nd
namespace Go.Proofs.YtibaindbnemlcaaGreatDoor.Nd
open Go.RowKit
set_option linter.unusedSimpArgs false

theorem hasI_lt (k : Int) : ∀ i ∈ hasI k, i < 4 := by
  by_cases h : k ∈ ([1, 2, 3, 4, 5, 6, 7, 8, 9] : List Int)
  · simp only [List.mem_cons, List.not_mem_nil, or_false] at h
    rcases h with rfl | rfl | rfl | rfl | rfl | rfl | rfl | rfl | rfl <;> decide
  · rw [hasI_none k h]; simp
theorem hasI_len (k : Int) : (hasI k).length ≤ 3 := by
  by_cases h : k ∈ ([1, 2, 3, 4, 5, 6, 7, 8, 9] : List Int)
  · simp only [List.mem_cons, List.not_mem_nil, or_false] at h
    rcases h with rfl | rfl | rfl | rfl | rfl | rfl | rfl | rfl | rfl <;> decide
  · rw [hasI_none k h]; simp
end Go.Proofs.YtibaindbnemlcaaGreatDoor.Nd
namespace Go.Proofs.YtibaindbnemlcaaGreatDoor.Nd
open Go.RowKit
set_option linter.unusedSimpArgs false

theorem wp_callF {P : Program} {Q : Exit → Act → World → Prop} {o : Oper} {a : Act} {w : World} {K : Act → World → Prop} (f : FuncId) (args : Array Operand) (ts : Array TypeId) (ho : o.op = .call { callee := .value (.func f), args := args, argTypes := ts })
    (hf : ∀ (w : World) (vs : Array Value), (callFunc f vs).run P w = .ok (.enter f vs) w)
    (vs : Array Value) (hvs : args.map a.eval = vs)
    (R : Value → World → Prop) (hc : Calls P f vs w fun e w' => ∃ v, e = .returned v ∧ R v w')
    (h : ∀ v w', R v w' → K (a.put o.dst v) w') : o.wp P a w K Q := by
  unfold Oper.wp
  rw [run_callF a o f args ts ho hf w, Oper.upon_enter, hvs]
  refine hc.mono ?_
  rintro e w' ⟨v, rfl, hr⟩
  exact h v w' hr
theorem TabAt.look2 {w : World} {m : Nat} (h : TabAt w m) (k : Int) : ∃ v, FieldsAt w v (hasI k) ∧ ∀ wx, Below w.heap.size w wx →
    (Instr.lookup 159 (.map (some m)) (.int .i64 k) false).run Tryz.prog wx = .ok v wx ∧ (Instr.lookup 159 (.map (some m)) (.int .i64 k) true).run Tryz.prog wx = .ok (.tuple #[v, .bool (!(hasI k).isEmpty)]) wx := by
  obtain ⟨V, h1, h2⟩ := h.ex
  have h3 := fun wx (hb : Below w.heap.size w wx) => run_look wx m _ k (h1.grown (Grown.below (S := fun _ => False) hb) (fun h => h))
  simp only [find_tab] at h3
  by_cases hk : k ∈ ([1, 2, 3, 4, 5, 6, 7, 8, 9] : List Int)
  · refine ⟨V k, h2 k hk, fun wx hb => ⟨by rw [h3 wx hb, if_pos hk]; rfl, ?_⟩⟩
    have : (hasI k).isEmpty = false := by simpa using hasI_some k hk
    rw [h3 wx hb, if_pos hk, this]; rfl
  · refine ⟨.slice none 0 0, .inl ⟨rfl, hasI_none k hk⟩, fun wx hb => ⟨by rw [h3 wx hb, if_neg hk]; rfl, ?_⟩⟩
    rw [h3 wx hb, if_neg hk, hasI_none k hk]; rfl
theorem OpsAt.take {w : World} {a : Option Addr} {n c : Nat} {l : List OpV} (h : OpsAt w (.slice a n c) l) {t : Nat} (ht : t ≤ l.length) : t ≤ c ∧ OpsAt w (.slice a t c) (l.take t) := by
  rcases h with ⟨_, _, e, rfl⟩ | ⟨b, off, cap, e, h2, h3⟩
  · obtain rfl : t = 0 := by simpa using ht
    exact ⟨Nat.zero_le _, .inl ⟨_, _, rfl, rfl⟩⟩
  · injection e with e1 e2 e3
    subst e1 e3
    refine ⟨by omega, .inr ⟨b, off, c, ?_, ?_, fun i x hx => h3 i x ?_⟩⟩
    · rw [List.length_take, Nat.min_eq_left ht]
    · rw [List.length_take]; omega
    · rw [List.getElem?_take] at hx; split at hx
      · exact hx
      · cases hx
end Go.Proofs.YtibaindbnemlcaaGreatDoor.Nd
namespace Go.Proofs.YtibaindbnemlcaaGreatDoor.Nd
open Go.RowKit
set_option linter.unusedSimpArgs false

theorem OutAt.below {w w' : World} {p : Nat} {v : Value} {l : List Int} (h : OutAt w p v l) (hb : Below w.heap.size w w') : OutAt w' p v l :=
  h.grown (Grown.below (S := fun _ => False) hb) fun _ _ h => h
theorem OutAt.off {w : World} {p : Nat} {v : Value} {l : List Int} (h : OutAt w p v l) {g : Nat} {T : TypeId} {cs : Array Value} (hg : Blk w g T cs) (h1 : T ≠ 218) (h2 : T ≠ 5) : ¬ OF p v g := by
  rintro (rfl | e)
  · exact h1 (blk_type hg h.blk)
  · exact h.own.ne hg h2 e
theorem OutAt.fields {w w' : World} {p : Nat} {v : Value} {l : List Int} (h : OutAt w p v l) {u : Value} {is : List Nat} (hf : FieldsAt w u is) (hg : Grown w w' (OF p v)) : FieldsAt w' u is :=
  hf.grown hg fun _ hb => h.off hb (by decide) (by decide)

end Go.Proofs.YtibaindbnemlcaaGreatDoor.Nd
namespace Go.Proofs.YtibaindbnemlcaaGreatDoor.Nd
open Go.RowKit
set_option linter.unusedSimpArgs false

theorem Moved.mono {a b : World} {v v' : Value} (h : Moved b v v') (hs : a.heap.size ≤ b.heap.size) : Moved a v v' := (Moved.refl a v).trans hs h
end Go.Proofs.YtibaindbnemlcaaGreatDoor.Nd
namespace Go.Proofs.YtibaindbnemlcaaGreatDoor.Nd
open Go.RowKit
set_option linter.unusedSimpArgs false

def flatO (l : List OpV) : List Value := l.flatMap opL
theorem flatO_drop (l : List OpV) : ∀ t, (flatO l).drop (t * 37) = flatO (l.drop t) := by
  induction l with
  | nil => intro t; simp [flatO]
  | cons x l ih =>
    intro t
    cases t with
    | zero => simp
    | succ t =>
      have := ih t
      simp only [flatO, List.flatMap_cons, List.drop_succ_cons] at this ⊢
      rw [← this, show (t + 1) * 37 = 37 + t * 37 by omega, ← List.drop_drop, List.drop_left' (opL_len x)]
theorem flatO_get (l : List OpV) (t : Nat) (x : OpV) (ht : l[t]? = some x) (j : Nat) (v : Value) (hv : (opL x)[j]? = some v) : (flatO l)[t * 37 + j]? = some v := by
  rw [← List.getElem?_drop, flatO_drop]
  obtain ⟨h1, h2⟩ := List.getElem?_eq_some_iff.1 ht
  rw [List.drop_eq_getElem_cons h1, h2]
  simp only [flatO, List.flatMap_cons]
  rw [List.getElem?_append_left (List.getElem?_eq_some_iff.1 hv).1]
  exact hv
theorem ops_block {w : World} {g : Nat} {T : TypeId} {l : List OpV} {cs : Array Value} {cap : Nat} (h : Blk w g T cs) (hc : cs.toList.take (l.length * 37) = flatO l) (hcap : l.length ≤ cap) : OpsAt w (.slice (some ⟨g, 0, none⟩) l.length cap) l := by
  refine .inr ⟨g, 0, cap, rfl, hcap, fun i x hx j v hv => ?_⟩
  rw [Nat.zero_add, h.cell]
  have := flatO_get l i x hx j v hv
  rw [← hc, List.getElem?_take] at this
  split at this
  · simpa using this
  · cases this
theorem z32_len : z32.length = 32 := by decide
theorem z32_byts : Byts z32 := by unfold z32; intro c hc; rw [List.eq_of_mem_replicate hc]; decide
end Go.Proofs.YtibaindbnemlcaaGreatDoor.Nd
namespace Go.Proofs.YtibaindbnemlcaaGreatDoor.Nd
open Go.RowKit
set_option linter.unusedSimpArgs false

def getA (L : List Int) (ah : List OpV) (x : OpV) (a : Nat) : Int × Nat × OpV :=
  if (fstM (L.drop a) 1024).2.2 ≠ 0 then ((fstM (L.drop a) 1024).2.2, a + (fstM (L.drop a) 1024).2.1.toNat, x)
  else if (fstM (L.drop a) 1024).1 = 0 then
    (if mayAt ah { x with op := 0 } = true then (0, a + (fstM (L.drop a) 1024).2.1.toNat, { x with op := 0 }) else (42, a, x))
  else if nextW (L.drop (a + (fstM (L.drop a) 1024).2.1.toNat)) 32 ≠ 0 then (nextW (L.drop (a + (fstM (L.drop a) 1024).2.1.toNat)) 32, a + (fstM (L.drop a) 1024).2.1.toNat + nextN (L.drop (a + (fstM (L.drop a) 1024).2.1.toNat)) 32, x)
  else (if mayAt ah { x with op := (fstM (L.drop a) 1024).1, node := (L.drop (a + (fstM (L.drop a) 1024).2.1.toNat)).take 32 } = true then (0, a + (fstM (L.drop a) 1024).2.1.toNat + 32, { x with op := (fstM (L.drop a) 1024).1, node := (L.drop (a + (fstM (L.drop a) 1024).2.1.toNat)).take 32 }) else (42, a, x))
def getF (L : List Int) (ah : List OpV) (i : Nat) (x : OpV) (a : Nat) : Int × Nat × OpV :=
  if i = 0 then ((byt (L.drop a) 65536).1, a + (byt (L.drop a) 65536).2.1, { x with key := strOfNums (byt (L.drop a) 65536).2.2 })
  else if i = 1 then ((byt (L.drop a) 65536).1, a + (byt (L.drop a) 65536).2.1, { x with text := strOfNums (byt (L.drop a) 65536).2.2 })
  else if i = 2 then ((fstM (L.drop a) 18446744073709551615).2.2, a + (fstM (L.drop a) 18446744073709551615).2.1.toNat, { x with n := if (fstM (L.drop a) 18446744073709551615).2.2 = 0 then zag (fstM (L.drop a) 18446744073709551615).1 else 0 })
  else getA L ah x a
def GetPost (p g : Nat) (s : ByteArray) (R : Int × Nat × OpV) (w : World) (e : Ending) (w' : World) : Prop :=
  ∃ er, e = .returned er ∧ (Grown w w' fun k => k = p ∨ k = g) ∧
    ((R.1 = 0 ∧ er = .nilIface ∧ InAt w' p s R.2.1 none ∧ Blk w' g 164 (opA R.2.2) ∧ OpOk R.2.2) ∨ (R.1 ≠ 0 ∧ ∃ q, w.heap.size ≤ q ∧ er = err q ∧ BadAt w' q R.1 R.2.1))
theorem byt_l (D : List Int) (mm : Int) : (byt D mm).2.2.length ≤ D.length ∧ (Byts D → Byts (byt D mm).2.2) := by
  unfold byt
  split
  · exact ⟨by simp only [List.length_take, List.length_drop]; omega, fun h => (h.drop _).take _⟩
  · exact ⟨by simp, fun _ => Byts.nil⟩
theorem str_size {l : List Int} (h : Byts l) : (strOfNums l).size = l.length := by rw [← lst_len, lst_nums h]
theorem fst_rng (D : List Int) (hD : Byts D) (mm : Int) (hmm : 0 ≤ mm) : 0 ≤ (fstM D mm).1 ∧ (fstM D mm).1 ≤ mm := by
  by_cases h : (fstM D mm).2.2 = 0
  · exact fstM_le D mm hD h
  · have := ((fstM_shape D mm).1 h).1; omega
theorem err_step {w w1 w' : World} {why : Int} {a : Nat} {bad : Option Nat} {er : Value} (h : ErrAs w w1 why a bad er) (hk : ∀ q, BadAt w1 q why a → BadAt w' q why a) :
    (why = 0 ∧ er = .nilIface ∧ bad = none) ∨ (why ≠ 0 ∧ ∃ q, w.heap.size ≤ q ∧ er = err q ∧ BadAt w' q why a) := by
  rcases h with ⟨h1, h2, h3⟩ | ⟨h1, q, h2, h3, h4, h5⟩
  · exact .inl ⟨h1, h3, h2⟩
  · exact .inr ⟨h1, q, h2, h4, hk q h5⟩
theorem get0_any (p g : Nat) (s : ByteArray) (a : Nat) (x : OpV) (vA : Value) (ah : List OpV) (w : World) (hI : InAt w p s a none) (hb : s.size ≤ 140737488355328) (hX : Blk w g 164 (opA x)) (hx : OpOk x) :
    Calls Tryz.prog 108 #[ptr p, ptr g, vA] w (GetPost p g s (getF (lst s) ah 0 x a) w) := by
  have HI := Keep.mk hI
  have HX := Keep.mk hX
  have Hne : Keep (p ≠ g) := ⟨blk_ne hI.blk hX (by decide)⟩
  obtain ⟨D, hD⟩ : ∃ D, D = (lst s).drop a := ⟨_, rfl⟩
  obtain ⟨W, hW⟩ : ∃ W, W = (byt D ((65536 : Nat) : Int)).1 := ⟨_, rfl⟩
  obtain ⟨N, hN⟩ : ∃ N, N = (byt D ((65536 : Nat) : Int)).2.1 := ⟨_, rfl⟩
  obtain ⟨l, hl⟩ : ∃ l, l = (byt D ((65536 : Nat) : Int)).2.2 := ⟨_, rfl⟩
  obtain ⟨st, hst⟩ : ∃ st, st = strOfNums l := ⟨_, rfl⟩
  have hG : getF (lst s) ah 0 x a = (W, a + N, { x with key := st }) := by
    show ((byt ((lst s).drop a) 65536).1, a + (byt ((lst s).drop a) 65536).2.1, _) = _
    rw [hst, hl, hW, hN, hD]; rfl
  have HC := Keep.mk (itext_good p s a 65536 65536 (by decide) w hI hb (by decide) D hD W hW N hN l hl st hst)
  have hsz : st.size ≤ 140737488355328 := by
    have hby : Byts D := by rw [hD]; exact (lst_byts s).drop a
    have hl2 := byt_l D ((65536 : Nat) : Int)
    rw [hst, str_size (by rw [hl]; exact hl2.2 hby), hl]
    have h1 := hl2.1
    have h2 : D.length ≤ s.size := by rw [hD, List.length_drop, lst_len]; omega
    omega
  have HOk : Keep (OpOk { x with key := st }) := ⟨{ hx with key := hsz }⟩
  clear hD hW hN hl hst
  have HGk := Keep.mk hG
  clear hI hb hX hx hG
  have hG := HGk.out
  clear hG
  go_enter Tryz.func108, Tryz.ntmps108
  refine wp_seq_k fun K1 hK1 => ?_
  refine wp_region_list (WL.out ?_)
  refine WL.val (by kernel_rfl) (.nilIface) (by go_simp) ?_
  simp only [Act.put, List.setIfInBounds_toArray, List.set_cons_zero, List.set_cons_succ]
  refine WL.nil ?_
  refine hK1 _ _ ?_
  refine wp_seq_k fun K2 hK2 => ?_
  refine wp_region_list (WL.out ?_)
  refine WL.val (by kernel_rfl) (.pointer (some ⟨p, 0, none⟩)) (by go_simp) ?_
  simp only [Act.put, List.setIfInBounds_toArray, List.set_cons_zero, List.set_cons_succ]
  refine WL.callF (by kernel_rfl) 109 _ _ rfl Tryz.in109 #[ptr p, .int .i64 65536] (by simp [Act.eval]) ?_
  refine (HC.out).mono ?_
  rintro e w1 ⟨bad, er, rfl, h1, h2, h3⟩
  refine ⟨_, rfl, ?_⟩
  have H1 := Keep.mk h1
  have H2 := Keep.mk h2
  have H3 := Keep.mk h3
  have HX1 := Keep.mk (h2.blk HX.out (fun e => Hne.out e.symm))
  have c1 := HX1.out.c 1 (opA_1 x)
  have f1 := HX1.out.frozen 1
  clear h1 h2 h3
  simp only [Act.put, List.setIfInBounds_toArray, List.set_cons_zero, List.set_cons_succ]
  refine WL.val (by kernel_rfl) (.tuple #[.string st, er]) (by go_simp) ?_
  simp only [Act.put, List.setIfInBounds_toArray, List.set_cons_zero, List.set_cons_succ]
  refine WL.val (by kernel_rfl) (.string st) (by go_simp) ?_
  simp only [Act.put, List.setIfInBounds_toArray, List.set_cons_zero, List.set_cons_succ]
  refine WL.val (by kernel_rfl) (er) (by go_simp) ?_
  simp only [Act.put, List.setIfInBounds_toArray, List.set_cons_zero, List.set_cons_succ]
  refine WL.val (by kernel_rfl) (.string st) (by go_simp) ?_
  simp only [Act.put, List.setIfInBounds_toArray, List.set_cons_zero, List.set_cons_succ]
  refine WL.val (by kernel_rfl) (er) (by go_simp) ?_
  simp only [Act.put, List.setIfInBounds_toArray, List.set_cons_zero, List.set_cons_succ]
  refine WL.nil ?_
  refine hK2 _ _ ?_
  refine wp_seq_k fun K3 hK3 => ?_
  refine wp_region_list (WL.out ?_)
  refine WL.val (by kernel_rfl) (.pointer (some ⟨g, 0, none⟩)) (by go_simp) ?_
  simp only [Act.put, List.setIfInBounds_toArray, List.set_cons_zero, List.set_cons_succ]
  refine WL.val (by kernel_rfl) (.string st) (by go_simp) ?_
  simp only [Act.put, List.setIfInBounds_toArray, List.set_cons_zero, List.set_cons_succ]
  refine WL.val (by kernel_rfl) (.pointer (some ⟨g, 0, none⟩)) (by go_simp) ?_
  simp only [Act.put, List.setIfInBounds_toArray, List.set_cons_zero, List.set_cons_succ]
  refine WL.val (by kernel_rfl) (.pointer (some ⟨g, 1, none⟩)) (by go_simp) ?_
  simp only [Act.put, List.setIfInBounds_toArray, List.set_cons_zero, List.set_cons_succ]
  refine WL.cell (by kernel_rfl) (w1.setCell ⟨g, 1, none⟩ (.string st)) (by go_simp) ?_
  simp only [Act.put]
  refine WL.nil ?_
  refine hK3 _ _ ?_
  refine wp_seq_k fun K4 hK4 => ?_
  refine wp_region_list (WL.out ?_)
  refine WL.val (by kernel_rfl) (er) (by go_simp) ?_
  simp only [Act.put, List.setIfInBounds_toArray, List.set_cons_zero, List.set_cons_succ]
  refine WL.val (by kernel_rfl) (er) (by go_simp) ?_
  simp only [Act.put, List.setIfInBounds_toArray, List.set_cons_zero, List.set_cons_succ]
  refine WL.nil ?_
  refine hK4 _ _ ?_
  refine wp_ret ?_
  go_ret
  have hXn := HX1.out.set 1 (.string st)
  rw [set_1] at hXn
  refine ⟨er, rfl, ?_, ?_⟩
  · exact (H2.out.mono fun _ _ h => .inl h).trans (Grown.setCell w1 g 1 _ fun _ => .inr rfl)
  · rw [HGk.out]
    rcases err_step H3.out (w' := w1.setCell ⟨g, 1, none⟩ (.string st)) (fun q hq => hq.set_ne (blk_ne hq HX1.out (by decide)) _) with ⟨h1, h2, h3⟩ | h
    · subst h3
      exact .inl ⟨h1, h2, ⟨H1.out.blk.set_ne (fun e => Hne.out e) _, H1.out.le⟩, hXn, HOk.out⟩
    · exact .inr h
theorem get1_any (p g : Nat) (s : ByteArray) (a : Nat) (x : OpV) (vA : Value) (ah : List OpV) (w : World) (hI : InAt w p s a none) (hb : s.size ≤ 140737488355328) (hX : Blk w g 164 (opA x)) (hx : OpOk x) :
    Calls Tryz.prog 112 #[ptr p, ptr g, vA] w (GetPost p g s (getF (lst s) ah 1 x a) w) := by
  have HI := Keep.mk hI
  have HX := Keep.mk hX
  have Hne : Keep (p ≠ g) := ⟨blk_ne hI.blk hX (by decide)⟩
  obtain ⟨D, hD⟩ : ∃ D, D = (lst s).drop a := ⟨_, rfl⟩
  obtain ⟨W, hW⟩ : ∃ W, W = (byt D ((65536 : Nat) : Int)).1 := ⟨_, rfl⟩
  obtain ⟨N, hN⟩ : ∃ N, N = (byt D ((65536 : Nat) : Int)).2.1 := ⟨_, rfl⟩
  obtain ⟨l, hl⟩ : ∃ l, l = (byt D ((65536 : Nat) : Int)).2.2 := ⟨_, rfl⟩
  obtain ⟨st, hst⟩ : ∃ st, st = strOfNums l := ⟨_, rfl⟩
  have hG : getF (lst s) ah 1 x a = (W, a + N, { x with text := st }) := by
    show ((byt ((lst s).drop a) 65536).1, a + (byt ((lst s).drop a) 65536).2.1, _) = _
    rw [hst, hl, hW, hN, hD]; rfl
  have HC := Keep.mk (itext_good p s a 65536 65536 (by decide) w hI hb (by decide) D hD W hW N hN l hl st hst)
  have hsz : st.size ≤ 140737488355328 := by
    have hby : Byts D := by rw [hD]; exact (lst_byts s).drop a
    have hl2 := byt_l D ((65536 : Nat) : Int)
    rw [hst, str_size (by rw [hl]; exact hl2.2 hby), hl]
    have h1 := hl2.1
    have h2 : D.length ≤ s.size := by rw [hD, List.length_drop, lst_len]; omega
    omega
  have HOk : Keep (OpOk { x with text := st }) := ⟨{ hx with text := hsz }⟩
  clear hD hW hN hl hst
  have HGk := Keep.mk hG
  clear hI hb hX hx hG
  have hG := HGk.out
  clear hG
  go_enter Tryz.func112, Tryz.ntmps112
  refine wp_seq_k fun K1 hK1 => ?_
  refine wp_region_list (WL.out ?_)
  refine WL.val (by kernel_rfl) (.nilIface) (by go_simp) ?_
  simp only [Act.put, List.setIfInBounds_toArray, List.set_cons_zero, List.set_cons_succ]
  refine WL.nil ?_
  refine hK1 _ _ ?_
  refine wp_seq_k fun K2 hK2 => ?_
  refine wp_region_list (WL.out ?_)
  refine WL.val (by kernel_rfl) (.pointer (some ⟨p, 0, none⟩)) (by go_simp) ?_
  simp only [Act.put, List.setIfInBounds_toArray, List.set_cons_zero, List.set_cons_succ]
  refine WL.callF (by kernel_rfl) 109 _ _ rfl Tryz.in109 #[ptr p, .int .i64 65536] (by simp [Act.eval]) ?_
  refine (HC.out).mono ?_
  rintro e w1 ⟨bad, er, rfl, h1, h2, h3⟩
  refine ⟨_, rfl, ?_⟩
  have H1 := Keep.mk h1
  have H2 := Keep.mk h2
  have H3 := Keep.mk h3
  have HX1 := Keep.mk (h2.blk HX.out (fun e => Hne.out e.symm))
  have c1 := HX1.out.c 2 (opA_2 x)
  have f1 := HX1.out.frozen 2
  clear h1 h2 h3
  simp only [Act.put, List.setIfInBounds_toArray, List.set_cons_zero, List.set_cons_succ]
  refine WL.val (by kernel_rfl) (.tuple #[.string st, er]) (by go_simp) ?_
  simp only [Act.put, List.setIfInBounds_toArray, List.set_cons_zero, List.set_cons_succ]
  refine WL.val (by kernel_rfl) (.string st) (by go_simp) ?_
  simp only [Act.put, List.setIfInBounds_toArray, List.set_cons_zero, List.set_cons_succ]
  refine WL.val (by kernel_rfl) (er) (by go_simp) ?_
  simp only [Act.put, List.setIfInBounds_toArray, List.set_cons_zero, List.set_cons_succ]
  refine WL.val (by kernel_rfl) (.string st) (by go_simp) ?_
  simp only [Act.put, List.setIfInBounds_toArray, List.set_cons_zero, List.set_cons_succ]
  refine WL.val (by kernel_rfl) (er) (by go_simp) ?_
  simp only [Act.put, List.setIfInBounds_toArray, List.set_cons_zero, List.set_cons_succ]
  refine WL.nil ?_
  refine hK2 _ _ ?_
  refine wp_seq_k fun K3 hK3 => ?_
  refine wp_region_list (WL.out ?_)
  refine WL.val (by kernel_rfl) (.pointer (some ⟨g, 0, none⟩)) (by go_simp) ?_
  simp only [Act.put, List.setIfInBounds_toArray, List.set_cons_zero, List.set_cons_succ]
  refine WL.val (by kernel_rfl) (.string st) (by go_simp) ?_
  simp only [Act.put, List.setIfInBounds_toArray, List.set_cons_zero, List.set_cons_succ]
  refine WL.val (by kernel_rfl) (.pointer (some ⟨g, 0, none⟩)) (by go_simp) ?_
  simp only [Act.put, List.setIfInBounds_toArray, List.set_cons_zero, List.set_cons_succ]
  refine WL.val (by kernel_rfl) (.pointer (some ⟨g, 2, none⟩)) (by go_simp) ?_
  simp only [Act.put, List.setIfInBounds_toArray, List.set_cons_zero, List.set_cons_succ]
  refine WL.cell (by kernel_rfl) (w1.setCell ⟨g, 2, none⟩ (.string st)) (by go_simp) ?_
  simp only [Act.put]
  refine WL.nil ?_
  refine hK3 _ _ ?_
  refine wp_seq_k fun K4 hK4 => ?_
  refine wp_region_list (WL.out ?_)
  refine WL.val (by kernel_rfl) (er) (by go_simp) ?_
  simp only [Act.put, List.setIfInBounds_toArray, List.set_cons_zero, List.set_cons_succ]
  refine WL.val (by kernel_rfl) (er) (by go_simp) ?_
  simp only [Act.put, List.setIfInBounds_toArray, List.set_cons_zero, List.set_cons_succ]
  refine WL.nil ?_
  refine hK4 _ _ ?_
  refine wp_ret ?_
  go_ret
  have hXn := HX1.out.set 2 (.string st)
  rw [set_2] at hXn
  refine ⟨er, rfl, ?_, ?_⟩
  · exact (H2.out.mono fun _ _ h => .inl h).trans (Grown.setCell w1 g 2 _ fun _ => .inr rfl)
  · rw [HGk.out]
    rcases err_step H3.out (w' := w1.setCell ⟨g, 2, none⟩ (.string st)) (fun q hq => hq.set_ne (blk_ne hq HX1.out (by decide)) _) with ⟨h1, h2, h3⟩ | h
    · subst h3
      exact .inl ⟨h1, h2, ⟨H1.out.blk.set_ne (fun e => Hne.out e) _, H1.out.le⟩, hXn, HOk.out⟩
    · exact .inr h
theorem get2_any (p g : Nat) (s : ByteArray) (a : Nat) (x : OpV) (vA : Value) (ah : List OpV) (w : World) (hI : InAt w p s a none) (hb : s.size ≤ 140737488355328) (hX : Blk w g 164 (opA x)) (hx : OpOk x) :
    Calls Tryz.prog 116 #[ptr p, ptr g, vA] w (GetPost p g s (getF (lst s) ah 2 x a) w) := by
  have HI := Keep.mk hI
  have HX := Keep.mk hX
  have Hne : Keep (p ≠ g) := ⟨blk_ne hI.blk hX (by decide)⟩
  obtain ⟨R, hR⟩ : ∃ R, R = fstM ((lst s).drop a) 18446744073709551615 := ⟨_, rfl⟩
  obtain ⟨y, hy⟩ : ∃ y, y = if R.2.2 = 0 then zag R.1 else 0 := ⟨_, rfl⟩
  have hrg := fst_rng ((lst s).drop a) ((lst_byts s).drop a) 18446744073709551615 (by decide)
  rw [← hR] at hrg
  have hG : getF (lst s) ah 2 x a = (R.2.2, a + R.2.1.toNat, { x with n := y }) := by
    show ((fstM ((lst s).drop a) 18446744073709551615).2.2, _, _) = _
    rw [hy, hR]
  have HC := Keep.mk (isigned_good p s a w hI hb R hR y hy hrg.1 (by omega))
  have hyr : -9223372036854775808 ≤ y ∧ y ≤ 9223372036854775807 := by
    rw [hy]
    split
    · unfold zag; split <;> omega
    · omega
  have HOk : Keep (OpOk { x with n := y }) := ⟨{ hx with n1 := hyr.1, n2 := hyr.2 }⟩
  clear hR hy hrg hyr
  have HGk := Keep.mk hG
  clear hI hb hX hx hG
  have hG := HGk.out
  clear hG
  go_enter Tryz.func116, Tryz.ntmps116
  refine wp_seq_k fun K1 hK1 => ?_
  refine wp_region_list (WL.out ?_)
  refine WL.val (by kernel_rfl) (.nilIface) (by go_simp) ?_
  simp only [Act.put, List.setIfInBounds_toArray, List.set_cons_zero, List.set_cons_succ]
  refine WL.nil ?_
  refine hK1 _ _ ?_
  refine wp_seq_k fun K2 hK2 => ?_
  refine wp_region_list (WL.out ?_)
  refine WL.val (by kernel_rfl) (.pointer (some ⟨p, 0, none⟩)) (by go_simp) ?_
  simp only [Act.put, List.setIfInBounds_toArray, List.set_cons_zero, List.set_cons_succ]
  refine WL.callF (by kernel_rfl) 117 _ _ rfl Tryz.in117 #[ptr p] (by simp [Act.eval]) ?_
  refine (HC.out).mono ?_
  rintro e w1 ⟨bad, er, rfl, h1, h2, h3⟩
  refine ⟨_, rfl, ?_⟩
  have H1 := Keep.mk h1
  have H2 := Keep.mk h2
  have H3 := Keep.mk h3
  have HX1 := Keep.mk (h2.blk HX.out (fun e => Hne.out e.symm))
  have c1 := HX1.out.c 3 (opA_3 x)
  have f1 := HX1.out.frozen 3
  clear h1 h2 h3
  simp only [Act.put, List.setIfInBounds_toArray, List.set_cons_zero, List.set_cons_succ]
  refine WL.val (by kernel_rfl) (.tuple #[.int .i64 y, er]) (by go_simp) ?_
  simp only [Act.put, List.setIfInBounds_toArray, List.set_cons_zero, List.set_cons_succ]
  refine WL.val (by kernel_rfl) (.int .i64 y) (by go_simp) ?_
  simp only [Act.put, List.setIfInBounds_toArray, List.set_cons_zero, List.set_cons_succ]
  refine WL.val (by kernel_rfl) (er) (by go_simp) ?_
  simp only [Act.put, List.setIfInBounds_toArray, List.set_cons_zero, List.set_cons_succ]
  refine WL.val (by kernel_rfl) (.int .i64 y) (by go_simp) ?_
  simp only [Act.put, List.setIfInBounds_toArray, List.set_cons_zero, List.set_cons_succ]
  refine WL.val (by kernel_rfl) (er) (by go_simp) ?_
  simp only [Act.put, List.setIfInBounds_toArray, List.set_cons_zero, List.set_cons_succ]
  refine WL.nil ?_
  refine hK2 _ _ ?_
  refine wp_seq_k fun K3 hK3 => ?_
  refine wp_region_list (WL.out ?_)
  refine WL.val (by kernel_rfl) (.pointer (some ⟨g, 0, none⟩)) (by go_simp) ?_
  simp only [Act.put, List.setIfInBounds_toArray, List.set_cons_zero, List.set_cons_succ]
  refine WL.val (by kernel_rfl) (.int .i64 y) (by go_simp) ?_
  simp only [Act.put, List.setIfInBounds_toArray, List.set_cons_zero, List.set_cons_succ]
  refine WL.val (by kernel_rfl) (.pointer (some ⟨g, 0, none⟩)) (by go_simp) ?_
  simp only [Act.put, List.setIfInBounds_toArray, List.set_cons_zero, List.set_cons_succ]
  refine WL.val (by kernel_rfl) (.pointer (some ⟨g, 3, none⟩)) (by go_simp) ?_
  simp only [Act.put, List.setIfInBounds_toArray, List.set_cons_zero, List.set_cons_succ]
  refine WL.cell (by kernel_rfl) (w1.setCell ⟨g, 3, none⟩ (.int .i64 y)) (by go_simp) ?_
  simp only [Act.put]
  refine WL.nil ?_
  refine hK3 _ _ ?_
  refine wp_seq_k fun K4 hK4 => ?_
  refine wp_region_list (WL.out ?_)
  refine WL.val (by kernel_rfl) (er) (by go_simp) ?_
  simp only [Act.put, List.setIfInBounds_toArray, List.set_cons_zero, List.set_cons_succ]
  refine WL.val (by kernel_rfl) (er) (by go_simp) ?_
  simp only [Act.put, List.setIfInBounds_toArray, List.set_cons_zero, List.set_cons_succ]
  refine WL.nil ?_
  refine hK4 _ _ ?_
  refine wp_ret ?_
  go_ret
  have hXn := HX1.out.set 3 (.int .i64 y)
  rw [set_3] at hXn
  refine ⟨er, rfl, ?_, ?_⟩
  · exact (H2.out.mono fun _ _ h => .inl h).trans (Grown.setCell w1 g 3 _ fun _ => .inr rfl)
  · rw [HGk.out]
    rcases err_step H3.out (w' := w1.setCell ⟨g, 3, none⟩ (.int .i64 y)) (fun q hq => hq.set_ne (blk_ne hq HX1.out (by decide)) _) with ⟨h1, h2, h3⟩ | h
    · subst h3
      exact .inl ⟨h1, h2, ⟨H1.out.blk.set_ne (fun e => Hne.out e) _, H1.out.le⟩, hXn, HOk.out⟩
    · exact .inr h
set_option maxRecDepth 8000 in
set_option maxHeartbeats 2000000 in
theorem get3_any (p g : Nat) (s : ByteArray) (a : Nat) (x : OpV) (vA : Value) (ah : List OpV) (w : World) (hI : InAt w p s a none) (hb : s.size ≤ 140737488355328) (hX : Blk w g 164 (opA x)) (hx : OpOk x)
    (hA : ∀ wx, (Grown w wx fun k => k = p ∨ k = g) → OpsAt wx vA ah) (hal : ah.length ≤ 1024) :
    Calls Tryz.prog 120 #[ptr p, ptr g, vA] w (GetPost p g s (getF (lst s) ah 3 x a) w) := by
  have HI := Keep.mk hI
  have HX := Keep.mk hX
  have Hb := Keep.mk hb
  have HA := Keep.mk hA
  have HAl : Keep (ah.length ≤ 4398046511104) := ⟨by omega⟩
  have Hne : Keep (p ≠ g) := ⟨blk_ne hI.blk hX (by decide)⟩
  have hG : getF (lst s) ah 3 x a = getA (lst s) ah x a := rfl
  rw [hG]
  clear hG
  have hBy : Byts ((lst s).drop a) := (lst_byts s).drop a
  have hrg := fst_rng ((lst s).drop a) hBy 1024 (by decide)
  have hc := inum_good p s a 1024 w hI hb
  obtain ⟨G, hG⟩ : ∃ G, G = getA (lst s) ah x a := ⟨_, rfl⟩
  rw [← hG]
  unfold getA at hG
  have hc' : Calls Tryz.prog 50 #[ptr p, .int .u64 1024] w (RdPost p s (fstM ((lst s).drop a) 1024).2.2 (a + (fstM ((lst s).drop a) 1024).2.1.toNat) (.int .u64 (fstM ((lst s).drop a) 1024).1) w) := hc
  clear hc
  generalize fstM ((lst s).drop a) 1024 = R at *
  obtain ⟨rv, rn, re⟩ := R
  simp only at hG hc' hrg
  obtain ⟨a1, ha1⟩ : ∃ a1, a1 = a + rn.toNat := ⟨_, rfl⟩
  rw [← ha1] at hG hc'
  obtain ⟨D1, hD1⟩ : ∃ D1, D1 = (lst s).drop a1 := ⟨_, rfl⟩
  obtain ⟨W2, hW2⟩ : ∃ W2, W2 = nextW D1 32 := ⟨_, rfl⟩
  obtain ⟨N2, hN2⟩ : ∃ N2, N2 = nextN D1 32 := ⟨_, rfl⟩
  rw [← hD1, ← hW2, ← hN2] at hG
  have HC := Keep.mk hc'
  have Hrg := Keep.mk hrg
  have HD1 := Keep.mk hD1
  have HW2 := Keep.mk hW2
  have HN2 := Keep.mk hN2
  have HG1 : Keep (¬ re = 0 → G = (re, a1, x)) := ⟨fun h => by rw [hG, if_pos h]⟩
  have HG0 : Keep (re = 0 → rv = 0 → G = if mayAt ah { x with op := 0 } = true then (0, a1, { x with op := 0 }) else (42, a, x)) := ⟨fun h h2 => by rw [hG, if_neg (by simp [h]), if_pos h2]⟩
  have HGb : Keep (re = 0 → ¬ rv = 0 → ¬ W2 = 0 → G = (W2, a1 + N2, x)) := ⟨fun h h2 h3 => by rw [hG, if_neg (by simp [h]), if_neg h2, if_pos h3]⟩
  have HGn : Keep (re = 0 → ¬ rv = 0 → W2 = 0 → G = if mayAt ah { x with op := rv, node := D1.take 32 } = true then (0, a1 + 32, { x with op := rv, node := D1.take 32 }) else (42, a, x)) := ⟨fun h h2 h3 => by rw [hG, if_neg (by simp [h]), if_neg h2, if_neg (by simp [h3])]⟩
  have hN32 : W2 = 0 → N2 = 32 := fun h => by rw [hN2, (nextN_0 D1 32 (by rw [← hW2]; exact h)).1]; rfl
  have hlen : W2 = 0 → (D1.take 32).length = 32 := fun h => by
    have := (nextN_0 D1 32 (by rw [← hW2]; exact h)).2.2
    rw [List.length_take]; omega
  have hhl : W2 = 0 → hl 32 (hrd D1 W2) = D1.take 32 := fun h => by
    rw [← hl_hof (D1.take 32) (hlen h)]
    unfold hl
    apply List.map_congr_left
    intro i hi
    have hi' := List.mem_range.1 hi
    show (if W2 = 0 then D1.getD i 0 else 0) = (D1.take 32).getD i 0
    rw [if_pos h]
    simp [List.getD_eq_getElem?_getD, List.getElem?_take, hi']
  have hz1 : (-9223372036854775808 : Int) ≤ 0 := by decide
  have hz2 : (0 : Int) ≤ 9223372036854775807 := by decide
  have HOk0 : Keep (OpOk { x with op := 0 }) := ⟨{ hx with o1 := hz1, o2 := hz2 }⟩
  have hz3 : (-9223372036854775808 : Int) ≤ rv := by omega
  have hz4 : rv ≤ 9223372036854775807 := by omega
  have hz5 : Byts (D1.take 32) := by rw [hD1]; exact ((lst_byts s).drop a1).take 32
  have HOkn : Keep (W2 = 0 → OpOk { x with op := rv, node := D1.take 32 }) := ⟨fun h => { hx with o1 := hz3, o2 := hz4, node := hlen h, byts := hz5 }⟩
  clear hz1 hz2 hz3 hz4 hz5
  clear hI hb hX hx hA hal hBy hrg hc' hG ha1 hD1 hW2 hN2 hlen
  go_enter Tryz.func120, Tryz.ntmps120
  refine wp_seq_k fun K1 hK1 => ?_
  refine wp_region_list (WL.out ?_)
  refine WL.val (by kernel_rfl) (.nilIface) (by go_simp) ?_
  simp only [Act.put, List.setIfInBounds_toArray, List.set_cons_zero, List.set_cons_succ]
  refine WL.nil ?_
  refine hK1 _ _ ?_
  refine wp_seq_k fun K2 hK2 => ?_
  refine wp_region_list (WL.out ?_)
  refine WL.val (by kernel_rfl) (.pointer (some ⟨p, 0, none⟩)) (by go_simp) ?_
  simp only [Act.put, List.setIfInBounds_toArray, List.set_cons_zero, List.set_cons_succ]
  refine WL.callF (by kernel_rfl) 47 _ _ rfl Tryz.in47 #[ptr p] (by simp [Act.eval]) ?_
  refine (iat_any p s a none w HI.out).mono ?_
  rintro e w0 ⟨rfl, hw0⟩
  rw [hw0]
  clear hw0 w0
  refine ⟨_, rfl, ?_⟩
  simp only [Act.put, List.setIfInBounds_toArray, List.set_cons_zero, List.set_cons_succ]
  refine WL.val (by kernel_rfl) (.int .i64 (a : Int)) (by go_simp) ?_
  simp only [Act.put, List.setIfInBounds_toArray, List.set_cons_zero, List.set_cons_succ]
  refine WL.nil ?_
  refine hK2 _ _ ?_
  refine wp_seq_k fun K3 hK3 => ?_
  refine wp_region_list (WL.out ?_)
  refine WL.val (by kernel_rfl) (.pointer (some ⟨p, 0, none⟩)) (by go_simp) ?_
  simp only [Act.put, List.setIfInBounds_toArray, List.set_cons_zero, List.set_cons_succ]
  refine WL.callF (by kernel_rfl) 50 _ _ rfl Tryz.in50 #[ptr p, .int .u64 1024] (by simp [Act.eval]) ?_
  refine (HC.out).mono ?_
  rintro e w1 ⟨bad, er, rfl, h1, h2, h3⟩
  refine ⟨_, rfl, ?_⟩
  have HX1 := Keep.mk (h2.blk HX.out (fun e => Hne.out e.symm))
  have H1 := Keep.mk h1
  have H2 := Keep.mk h2
  have H3 := Keep.mk h3
  clear h1 h2 h3
  simp only [Act.put, List.setIfInBounds_toArray, List.set_cons_zero, List.set_cons_succ]
  refine WL.val (by kernel_rfl) (.tuple #[.int .u64 rv, er]) (by go_simp) ?_
  simp only [Act.put, List.setIfInBounds_toArray, List.set_cons_zero, List.set_cons_succ]
  refine WL.val (by kernel_rfl) (.int .u64 rv) (by go_simp) ?_
  simp only [Act.put, List.setIfInBounds_toArray, List.set_cons_zero, List.set_cons_succ]
  refine WL.val (by kernel_rfl) (er) (by go_simp) ?_
  simp only [Act.put, List.setIfInBounds_toArray, List.set_cons_zero, List.set_cons_succ]
  refine WL.val (by kernel_rfl) (.int .u64 rv) (by go_simp) ?_
  simp only [Act.put, List.setIfInBounds_toArray, List.set_cons_zero, List.set_cons_succ]
  refine WL.val (by kernel_rfl) (er) (by go_simp) ?_
  simp only [Act.put, List.setIfInBounds_toArray, List.set_cons_zero, List.set_cons_succ]
  refine WL.nil ?_
  refine hK3 _ _ ?_
  refine wp_seq_k fun K4 hK4 => ?_
  refine wp_seq_k fun K5 hK5 => ?_
  by_cases hE : re = 0
  · rcases H3.out with ⟨e1, rfl, rfl⟩ | ⟨e1, _⟩
    rotate_left
    · exact absurd hE e1
    have c36 := HX1.out.c 36 (opA_36 x)
    have f36 := HX1.out.frozen 36
    have hwn : IntKind.i64.wrap rv = rv := by rw [IntKind.wrap_i64]; have := Hrg.out; omega
    refine wp_region_list (WL.out ?_)
    refine WL.val (by kernel_rfl) (.nilIface) (by go_simp) ?_
    simp only [Act.put, List.setIfInBounds_toArray, List.set_cons_zero, List.set_cons_succ]
    refine WL.val (by kernel_rfl) (.bool false) (by go_simp) ?_
    simp only [Act.put, List.setIfInBounds_toArray, List.set_cons_zero, List.set_cons_succ]
    refine WL.nil ?_
    refine hK5 _ _ ?_
    refine wp_cond_false rfl ?_
    refine wp_skip ?_
    refine hK4 _ _ ?_
    refine wp_seq_k fun K6 hK6 => ?_
    refine wp_region_list (WL.out ?_)
    refine WL.val (by kernel_rfl) (.pointer (some ⟨g, 0, none⟩)) (by go_simp) ?_
    simp only [Act.put, List.setIfInBounds_toArray, List.set_cons_zero, List.set_cons_succ]
    refine WL.val (by kernel_rfl) (.int .u64 rv) (by go_simp) ?_
    simp only [Act.put, List.setIfInBounds_toArray, List.set_cons_zero, List.set_cons_succ]
    refine WL.val (by kernel_rfl) (.int .i64 rv) (by go_simp) ?_
    simp only [Act.put, List.setIfInBounds_toArray, List.set_cons_zero, List.set_cons_succ]
    refine WL.val (by kernel_rfl) (.pointer (some ⟨g, 0, none⟩)) (by go_simp) ?_
    simp only [Act.put, List.setIfInBounds_toArray, List.set_cons_zero, List.set_cons_succ]
    refine WL.val (by kernel_rfl) (.pointer (some ⟨g, 4, none⟩)) (by go_simp) ?_
    simp only [Act.put, List.setIfInBounds_toArray, List.set_cons_zero, List.set_cons_succ]
    refine WL.val (by kernel_rfl) (.pointer (some ⟨g, 36, none⟩)) (by go_simp) ?_
    simp only [Act.put, List.setIfInBounds_toArray, List.set_cons_zero, List.set_cons_succ]
    refine WL.cell (by kernel_rfl) (w1.setCell ⟨g, 36, none⟩ (.int .i64 rv)) (by go_simp) ?_
    have HX2 := Keep.mk (HX1.out.set 36 (.int .i64 rv))
    rw [set_36] at HX2
    have HI2 : Keep (InAt (w1.setCell ⟨g, 36, none⟩ (.int .i64 rv)) p s a1 none) := ⟨H1.out.blk.set_ne (fun e => Hne.out e) _, H1.out.le⟩
    have HG2 : Keep (Grown w (w1.setCell ⟨g, 36, none⟩ (.int .i64 rv)) fun k => k = p ∨ k = g) := ⟨(H2.out.mono fun _ _ h => .inl h).trans (Grown.setCell w1 g 36 _ fun _ => .inr rfl)⟩
    generalize w1.setCell ⟨g, 36, none⟩ (.int .i64 rv) = w2 at *
    clear c36 f36
    simp only [Act.put]
    refine WL.nil ?_
    refine hK6 _ _ ?_
    refine wp_seq_k fun K7 hK7 => ?_
    refine wp_seq_k fun K8 hK8 => ?_
    refine wp_region_list (WL.out ?_)
    refine WL.val (by kernel_rfl) (.int .u64 rv) (by go_simp) ?_
    simp only [Act.put, List.setIfInBounds_toArray, List.set_cons_zero, List.set_cons_succ]
    by_cases h6_1 : rv = 0
    · skip
      refine WL.val (by kernel_rfl) (.bool false) (by go_simp) ?_
      simp only [Act.put, List.setIfInBounds_toArray, List.set_cons_zero, List.set_cons_succ]
      refine WL.nil ?_
      refine hK8 _ _ ?_
      refine wp_cond_false rfl ?_
      refine wp_skip ?_
      refine hK7 _ _ ?_
      refine wp_seq_k fun K9 hK9 => ?_
      refine wp_seq_k fun K10 hK10 => ?_
      refine wp_region_list (WL.out ?_)
      refine WL.val (by kernel_rfl) (.pointer (some ⟨g, 0, none⟩)) (by go_simp) ?_
      simp only [Act.put, List.setIfInBounds_toArray, List.set_cons_zero, List.set_cons_succ]
      refine WL.val (by kernel_rfl) (.pointer (some ⟨g, 0, none⟩)) (by go_simp) ?_
      simp only [Act.put, List.setIfInBounds_toArray, List.set_cons_zero, List.set_cons_succ]
      have hrv0 := h6_1
      obtain ⟨x2, hx2⟩ : ∃ x2 : OpV, Keep (x2 = { x with op := 0 }) := ⟨_, ⟨rfl⟩⟩
      rw [h6_1] at HX2
      rw [← hx2.out] at HX2
      have HOk5 : Keep (OpOk x2) := ⟨by rw [hx2.out]; exact HOk0.out⟩
      refine WL.row (by kernel_rfl) 164 (.tmp 44) rfl g rfl 164 (opA x2) _ HX2.out Tryz.underlying164 rfl (Tryz.size164B x2) ?_
      simp only [Act.put, List.setIfInBounds_toArray, List.set_cons_zero, List.set_cons_succ]
      refine WL.val (by kernel_rfl) (vA) (by go_simp) ?_
      simp only [Act.put, List.setIfInBounds_toArray, List.set_cons_zero, List.set_cons_succ]
      refine WL.callF (by kernel_rfl) 127 _ _ rfl Tryz.in127 #[.agg (opA x2), vA] (by simp [Act.eval]) ?_
      refine (may_any x2 vA ah w2 HOk5.out (HA.out w2 HG2.out) HAl.out).mono ?_
      rintro e w6 ⟨rfl, h6⟩
      refine ⟨_, rfl, ?_⟩
      have HX6 := Keep.mk (HX2.out.below h6 HX2.out.lt)
      have HI6 : Keep (InAt w6 p s _ none) := ⟨HI2.out.blk.below h6 HI2.out.blk.lt, HI2.out.le⟩
      have HG6 : Keep (Grown w w6 fun k => k = p ∨ k = g) := ⟨HG2.out.trans (Grown.below h6)⟩
      clear h6
      simp only [Act.put, List.setIfInBounds_toArray, List.set_cons_zero, List.set_cons_succ]
      rcases Bool.eq_false_or_eq_true (!mayAt ah x2) with h11_5 | h11_5
      · have hmy : mayAt ah x2 = false := by simpa using h11_5
        refine WL.val (by kernel_rfl) (.bool true) (by go_simp) ?_
        simp only [Act.put, List.setIfInBounds_toArray, List.set_cons_zero, List.set_cons_succ]
        refine WL.nil ?_
        refine hK10 _ _ ?_
        refine wp_cond_true rfl ?_
        refine wp_seq_k fun K11 hK11 => ?_
        refine wp_region_list (WL.out ?_)
        refine WL.val (by kernel_rfl) (.int .i64 (a : Int)) (by go_simp) ?_
        simp only [Act.put, List.setIfInBounds_toArray, List.set_cons_zero, List.set_cons_succ]
        refine WL.bld (by kernel_rfl) 68 _ rfl [(0, .int .i64 42), (1, .int .i64 (a : Int))] (by simp [Act.eval]) #[.int .i64 42, .int .i64 (a : Int)] (by kernel_rfl) ?_
        simp only [Act.put, List.setIfInBounds_toArray, List.set_cons_zero, List.set_cons_succ]
        refine WL.box (by kernel_rfl) 68 (.tmp 50) rfl #[.int .i64 42, .int .i64 (a : Int)] rfl ?_
        simp only [Act.put, List.setIfInBounds_toArray, List.set_cons_zero, List.set_cons_succ]
        refine WL.val (by kernel_rfl) (.iface 64 (.pointer (some ⟨w6.heap.size, 0, none⟩))) (by go_simp) ?_
        simp only [Act.put, List.setIfInBounds_toArray, List.set_cons_zero, List.set_cons_succ]
        refine WL.val (by kernel_rfl) (.iface 64 (.pointer (some ⟨w6.heap.size, 0, none⟩))) (by go_simp) ?_
        simp only [Act.put, List.setIfInBounds_toArray, List.set_cons_zero, List.set_cons_succ]
        refine WL.nil ?_
        refine hK11 _ _ ?_
        refine wp_ret ?_
        go_ret
        exact ⟨err w6.heap.size, rfl, HG6.out.trans (Grown.alloc w6 _ _), by rw [HG0.out hE hrv0, ← hx2.out, if_neg (by rw [hmy]; decide)]; exact .inr ⟨(show (42 : Int) ≠ 0 by decide), _, HG6.out.size, rfl, Blk.new w6 68 _⟩⟩
      · have hmy : mayAt ah x2 = true := by simpa using h11_5
        refine WL.val (by kernel_rfl) (.bool false) (by go_simp) ?_
        simp only [Act.put, List.setIfInBounds_toArray, List.set_cons_zero, List.set_cons_succ]
        refine WL.nil ?_
        refine hK10 _ _ ?_
        refine wp_cond_false rfl ?_
        refine wp_skip ?_
        refine hK9 _ _ ?_
        refine wp_seq_k fun K12 hK12 => ?_
        refine wp_region_list (WL.out ?_)
        refine WL.val (by kernel_rfl) (.nilIface) (by go_simp) ?_
        simp only [Act.put, List.setIfInBounds_toArray, List.set_cons_zero, List.set_cons_succ]
        refine WL.nil ?_
        refine hK12 _ _ ?_
        refine wp_ret ?_
        go_ret
        exact ⟨.nilIface, rfl, HG6.out, by rw [HG0.out hE hrv0, ← hx2.out, if_pos hmy]; exact .inl ⟨rfl, rfl, HI6.out, HX6.out, HOk5.out⟩⟩
    · skip
      refine WL.val (by kernel_rfl) (.bool true) (by go_simp) ?_
      simp only [Act.put, List.setIfInBounds_toArray, List.set_cons_zero, List.set_cons_succ]
      refine WL.nil ?_
      refine hK8 _ _ ?_
      refine wp_cond_true rfl ?_
      refine wp_seq_k fun K13 hK13 => ?_
      refine wp_region_list (WL.out ?_)
      refine WL.val (by kernel_rfl) (.pointer (some ⟨p, 0, none⟩)) (by go_simp) ?_
      simp only [Act.put, List.setIfInBounds_toArray, List.set_cons_zero, List.set_cons_succ]
      refine WL.callF (by kernel_rfl) 74 _ _ rfl Tryz.in74 #[ptr p] (by simp [Act.eval]) ?_
      refine (ihash_good p s a1 w2 HI2.out Hb.out D1 HD1.out W2 HW2.out N2 HN2.out).mono ?_
      rintro e w3 ⟨bad3, er3, rfl, h1, h2, h3⟩
      refine ⟨_, rfl, ?_⟩
      have HX3 := Keep.mk (h2.blk HX2.out (fun e => Hne.out e.symm))
      have I1 := Keep.mk h1
      have I2 := Keep.mk h2
      have I3 := Keep.mk h3
      have HG3 : Keep (Grown w w3 fun k => k = p ∨ k = g) := ⟨HG2.out.trans (h2.mono fun _ _ h => .inl h)⟩
      clear h1 h2 h3
      simp only [Act.put, List.setIfInBounds_toArray, List.set_cons_zero, List.set_cons_succ]
      refine WL.val (by kernel_rfl) (.tuple #[.agg (bytesA 32 (hrd D1 W2)), er3]) (by go_simp) ?_
      simp only [Act.put, List.setIfInBounds_toArray, List.set_cons_zero, List.set_cons_succ]
      refine WL.val (by kernel_rfl) (.agg (bytesA 32 (hrd D1 W2))) (by go_simp) ?_
      simp only [Act.put, List.setIfInBounds_toArray, List.set_cons_zero, List.set_cons_succ]
      refine WL.val (by kernel_rfl) (er3) (by go_simp) ?_
      simp only [Act.put, List.setIfInBounds_toArray, List.set_cons_zero, List.set_cons_succ]
      refine WL.new (by kernel_rfl) 51 rfl _ Tryz.new51 ?_
      simp only [Act.put, List.setIfInBounds_toArray, List.set_cons_zero, List.set_cons_succ]
      refine WL.storeR (by kernel_rfl) 51 (.tmp 10) (.tmp 33) rfl w3.heap.size (bytesA 32 (hrd D1 W2)) rfl rfl 51 (bytesA 32 fun _ => 0) (Blk.new w3 51 _) (Tryz.size51B _) (bytesA_sizes _ _ _) (bytesA_one _ _) ?_
      have HV4 := Keep.mk ((Blk.new w3 51 (bytesA 32 fun _ => 0)).setRow (bytesA 32 (hrd D1 W2)))
      have B4 : Keep (Below w3.heap.size w3 ((w3.alloc (.cells (bytesA 32 fun _ => 0) 51)).setRow w3.heap.size (bytesA 32 (hrd D1 W2)))) := ⟨below_setRow (below_new w3 _) (Nat.le_refl _) _⟩
      generalize (w3.alloc (.cells (bytesA 32 fun _ => 0) 51)).setRow w3.heap.size (bytesA 32 (hrd D1 W2)) = w4 at *
      have HX4 := Keep.mk (HX3.out.below B4.out HX3.out.lt)
      have HG4 : Keep (Grown w w4 fun k => k = p ∨ k = g) := ⟨HG3.out.trans (Grown.below B4.out)⟩
      simp only [Act.put]
      refine WL.val (by kernel_rfl) (er3) (by go_simp) ?_
      simp only [Act.put, List.setIfInBounds_toArray, List.set_cons_zero, List.set_cons_succ]
      refine WL.nil ?_
      refine hK13 _ _ ?_
      refine wp_seq_k fun K14 hK14 => ?_
      refine wp_seq_k fun K15 hK15 => ?_
      by_cases hE2 : W2 = 0
      · rcases I3.out with ⟨e1, rfl, rfl⟩ | ⟨e1, _⟩
        rotate_left
        · exact absurd hE2 e1
        have HI4 : Keep (InAt w4 p s (a1 + N2) none) := ⟨I1.out.blk.below B4.out I1.out.blk.lt, I1.out.le⟩
        refine wp_region_list (WL.out ?_)
        refine WL.val (by kernel_rfl) (.nilIface) (by go_simp) ?_
        simp only [Act.put, List.setIfInBounds_toArray, List.set_cons_zero, List.set_cons_succ]
        refine WL.val (by kernel_rfl) (.bool false) (by go_simp) ?_
        simp only [Act.put, List.setIfInBounds_toArray, List.set_cons_zero, List.set_cons_succ]
        refine WL.nil ?_
        refine hK15 _ _ ?_
        refine wp_cond_false rfl ?_
        refine wp_skip ?_
        refine hK14 _ _ ?_
        refine wp_region_list (WL.out ?_)
        refine WL.val (by kernel_rfl) (.pointer (some ⟨g, 0, none⟩)) (by go_simp) ?_
        simp only [Act.put, List.setIfInBounds_toArray, List.set_cons_zero, List.set_cons_succ]
        refine WL.row (by kernel_rfl) 51 (.tmp 10) rfl w3.heap.size rfl 51 (bytesA 32 (hrd D1 W2)) _ HV4.out Tryz.underlying51 rfl (Tryz.size51B _) ?_
        simp only [Act.put, List.setIfInBounds_toArray, List.set_cons_zero, List.set_cons_succ]
        refine WL.val (by kernel_rfl) (.pointer (some ⟨g, 0, none⟩)) (by go_simp) ?_
        simp only [Act.put, List.setIfInBounds_toArray, List.set_cons_zero, List.set_cons_succ]
        refine WL.val (by kernel_rfl) (.pointer (some ⟨g, 4, none⟩)) (by go_simp) ?_
        simp only [Act.put, List.setIfInBounds_toArray, List.set_cons_zero, List.set_cons_succ]
        refine WL.val (by kernel_rfl) (.pointer (some ⟨g, 4, none⟩)) (by go_simp) ?_
        simp only [Act.put, List.setIfInBounds_toArray, List.set_cons_zero, List.set_cons_succ]
        refine WL.part (by kernel_rfl) 51 (.tmp 42) (.tmp 39) rfl g 4 (bytesA 32 (hrd D1 W2)) rfl rfl 164 (opA { x with op := rv }) HX4.out (Tryz.size51B _) (by rw [bytesA_size, opA_size]; decide) (bytesA_one _ _) _ (put_node { x with op := rv } (hrd D1 W2)) ?_
        have HX5 := Keep.mk (HX4.out.setRow (opA { x with op := rv, node := hl 32 (hrd D1 W2) }))
        have HI5 : Keep (InAt (w4.setRow g (opA { x with op := rv, node := hl 32 (hrd D1 W2) })) p s (a1 + N2) none) := ⟨HI4.out.blk.setRow_ne (fun e => Hne.out e) _, HI4.out.le⟩
        have HG5 : Keep (Grown w (w4.setRow g (opA { x with op := rv, node := hl 32 (hrd D1 W2) })) fun k => k = p ∨ k = g) := ⟨HG4.out.trans (Grown.setRow w4 g _ fun _ => .inr rfl)⟩
        rw [hhl hE2] at HX5 HI5 HG5 ⊢
        obtain ⟨x2, hx2⟩ : ∃ x2 : OpV, Keep (x2 = { x with op := rv, node := D1.take 32 }) := ⟨_, ⟨rfl⟩⟩
        rw [← hx2.out] at HX5 HI5 HG5 ⊢
        generalize w4.setRow g (opA x2) = w5 at *
        have HOk5 : Keep (OpOk x2) := ⟨by rw [hx2.out]; exact HOkn.out hE2⟩
        simp only [Act.put]
        refine WL.nil ?_
        refine hK7 _ _ ?_
        refine wp_seq_k fun K16 hK16 => ?_
        refine wp_seq_k fun K17 hK17 => ?_
        refine wp_region_list (WL.out ?_)
        refine WL.val (by kernel_rfl) (.pointer (some ⟨g, 0, none⟩)) (by go_simp) ?_
        simp only [Act.put, List.setIfInBounds_toArray, List.set_cons_zero, List.set_cons_succ]
        refine WL.val (by kernel_rfl) (.pointer (some ⟨g, 0, none⟩)) (by go_simp) ?_
        simp only [Act.put, List.setIfInBounds_toArray, List.set_cons_zero, List.set_cons_succ]
        refine WL.row (by kernel_rfl) 164 (.tmp 44) rfl g rfl 164 (opA x2) _ HX5.out Tryz.underlying164 rfl (Tryz.size164B x2) ?_
        simp only [Act.put, List.setIfInBounds_toArray, List.set_cons_zero, List.set_cons_succ]
        refine WL.val (by kernel_rfl) (vA) (by go_simp) ?_
        simp only [Act.put, List.setIfInBounds_toArray, List.set_cons_zero, List.set_cons_succ]
        refine WL.callF (by kernel_rfl) 127 _ _ rfl Tryz.in127 #[.agg (opA x2), vA] (by simp [Act.eval]) ?_
        refine (may_any x2 vA ah w5 HOk5.out (HA.out w5 HG5.out) HAl.out).mono ?_
        rintro e w6 ⟨rfl, h6⟩
        refine ⟨_, rfl, ?_⟩
        have HX6 := Keep.mk (HX5.out.below h6 HX5.out.lt)
        have HI6 : Keep (InAt w6 p s _ none) := ⟨HI5.out.blk.below h6 HI5.out.blk.lt, HI5.out.le⟩
        have HG6 : Keep (Grown w w6 fun k => k = p ∨ k = g) := ⟨HG5.out.trans (Grown.below h6)⟩
        clear h6
        simp only [Act.put, List.setIfInBounds_toArray, List.set_cons_zero, List.set_cons_succ]
        rcases Bool.eq_false_or_eq_true (!mayAt ah x2) with h11_5 | h11_5
        · have hmy : mayAt ah x2 = false := by simpa using h11_5
          refine WL.val (by kernel_rfl) (.bool true) (by go_simp) ?_
          simp only [Act.put, List.setIfInBounds_toArray, List.set_cons_zero, List.set_cons_succ]
          refine WL.nil ?_
          refine hK17 _ _ ?_
          refine wp_cond_true rfl ?_
          refine wp_seq_k fun K18 hK18 => ?_
          refine wp_region_list (WL.out ?_)
          refine WL.val (by kernel_rfl) (.int .i64 (a : Int)) (by go_simp) ?_
          simp only [Act.put, List.setIfInBounds_toArray, List.set_cons_zero, List.set_cons_succ]
          refine WL.bld (by kernel_rfl) 68 _ rfl [(0, .int .i64 42), (1, .int .i64 (a : Int))] (by simp [Act.eval]) #[.int .i64 42, .int .i64 (a : Int)] (by kernel_rfl) ?_
          simp only [Act.put, List.setIfInBounds_toArray, List.set_cons_zero, List.set_cons_succ]
          refine WL.box (by kernel_rfl) 68 (.tmp 50) rfl #[.int .i64 42, .int .i64 (a : Int)] rfl ?_
          simp only [Act.put, List.setIfInBounds_toArray, List.set_cons_zero, List.set_cons_succ]
          refine WL.val (by kernel_rfl) (.iface 64 (.pointer (some ⟨w6.heap.size, 0, none⟩))) (by go_simp) ?_
          simp only [Act.put, List.setIfInBounds_toArray, List.set_cons_zero, List.set_cons_succ]
          refine WL.val (by kernel_rfl) (.iface 64 (.pointer (some ⟨w6.heap.size, 0, none⟩))) (by go_simp) ?_
          simp only [Act.put, List.setIfInBounds_toArray, List.set_cons_zero, List.set_cons_succ]
          refine WL.nil ?_
          refine hK18 _ _ ?_
          refine wp_ret ?_
          go_ret
          exact ⟨err w6.heap.size, rfl, HG6.out.trans (Grown.alloc w6 _ _), by rw [HGn.out hE h6_1 hE2, ← hx2.out, if_neg (by rw [hmy]; decide)]; exact .inr ⟨(show (42 : Int) ≠ 0 by decide), _, HG6.out.size, rfl, Blk.new w6 68 _⟩⟩
        · have hmy : mayAt ah x2 = true := by simpa using h11_5
          refine WL.val (by kernel_rfl) (.bool false) (by go_simp) ?_
          simp only [Act.put, List.setIfInBounds_toArray, List.set_cons_zero, List.set_cons_succ]
          refine WL.nil ?_
          refine hK17 _ _ ?_
          refine wp_cond_false rfl ?_
          refine wp_skip ?_
          refine hK16 _ _ ?_
          refine wp_seq_k fun K19 hK19 => ?_
          refine wp_region_list (WL.out ?_)
          refine WL.val (by kernel_rfl) (.nilIface) (by go_simp) ?_
          simp only [Act.put, List.setIfInBounds_toArray, List.set_cons_zero, List.set_cons_succ]
          refine WL.nil ?_
          refine hK19 _ _ ?_
          refine wp_ret ?_
          go_ret
          exact ⟨.nilIface, rfl, HG6.out, by rw [HGn.out hE h6_1 hE2, ← hx2.out, if_pos hmy]; exact .inl ⟨rfl, rfl, by have h := HI6.out; rw [hN32 hE2] at h; exact h, HX6.out, HOk5.out⟩⟩
      · rcases I3.out with ⟨e1, _, _⟩ | ⟨_, q, hq, rfl, rfl, hbad⟩
        · exact absurd e1 hE2
        have Hbad := Keep.mk (hbad.below B4.out hbad.lt)
        have Hq := Keep.mk (Nat.le_trans HG2.out.size hq)
        clear hbad hq
        unfold err
        refine wp_region_list (WL.out ?_)
        refine WL.val (by kernel_rfl) (.iface 64 (ptr q)) (by go_simp) ?_
        simp only [Act.put, List.setIfInBounds_toArray, List.set_cons_zero, List.set_cons_succ]
        refine WL.val (by kernel_rfl) (.bool true) (by go_simp) ?_
        simp only [Act.put, List.setIfInBounds_toArray, List.set_cons_zero, List.set_cons_succ]
        refine WL.nil ?_
        refine hK15 _ _ ?_
        refine wp_cond_true rfl ?_
        refine wp_seq_k fun K20 hK20 => ?_
        refine wp_region_list (WL.out ?_)
        refine WL.val (by kernel_rfl) (.iface 64 (ptr q)) (by go_simp) ?_
        simp only [Act.put, List.setIfInBounds_toArray, List.set_cons_zero, List.set_cons_succ]
        refine WL.val (by kernel_rfl) (.iface 64 (ptr q)) (by go_simp) ?_
        simp only [Act.put, List.setIfInBounds_toArray, List.set_cons_zero, List.set_cons_succ]
        refine WL.nil ?_
        refine hK20 _ _ ?_
        refine wp_ret ?_
        go_ret
        exact ⟨err q, rfl, HG4.out, by rw [HGb.out hE h6_1 hE2]; exact .inr ⟨hE2, q, Hq.out, rfl, Hbad.out⟩⟩
  · rcases H3.out with ⟨e1, _, _⟩ | ⟨_, q, hq, rfl, rfl, hbad⟩
    · exact absurd e1 hE
    have Hbad := Keep.mk hbad
    clear hbad
    unfold err
    refine wp_region_list (WL.out ?_)
    refine WL.val (by kernel_rfl) (.iface 64 (ptr q)) (by go_simp) ?_
    simp only [Act.put, List.setIfInBounds_toArray, List.set_cons_zero, List.set_cons_succ]
    refine WL.val (by kernel_rfl) (.bool true) (by go_simp) ?_
    simp only [Act.put, List.setIfInBounds_toArray, List.set_cons_zero, List.set_cons_succ]
    refine WL.nil ?_
    refine hK5 _ _ ?_
    refine wp_cond_true rfl ?_
    refine wp_seq_k fun K21 hK21 => ?_
    refine wp_region_list (WL.out ?_)
    refine WL.val (by kernel_rfl) (.iface 64 (ptr q)) (by go_simp) ?_
    simp only [Act.put, List.setIfInBounds_toArray, List.set_cons_zero, List.set_cons_succ]
    refine WL.val (by kernel_rfl) (.iface 64 (ptr q)) (by go_simp) ?_
    simp only [Act.put, List.setIfInBounds_toArray, List.set_cons_zero, List.set_cons_succ]
    refine WL.nil ?_
    refine hK21 _ _ ?_
    refine wp_ret ?_
    go_ret
    exact ⟨err q, rfl, H2.out.mono fun _ _ h => .inl h, by rw [HG1.out hE]; exact .inr ⟨hE, q, hq, rfl, Hbad.out⟩⟩

end Go.Proofs.YtibaindbnemlcaaGreatDoor.Nd
namespace Go.Proofs.YtibaindbnemlcaaGreatDoor.Nd
open Go.RowKit
set_option linter.unusedSimpArgs false

def getFs (L : List Int) (ah : List OpV) : List Nat → OpV → Nat → Int × Nat × OpV
  | [], x, a => (0, a, x)
  | i :: is, x, a => if (getF L ah i x a).1 = 0 then getFs L ah is (getF L ah i x a).2.2 (getF L ah i x a).2.1 else getF L ah i x a
def getO (L : List Int) (ah : List OpV) (a : Nat) : Int × Nat × OpV :=
  if nextW (L.drop a) 1 ≠ 0 then (nextW (L.drop a) 1, a + nextN (L.drop a) 1, zeroOp)
  else if hasI ((L.drop a).getD 0 0) = [] then (40, a, zeroOp)
  else getFs L ah (hasI ((L.drop a).getD 0 0)) { zeroOp with kind := (L.drop a).getD 0 0 } (a + 1)
def OnePost (p : Nat) (s : ByteArray) (R : Int × Nat × OpV) (w : World) (e : Ending) (w' : World) : Prop :=
  ∃ x er, e = .returned (.tuple #[.agg (opA x), er]) ∧ (Grown w w' fun k => k = p) ∧
    ((R.1 = 0 ∧ x = R.2.2 ∧ er = .nilIface ∧ InAt w' p s R.2.1 none ∧ OpOk R.2.2) ∨ (R.1 ≠ 0 ∧ ∃ q, w.heap.size ≤ q ∧ er = err q ∧ BadAt w' q R.1 R.2.1))
theorem zero_ok : OpOk zeroOp := ⟨z32_len, z32_byts, by decide, by decide, by decide, by decide, by decide, by decide, by decide, by decide⟩
theorem zero_built (k : Int) : Tryz.prog.built 164 [(0, .int .i64 k)] = some (opA { zeroOp with kind := k }) := by kernel_rfl
theorem getFs_step (L : List Int) (ah : List OpV) (is : List Nat) (t : Nat) (ht : t < is.length) (x : OpV) (a : Nat) : getFs L ah (is.drop t) x a = if (getF L ah (is.getD t 0) x a).1 = 0 then getFs L ah (is.drop (t + 1)) (getF L ah (is.getD t 0) x a).2.2 (getF L ah (is.getD t 0) x a).2.1 else getF L ah (is.getD t 0) x a := by
  rw [List.drop_eq_getElem_cons ht, getFs]
  rw [show is.getD t 0 = is[t] by simp [List.getD_eq_getElem?_getD, ht]]
set_option maxRecDepth 8000 in
set_option maxHeartbeats 4000000 in
theorem getOne_any (p m : Nat) (s : ByteArray) (a : Nat) (vA : Value) (ah : List OpV) (w : World) (hI : InAt w p s a none) (hb : s.size ≤ 140737488355328) (hT : TabAt w m)
    (hA : ∀ wx, (Grown w wx fun k => k = p) → OpsAt wx vA ah) (hal : ah.length ≤ 1024) :
    Calls Tryz.prog 77 #[ptr p, .map (some m), vA] w (OnePost p s (getO (lst s) ah a) w) := by
  have HI := Keep.mk hI
  have HT := Keep.mk hT
  have Hb := Keep.mk hb
  have HA := Keep.mk hA
  have Hal := Keep.mk hal
  obtain ⟨R, hR⟩ : ∃ R, R = getO (lst s) ah a := ⟨_, rfl⟩
  rw [← hR]
  unfold getO at hR
  obtain ⟨D, hD⟩ : ∃ D, Keep (D = (lst s).drop a) := ⟨_, ⟨rfl⟩⟩
  obtain ⟨W, hW⟩ : ∃ W, Keep (W = nextW D 1) := ⟨_, ⟨rfl⟩⟩
  obtain ⟨N, hN⟩ : ∃ N, Keep (N = nextN D 1) := ⟨_, ⟨rfl⟩⟩
  obtain ⟨c, hc⟩ : ∃ c, Keep (c = if W = 0 then D.getD 0 0 else 0) := ⟨_, ⟨rfl⟩⟩
  rw [← hD.out, ← hW.out, ← hN.out] at hR
  have HcD : Keep (W = 0 → D.getD 0 0 = c) := ⟨fun h => by rw [hc.out, if_pos h]⟩
  have HR := Keep.mk hR
  clear hI hb hT hA hal hR
  go_enter Tryz.func77, Tryz.ntmps77
  refine wp_seq_k fun K1 hK1 => ?_
  refine wp_region_list (WL.out ?_)
  refine WL.new (by kernel_rfl) 164 rfl _ Tryz.new164 ?_
  have HZ0 := Keep.mk (Blk.new w 164 (opA zeroOp))
  have HG0 : Keep (Grown w (w.alloc (.cells (opA zeroOp) 164)) fun k => k = p) := ⟨Grown.alloc w _ _⟩
  have HI0 : Keep (InAt (w.alloc (.cells (opA zeroOp) 164)) p s a none) := ⟨HI.out.box _⟩
  have HT0 := Keep.mk (HT.out.below (below_new w (.cells (opA zeroOp) 164)))
  obtain ⟨gz, hgz⟩ : ∃ gz, Keep (gz = w.heap.size) := ⟨_, ⟨rfl⟩⟩
  have Hgz : Keep (w.heap.size ≤ gz) := ⟨Nat.le_of_eq hgz.out.symm⟩
  rw [← hgz.out] at HZ0 ⊢
  generalize w.alloc (.cells (opA zeroOp) 164) = w0 at *
  simp only [Act.put, List.setIfInBounds_toArray, List.set_cons_zero, List.set_cons_succ]
  refine WL.val (by kernel_rfl) (.nilIface) (by go_simp) ?_
  simp only [Act.put, List.setIfInBounds_toArray, List.set_cons_zero, List.set_cons_succ]
  refine WL.nil ?_
  refine hK1 _ _ ?_
  refine wp_seq_k fun K2 hK2 => ?_
  refine wp_region_list (WL.out ?_)
  refine WL.val (by kernel_rfl) (.pointer (some ⟨p, 0, none⟩)) (by go_simp) ?_
  simp only [Act.put, List.setIfInBounds_toArray, List.set_cons_zero, List.set_cons_succ]
  refine WL.callF (by kernel_rfl) 47 _ _ rfl Tryz.in47 #[ptr p] (by simp [Act.eval]) ?_
  refine (iat_any p s a none w0 HI0.out).mono ?_
  rintro e w0' ⟨rfl, hw0⟩
  rw [hw0]
  clear hw0 w0'
  refine ⟨_, rfl, ?_⟩
  simp only [Act.put, List.setIfInBounds_toArray, List.set_cons_zero, List.set_cons_succ]
  refine WL.val (by kernel_rfl) (.int .i64 (a : Int)) (by go_simp) ?_
  simp only [Act.put, List.setIfInBounds_toArray, List.set_cons_zero, List.set_cons_succ]
  refine WL.nil ?_
  refine hK2 _ _ ?_
  refine wp_seq_k fun K3 hK3 => ?_
  refine wp_region_list (WL.out ?_)
  refine WL.val (by kernel_rfl) (.pointer (some ⟨p, 0, none⟩)) (by go_simp) ?_
  simp only [Act.put, List.setIfInBounds_toArray, List.set_cons_zero, List.set_cons_succ]
  refine WL.callF (by kernel_rfl) 69 _ _ rfl Tryz.in69 #[ptr p] (by simp [Act.eval]) ?_
  refine (ibyte_good p s a w0 HI0.out Hb.out D hD.out W hW.out N hN.out c hc.out).mono ?_
  rintro e w1 ⟨bad, er, rfl, h1, h2, h3⟩
  refine ⟨_, rfl, ?_⟩
  have HZ1 := Keep.mk (h2.blk HZ0.out (blk_ne HZ0.out HI0.out.blk (by decide)))
  have HG1 : Keep (Grown w w1 fun k => k = p) := ⟨HG0.out.trans h2⟩
  have HT1 := Keep.mk (HT0.out.grown h2 (fun e => HT0.out.ne HI0.out.blk e) (fun g cs hg e => blk_ne hg HI0.out.blk (by decide) e))
  have H1 := Keep.mk h1
  have H3 := Keep.mk h3
  clear h1 h2 h3
  simp only [Act.put, List.setIfInBounds_toArray, List.set_cons_zero, List.set_cons_succ]
  refine WL.val (by kernel_rfl) (.tuple #[.int .u8 c, er]) (by go_simp) ?_
  simp only [Act.put, List.setIfInBounds_toArray, List.set_cons_zero, List.set_cons_succ]
  refine WL.val (by kernel_rfl) (.int .u8 c) (by go_simp) ?_
  simp only [Act.put, List.setIfInBounds_toArray, List.set_cons_zero, List.set_cons_succ]
  refine WL.val (by kernel_rfl) (er) (by go_simp) ?_
  simp only [Act.put, List.setIfInBounds_toArray, List.set_cons_zero, List.set_cons_succ]
  refine WL.val (by kernel_rfl) (.int .u8 c) (by go_simp) ?_
  simp only [Act.put, List.setIfInBounds_toArray, List.set_cons_zero, List.set_cons_succ]
  refine WL.val (by kernel_rfl) (er) (by go_simp) ?_
  simp only [Act.put, List.setIfInBounds_toArray, List.set_cons_zero, List.set_cons_succ]
  refine WL.nil ?_
  refine hK3 _ _ ?_
  refine wp_seq_k fun K4 hK4 => ?_
  refine wp_seq_k fun K5 hK5 => ?_
  by_cases hE : W = 0
  · rcases H3.out with ⟨e1, rfl, rfl⟩ | ⟨e1, _⟩
    rotate_left
    · exact absurd hE e1
    have hcr : 0 ≤ c ∧ c < 256 := by rw [hc.out, if_pos hE]; exact Byts.getD (by rw [hD.out]; exact (lst_byts s).drop a) 0
    have hwc : IntKind.i64.wrap c = c := by rw [IntKind.wrap_i64]; omega
    obtain ⟨xk, hxk⟩ : ∃ xk : OpV, Keep (xk = { zeroOp with kind := c }) := ⟨_, ⟨rfl⟩⟩
    have hcx : Keep (xk.kind = c) := ⟨by rw [hxk.out]⟩
    have Hcr := Keep.mk hcr
    clear hcr
    refine wp_region_list (WL.out ?_)
    refine WL.val (by kernel_rfl) (.nilIface) (by go_simp) ?_
    simp only [Act.put, List.setIfInBounds_toArray, List.set_cons_zero, List.set_cons_succ]
    refine WL.val (by kernel_rfl) (.bool false) (by go_simp) ?_
    simp only [Act.put, List.setIfInBounds_toArray, List.set_cons_zero, List.set_cons_succ]
    refine WL.nil ?_
    refine hK5 _ _ ?_
    refine wp_cond_false rfl ?_
    refine wp_skip ?_
    refine hK4 _ _ ?_
    refine wp_seq_k fun K6 hK6 => ?_
    refine wp_region_list (WL.out ?_)
    refine WL.val (by kernel_rfl) (.int .u8 c) (by go_simp) ?_
    simp only [Act.put, List.setIfInBounds_toArray, List.set_cons_zero, List.set_cons_succ]
    refine WL.val (by kernel_rfl) (.int .i64 c) (by go_simp) ?_
    simp only [Act.put, List.setIfInBounds_toArray, List.set_cons_zero, List.set_cons_succ]
    refine WL.bld (by kernel_rfl) 164 _ rfl [(0, .int .i64 c)] (by simp [Act.eval]) (opA { zeroOp with kind := c }) (zero_built c) ?_
    rw [← hxk.out]
    simp only [Act.put, List.setIfInBounds_toArray, List.set_cons_zero, List.set_cons_succ]
    refine WL.new (by kernel_rfl) 164 rfl _ Tryz.new164 ?_
    simp only [Act.put, List.setIfInBounds_toArray, List.set_cons_zero, List.set_cons_succ]
    refine WL.storeR (by kernel_rfl) 164 (.tmp 11) (.tmp 30) rfl w1.heap.size (opA xk) rfl rfl 164 (opA zeroOp) (Blk.new w1 164 _) (Tryz.size164B xk) (opA_sizes _ _) (opA_one xk) ?_
    have HX2 := Keep.mk ((Blk.new w1 164 (opA zeroOp)).setRow (opA xk))
    have B2 : Keep (Below w1.heap.size w1 ((w1.alloc (.cells (opA zeroOp) 164)).setRow w1.heap.size (opA xk))) := ⟨below_setRow (below_new w1 _) (Nat.le_refl _) _⟩
    obtain ⟨gx, hgx⟩ : ∃ gx, Keep (gx = w1.heap.size) := ⟨_, ⟨rfl⟩⟩
    have Hgx : Keep (w.heap.size ≤ gx) := ⟨by rw [hgx.out]; exact HG1.out.size⟩
    have Hzx : Keep (gz ≠ gx) := ⟨fun e => by have := HZ1.out.lt; rw [hgx.out] at e; omega⟩
    generalize (w1.alloc (.cells (opA zeroOp) 164)).setRow w1.heap.size (opA xk) = w2 at *
    rw [← hgx.out] at HX2 ⊢
    have HZ2 := Keep.mk (HZ1.out.below B2.out HZ1.out.lt)
    have HI2 : Keep (InAt w2 p s (a + N) none) := ⟨H1.out.blk.below B2.out H1.out.blk.lt, H1.out.le⟩
    have HG2 : Keep (Grown w w2 fun k => k = p) := ⟨HG1.out.trans (Grown.below B2.out)⟩
    have HT2 := Keep.mk (HT1.out.below B2.out)
    obtain ⟨vF, hvF, hlk⟩ := HT2.out.look2 c
    obtain ⟨fa, fc, rfl⟩ := hvF.form
    have HvF := Keep.mk hvF
    have hlk2 := (hlk w2 (Below.refl _ _)).2
    have k0 : w2.cell? ⟨gx, 0, none⟩ = some (.int .i64 c) := by have h := HX2.out.c 0 (opA_0 xk); rw [hcx.out] at h; exact h
    clear hvF hlk
    simp only [Act.put]
    refine WL.nil ?_
    refine hK6 _ _ ?_
    refine wp_seq_k fun K7 hK7 => ?_
    refine wp_region_list (WL.out ?_)
    refine WL.val (by kernel_rfl) (.map (some m)) (by go_simp) ?_
    simp only [Act.put, List.setIfInBounds_toArray, List.set_cons_zero, List.set_cons_succ]
    refine WL.val (by kernel_rfl) (.pointer (some ⟨gx, 0, none⟩)) (by go_simp) ?_
    simp only [Act.put, List.setIfInBounds_toArray, List.set_cons_zero, List.set_cons_succ]
    refine WL.val (by kernel_rfl) (.int .i64 c) (by go_simp) ?_
    simp only [Act.put, List.setIfInBounds_toArray, List.set_cons_zero, List.set_cons_succ]
    refine WL.val (by kernel_rfl) (.tuple #[.slice fa (hasI c).length fc, .bool (!(hasI c).isEmpty)]) (by go_simp) ?_
    simp only [Act.put, List.setIfInBounds_toArray, List.set_cons_zero, List.set_cons_succ]
    refine WL.val (by kernel_rfl) (.tuple #[.slice fa (hasI c).length fc, .bool (!(hasI c).isEmpty)]) (by go_simp) ?_
    simp only [Act.put, List.setIfInBounds_toArray, List.set_cons_zero, List.set_cons_succ]
    refine WL.val (by kernel_rfl) (.slice fa (hasI c).length fc) (by go_simp) ?_
    simp only [Act.put, List.setIfInBounds_toArray, List.set_cons_zero, List.set_cons_succ]
    refine WL.val (by kernel_rfl) (.bool (!(hasI c).isEmpty)) (by go_simp) ?_
    simp only [Act.put, List.setIfInBounds_toArray, List.set_cons_zero, List.set_cons_succ]
    refine WL.val (by kernel_rfl) (.slice fa (hasI c).length fc) (by go_simp) ?_
    simp only [Act.put, List.setIfInBounds_toArray, List.set_cons_zero, List.set_cons_succ]
    refine WL.val (by kernel_rfl) (.bool (!(hasI c).isEmpty)) (by go_simp) ?_
    simp only [Act.put, List.setIfInBounds_toArray, List.set_cons_zero, List.set_cons_succ]
    refine WL.nil ?_
    refine hK7 _ _ ?_
    refine wp_seq_k fun K8 hK8 => ?_
    refine wp_seq_k fun K9 hK9 => ?_
    refine wp_region_list (WL.out ?_)
    refine WL.val (by kernel_rfl) (.bool (!(hasI c).isEmpty)) (by go_simp) ?_
    simp only [Act.put, List.setIfInBounds_toArray, List.set_cons_zero, List.set_cons_succ]
    by_cases h7_1 : hasI c = []
    · have hem : (!(hasI c).isEmpty) = false := by rw [h7_1]; rfl
      refine WL.val (by kernel_rfl) (.bool true) (by go_simp) ?_
      simp only [Act.put, List.setIfInBounds_toArray, List.set_cons_zero, List.set_cons_succ]
      refine WL.nil ?_
      refine hK9 _ _ ?_
      refine wp_cond_true rfl ?_
      refine wp_seq_k fun K10 hK10 => ?_
      refine wp_region_list (WL.out ?_)
      refine WL.bld (by kernel_rfl) 164 _ rfl [] (by simp) (opA zeroOp) Tryz.built164 ?_
      simp only [Act.put, List.setIfInBounds_toArray, List.set_cons_zero, List.set_cons_succ]
      refine WL.val (by kernel_rfl) (.int .i64 (a : Int)) (by go_simp) ?_
      simp only [Act.put, List.setIfInBounds_toArray, List.set_cons_zero, List.set_cons_succ]
      refine WL.bld (by kernel_rfl) 68 _ rfl [(0, .int .i64 40), (1, .int .i64 (a : Int))] (by simp [Act.eval]) #[.int .i64 40, .int .i64 (a : Int)] (by kernel_rfl) ?_
      simp only [Act.put, List.setIfInBounds_toArray, List.set_cons_zero, List.set_cons_succ]
      refine WL.box (by kernel_rfl) 68 (.tmp 42) rfl #[.int .i64 40, .int .i64 (a : Int)] rfl ?_
      have HZ3 := Keep.mk (HZ2.out.alloc (.cells #[.int .i64 40, .int .i64 (a : Int)] 68))
      have HB3 := Keep.mk (Blk.new w2 68 #[.int .i64 40, .int .i64 (a : Int)])
      have HG3 : Keep (Grown w (w2.alloc (.cells #[.int .i64 40, .int .i64 (a : Int)] 68)) fun k => k = p) := ⟨HG2.out.trans (Grown.alloc w2 _ _)⟩
      generalize w2.alloc (.cells #[.int .i64 40, .int .i64 (a : Int)] 68) = w3 at *
      simp only [Act.put, List.setIfInBounds_toArray, List.set_cons_zero, List.set_cons_succ]
      refine WL.val (by kernel_rfl) (.iface 64 (.pointer (some ⟨w2.heap.size, 0, none⟩))) (by go_simp) ?_
      simp only [Act.put, List.setIfInBounds_toArray, List.set_cons_zero, List.set_cons_succ]
      refine WL.storeR (by kernel_rfl) 164 (.tmp 6) (.tmp 40) rfl gz (opA zeroOp) rfl rfl 164 (opA zeroOp) HZ3.out (Tryz.size164B _) rfl (opA_one _) ?_
      simp only [Act.put]
      refine WL.val (by kernel_rfl) (.iface 64 (.pointer (some ⟨w2.heap.size, 0, none⟩))) (by go_simp) ?_
      simp only [Act.put, List.setIfInBounds_toArray, List.set_cons_zero, List.set_cons_succ]
      refine WL.nil ?_
      refine hK10 _ _ ?_
      refine wp_ret ?_
      refine bodyPost_ret (v := .tuple #[.agg (opA zeroOp), .iface 64 (ptr w2.heap.size)]) (results_cell_row2 Tryz.results77 _ _ gz 164 _ (0, 0) _ _ rfl rfl (HZ3.out.setRow _) Tryz.underlying164 rfl (Tryz.size164B _)) rfl ?_
      refine ⟨zeroOp, err w2.heap.size, rfl, HG3.out.next (Grown.setRow w3 gz _ (S := fun k => k = gz) fun _ => rfl) (fun k hk e => by have := Hgz.out; omega), ?_⟩
      rw [HR.out, if_neg (by simp [hE]), HcD.out hE, if_pos h7_1]
      exact .inr ⟨(show (40 : Int) ≠ 0 by decide), w2.heap.size, HG2.out.size, rfl, HB3.out.setRow_ne (blk_ne HB3.out HZ3.out (by decide)) _⟩
    · have hem : (!(hasI c).isEmpty) = true := by simpa using h7_1
      refine WL.val (by kernel_rfl) (.bool false) (by go_simp) ?_
      simp only [Act.put, List.setIfInBounds_toArray, List.set_cons_zero, List.set_cons_succ]
      refine WL.nil ?_
      refine hK9 _ _ ?_
      refine wp_cond_false rfl ?_
      refine wp_skip ?_
      refine hK8 _ _ ?_
      refine wp_seq_k fun K11 hK11 => ?_
      refine wp_seq_k fun K12 hK12 => ?_
      refine wp_region_list (WL.out ?_)
      have hN1 : N = 1 := by rw [hN.out, (nextN_0 D 1 (by rw [← hW.out]; exact hE)).1]; rfl
      rw [hN1] at HI2
      have HRR : Keep (R = getFs (lst s) ah (hasI c) xk (a + 1)) := ⟨by rw [HR.out, if_neg (by simp [hE]), HcD.out hE, if_neg h7_1, ← hxk.out]⟩
      have Hi4 := Keep.mk (hasI_lt c)
      have Hn3 := Keep.mk (hasI_len c)
      have S3 : Keep (OpOk xk) := ⟨by rw [hxk.out]; exact { zero_ok with k1 := by show (-9223372036854775808 : Int) ≤ c; have := Hcr.out; omega, k2 := by show c ≤ (9223372036854775807 : Int); have := Hcr.out; omega }⟩
      clear HR h7_1 hem hlk2
      rename Keep (R = getFs _ _ _ _ _) => HR
      generalize hasI c = is at *
      have S1 := HI2
      have S2 := HX2
      have S4 := HvF
      have S5 := HG2
      have S6 := HZ2
      refine WL.val (by kernel_rfl) (.slice fa is.length fc) (by go_simp) ?_
      simp only [Act.put, List.setIfInBounds_toArray, List.set_cons_zero, List.set_cons_succ]
      refine WL.val (by kernel_rfl) (.int .i64 (is.length : Int)) (by go_simp) ?_
      simp only [Act.put, List.setIfInBounds_toArray, List.set_cons_zero, List.set_cons_succ]
      refine WL.val (by kernel_rfl) (.int .i64 0) (by go_simp) ?_
      simp only [Act.put, List.setIfInBounds_toArray, List.set_cons_zero, List.set_cons_succ]
      refine WL.nil ?_
      refine hK12 _ _ ?_
      refine wp_block ?_
      refine wp_loop (fun ac wr => ∃ (t : Nat) (u7 u15 u16 u48 u49 u50 u51 u52 u53 u54 u55 u56 u57 u58 u59 u60 : Value), ac = { tmps := #[.pointer (some ⟨p, 0, none⟩), .map (some m), vA, undef, undef, undef, .pointer (some ⟨gz, 0, none⟩), u7, .int .i64 (a : Int), .int .u8 c, .nilIface, .pointer (some ⟨gx, 0, none⟩), .slice fa is.length fc, .bool (!is.isEmpty), undef, u15, u16, .pointer (some ⟨p, 0, none⟩), .int .i64 (a : Int), .tuple #[.int .u8 c, .nilIface], .pointer (some ⟨p, 0, none⟩), .tuple #[.int .u8 c, .nilIface], .int .u8 c, .nilIface, .nilIface, .bool false, undef, undef, .int .u8 c, .int .i64 c, .agg (opA xk), .tuple #[.slice fa is.length fc, .bool (!is.isEmpty)], .map (some m), .pointer (some ⟨gx, 0, none⟩), .int .i64 c, .tuple #[.slice fa is.length fc, .bool (!is.isEmpty)], .slice fa is.length fc, .bool (!is.isEmpty), .bool (!is.isEmpty), .bool false, undef, undef, undef, undef, undef, .slice fa is.length fc, .int .i64 (is.length : Int), .int .i64 (t : Int), u48, u49, u50, u51, u52, u53, u54, u55, u56, u57, u58, u59, u60, undef], defers := [] } ∧ t ≤ is.length ∧ ∃ xt at_, getFs (lst s) ah is xk (a + 1) = getFs (lst s) ah (is.drop t) xt at_ ∧ InAt wr p s at_ none ∧ Blk wr gx 164 (opA xt) ∧ OpOk xt ∧ FieldsAt wr (.slice fa is.length fc) is ∧ (Grown w wr fun k => k = p) ∧ Blk wr gz 164 (opA zeroOp)) (fun a _ => is.length - (intOf (a.tmps.getD 47 undef)).toNat) ⟨0, .nilIface, undef, undef, undef, undef, undef, undef, undef, undef, undef, undef, undef, undef, undef, undef, undef, rfl, by omega, xk, a + 1, rfl, S1.out, S2.out, S3.out, S4.out, S5.out, S6.out⟩ ?_
      rintro ac wr ⟨t, u7, u15, u16, u48, u49, u50, u51, u52, u53, u54, u55, u56, u57, u58, u59, u60, rfl, ht, xt, at_, hC, hI, hX, hOk, hF, hG, hZ⟩
      by_cases htl : t < is.length
      · have htl' : (t : Int) < (is.length : Int) := by omega
        obtain ⟨gF, hfa, hr2⟩ := hF.at htl
        have hi4 : is.getD t 0 < 4 := Hi4.out _ (by simp [List.getD_eq_getElem?_getD, htl])
        have hst := getFs_step (lst s) ah is t htl xt at_
        generalize is.getD t 0 = i at *
        have hwr2 : IntKind.i64.wrap ((t : Int) + 1) = (t : Int) + 1 := by rw [IntKind.wrap_i64]; have := Hn3.out; omega
        have JC := Keep.mk hC
        have JI := Keep.mk hI
        have JX := Keep.mk hX
        have JOk := Keep.mk hOk
        have JF := Keep.mk hF
        have JG := Keep.mk hG
        have JZ := Keep.mk hZ
        have Jst := Keep.mk hst
        clear hC hI hX hOk hF hG hZ hst
        rcases (show i = 0 ∨ i = 1 ∨ i = 2 ∨ i = 3 by omega) with rfl | rfl | rfl | rfl
        · refine wp_seq_k fun K13 hK13 => ?_
          refine wp_region_list (WL.out ?_)
          refine WL.val (by kernel_rfl) (.bool true) (by go_simp) ?_
          simp only [Act.put, List.setIfInBounds_toArray, List.set_cons_zero, List.set_cons_succ]
          refine WL.nil ?_
          refine hK13 _ _ ?_
          refine wp_seq_k fun K14 hK14 => ?_
          refine wp_cond_true rfl ?_
          refine wp_skip ?_
          refine hK14 _ _ ?_
          refine wp_seq_k fun K15 hK15 => ?_
          refine wp_block ?_
          refine wp_seq_k fun K16 hK16 => ?_
          refine wp_region_list (WL.out ?_)
          refine WL.val (by kernel_rfl) (.pointer (some ⟨gF, 0 + t * 3, none⟩)) (by go_simp) ?_
          simp only [Act.put, List.setIfInBounds_toArray, List.set_cons_zero, List.set_cons_succ]
          refine WL.midA (by kernel_rfl) 192 (.tmp 49) rfl gF (0 + t * 3) rfl (fldA 0) _ hr2 Tryz.underlying192 rfl (Tryz.size192B 0) ?_
          simp only [Act.put, List.setIfInBounds_toArray, List.set_cons_zero, List.set_cons_succ]
          refine WL.new (by kernel_rfl) 192 rfl _ Tryz.new192 ?_
          simp only [Act.put, List.setIfInBounds_toArray, List.set_cons_zero, List.set_cons_succ]
          refine WL.storeR (by kernel_rfl) 192 (.tmp 15) (.tmp 50) rfl wr.heap.size (fldA 0) rfl rfl 192 noF (Blk.new wr 192 noF) (Tryz.size192B 0) (noF_sizes 0) (fldA_one 0) ?_
          have HN := Keep.mk ((Blk.new wr 192 noF).setRow (fldA 0))
          have HGq : Keep (Below wr.heap.size wr ((wr.alloc (.cells noF 192)).setRow wr.heap.size (fldA 0))) := ⟨below_setRow (below_new wr _) (Nat.le_refl _) _⟩
          generalize (wr.alloc (.cells noF 192)).setRow wr.heap.size (fldA 0) = wy at *
          have cf : wy.cell? ⟨wr.heap.size, 2, none⟩ = some (fnv 108) := HN.out.c 2 rfl
          unfold fnv at cf
          have HIy : Keep (InAt wy p s at_ none) := ⟨JI.out.blk.below HGq.out JI.out.blk.lt, JI.out.le⟩
          have HXy := Keep.mk (JX.out.below HGq.out JX.out.lt)
          have HGy : Keep (Grown w wy fun k => k = p) := ⟨JG.out.trans (Grown.below HGq.out)⟩
          simp only [Act.put]
          refine WL.nil ?_
          refine hK16 _ _ ?_
          refine wp_seq_k fun K17 hK17 => ?_
          refine wp_region_list (WL.out ?_)
          refine WL.val (by kernel_rfl) (.pointer (some ⟨wr.heap.size, 2, none⟩)) (by go_simp) ?_
          simp only [Act.put, List.setIfInBounds_toArray, List.set_cons_zero, List.set_cons_succ]
          refine WL.val (by kernel_rfl) (.func (.func 108) #[] #[]) (by go_simp) ?_
          simp only [Act.put, List.setIfInBounds_toArray, List.set_cons_zero, List.set_cons_succ]
          refine WL.val (by kernel_rfl) (.pointer (some ⟨p, 0, none⟩)) (by go_simp) ?_
          simp only [Act.put, List.setIfInBounds_toArray, List.set_cons_zero, List.set_cons_succ]
          refine WL.val (by kernel_rfl) (vA) (by go_simp) ?_
          simp only [Act.put, List.setIfInBounds_toArray, List.set_cons_zero, List.set_cons_succ]
          refine WL.callV (by kernel_rfl) 108 (.tmp 52) _ _ rfl rfl Tryz.in108 #[ptr p, ptr gx, vA] (by simp [Act.eval]) ?_
          refine (get0_any p gx s at_ xt vA ah wy HIy.out Hb.out HXy.out JOk.out).mono ?_
          rintro e w9 ⟨er, rfl, hg9, hc9⟩
          refine ⟨_, rfl, ?_⟩
          have HG9 : Keep (Grown w w9 fun k => k = p) := ⟨HGy.out.next hg9 fun k hk ho => ho.elim id fun e => by have := Hgx.out; omega⟩
          have Hgs : Keep (Grown wr w9 fun k => k = p ∨ k = gx) := ⟨(Grown.below HGq.out).trans hg9⟩
          have HZ9 := Keep.mk (Hgs.out.blk JZ.out (fun e => e.elim (fun e => blk_ne JZ.out JI.out.blk (by decide) e) (fun e => Hzx.out e)))
          have HC9 := Keep.mk hc9
          obtain ⟨G, hGG⟩ : ∃ G, Keep (G = getF (lst s) ah 0 xt at_) := ⟨_, ⟨rfl⟩⟩
          rw [← hGG.out] at HC9 Jst
          clear hg9 hc9 cf
          simp only [Act.put, List.setIfInBounds_toArray, List.set_cons_zero, List.set_cons_succ]
          refine WL.val (by kernel_rfl) (er) (by go_simp) ?_
          simp only [Act.put, List.setIfInBounds_toArray, List.set_cons_zero, List.set_cons_succ]
          refine WL.nil ?_
          refine hK17 _ _ ?_
          refine wp_seq_k fun K18 hK18 => ?_
          by_cases hE : G.1 = 0
          · rcases HC9.out with ⟨e1, rfl, e2, e3, e4⟩ | ⟨e1, _⟩
            rotate_left
            · exact absurd hE e1
            have K1 := Keep.mk e2
            have K2 := Keep.mk e3
            have K3 := Keep.mk e4
            clear e2 e3 e4
            refine wp_region_list (WL.out ?_)
            refine WL.val (by kernel_rfl) (.nilIface) (by go_simp) ?_
            simp only [Act.put, List.setIfInBounds_toArray, List.set_cons_zero, List.set_cons_succ]
            refine WL.val (by kernel_rfl) (.bool false) (by go_simp) ?_
            simp only [Act.put, List.setIfInBounds_toArray, List.set_cons_zero, List.set_cons_succ]
            refine WL.nil ?_
            refine hK18 _ _ ?_
            refine wp_cond_false rfl ?_
            refine wp_skip ?_
            refine hK15 _ _ ?_
            refine wp_region_list (WL.out ?_)
            refine WL.val (by kernel_rfl) (.int .i64 ((t : Int) + 1)) (by go_simp) ?_
            simp only [Act.put, List.setIfInBounds_toArray, List.set_cons_zero, List.set_cons_succ]
            refine WL.val (by kernel_rfl) (.int .i64 ((t : Int) + 1)) (by go_simp) ?_
            simp only [Act.put, List.setIfInBounds_toArray, List.set_cons_zero, List.set_cons_succ]
            refine WL.nil ?_
            rw [if_pos hE] at Jst
            refine ⟨⟨t + 1, u7, .pointer (some ⟨wr.heap.size, 0, none⟩), .nilIface, .bool true, .pointer (some ⟨gF, 0 + t * 3, none⟩), .agg (fldA 0), .pointer (some ⟨wr.heap.size, 2, none⟩), .func (.func 108) #[] #[], .pointer (some ⟨p, 0, none⟩), vA, .nilIface, .nilIface, .bool false, u58, u59, .int .i64 ((t : Int) + 1), rfl, by omega, G.2.2, G.2.1, JC.out.trans Jst.out, K1.out, K2.out, K3.out, JF.out.grown Hgs.out (fun g hg e => e.elim (fun e => blk_ne hg JI.out.blk (by decide) e) (fun e => blk_ne hg JX.out (by decide) e)), HG9.out, HZ9.out⟩, ?_⟩
            simp only [intOf]; show is.length - ((t : Int) + 1).toNat < is.length - ((t : Int)).toNat; omega
          · rcases HC9.out with ⟨e1, _⟩ | ⟨_, q, hq, rfl, hbad⟩
            · exact absurd e1 hE
            have Hbad := Keep.mk hbad
            have Hq := Keep.mk (Nat.le_trans (Nat.le_trans JG.out.size HGq.out.size) hq)
            clear hbad hq
            unfold err
            refine wp_region_list (WL.out ?_)
            refine WL.val (by kernel_rfl) (.iface 64 (ptr q)) (by go_simp) ?_
            simp only [Act.put, List.setIfInBounds_toArray, List.set_cons_zero, List.set_cons_succ]
            refine WL.val (by kernel_rfl) (.bool true) (by go_simp) ?_
            simp only [Act.put, List.setIfInBounds_toArray, List.set_cons_zero, List.set_cons_succ]
            refine WL.nil ?_
            refine hK18 _ _ ?_
            refine wp_cond_true rfl ?_
            refine wp_seq_k fun K19 hK19 => ?_
            refine wp_region_list (WL.out ?_)
            refine WL.bld (by kernel_rfl) 164 _ rfl [] (by simp) (opA zeroOp) Tryz.built164 ?_
            simp only [Act.put, List.setIfInBounds_toArray, List.set_cons_zero, List.set_cons_succ]
            refine WL.val (by kernel_rfl) (.iface 64 (ptr q)) (by go_simp) ?_
            simp only [Act.put, List.setIfInBounds_toArray, List.set_cons_zero, List.set_cons_succ]
            refine WL.storeR (by kernel_rfl) 164 (.tmp 6) (.tmp 58) rfl gz (opA zeroOp) rfl rfl 164 (opA zeroOp) HZ9.out (Tryz.size164B _) rfl (opA_one _) ?_
            simp only [Act.put]
            refine WL.val (by kernel_rfl) (.iface 64 (ptr q)) (by go_simp) ?_
            simp only [Act.put, List.setIfInBounds_toArray, List.set_cons_zero, List.set_cons_succ]
            refine WL.nil ?_
            refine hK19 _ _ ?_
            refine wp_ret ?_
            refine bodyPost_ret (v := .tuple #[.agg (opA zeroOp), .iface 64 (ptr q)]) (results_cell_row2 Tryz.results77 _ _ gz 164 _ (0, 0) _ _ rfl rfl (HZ9.out.setRow _) Tryz.underlying164 rfl (Tryz.size164B _)) rfl ?_
            refine ⟨zeroOp, err q, rfl, HG9.out.next (Grown.setRow w9 gz _ (S := fun k => k = gz) fun _ => rfl) (fun k hk e => by have := Hgz.out; omega), ?_⟩
            rw [HR.out, JC.out, Jst.out, if_neg hE]
            exact .inr ⟨hE, q, Hq.out, rfl, Hbad.out.setRow_ne (blk_ne Hbad.out HZ9.out (by decide)) _⟩
        · refine wp_seq_k fun K20 hK20 => ?_
          refine wp_region_list (WL.out ?_)
          refine WL.val (by kernel_rfl) (.bool true) (by go_simp) ?_
          simp only [Act.put, List.setIfInBounds_toArray, List.set_cons_zero, List.set_cons_succ]
          refine WL.nil ?_
          refine hK20 _ _ ?_
          refine wp_seq_k fun K21 hK21 => ?_
          refine wp_cond_true rfl ?_
          refine wp_skip ?_
          refine hK21 _ _ ?_
          refine wp_seq_k fun K22 hK22 => ?_
          refine wp_block ?_
          refine wp_seq_k fun K23 hK23 => ?_
          refine wp_region_list (WL.out ?_)
          refine WL.val (by kernel_rfl) (.pointer (some ⟨gF, 0 + t * 3, none⟩)) (by go_simp) ?_
          simp only [Act.put, List.setIfInBounds_toArray, List.set_cons_zero, List.set_cons_succ]
          refine WL.midA (by kernel_rfl) 192 (.tmp 49) rfl gF (0 + t * 3) rfl (fldA 1) _ hr2 Tryz.underlying192 rfl (Tryz.size192B 1) ?_
          simp only [Act.put, List.setIfInBounds_toArray, List.set_cons_zero, List.set_cons_succ]
          refine WL.new (by kernel_rfl) 192 rfl _ Tryz.new192 ?_
          simp only [Act.put, List.setIfInBounds_toArray, List.set_cons_zero, List.set_cons_succ]
          refine WL.storeR (by kernel_rfl) 192 (.tmp 15) (.tmp 50) rfl wr.heap.size (fldA 1) rfl rfl 192 noF (Blk.new wr 192 noF) (Tryz.size192B 1) (noF_sizes 1) (fldA_one 1) ?_
          have HN := Keep.mk ((Blk.new wr 192 noF).setRow (fldA 1))
          have HGq : Keep (Below wr.heap.size wr ((wr.alloc (.cells noF 192)).setRow wr.heap.size (fldA 1))) := ⟨below_setRow (below_new wr _) (Nat.le_refl _) _⟩
          generalize (wr.alloc (.cells noF 192)).setRow wr.heap.size (fldA 1) = wy at *
          have cf : wy.cell? ⟨wr.heap.size, 2, none⟩ = some (fnv 112) := HN.out.c 2 rfl
          unfold fnv at cf
          have HIy : Keep (InAt wy p s at_ none) := ⟨JI.out.blk.below HGq.out JI.out.blk.lt, JI.out.le⟩
          have HXy := Keep.mk (JX.out.below HGq.out JX.out.lt)
          have HGy : Keep (Grown w wy fun k => k = p) := ⟨JG.out.trans (Grown.below HGq.out)⟩
          simp only [Act.put]
          refine WL.nil ?_
          refine hK23 _ _ ?_
          refine wp_seq_k fun K24 hK24 => ?_
          refine wp_region_list (WL.out ?_)
          refine WL.val (by kernel_rfl) (.pointer (some ⟨wr.heap.size, 2, none⟩)) (by go_simp) ?_
          simp only [Act.put, List.setIfInBounds_toArray, List.set_cons_zero, List.set_cons_succ]
          refine WL.val (by kernel_rfl) (.func (.func 112) #[] #[]) (by go_simp) ?_
          simp only [Act.put, List.setIfInBounds_toArray, List.set_cons_zero, List.set_cons_succ]
          refine WL.val (by kernel_rfl) (.pointer (some ⟨p, 0, none⟩)) (by go_simp) ?_
          simp only [Act.put, List.setIfInBounds_toArray, List.set_cons_zero, List.set_cons_succ]
          refine WL.val (by kernel_rfl) (vA) (by go_simp) ?_
          simp only [Act.put, List.setIfInBounds_toArray, List.set_cons_zero, List.set_cons_succ]
          refine WL.callV (by kernel_rfl) 112 (.tmp 52) _ _ rfl rfl Tryz.in112 #[ptr p, ptr gx, vA] (by simp [Act.eval]) ?_
          refine (get1_any p gx s at_ xt vA ah wy HIy.out Hb.out HXy.out JOk.out).mono ?_
          rintro e w9 ⟨er, rfl, hg9, hc9⟩
          refine ⟨_, rfl, ?_⟩
          have HG9 : Keep (Grown w w9 fun k => k = p) := ⟨HGy.out.next hg9 fun k hk ho => ho.elim id fun e => by have := Hgx.out; omega⟩
          have Hgs : Keep (Grown wr w9 fun k => k = p ∨ k = gx) := ⟨(Grown.below HGq.out).trans hg9⟩
          have HZ9 := Keep.mk (Hgs.out.blk JZ.out (fun e => e.elim (fun e => blk_ne JZ.out JI.out.blk (by decide) e) (fun e => Hzx.out e)))
          have HC9 := Keep.mk hc9
          obtain ⟨G, hGG⟩ : ∃ G, Keep (G = getF (lst s) ah 1 xt at_) := ⟨_, ⟨rfl⟩⟩
          rw [← hGG.out] at HC9 Jst
          clear hg9 hc9 cf
          simp only [Act.put, List.setIfInBounds_toArray, List.set_cons_zero, List.set_cons_succ]
          refine WL.val (by kernel_rfl) (er) (by go_simp) ?_
          simp only [Act.put, List.setIfInBounds_toArray, List.set_cons_zero, List.set_cons_succ]
          refine WL.nil ?_
          refine hK24 _ _ ?_
          refine wp_seq_k fun K25 hK25 => ?_
          by_cases hE : G.1 = 0
          · rcases HC9.out with ⟨e1, rfl, e2, e3, e4⟩ | ⟨e1, _⟩
            rotate_left
            · exact absurd hE e1
            have K1 := Keep.mk e2
            have K2 := Keep.mk e3
            have K3 := Keep.mk e4
            clear e2 e3 e4
            refine wp_region_list (WL.out ?_)
            refine WL.val (by kernel_rfl) (.nilIface) (by go_simp) ?_
            simp only [Act.put, List.setIfInBounds_toArray, List.set_cons_zero, List.set_cons_succ]
            refine WL.val (by kernel_rfl) (.bool false) (by go_simp) ?_
            simp only [Act.put, List.setIfInBounds_toArray, List.set_cons_zero, List.set_cons_succ]
            refine WL.nil ?_
            refine hK25 _ _ ?_
            refine wp_cond_false rfl ?_
            refine wp_skip ?_
            refine hK22 _ _ ?_
            refine wp_region_list (WL.out ?_)
            refine WL.val (by kernel_rfl) (.int .i64 ((t : Int) + 1)) (by go_simp) ?_
            simp only [Act.put, List.setIfInBounds_toArray, List.set_cons_zero, List.set_cons_succ]
            refine WL.val (by kernel_rfl) (.int .i64 ((t : Int) + 1)) (by go_simp) ?_
            simp only [Act.put, List.setIfInBounds_toArray, List.set_cons_zero, List.set_cons_succ]
            refine WL.nil ?_
            rw [if_pos hE] at Jst
            refine ⟨⟨t + 1, u7, .pointer (some ⟨wr.heap.size, 0, none⟩), .nilIface, .bool true, .pointer (some ⟨gF, 0 + t * 3, none⟩), .agg (fldA 1), .pointer (some ⟨wr.heap.size, 2, none⟩), .func (.func 112) #[] #[], .pointer (some ⟨p, 0, none⟩), vA, .nilIface, .nilIface, .bool false, u58, u59, .int .i64 ((t : Int) + 1), rfl, by omega, G.2.2, G.2.1, JC.out.trans Jst.out, K1.out, K2.out, K3.out, JF.out.grown Hgs.out (fun g hg e => e.elim (fun e => blk_ne hg JI.out.blk (by decide) e) (fun e => blk_ne hg JX.out (by decide) e)), HG9.out, HZ9.out⟩, ?_⟩
            simp only [intOf]; show is.length - ((t : Int) + 1).toNat < is.length - ((t : Int)).toNat; omega
          · rcases HC9.out with ⟨e1, _⟩ | ⟨_, q, hq, rfl, hbad⟩
            · exact absurd e1 hE
            have Hbad := Keep.mk hbad
            have Hq := Keep.mk (Nat.le_trans (Nat.le_trans JG.out.size HGq.out.size) hq)
            clear hbad hq
            unfold err
            refine wp_region_list (WL.out ?_)
            refine WL.val (by kernel_rfl) (.iface 64 (ptr q)) (by go_simp) ?_
            simp only [Act.put, List.setIfInBounds_toArray, List.set_cons_zero, List.set_cons_succ]
            refine WL.val (by kernel_rfl) (.bool true) (by go_simp) ?_
            simp only [Act.put, List.setIfInBounds_toArray, List.set_cons_zero, List.set_cons_succ]
            refine WL.nil ?_
            refine hK25 _ _ ?_
            refine wp_cond_true rfl ?_
            refine wp_seq_k fun K26 hK26 => ?_
            refine wp_region_list (WL.out ?_)
            refine WL.bld (by kernel_rfl) 164 _ rfl [] (by simp) (opA zeroOp) Tryz.built164 ?_
            simp only [Act.put, List.setIfInBounds_toArray, List.set_cons_zero, List.set_cons_succ]
            refine WL.val (by kernel_rfl) (.iface 64 (ptr q)) (by go_simp) ?_
            simp only [Act.put, List.setIfInBounds_toArray, List.set_cons_zero, List.set_cons_succ]
            refine WL.storeR (by kernel_rfl) 164 (.tmp 6) (.tmp 58) rfl gz (opA zeroOp) rfl rfl 164 (opA zeroOp) HZ9.out (Tryz.size164B _) rfl (opA_one _) ?_
            simp only [Act.put]
            refine WL.val (by kernel_rfl) (.iface 64 (ptr q)) (by go_simp) ?_
            simp only [Act.put, List.setIfInBounds_toArray, List.set_cons_zero, List.set_cons_succ]
            refine WL.nil ?_
            refine hK26 _ _ ?_
            refine wp_ret ?_
            refine bodyPost_ret (v := .tuple #[.agg (opA zeroOp), .iface 64 (ptr q)]) (results_cell_row2 Tryz.results77 _ _ gz 164 _ (0, 0) _ _ rfl rfl (HZ9.out.setRow _) Tryz.underlying164 rfl (Tryz.size164B _)) rfl ?_
            refine ⟨zeroOp, err q, rfl, HG9.out.next (Grown.setRow w9 gz _ (S := fun k => k = gz) fun _ => rfl) (fun k hk e => by have := Hgz.out; omega), ?_⟩
            rw [HR.out, JC.out, Jst.out, if_neg hE]
            exact .inr ⟨hE, q, Hq.out, rfl, Hbad.out.setRow_ne (blk_ne Hbad.out HZ9.out (by decide)) _⟩
        · refine wp_seq_k fun K27 hK27 => ?_
          refine wp_region_list (WL.out ?_)
          refine WL.val (by kernel_rfl) (.bool true) (by go_simp) ?_
          simp only [Act.put, List.setIfInBounds_toArray, List.set_cons_zero, List.set_cons_succ]
          refine WL.nil ?_
          refine hK27 _ _ ?_
          refine wp_seq_k fun K28 hK28 => ?_
          refine wp_cond_true rfl ?_
          refine wp_skip ?_
          refine hK28 _ _ ?_
          refine wp_seq_k fun K29 hK29 => ?_
          refine wp_block ?_
          refine wp_seq_k fun K30 hK30 => ?_
          refine wp_region_list (WL.out ?_)
          refine WL.val (by kernel_rfl) (.pointer (some ⟨gF, 0 + t * 3, none⟩)) (by go_simp) ?_
          simp only [Act.put, List.setIfInBounds_toArray, List.set_cons_zero, List.set_cons_succ]
          refine WL.midA (by kernel_rfl) 192 (.tmp 49) rfl gF (0 + t * 3) rfl (fldA 2) _ hr2 Tryz.underlying192 rfl (Tryz.size192B 2) ?_
          simp only [Act.put, List.setIfInBounds_toArray, List.set_cons_zero, List.set_cons_succ]
          refine WL.new (by kernel_rfl) 192 rfl _ Tryz.new192 ?_
          simp only [Act.put, List.setIfInBounds_toArray, List.set_cons_zero, List.set_cons_succ]
          refine WL.storeR (by kernel_rfl) 192 (.tmp 15) (.tmp 50) rfl wr.heap.size (fldA 2) rfl rfl 192 noF (Blk.new wr 192 noF) (Tryz.size192B 2) (noF_sizes 2) (fldA_one 2) ?_
          have HN := Keep.mk ((Blk.new wr 192 noF).setRow (fldA 2))
          have HGq : Keep (Below wr.heap.size wr ((wr.alloc (.cells noF 192)).setRow wr.heap.size (fldA 2))) := ⟨below_setRow (below_new wr _) (Nat.le_refl _) _⟩
          generalize (wr.alloc (.cells noF 192)).setRow wr.heap.size (fldA 2) = wy at *
          have cf : wy.cell? ⟨wr.heap.size, 2, none⟩ = some (fnv 116) := HN.out.c 2 rfl
          unfold fnv at cf
          have HIy : Keep (InAt wy p s at_ none) := ⟨JI.out.blk.below HGq.out JI.out.blk.lt, JI.out.le⟩
          have HXy := Keep.mk (JX.out.below HGq.out JX.out.lt)
          have HGy : Keep (Grown w wy fun k => k = p) := ⟨JG.out.trans (Grown.below HGq.out)⟩
          simp only [Act.put]
          refine WL.nil ?_
          refine hK30 _ _ ?_
          refine wp_seq_k fun K31 hK31 => ?_
          refine wp_region_list (WL.out ?_)
          refine WL.val (by kernel_rfl) (.pointer (some ⟨wr.heap.size, 2, none⟩)) (by go_simp) ?_
          simp only [Act.put, List.setIfInBounds_toArray, List.set_cons_zero, List.set_cons_succ]
          refine WL.val (by kernel_rfl) (.func (.func 116) #[] #[]) (by go_simp) ?_
          simp only [Act.put, List.setIfInBounds_toArray, List.set_cons_zero, List.set_cons_succ]
          refine WL.val (by kernel_rfl) (.pointer (some ⟨p, 0, none⟩)) (by go_simp) ?_
          simp only [Act.put, List.setIfInBounds_toArray, List.set_cons_zero, List.set_cons_succ]
          refine WL.val (by kernel_rfl) (vA) (by go_simp) ?_
          simp only [Act.put, List.setIfInBounds_toArray, List.set_cons_zero, List.set_cons_succ]
          refine WL.callV (by kernel_rfl) 116 (.tmp 52) _ _ rfl rfl Tryz.in116 #[ptr p, ptr gx, vA] (by simp [Act.eval]) ?_
          refine (get2_any p gx s at_ xt vA ah wy HIy.out Hb.out HXy.out JOk.out).mono ?_
          rintro e w9 ⟨er, rfl, hg9, hc9⟩
          refine ⟨_, rfl, ?_⟩
          have HG9 : Keep (Grown w w9 fun k => k = p) := ⟨HGy.out.next hg9 fun k hk ho => ho.elim id fun e => by have := Hgx.out; omega⟩
          have Hgs : Keep (Grown wr w9 fun k => k = p ∨ k = gx) := ⟨(Grown.below HGq.out).trans hg9⟩
          have HZ9 := Keep.mk (Hgs.out.blk JZ.out (fun e => e.elim (fun e => blk_ne JZ.out JI.out.blk (by decide) e) (fun e => Hzx.out e)))
          have HC9 := Keep.mk hc9
          obtain ⟨G, hGG⟩ : ∃ G, Keep (G = getF (lst s) ah 2 xt at_) := ⟨_, ⟨rfl⟩⟩
          rw [← hGG.out] at HC9 Jst
          clear hg9 hc9 cf
          simp only [Act.put, List.setIfInBounds_toArray, List.set_cons_zero, List.set_cons_succ]
          refine WL.val (by kernel_rfl) (er) (by go_simp) ?_
          simp only [Act.put, List.setIfInBounds_toArray, List.set_cons_zero, List.set_cons_succ]
          refine WL.nil ?_
          refine hK31 _ _ ?_
          refine wp_seq_k fun K32 hK32 => ?_
          by_cases hE : G.1 = 0
          · rcases HC9.out with ⟨e1, rfl, e2, e3, e4⟩ | ⟨e1, _⟩
            rotate_left
            · exact absurd hE e1
            have K1 := Keep.mk e2
            have K2 := Keep.mk e3
            have K3 := Keep.mk e4
            clear e2 e3 e4
            refine wp_region_list (WL.out ?_)
            refine WL.val (by kernel_rfl) (.nilIface) (by go_simp) ?_
            simp only [Act.put, List.setIfInBounds_toArray, List.set_cons_zero, List.set_cons_succ]
            refine WL.val (by kernel_rfl) (.bool false) (by go_simp) ?_
            simp only [Act.put, List.setIfInBounds_toArray, List.set_cons_zero, List.set_cons_succ]
            refine WL.nil ?_
            refine hK32 _ _ ?_
            refine wp_cond_false rfl ?_
            refine wp_skip ?_
            refine hK29 _ _ ?_
            refine wp_region_list (WL.out ?_)
            refine WL.val (by kernel_rfl) (.int .i64 ((t : Int) + 1)) (by go_simp) ?_
            simp only [Act.put, List.setIfInBounds_toArray, List.set_cons_zero, List.set_cons_succ]
            refine WL.val (by kernel_rfl) (.int .i64 ((t : Int) + 1)) (by go_simp) ?_
            simp only [Act.put, List.setIfInBounds_toArray, List.set_cons_zero, List.set_cons_succ]
            refine WL.nil ?_
            rw [if_pos hE] at Jst
            refine ⟨⟨t + 1, u7, .pointer (some ⟨wr.heap.size, 0, none⟩), .nilIface, .bool true, .pointer (some ⟨gF, 0 + t * 3, none⟩), .agg (fldA 2), .pointer (some ⟨wr.heap.size, 2, none⟩), .func (.func 116) #[] #[], .pointer (some ⟨p, 0, none⟩), vA, .nilIface, .nilIface, .bool false, u58, u59, .int .i64 ((t : Int) + 1), rfl, by omega, G.2.2, G.2.1, JC.out.trans Jst.out, K1.out, K2.out, K3.out, JF.out.grown Hgs.out (fun g hg e => e.elim (fun e => blk_ne hg JI.out.blk (by decide) e) (fun e => blk_ne hg JX.out (by decide) e)), HG9.out, HZ9.out⟩, ?_⟩
            simp only [intOf]; show is.length - ((t : Int) + 1).toNat < is.length - ((t : Int)).toNat; omega
          · rcases HC9.out with ⟨e1, _⟩ | ⟨_, q, hq, rfl, hbad⟩
            · exact absurd e1 hE
            have Hbad := Keep.mk hbad
            have Hq := Keep.mk (Nat.le_trans (Nat.le_trans JG.out.size HGq.out.size) hq)
            clear hbad hq
            unfold err
            refine wp_region_list (WL.out ?_)
            refine WL.val (by kernel_rfl) (.iface 64 (ptr q)) (by go_simp) ?_
            simp only [Act.put, List.setIfInBounds_toArray, List.set_cons_zero, List.set_cons_succ]
            refine WL.val (by kernel_rfl) (.bool true) (by go_simp) ?_
            simp only [Act.put, List.setIfInBounds_toArray, List.set_cons_zero, List.set_cons_succ]
            refine WL.nil ?_
            refine hK32 _ _ ?_
            refine wp_cond_true rfl ?_
            refine wp_seq_k fun K33 hK33 => ?_
            refine wp_region_list (WL.out ?_)
            refine WL.bld (by kernel_rfl) 164 _ rfl [] (by simp) (opA zeroOp) Tryz.built164 ?_
            simp only [Act.put, List.setIfInBounds_toArray, List.set_cons_zero, List.set_cons_succ]
            refine WL.val (by kernel_rfl) (.iface 64 (ptr q)) (by go_simp) ?_
            simp only [Act.put, List.setIfInBounds_toArray, List.set_cons_zero, List.set_cons_succ]
            refine WL.storeR (by kernel_rfl) 164 (.tmp 6) (.tmp 58) rfl gz (opA zeroOp) rfl rfl 164 (opA zeroOp) HZ9.out (Tryz.size164B _) rfl (opA_one _) ?_
            simp only [Act.put]
            refine WL.val (by kernel_rfl) (.iface 64 (ptr q)) (by go_simp) ?_
            simp only [Act.put, List.setIfInBounds_toArray, List.set_cons_zero, List.set_cons_succ]
            refine WL.nil ?_
            refine hK33 _ _ ?_
            refine wp_ret ?_
            refine bodyPost_ret (v := .tuple #[.agg (opA zeroOp), .iface 64 (ptr q)]) (results_cell_row2 Tryz.results77 _ _ gz 164 _ (0, 0) _ _ rfl rfl (HZ9.out.setRow _) Tryz.underlying164 rfl (Tryz.size164B _)) rfl ?_
            refine ⟨zeroOp, err q, rfl, HG9.out.next (Grown.setRow w9 gz _ (S := fun k => k = gz) fun _ => rfl) (fun k hk e => by have := Hgz.out; omega), ?_⟩
            rw [HR.out, JC.out, Jst.out, if_neg hE]
            exact .inr ⟨hE, q, Hq.out, rfl, Hbad.out.setRow_ne (blk_ne Hbad.out HZ9.out (by decide)) _⟩
        · refine wp_seq_k fun K34 hK34 => ?_
          refine wp_region_list (WL.out ?_)
          refine WL.val (by kernel_rfl) (.bool true) (by go_simp) ?_
          simp only [Act.put, List.setIfInBounds_toArray, List.set_cons_zero, List.set_cons_succ]
          refine WL.nil ?_
          refine hK34 _ _ ?_
          refine wp_seq_k fun K35 hK35 => ?_
          refine wp_cond_true rfl ?_
          refine wp_skip ?_
          refine hK35 _ _ ?_
          refine wp_seq_k fun K36 hK36 => ?_
          refine wp_block ?_
          refine wp_seq_k fun K37 hK37 => ?_
          refine wp_region_list (WL.out ?_)
          refine WL.val (by kernel_rfl) (.pointer (some ⟨gF, 0 + t * 3, none⟩)) (by go_simp) ?_
          simp only [Act.put, List.setIfInBounds_toArray, List.set_cons_zero, List.set_cons_succ]
          refine WL.midA (by kernel_rfl) 192 (.tmp 49) rfl gF (0 + t * 3) rfl (fldA 3) _ hr2 Tryz.underlying192 rfl (Tryz.size192B 3) ?_
          simp only [Act.put, List.setIfInBounds_toArray, List.set_cons_zero, List.set_cons_succ]
          refine WL.new (by kernel_rfl) 192 rfl _ Tryz.new192 ?_
          simp only [Act.put, List.setIfInBounds_toArray, List.set_cons_zero, List.set_cons_succ]
          refine WL.storeR (by kernel_rfl) 192 (.tmp 15) (.tmp 50) rfl wr.heap.size (fldA 3) rfl rfl 192 noF (Blk.new wr 192 noF) (Tryz.size192B 3) (noF_sizes 3) (fldA_one 3) ?_
          have HN := Keep.mk ((Blk.new wr 192 noF).setRow (fldA 3))
          have HGq : Keep (Below wr.heap.size wr ((wr.alloc (.cells noF 192)).setRow wr.heap.size (fldA 3))) := ⟨below_setRow (below_new wr _) (Nat.le_refl _) _⟩
          generalize (wr.alloc (.cells noF 192)).setRow wr.heap.size (fldA 3) = wy at *
          have cf : wy.cell? ⟨wr.heap.size, 2, none⟩ = some (fnv 120) := HN.out.c 2 rfl
          unfold fnv at cf
          have HIy : Keep (InAt wy p s at_ none) := ⟨JI.out.blk.below HGq.out JI.out.blk.lt, JI.out.le⟩
          have HXy := Keep.mk (JX.out.below HGq.out JX.out.lt)
          have HGy : Keep (Grown w wy fun k => k = p) := ⟨JG.out.trans (Grown.below HGq.out)⟩
          simp only [Act.put]
          refine WL.nil ?_
          refine hK37 _ _ ?_
          refine wp_seq_k fun K38 hK38 => ?_
          refine wp_region_list (WL.out ?_)
          refine WL.val (by kernel_rfl) (.pointer (some ⟨wr.heap.size, 2, none⟩)) (by go_simp) ?_
          simp only [Act.put, List.setIfInBounds_toArray, List.set_cons_zero, List.set_cons_succ]
          refine WL.val (by kernel_rfl) (.func (.func 120) #[] #[]) (by go_simp) ?_
          simp only [Act.put, List.setIfInBounds_toArray, List.set_cons_zero, List.set_cons_succ]
          refine WL.val (by kernel_rfl) (.pointer (some ⟨p, 0, none⟩)) (by go_simp) ?_
          simp only [Act.put, List.setIfInBounds_toArray, List.set_cons_zero, List.set_cons_succ]
          refine WL.val (by kernel_rfl) (vA) (by go_simp) ?_
          simp only [Act.put, List.setIfInBounds_toArray, List.set_cons_zero, List.set_cons_succ]
          refine WL.callV (by kernel_rfl) 120 (.tmp 52) _ _ rfl rfl Tryz.in120 #[ptr p, ptr gx, vA] (by simp [Act.eval]) ?_
          refine (get3_any p gx s at_ xt vA ah wy HIy.out Hb.out HXy.out JOk.out (fun wx hx => HA.out wx (HGy.out.next hx fun k hk ho => ho.elim id fun e => by have := Hgx.out; omega)) Hal.out).mono ?_
          rintro e w9 ⟨er, rfl, hg9, hc9⟩
          refine ⟨_, rfl, ?_⟩
          have HG9 : Keep (Grown w w9 fun k => k = p) := ⟨HGy.out.next hg9 fun k hk ho => ho.elim id fun e => by have := Hgx.out; omega⟩
          have Hgs : Keep (Grown wr w9 fun k => k = p ∨ k = gx) := ⟨(Grown.below HGq.out).trans hg9⟩
          have HZ9 := Keep.mk (Hgs.out.blk JZ.out (fun e => e.elim (fun e => blk_ne JZ.out JI.out.blk (by decide) e) (fun e => Hzx.out e)))
          have HC9 := Keep.mk hc9
          obtain ⟨G, hGG⟩ : ∃ G, Keep (G = getF (lst s) ah 3 xt at_) := ⟨_, ⟨rfl⟩⟩
          rw [← hGG.out] at HC9 Jst
          clear hg9 hc9 cf
          simp only [Act.put, List.setIfInBounds_toArray, List.set_cons_zero, List.set_cons_succ]
          refine WL.val (by kernel_rfl) (er) (by go_simp) ?_
          simp only [Act.put, List.setIfInBounds_toArray, List.set_cons_zero, List.set_cons_succ]
          refine WL.nil ?_
          refine hK38 _ _ ?_
          refine wp_seq_k fun K39 hK39 => ?_
          by_cases hE : G.1 = 0
          · rcases HC9.out with ⟨e1, rfl, e2, e3, e4⟩ | ⟨e1, _⟩
            rotate_left
            · exact absurd hE e1
            have K1 := Keep.mk e2
            have K2 := Keep.mk e3
            have K3 := Keep.mk e4
            clear e2 e3 e4
            refine wp_region_list (WL.out ?_)
            refine WL.val (by kernel_rfl) (.nilIface) (by go_simp) ?_
            simp only [Act.put, List.setIfInBounds_toArray, List.set_cons_zero, List.set_cons_succ]
            refine WL.val (by kernel_rfl) (.bool false) (by go_simp) ?_
            simp only [Act.put, List.setIfInBounds_toArray, List.set_cons_zero, List.set_cons_succ]
            refine WL.nil ?_
            refine hK39 _ _ ?_
            refine wp_cond_false rfl ?_
            refine wp_skip ?_
            refine hK36 _ _ ?_
            refine wp_region_list (WL.out ?_)
            refine WL.val (by kernel_rfl) (.int .i64 ((t : Int) + 1)) (by go_simp) ?_
            simp only [Act.put, List.setIfInBounds_toArray, List.set_cons_zero, List.set_cons_succ]
            refine WL.val (by kernel_rfl) (.int .i64 ((t : Int) + 1)) (by go_simp) ?_
            simp only [Act.put, List.setIfInBounds_toArray, List.set_cons_zero, List.set_cons_succ]
            refine WL.nil ?_
            rw [if_pos hE] at Jst
            refine ⟨⟨t + 1, u7, .pointer (some ⟨wr.heap.size, 0, none⟩), .nilIface, .bool true, .pointer (some ⟨gF, 0 + t * 3, none⟩), .agg (fldA 3), .pointer (some ⟨wr.heap.size, 2, none⟩), .func (.func 120) #[] #[], .pointer (some ⟨p, 0, none⟩), vA, .nilIface, .nilIface, .bool false, u58, u59, .int .i64 ((t : Int) + 1), rfl, by omega, G.2.2, G.2.1, JC.out.trans Jst.out, K1.out, K2.out, K3.out, JF.out.grown Hgs.out (fun g hg e => e.elim (fun e => blk_ne hg JI.out.blk (by decide) e) (fun e => blk_ne hg JX.out (by decide) e)), HG9.out, HZ9.out⟩, ?_⟩
            simp only [intOf]; show is.length - ((t : Int) + 1).toNat < is.length - ((t : Int)).toNat; omega
          · rcases HC9.out with ⟨e1, _⟩ | ⟨_, q, hq, rfl, hbad⟩
            · exact absurd e1 hE
            have Hbad := Keep.mk hbad
            have Hq := Keep.mk (Nat.le_trans (Nat.le_trans JG.out.size HGq.out.size) hq)
            clear hbad hq
            unfold err
            refine wp_region_list (WL.out ?_)
            refine WL.val (by kernel_rfl) (.iface 64 (ptr q)) (by go_simp) ?_
            simp only [Act.put, List.setIfInBounds_toArray, List.set_cons_zero, List.set_cons_succ]
            refine WL.val (by kernel_rfl) (.bool true) (by go_simp) ?_
            simp only [Act.put, List.setIfInBounds_toArray, List.set_cons_zero, List.set_cons_succ]
            refine WL.nil ?_
            refine hK39 _ _ ?_
            refine wp_cond_true rfl ?_
            refine wp_seq_k fun K40 hK40 => ?_
            refine wp_region_list (WL.out ?_)
            refine WL.bld (by kernel_rfl) 164 _ rfl [] (by simp) (opA zeroOp) Tryz.built164 ?_
            simp only [Act.put, List.setIfInBounds_toArray, List.set_cons_zero, List.set_cons_succ]
            refine WL.val (by kernel_rfl) (.iface 64 (ptr q)) (by go_simp) ?_
            simp only [Act.put, List.setIfInBounds_toArray, List.set_cons_zero, List.set_cons_succ]
            refine WL.storeR (by kernel_rfl) 164 (.tmp 6) (.tmp 58) rfl gz (opA zeroOp) rfl rfl 164 (opA zeroOp) HZ9.out (Tryz.size164B _) rfl (opA_one _) ?_
            simp only [Act.put]
            refine WL.val (by kernel_rfl) (.iface 64 (ptr q)) (by go_simp) ?_
            simp only [Act.put, List.setIfInBounds_toArray, List.set_cons_zero, List.set_cons_succ]
            refine WL.nil ?_
            refine hK40 _ _ ?_
            refine wp_ret ?_
            refine bodyPost_ret (v := .tuple #[.agg (opA zeroOp), .iface 64 (ptr q)]) (results_cell_row2 Tryz.results77 _ _ gz 164 _ (0, 0) _ _ rfl rfl (HZ9.out.setRow _) Tryz.underlying164 rfl (Tryz.size164B _)) rfl ?_
            refine ⟨zeroOp, err q, rfl, HG9.out.next (Grown.setRow w9 gz _ (S := fun k => k = gz) fun _ => rfl) (fun k hk e => by have := Hgz.out; omega), ?_⟩
            rw [HR.out, JC.out, Jst.out, if_neg hE]
            exact .inr ⟨hE, q, Hq.out, rfl, Hbad.out.setRow_ne (blk_ne Hbad.out HZ9.out (by decide)) _⟩
      · have hte : Keep (t = is.length) := ⟨by omega⟩
        have htl' : ¬ (t : Int) < (is.length : Int) := by omega
        refine wp_seq_k fun K41 hK41 => ?_
        refine wp_region_list (WL.out ?_)
        refine WL.val (by kernel_rfl) (.bool false) (by go_simp) ?_
        simp only [Act.put, List.setIfInBounds_toArray, List.set_cons_zero, List.set_cons_succ]
        refine WL.nil ?_
        refine hK41 _ _ ?_
        refine wp_seq_k fun K42 hK42 => ?_
        refine wp_cond_false rfl ?_
        refine wp_exit ?_
        refine hK11 _ _ ?_
        refine wp_seq_k fun K43 hK43 => ?_
        refine wp_region_list (WL.out ?_)
        refine WL.row (by kernel_rfl) 164 (.tmp 11) rfl gx rfl 164 (opA xt) _ hX Tryz.underlying164 rfl (Tryz.size164B xt) ?_
        simp only [Act.put, List.setIfInBounds_toArray, List.set_cons_zero, List.set_cons_succ]
        refine WL.storeR (by kernel_rfl) 164 (.tmp 6) (.tmp 61) rfl gz (opA xt) rfl rfl 164 (opA zeroOp) hZ (Tryz.size164B _) (opA_sizes _ _) (opA_one _) ?_
        simp only [Act.put]
        refine WL.val (by kernel_rfl) (.nilIface) (by go_simp) ?_
        simp only [Act.put, List.setIfInBounds_toArray, List.set_cons_zero, List.set_cons_succ]
        refine WL.nil ?_
        refine hK43 _ _ ?_
        refine wp_ret ?_
        refine bodyPost_ret (v := .tuple #[.agg (opA xt), .nilIface]) (results_cell_row2 Tryz.results77 _ _ gz 164 _ (0, 0) _ _ rfl rfl (hZ.setRow _) Tryz.underlying164 rfl (Tryz.size164B _)) rfl ?_
        rw [hte.out, List.drop_length] at hC
        refine ⟨xt, .nilIface, rfl, hG.next (Grown.setRow wr gz _ (S := fun k => k = gz) fun _ => rfl) (fun k hk e => by have := Hgz.out; omega), ?_⟩
        rw [HR.out, hC]
        exact .inl ⟨rfl, rfl, rfl, ⟨hI.blk.setRow_ne (blk_ne hI.blk hZ (by decide)) _, hI.le⟩, hOk⟩
  · rcases H3.out with ⟨e1, _⟩ | ⟨_, q, hq, rfl, rfl, hbad⟩
    · exact absurd e1 hE
    have Hbad := Keep.mk hbad
    have Hq := Keep.mk (Nat.le_trans HG0.out.size hq)
    clear hbad hq
    unfold err
    refine wp_region_list (WL.out ?_)
    refine WL.val (by kernel_rfl) (.iface 64 (ptr q)) (by go_simp) ?_
    simp only [Act.put, List.setIfInBounds_toArray, List.set_cons_zero, List.set_cons_succ]
    refine WL.val (by kernel_rfl) (.bool true) (by go_simp) ?_
    simp only [Act.put, List.setIfInBounds_toArray, List.set_cons_zero, List.set_cons_succ]
    refine WL.nil ?_
    refine hK5 _ _ ?_
    refine wp_cond_true rfl ?_
    refine wp_seq_k fun K44 hK44 => ?_
    refine wp_region_list (WL.out ?_)
    refine WL.bld (by kernel_rfl) 164 _ rfl [] (by simp) (opA zeroOp) Tryz.built164 ?_
    simp only [Act.put, List.setIfInBounds_toArray, List.set_cons_zero, List.set_cons_succ]
    refine WL.val (by kernel_rfl) (.iface 64 (ptr q)) (by go_simp) ?_
    simp only [Act.put, List.setIfInBounds_toArray, List.set_cons_zero, List.set_cons_succ]
    refine WL.storeR (by kernel_rfl) 164 (.tmp 6) (.tmp 26) rfl gz (opA zeroOp) rfl rfl 164 (opA zeroOp) HZ1.out (Tryz.size164B _) rfl (opA_one _) ?_
    simp only [Act.put]
    refine WL.val (by kernel_rfl) (.iface 64 (ptr q)) (by go_simp) ?_
    simp only [Act.put, List.setIfInBounds_toArray, List.set_cons_zero, List.set_cons_succ]
    refine WL.nil ?_
    refine hK44 _ _ ?_
    refine wp_ret ?_
    refine bodyPost_ret (v := .tuple #[.agg (opA zeroOp), .iface 64 (ptr q)]) (results_cell_row2 Tryz.results77 _ _ gz 164 _ (0, 0) _ _ rfl rfl (HZ1.out.setRow _) Tryz.underlying164 rfl (Tryz.size164B _)) rfl ?_
    refine ⟨zeroOp, err q, rfl, HG1.out.next (Grown.setRow w1 gz _ (S := fun k => k = gz) fun _ => rfl) (fun k hk e => by have := Hgz.out; omega), ?_⟩
    rw [HR.out, if_pos hE]
    exact .inr ⟨hE, q, Hq.out, rfl, Hbad.out.setRow_ne (blk_ne Hbad.out HZ1.out (by decide)) _⟩

end Go.Proofs.YtibaindbnemlcaaGreatDoor.Nd
