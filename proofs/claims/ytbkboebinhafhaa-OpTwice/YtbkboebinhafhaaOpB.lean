import Derived.Test.YtbkboebinhafhaaTbl
namespace Go.Proofs.Ytbkboebinhafhaa
open Go.RowKit

/-! ### Lists of operations in memory. -/
/-- The slice v holds the operations l. -/
def OpsAt (w : World) (v : Value) (l : List OpV) : Prop :=
  (∃ a c, v = .slice a 0 c ∧ l = []) ∨ ∃ b off cap, v = .slice (some ⟨b, off, none⟩) l.length cap ∧ l.length ≤ cap ∧ ∀ i x, l[i]? = some x → w.rangeAt b (off + i * 37) (opL x)
theorem OpsAt.form {w : World} {v : Value} {l : List OpV} (h : OpsAt w v l) : ∃ a c, v = .slice a l.length c := by
  rcases h with ⟨a, c, rfl, rfl⟩ | ⟨b, off, cap, rfl, _⟩
  · exact ⟨_, _, rfl⟩
  · exact ⟨_, _, rfl⟩
theorem range_lt {w : World} {b o : Nat} {cs : List Value} (h : w.rangeAt b o cs) (h0 : 0 < cs.length) : b < w.heap.size := by
  have := h 0 cs[0] (by simp)
  exact cell_lt this
theorem range_grown {w w' : World} {b o : Nat} {cs : List Value} {S : Nat → Prop} (h : w.rangeAt b o cs) (hg : Grown w w' S) (hs : ¬ S b) : w'.rangeAt b o cs := fun j v hv => hg.cell (h j v hv) hs
theorem OpsAt.grown {w w' : World} {v : Value} {l : List OpV} {S : Nat → Prop} (h : OpsAt w v l) (hg : Grown w w' S) (hs : ∀ b, v.ownBlock = some b → b < w.heap.size → ¬ S b) : OpsAt w' v l := by
  rcases h with h | ⟨b, off, cap, rfl, h2, h3⟩
  · exact .inl h
  · refine .inr ⟨b, off, cap, rfl, h2, fun i x hx => range_grown (h3 i x hx) hg (hs b rfl ?_)⟩
    exact range_lt (h3 i x hx) (by rw [opL_len]; omega)
theorem OpsAt.below {w w' : World} {v : Value} {l : List OpV} (h : OpsAt w v l) (hb : Below w.heap.size w w') : OpsAt w' v l :=
  h.grown (Grown.below (S := fun _ => False) hb) fun _ _ _ h => h
theorem OpsAt.at {w : World} {a : Option Addr} {n c : Nat} {l : List OpV} (h : OpsAt w (.slice a n c) l) {t : Nat} (ht : t < l.length) :
    ∃ b off, a = some ⟨b, off, none⟩ ∧ w.rangeAt b (off + t * 37) (opL (l.getD t zeroOp)) := by
  rcases h with ⟨_, _, _, rfl⟩ | ⟨b, off, cap, e, h2, h3⟩
  · simp at ht
  · injection e with e1 e2 e3
    refine ⟨b, off, e1, h3 t _ ?_⟩
    simp [List.getD_eq_getElem?_getD, ht]
theorem run_eql31L (c e : List Int) (o p : Int) (w : World) : (binOp .eql 31 (.agg (idL c o).toArray) (.agg (idA e p))).run Try.prog w = .ok (.bool (nd c e && o == p)) w := run_eql31 c e o p w
theorem run_neqHL (c e : List Int) (w : World) : (binOp .neq 29 (.agg (bytesA 32 (hof c)).toList.toArray) (.agg (bytesA 32 (hof e)))).run Try.prog w = .ok (.bool (!nd c e)) w := by rw [Array.toArray_toList]; exact run_neqH c e w
theorem rng_load (x : OpV) : (opL x).toArray = opA x := rfl

/-- Two places of an operation. -/
def mayAt (l : List OpV) (x : OpV) : Bool :=
  if (nd x.node z32 && x.op == 0) = true then x.kind == 8
  else if nd x.node z32 = false then decide (1 ≤ x.op) && decide (x.op ≤ 1024)
  else if x.op < 1 ∨ (l.length : Int) < x.op then false
  else (l.getD (x.op - 1).toNat zeroOp).kind == 8 && (l.getD (x.op - 1).toNat zeroOp).key == x.key

/-- What is asked of an operation's numbers. -/
structure OpOk (x : OpV) : Prop where
  node : x.node.length = 32
  byts : Byts x.node
  k1 : -9223372036854775808 ≤ x.kind
  k2 : x.kind ≤ 9223372036854775807
  n1 : -9223372036854775808 ≤ x.n
  n2 : x.n ≤ 9223372036854775807
  o1 : -9223372036854775808 ≤ x.op
  o2 : x.op ≤ 9223372036854775807
  key : x.key.size ≤ 140737488355328
  text : x.text.size ≤ 140737488355328

set_option maxRecDepth 8000 in
set_option maxHeartbeats 1000000 in
theorem may_any (x : OpV) (v : Value) (l : List OpV) (w : World) (hx : OpOk x) (hl : OpsAt w v l) (hb : l.length ≤ 4398046511104) :
    Calls Try.prog 55 #[.agg (opA x), v] w fun e w' => e = .returned (.bool (mayAt l x)) ∧ Below w.heap.size w w' := by
  obtain ⟨va, vc, rfl⟩ := hl.form
  have HL := Keep.mk hl
  have HB := Keep.mk (Blk.new w 33 (opA x))
  have HW := Keep.mk (below_new w (.cells (opA x) 33))
  have HR : Keep ((w.alloc (.cells (opA x) 33)).rangeAt w.heap.size 4 (idL x.node x.op)) := ⟨fun j v hv => by
    rw [HB.out.cell]; unfold opA; rw [List.getElem?_toArray, ← List.getElem?_drop, opL_at]; exact hv⟩
  have HN : Keep ((w.alloc (.cells (opA x) 33)).rangeAt w.heap.size 4 (bytesA 32 (hof x.node)).toList) := ⟨fun j v hv => by
    rw [hl_bytesA, ← idL_node x.node x.op] at hv
    rw [List.getElem?_take] at hv
    split at hv
    · exact HR.out j v hv
    · cases hv⟩
  have c0 : (w.alloc (.cells (opA x) 33)).cell? ⟨w.heap.size, 0, none⟩ = some (.int .i64 x.kind) := by rw [HB.out.cell, opA_0]
  have c1 : (w.alloc (.cells (opA x) 33)).cell? ⟨w.heap.size, 1, none⟩ = some (.string x.key) := by rw [HB.out.cell, opA_1]
  have c36 : (w.alloc (.cells (opA x) 33)).cell? ⟨w.heap.size, 36, none⟩ = some (.int .i64 x.op) := by rw [HB.out.cell, opA_36]
  obtain ⟨R, hR⟩ : ∃ R, R = mayAt l x := ⟨_, rfl⟩
  rw [← hR]
  unfold mayAt at hR
  have HM := Keep.mk hR
  clear hR
  have h1 := run_eql31L x.node z32 x.op 0
  have h2 := run_neqHL x.node z32
  have hNs : Keep ((Try.prog.info? 29).map (·.size) = some (bytesA 32 (hof x.node)).toList.length) := ⟨by rw [Array.length_toList]; exact Try.size29B _⟩
  obtain ⟨E, hE⟩ : ∃ E, E = nd x.node z32 := ⟨_, rfl⟩
  rw [← hE] at h1 h2 HM
  obtain ⟨cN, hN⟩ : ∃ c, Keep (c = (bytesA 32 (hof x.node)).toList) := ⟨_, ⟨rfl⟩⟩
  rw [← hN.out] at h2 HN hNs
  obtain ⟨cI, hI⟩ : ∃ c, Keep (c = idL x.node x.op) := ⟨_, ⟨rfl⟩⟩
  have hIs : Keep ((Try.prog.info? 31).map (·.size) = some cI.length) := ⟨by rw [hI.out]; exact Try.size31L _ _⟩
  rw [← hI.out] at h1 HR
  obtain ⟨aZ, hZ⟩ : ∃ c, Keep (c = idA z32 0) := ⟨_, ⟨rfl⟩⟩
  have hbZ : Keep (Try.prog.built 31 [] = some aZ) := ⟨by rw [hZ.out]; exact Try.built31⟩
  rw [← hZ.out] at h1
  obtain ⟨aY, hY⟩ : ∃ c, Keep (c = bytesA 32 (hof z32)) := ⟨_, ⟨rfl⟩⟩
  have hbY : Keep (Try.prog.built 29 [] = some aY) := ⟨by rw [hY.out]; exact Try.built29⟩
  rw [← hY.out] at h2
  have HX := Keep.mk hx
  have Hlb := Keep.mk hb
  have ho1 := hx.o1
  have ho2 := hx.o2
  obtain ⟨w1, hw1⟩ : ∃ w1, Keep (w.alloc (.cells (opA x) 33) = w1) := ⟨_, ⟨rfl⟩⟩
  rw [hw1.out] at HB HW HR HN c0 c1 c36
  clear hx hl hE hb
  have LD31 := Keep.mk HR.out
  go_enter Try.func55, Try.ntmps55
  by_cases hA : (E && x.op == 0) = true
  · have hA2 : E = true ∧ x.op = 0 := by simpa using hA
    rw [if_pos hA] at HM
    rw [hA] at h1
    go_wp2_with (first | (refine wpList_boxA rfl 33 (.tmp 0) rfl (opA x) rfl ?_; rw [hw1.out]) | (refine wpList_load_mid rfl 31 (.tmp 7) rfl w.heap.size 4 rfl cI _ HR.out Try.underlying31 rfl hIs.out ?_; refine wpList_bld rfl 31 _ rfl aZ (by simpa using hbZ.out) ?_))
    go_ret
    exact ⟨by rw [HM.out]; rfl, HW.out⟩
  · rw [if_neg hA] at HM
    rw [show (E && x.op == 0) = false by simpa using hA] at h1
    clear hA
    cases E with
    | false =>
      rw [if_pos rfl] at HM
      by_cases g1 : 1 ≤ x.op
      · by_cases g2 : x.op ≤ 1024
        · go_wp2_with (first | (refine wpList_boxA rfl 33 (.tmp 0) rfl (opA x) rfl ?_; rw [hw1.out]) | (refine wpList_load_mid rfl 31 (.tmp 7) rfl w.heap.size 4 rfl cI _ HR.out Try.underlying31 rfl hIs.out ?_; refine wpList_bld rfl 31 _ rfl aZ (by simpa using hbZ.out) ?_) | (refine wpList_load_mid rfl 29 (.tmp 18) rfl w.heap.size 4 rfl cN _ HN.out Try.underlying29 rfl hNs.out ?_; refine wpList_bld rfl 29 _ rfl aY (by simpa using hbY.out) ?_))
          go_ret
          exact ⟨by rw [HM.out, decide_eq_true g1, decide_eq_true g2]; rfl, HW.out⟩
        · go_wp2_with (first | (refine wpList_boxA rfl 33 (.tmp 0) rfl (opA x) rfl ?_; rw [hw1.out]) | (refine wpList_load_mid rfl 31 (.tmp 7) rfl w.heap.size 4 rfl cI _ HR.out Try.underlying31 rfl hIs.out ?_; refine wpList_bld rfl 31 _ rfl aZ (by simpa using hbZ.out) ?_) | (refine wpList_load_mid rfl 29 (.tmp 18) rfl w.heap.size 4 rfl cN _ HN.out Try.underlying29 rfl hNs.out ?_; refine wpList_bld rfl 29 _ rfl aY (by simpa using hbY.out) ?_))
          go_ret
          exact ⟨by rw [HM.out, decide_eq_true g1, decide_eq_false (show ¬ x.op ≤ 1024 by omega)]; rfl, HW.out⟩
      · go_wp2_with (first | (refine wpList_boxA rfl 33 (.tmp 0) rfl (opA x) rfl ?_; rw [hw1.out]) | (refine wpList_load_mid rfl 31 (.tmp 7) rfl w.heap.size 4 rfl cI _ HR.out Try.underlying31 rfl hIs.out ?_; refine wpList_bld rfl 31 _ rfl aZ (by simpa using hbZ.out) ?_) | (refine wpList_load_mid rfl 29 (.tmp 18) rfl w.heap.size 4 rfl cN _ HN.out Try.underlying29 rfl hNs.out ?_; refine wpList_bld rfl 29 _ rfl aY (by simpa using hbY.out) ?_))
        go_ret
        exact ⟨by rw [HM.out, decide_eq_false (show ¬ 1 ≤ x.op by omega)]; rfl, HW.out⟩
    | true =>
      rw [if_neg (by simp)] at HM
      by_cases g1 : x.op < 1
      · rw [if_pos (.inl g1)] at HM
        go_wp2_with (first | (refine wpList_boxA rfl 33 (.tmp 0) rfl (opA x) rfl ?_; rw [hw1.out]) | (refine wpList_load_mid rfl 31 (.tmp 7) rfl w.heap.size 4 rfl cI _ HR.out Try.underlying31 rfl hIs.out ?_; refine wpList_bld rfl 31 _ rfl aZ (by simpa using hbZ.out) ?_) | (refine wpList_load_mid rfl 29 (.tmp 18) rfl w.heap.size 4 rfl cN _ HN.out Try.underlying29 rfl hNs.out ?_; refine wpList_bld rfl 29 _ rfl aY (by simpa using hbY.out) ?_))
        go_ret
        exact ⟨by rw [HM.out]; rfl, HW.out⟩
      · by_cases g2 : (l.length : Int) < x.op
        · rw [if_pos (.inr g2)] at HM
          go_wp2_with (first | (refine wpList_boxA rfl 33 (.tmp 0) rfl (opA x) rfl ?_; rw [hw1.out]) | (refine wpList_load_mid rfl 31 (.tmp 7) rfl w.heap.size 4 rfl cI _ HR.out Try.underlying31 rfl hIs.out ?_; refine wpList_bld rfl 31 _ rfl aZ (by simpa using hbZ.out) ?_) | (refine wpList_load_mid rfl 29 (.tmp 18) rfl w.heap.size 4 rfl cN _ HN.out Try.underlying29 rfl hNs.out ?_; refine wpList_bld rfl 29 _ rfl aY (by simpa using hbY.out) ?_))
          go_ret
          exact ⟨by rw [HM.out]; rfl, HW.out⟩
        · rw [if_neg (by simp [g1, g2])] at HM
          obtain ⟨t, ht⟩ : ∃ t : Nat, x.op = (t : Int) + 1 := ⟨(x.op - 1).toNat, by omega⟩
          have htl : t < l.length := by omega
          obtain ⟨b, off, rfl, hrt⟩ := (HL.out.below HW.out).at htl
          rw [ht, show ((t : Int) + 1 - 1).toNat = t by omega] at HM
          have hi : (t : Int) + 1 - 1 = (t : Int) := by omega
          obtain ⟨it, hit⟩ : ∃ it, it = l.getD t zeroOp := ⟨_, rfl⟩
          rw [← hit] at hrt HM
          have HT := Keep.mk hrt
          have HS : Keep (Blk (w1.alloc (.cells (opA zeroOp) 33)) w1.heap.size 33 (opA zeroOp)) := ⟨Blk.new w1 33 _⟩
          have hw2 : w.heap.size < w1.heap.size := HB.out.lt
          have hg2 : (l.length : Int) ≤ 4398046511104 := by have := Hlb.out; omega
          have htn : ((t : Int) + 1 - 1).toNat = t := by omega
          rw [ht] at c36 g1 g2 ho1 ho2
          clear hit hrt
          go_wp2_with (first | (refine wpList_boxA rfl 33 (.tmp 0) rfl (opA x) rfl ?_; rw [hw1.out]) | (refine wpList_load_mid rfl 31 (.tmp 7) rfl w.heap.size 4 rfl cI _ HR.out Try.underlying31 rfl hIs.out ?_; refine wpList_bld rfl 31 _ rfl aZ (by simpa using hbZ.out) ?_) | (refine wpList_load_mid rfl 29 (.tmp 18) rfl w.heap.size 4 rfl cN _ HN.out Try.underlying29 rfl hNs.out ?_; refine wpList_bld rfl 29 _ rfl aY (by simpa using hbY.out) ?_) | (refine wpList_load_mid rfl 33 (.tmp 39) rfl b (off + t * 37) rfl (opL it) _ HT.out Try.underlying33 rfl (Try.size33L it) ?_; refine wpList_new rfl 33 rfl _ Try.new33 ?_; refine wpList_store_row rfl 33 (.tmp 6) (.tmp 40) rfl w1.heap.size (opA it) rfl rfl 33 (opA zeroOp) HS.out (Try.size33B it) (opA_sizes _ _) (opA_one it) ?_; refine Hid.out ?_))
          refine hid_in ?_
          have HI := Keep.mk (HS.out.setRow (opA it))
          have HX2 := Keep.mk ((HB.out.alloc (.cells (opA zeroOp) 33)).setRow_ne (b' := w1.heap.size) (by omega) (opA it))
          have HW2 := Keep.mk (below_setRow (HW.out.alloc HW.out.size (.cells (opA zeroOp) 33)) HW.out.size (opA it) (b := w1.heap.size))
          generalize (w1.alloc (.cells (opA zeroOp) 33)).setRow w1.heap.size (opA it) = w2 at *
          have d0 : w2.cell? ⟨w1.heap.size, 0, none⟩ = some (.int .i64 it.kind) := by rw [HI.out.cell, opA_0]
          have d1 : w2.cell? ⟨w1.heap.size, 1, none⟩ = some (.string it.key) := by rw [HI.out.cell, opA_1]
          have e1 : w2.cell? ⟨w.heap.size, 1, none⟩ = some (.string x.key) := by rw [HX2.out.cell, opA_1]
          clear h1 h2 c0 c1 c36
          by_cases k8 : it.kind = 8
          · go_wp2
            go_ret
            exact ⟨by rw [HM.out, k8]; simp; exact (beq_toListBytes _ _).symm, HW2.out⟩
          · go_wp2
            go_ret
            exact ⟨by rw [HM.out, show (it.kind == 8) = false by simpa using k8]; rfl, HW2.out⟩
end Go.Proofs.Ytbkboebinhafhaa
