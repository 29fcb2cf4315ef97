import Derived.Test.YtkjjlfpghhefcaaB08
import Derived.Test.YtkjjlfpghhefcaaB04
import Derived.Test.YtkjjlfpghhefcaaB07
import Derived.ProofKit
import Derived.OpenShut
import Derived.ShutString
import Derived.ChangeOld
import Derived.Below
import Derived.SizedLaws
import Derived.Deep.Slices
import Derived.Deep.Strs
namespace Go.Proofs.Ytkjjlfpghhefcaa
open Go.RowKit
set_option linter.unusedSimpArgs false
set_option linter.unusedVariables false

theorem WL.appR {ops : Array Oper} {rest : List Oper} {o : Oper} {a : Act} {w : World} {Q : Exit → Act → World → Prop} (hw : Region.wanted o (yielded ops a.tmps) = true) (s x : Operand)
    (ho : o.op = .call { callee := .builtin .append, args := #[s, x], argTypes := #[28, 28] }) (v vx : Value) (l m : List Int)
    (hs : a.eval s = v) (hx : a.eval x = vx) (hown : Own w v l) (hrow : RowAt w vx m) (hb : l.length + m.length ≤ 200000000000000)
    (h : ∀ v' w', AppPost w v (l ++ m) v' w' → WL Try.prog ops Q rest (a.put o.dst v') w') : WL Try.prog ops Q (o :: rest) a w :=
  ⟨wpList_wanted hw fun K hK => by
    obtain ⟨v', w', hr, h2⟩ := run_app_row w o.type v vx l m hown hrow hb
    unfold Oper.wp execOp
    simp only [ho, resolve, invoke, builtin, Sem.run_bind, Sem.run_pure, Result.andThen_ok, List.map_toArray, List.map_cons, List.map_nil, hs, hx, hr]
    exact hK _ _ (h v' w' h2).out⟩
theorem own_blk {w : World} {g : Nat} {l : List Int} (h : Blk w g 5 (bv l).toArray) (hb : l.length ≤ 200000000000000) : Own w (.slice (some ⟨g, 0, none⟩) l.length l.length) l :=
  Own.mk h (Nat.le_refl _) (by unfold maxLen; omega) (by simp [bv_len]) (by simp [← bv_len])
theorem app_keeps {w w' : World} {g : Nat} {l m : List Int} {v' : Value} (hb : Blk w g 5 (bv l).toArray) (h : AppPost w (.slice (some ⟨g, 0, none⟩) l.length l.length) (l ++ m) v' w') : RowAt w' (.slice (some ⟨g, 0, none⟩) l.length l.length) l ∧ Grown w w' fun k => k = g := by
  rcases h.2 with ⟨h1, h2⟩ | ⟨_, h2⟩
  · have hg : v'.ownBlock = some g := h1
    refine ⟨?_, h2.mono fun k _ e => by simpa [Value.ownBlock] using e.symm⟩
    rcases h.1.2 with ⟨e1, h0⟩ | ⟨b, cap, cur, e1, _, h3, h4, h5, h6, h7⟩
    · rw [e1] at hg; simp [Value.ownBlock] at hg
    · rw [e1] at hg; simp [Value.ownBlock] at hg
      subst hg
      refine .inr (.inr ⟨b, 0, l.length, rfl, Nat.le_refl _, fun i hi => ?_⟩)
      rw [Nat.zero_add, cell_of_row w' b i cur 5 (0, 0) h3, ← Array.getElem?_toList]
      have e2 : (cur.toList.take ((l ++ m).length * 1))[i]? = (bv (l ++ m))[i]? := by rw [h7]
      rw [List.getElem?_take, if_pos (by simp; omega)] at e2
      rw [e2, bv_get _ _ (by simp; omega)]
      rw [List.getD_eq_getElem?_getD, List.getD_eq_getElem?_getD, List.getElem?_append_left hi]
  · exact ⟨row_of (hb.below h2 hb.lt) rfl, Grown.below h2⟩
theorem sl_run3 (base : Option Addr) (n : Nat) (wx : World) : (Instr.sliceAt 28 (.slice base n n) none (some (.int .i64 (n : Int))) (some (.int .i64 (n : Int)))).run Try.prog wx = .ok (.slice base n n) wx := by
  have hu : Try.prog.underlying 28 = some (.slice (Try.prog.elem 28)) := by rw [Try.elem28]; exact Try.underlying28
  rw [run_sliceAt_slice (P := Try.prog) (w := wx) 28 _ _ _ _ hu]
  have hs := Try.sizeOf5 wx
  simp [Instr.slice, run_underlying hu, Try.elem28, hs, go_sem]
theorem flat_byts {α : Type} (f : α → List Int) : ∀ l : List α, (∀ x ∈ l, Byts (f x)) → Byts (l.flatMap f)
  | [], _ => Byts.nil
  | x :: l, h => by rw [List.flatMap_cons]; exact (h x (by simp)).app (flat_byts f l fun y hy => h y (by simp [hy]))
theorem bform_byts (s : ByteArray) (h : s.size ≤ 65536) : Byts (bform (lst s)) := (numL_byts _ (by rw [lst_len]; omega)).app (lst_byts s)
theorem one_byts {ah : List OpV} {x : OpV} (hal : ah.length ≤ 1024) (hx : OpOk x) (hw : wrongV ah x = 0) : Byts (oneF x) := by
  obtain ⟨h1, h2, h3, h4, h5⟩ := wrongV_ok hw
  have hk := hasI_mem h1
  have hop : 3 ∈ hasI x.kind → x.op.toNat ≤ 1024 := fun h => by have := mayAt_op hal (h5 (hasI_three h)); omega
  have hp : ∀ i ∈ hasI x.kind, Byts (putF i x) := fun i hi => by
    unfold putF
    split
    · exact bform_byts _ h2
    split
    · exact bform_byts _ h3
    split
    · exact numL_byts _ (zig_lt _ hx.n1 hx.n2)
    · rename_i e1 e2 e3
      have h3' : i = 3 := by have := hasI_lt x.kind i hi; omega
      subst h3'
      refine (numL_byts _ (by have := hop hi; omega)).app ?_
      split
      · exact Byts.nil
      · rw [hl_hof _ hx.node]; exact hx.byts
  refine Byts.app (a := [x.kind]) (Byts.one ?_) (flat_byts _ _ hp)
  simp only [List.mem_cons, List.not_mem_nil, or_false] at hk
  omega
theorem form_byts {l : List OpV} (hc : (chk l).1 = 0) (hok : ∀ x ∈ l, OpOk x) : Byts (formL l) := by
  obtain ⟨h1, h2⟩ := chk_ok hc
  refine (numL_byts _ (by omega)).app (flat_byts _ _ fun x hx => ?_)
  obtain ⟨i, hi⟩ := List.getElem?_of_mem hx
  exact one_byts (ah := l.take i) (by rw [List.length_take]; omega) (hok x hx) (h2 i x hi)
theorem blk_byts {N : NodeV} (hc : chkN N = 0) (hok : ∀ x ∈ N.ops, OpOk x) : Byts (blkL N) := by
  obtain ⟨h1, h2⟩ := chkN_ok hc
  obtain ⟨k1, k2, k3, k4, k5, k6⟩ := headE_ok h1
  refine Byts.app (Byts.app (Byts.app (Byts.app ?_ (numL_byts _ (by omega))) (numL_byts _ (by omega))) (flat_byts _ _ fun x _ => hB_byts x)) (form_byts h2 hok)
  intro c hc
  simp at hc
  omega
set_option maxRecDepth 8000 in
set_option maxHeartbeats 4000000 in
theorem rest_any (N : NodeV) (vp vo vm : Value) (M : List Int) (c : Int) (w : World) (hN : NdAt w N vp vo) (hM : RowAt w vm M) (hMb : Byts M) (hMl : M.length ≤ 140737488355328) (hc : -9223372036854775808 ≤ c ∧ c ≤ 9223372036854775807) : Calls Try.prog 7 #[.agg (ndA N.au N.ck vp vo), vm, .int .i64 c] w fun e w' => e = .returned (.bool true) ∧ Below w.heap.size w w' := by
  obtain ⟨pa, pc, rfl⟩ := hN.ps.form
  have HN := Keep.mk hN
  obtain ⟨ma, mc, rfl⟩ := row_form hM
  have HM := Keep.mk hM
  have HMl := Keep.mk hMl
  have HbyN : Keep (chkN N = 0 → Byts (blkL N)) := ⟨fun h => blk_byts h hN.ok⟩
  have Hby0 := Keep.mk hMb
  clear hN hM hMb hMl hc
  go_enter Try.func7, Try.ntmps7
  refine wp_seq_k fun K1 hK1 => ?_
  refine wp_region_list (WL.out ?_)
  refine WL.box (by kernel_rfl) 27 (.tmp 0) rfl _ rfl ?_
  have HX1 := Keep.mk (Blk.new w 27 (ndA N.au N.ck (.slice pa N.ps.length pc) vo))
  have B1 := Keep.mk (below_new w (.cells (ndA N.au N.ck (.slice pa N.ps.length pc) vo) 27))
  generalize w.alloc (.cells (ndA N.au N.ck (.slice pa N.ps.length pc) vo) 27) = w1 at *
  have HN1 := Keep.mk (HN.out.below B1.out)
  have Hs1 : Keep (w.heap.size < w1.heap.size) := ⟨HX1.out.lt⟩
  have B1x : Keep (w.heap.size ≤ w1.heap.size) := ⟨B1.out.size⟩
  generalize hgg : w.heap.size = g at *
  simp only [Act.put, List.setIfInBounds_toArray, List.set_cons_zero, List.set_cons_succ]
  refine WL.val (by kernel_rfl) (.bool false) (by go_simp) ?_
  simp only [Act.put, List.setIfInBounds_toArray, List.set_cons_zero, List.set_cons_succ]
  refine WL.nil ?_
  refine hK1 _ _ ?_
  refine wp_seq_k fun K2 hK2 => ?_
  refine wp_seq_k fun K3 hK3 => ?_
  have HM1 := Keep.mk (HM.out.below (by rw [hgg]; exact B1.out))
  refine wp_region_list (WL.out ?_)
  refine WL.callF (by kernel_rfl) 9 _ _ rfl Try.in9 #[] (by simp) ?_
  refine (awake_any w1).mono ?_
  rintro e w2 ⟨rfl, hb2⟩
  refine ⟨_, rfl, ?_⟩
  have B2 := Keep.mk hb2
  have HN2 := Keep.mk (HN1.out.below hb2)
  have HX2 := Keep.mk (HX1.out.below hb2 HX1.out.lt)
  clear hb2
  simp only [Act.put, List.setIfInBounds_toArray, List.set_cons_zero, List.set_cons_succ]
  refine WL.val (by kernel_rfl) (.bool false) (by go_simp) ?_
  simp only [Act.put, List.setIfInBounds_toArray, List.set_cons_zero, List.set_cons_succ]
  refine WL.nil ?_
  refine hK3 _ _ ?_
  refine wp_cond_false rfl ?_
  refine wp_skip ?_
  refine hK2 _ _ ?_
  refine wp_seq_k fun K4 hK4 => ?_
  refine wp_region_list (WL.out ?_)
  refine WL.row (by kernel_rfl) 27 (.tmp 3) rfl g rfl 27 (ndA N.au N.ck (.slice pa N.ps.length pc) vo) _ HX2.out Try.underlying27 rfl (Try.size27B _ _ _ _) ?_
  simp only [Act.put, List.setIfInBounds_toArray, List.set_cons_zero, List.set_cons_succ]
  refine WL.callF (by kernel_rfl) 10 _ _ rfl Try.in10 #[.agg (ndA N.au N.ck (.slice pa N.ps.length pc) vo)] (by simp [Act.eval]) ?_
  refine (encode_any N _ vo w2 HN2.out).mono ?_
  rintro e w3 ⟨hb3, (⟨hch, rfl⟩ | ⟨hch, hlong, rfl⟩ | ⟨hch, hlen, gb, hgb, rfl, hblk⟩)⟩
  · refine ⟨_, rfl, ?_⟩
    have B3 : Keep (Below w1.heap.size w1 w3) := ⟨B2.out.trans (hb3.mono B2.out.size)⟩
    simp only [Act.put, List.setIfInBounds_toArray, List.set_cons_zero, List.set_cons_succ]
    refine WL.val (by kernel_rfl) (.tuple #[.slice none 0 0, .int .i64 (chkN N)]) (by go_simp) ?_
    simp only [Act.put, List.setIfInBounds_toArray, List.set_cons_zero, List.set_cons_succ]
    refine WL.val (by kernel_rfl) (.slice none 0 0) (by go_simp) ?_
    simp only [Act.put, List.setIfInBounds_toArray, List.set_cons_zero, List.set_cons_succ]
    refine WL.val (by kernel_rfl) (.int .i64 (chkN N)) (by go_simp) ?_
    simp only [Act.put, List.setIfInBounds_toArray, List.set_cons_zero, List.set_cons_succ]
    refine WL.val (by kernel_rfl) (.slice none 0 0) (by go_simp) ?_
    simp only [Act.put, List.setIfInBounds_toArray, List.set_cons_zero, List.set_cons_succ]
    refine WL.val (by kernel_rfl) (.int .i64 (chkN N)) (by go_simp) ?_
    simp only [Act.put, List.setIfInBounds_toArray, List.set_cons_zero, List.set_cons_succ]
    refine WL.nil ?_
    refine hK4 _ _ ?_
    refine wp_seq_k fun K5 hK5 => ?_
    refine wp_seq_k fun K6 hK6 => ?_
    refine wp_region_list (WL.out ?_)
    refine WL.val (by kernel_rfl) (.int .i64 (chkN N)) (by go_simp) ?_
    simp only [Act.put, List.setIfInBounds_toArray, List.set_cons_zero, List.set_cons_succ]
    refine WL.val (by kernel_rfl) (.bool true) (by go_simp) ?_
    simp only [Act.put, List.setIfInBounds_toArray, List.set_cons_zero, List.set_cons_succ]
    refine WL.nil ?_
    refine hK6 _ _ ?_
    refine wp_cond_true rfl ?_
    refine wp_seq_k fun K7 hK7 => ?_
    refine wp_region_list (WL.out ?_)
    refine WL.val (by kernel_rfl) (.bool true) (by go_simp) ?_
    simp only [Act.put, List.setIfInBounds_toArray, List.set_cons_zero, List.set_cons_succ]
    refine WL.nil ?_
    refine hK7 _ _ ?_
    refine wp_ret ?_
    go_ret
    exact ⟨rfl, B1.out.trans (B3.out.mono B1x.out)⟩
  · refine ⟨_, rfl, ?_⟩
    have B3 : Keep (Below w1.heap.size w1 w3) := ⟨B2.out.trans (hb3.mono B2.out.size)⟩
    simp only [Act.put, List.setIfInBounds_toArray, List.set_cons_zero, List.set_cons_succ]
    refine WL.val (by kernel_rfl) (.tuple #[.slice none 0 0, .int .i64 4]) (by go_simp) ?_
    simp only [Act.put, List.setIfInBounds_toArray, List.set_cons_zero, List.set_cons_succ]
    refine WL.val (by kernel_rfl) (.slice none 0 0) (by go_simp) ?_
    simp only [Act.put, List.setIfInBounds_toArray, List.set_cons_zero, List.set_cons_succ]
    refine WL.val (by kernel_rfl) (.int .i64 4) (by go_simp) ?_
    simp only [Act.put, List.setIfInBounds_toArray, List.set_cons_zero, List.set_cons_succ]
    refine WL.val (by kernel_rfl) (.slice none 0 0) (by go_simp) ?_
    simp only [Act.put, List.setIfInBounds_toArray, List.set_cons_zero, List.set_cons_succ]
    refine WL.val (by kernel_rfl) (.int .i64 4) (by go_simp) ?_
    simp only [Act.put, List.setIfInBounds_toArray, List.set_cons_zero, List.set_cons_succ]
    refine WL.nil ?_
    refine hK4 _ _ ?_
    refine wp_seq_k fun K8 hK8 => ?_
    refine wp_seq_k fun K9 hK9 => ?_
    refine wp_region_list (WL.out ?_)
    refine WL.val (by kernel_rfl) (.int .i64 4) (by go_simp) ?_
    simp only [Act.put, List.setIfInBounds_toArray, List.set_cons_zero, List.set_cons_succ]
    refine WL.val (by kernel_rfl) (.bool true) (by go_simp) ?_
    simp only [Act.put, List.setIfInBounds_toArray, List.set_cons_zero, List.set_cons_succ]
    refine WL.nil ?_
    refine hK9 _ _ ?_
    refine wp_cond_true rfl ?_
    refine wp_seq_k fun K10 hK10 => ?_
    refine wp_region_list (WL.out ?_)
    refine WL.val (by kernel_rfl) (.bool true) (by go_simp) ?_
    simp only [Act.put, List.setIfInBounds_toArray, List.set_cons_zero, List.set_cons_succ]
    refine WL.nil ?_
    refine hK10 _ _ ?_
    refine wp_ret ?_
    go_ret
    exact ⟨rfl, B1.out.trans (B3.out.mono B1x.out)⟩
  · refine ⟨_, rfl, ?_⟩
    have B3 : Keep (Below w1.heap.size w1 w3) := ⟨B2.out.trans (hb3.mono B2.out.size)⟩
    have Hch := Keep.mk hch
    have Hlen := Keep.mk hlen
    have Hgb : Keep (w1.heap.size ≤ gb) := ⟨Nat.le_trans B2.out.size hgb⟩
    have HB3 := Keep.mk hblk
    have HM3 := Keep.mk (HM1.out.below B3.out)
    clear hch hgb hblk hb3
    simp only [Act.put, List.setIfInBounds_toArray, List.set_cons_zero, List.set_cons_succ]
    refine WL.val (by kernel_rfl) (.tuple #[.slice (some ⟨gb, 0, none⟩) (blkL N).length (blkL N).length, .int .i64 0]) (by go_simp) ?_
    simp only [Act.put, List.setIfInBounds_toArray, List.set_cons_zero, List.set_cons_succ]
    refine WL.val (by kernel_rfl) (.slice (some ⟨gb, 0, none⟩) (blkL N).length (blkL N).length) (by go_simp) ?_
    simp only [Act.put, List.setIfInBounds_toArray, List.set_cons_zero, List.set_cons_succ]
    refine WL.val (by kernel_rfl) (.int .i64 0) (by go_simp) ?_
    simp only [Act.put, List.setIfInBounds_toArray, List.set_cons_zero, List.set_cons_succ]
    refine WL.val (by kernel_rfl) (.slice (some ⟨gb, 0, none⟩) (blkL N).length (blkL N).length) (by go_simp) ?_
    simp only [Act.put, List.setIfInBounds_toArray, List.set_cons_zero, List.set_cons_succ]
    refine WL.val (by kernel_rfl) (.int .i64 0) (by go_simp) ?_
    simp only [Act.put, List.setIfInBounds_toArray, List.set_cons_zero, List.set_cons_succ]
    refine WL.nil ?_
    refine hK4 _ _ ?_
    refine wp_seq_k fun K11 hK11 => ?_
    refine wp_seq_k fun K12 hK12 => ?_
    refine wp_region_list (WL.out ?_)
    refine WL.val (by kernel_rfl) (.int .i64 0) (by go_simp) ?_
    simp only [Act.put, List.setIfInBounds_toArray, List.set_cons_zero, List.set_cons_succ]
    refine WL.val (by kernel_rfl) (.bool false) (by go_simp) ?_
    simp only [Act.put, List.setIfInBounds_toArray, List.set_cons_zero, List.set_cons_succ]
    refine WL.nil ?_
    refine hK12 _ _ ?_
    refine wp_cond_false rfl ?_
    refine wp_skip ?_
    refine hK11 _ _ ?_
    refine wp_seq_k fun K13 hK13 => ?_
    refine wp_seq_k fun K14 hK14 => ?_
    refine wp_region_list (WL.out ?_)
    refine WL.val (by kernel_rfl) (.slice ma M.length mc) (by go_simp) ?_
    simp only [Act.put, List.setIfInBounds_toArray, List.set_cons_zero, List.set_cons_succ]
    refine WL.val (by kernel_rfl) (.int .i64 (M.length : Int)) (by go_simp) ?_
    simp only [Act.put, List.setIfInBounds_toArray, List.set_cons_zero, List.set_cons_succ]
    by_cases h6_2 : 0 < M.length
    · have h6_2i : (0 : Int) < (M.length : Int) := by omega
      have hwad : IntKind.i64.wrap (((blkL N).length : Int) + (M.length : Int)) = ((blkL N).length : Int) + (M.length : Int) := by rw [IntKind.wrap_i64]; have := Hlen.out; have := HMl.out; omega
      refine WL.val (by kernel_rfl) (.bool true) (by go_simp) ?_
      simp only [Act.put, List.setIfInBounds_toArray, List.set_cons_zero, List.set_cons_succ]
      refine WL.val (by kernel_rfl) (.bool true) (by go_simp) ?_
      simp only [Act.put, List.setIfInBounds_toArray, List.set_cons_zero, List.set_cons_succ]
      refine WL.val (by kernel_rfl) (.slice (some ⟨gb, 0, none⟩) (blkL N).length (blkL N).length) (by go_simp) ?_
      simp only [Act.put, List.setIfInBounds_toArray, List.set_cons_zero, List.set_cons_succ]
      refine WL.val (by kernel_rfl) (.int .i64 ((blkL N).length : Int)) (by go_simp) ?_
      simp only [Act.put, List.setIfInBounds_toArray, List.set_cons_zero, List.set_cons_succ]
      refine WL.val (by kernel_rfl) (.slice ma M.length mc) (by go_simp) ?_
      simp only [Act.put, List.setIfInBounds_toArray, List.set_cons_zero, List.set_cons_succ]
      refine WL.val (by kernel_rfl) (.int .i64 (M.length : Int)) (by go_simp) ?_
      simp only [Act.put, List.setIfInBounds_toArray, List.set_cons_zero, List.set_cons_succ]
      refine WL.val (by kernel_rfl) (.int .i64 (((blkL N).length : Int) + (M.length : Int))) (by go_simp) ?_
      simp only [Act.put, List.setIfInBounds_toArray, List.set_cons_zero, List.set_cons_succ]
      by_cases h6_9 : (blkL N).length + M.length ≤ 1048576
      · have h6_9i : ((blkL N).length : Int) + (M.length : Int) ≤ 1048576 := by omega
        refine WL.val (by kernel_rfl) (.bool true) (by go_simp) ?_
        simp only [Act.put, List.setIfInBounds_toArray, List.set_cons_zero, List.set_cons_succ]
        refine WL.val (by kernel_rfl) (.bool true) (by go_simp) ?_
        simp only [Act.put, List.setIfInBounds_toArray, List.set_cons_zero, List.set_cons_succ]
        refine WL.nil ?_
        refine hK14 _ _ ?_
        refine wp_cond_true rfl ?_
        refine wp_seq_k fun K15 hK15 => ?_
        have hs3 := sl_run3 (some ⟨gb, 0, none⟩) (blkL N).length
        refine wp_region_list (WL.out ?_)
        refine WL.val (by kernel_rfl) (.slice (some ⟨gb, 0, none⟩) (blkL N).length (blkL N).length) (by go_simp) ?_
        simp only [Act.put, List.setIfInBounds_toArray, List.set_cons_zero, List.set_cons_succ]
        refine WL.val (by kernel_rfl) (.slice (some ⟨gb, 0, none⟩) (blkL N).length (blkL N).length) (by go_simp) ?_
        simp only [Act.put, List.setIfInBounds_toArray, List.set_cons_zero, List.set_cons_succ]
        refine WL.val (by kernel_rfl) (.int .i64 ((blkL N).length : Int)) (by go_simp) ?_
        simp only [Act.put, List.setIfInBounds_toArray, List.set_cons_zero, List.set_cons_succ]
        refine WL.val (by kernel_rfl) (.slice (some ⟨gb, 0, none⟩) (blkL N).length (blkL N).length) (by go_simp) ?_
        simp only [Act.put, List.setIfInBounds_toArray, List.set_cons_zero, List.set_cons_succ]
        refine WL.val (by kernel_rfl) (.int .i64 ((blkL N).length : Int)) (by go_simp) ?_
        simp only [Act.put, List.setIfInBounds_toArray, List.set_cons_zero, List.set_cons_succ]
        refine WL.val (by kernel_rfl) (.slice (some ⟨gb, 0, none⟩) (blkL N).length (blkL N).length) (by go_simp) ?_
        simp only [Act.put, List.setIfInBounds_toArray, List.set_cons_zero, List.set_cons_succ]
        refine WL.val (by kernel_rfl) (.slice ma M.length mc) (by go_simp) ?_
        simp only [Act.put, List.setIfInBounds_toArray, List.set_cons_zero, List.set_cons_succ]
        refine WL.appR (by kernel_rfl) (.tmp 43) (.tmp 44) rfl (.slice (some ⟨gb, 0, none⟩) (blkL N).length (blkL N).length) (.slice ma M.length mc) (blkL N) M rfl rfl (own_blk HB3.out (by have := Hlen.out; omega)) HM3.out (by have := Hlen.out; omega) ?_
        intro v4 w4 h4
        obtain ⟨hk1, hk2⟩ := app_keeps HB3.out h4
        have HR4 := Keep.mk hk1
        have B4 : Keep (Below w1.heap.size w1 w4) := ⟨B3.out.trans (hk2.to_below (fun k hk e => by have := Hgb.out; omega) B3.out.size)⟩
        have HV4 := Keep.mk h4.1.row
        clear hk1 hk2 h4 hs3
        simp only [Act.put, List.setIfInBounds_toArray, List.set_cons_zero, List.set_cons_succ]
        refine WL.callF (by kernel_rfl) 16 _ _ rfl Try.in16 #[v4] (by simp [Act.eval]) ?_
        refine (decode_any v4 (blkL N ++ M) w4 HV4.out ((HbyN.out Hch.out).app Hby0.out)).mono ?_
        rintro e w5 h5
        obtain ⟨q5, hq5, rfl, hbad5, hb5⟩ : ∃ q, w4.heap.size ≤ q ∧ e = .returned (.tuple #[.agg (ndA 0 0 noS noS), err q]) ∧ BadAt w5 q 23 (blkL N).length ∧ Below w4.heap.size w4 w5 := by
          have hd := decR_there Hch.out HN.out.ok M
          rw [if_neg (by intro e0; rw [e0] at h6_2; exact absurd h6_2 (by decide))] at hd
          have hl : ¬ 1048576 < (blkL N ++ M).length := by rw [List.length_append]; omega
          have hbr : badR (blkL N ++ M) = (23, (blkL N).length) := by unfold badR; rw [if_neg hl, hd]
          unfold DecPost at h5
          rw [hbr, hd] at h5
          rcases h5 with ⟨_, h5, _⟩ | ⟨_, h5⟩
          · exact absurd (show (23 : Int) = 0 from h5) (by decide)
          · exact h5
        refine ⟨_, rfl, ?_⟩
        clear h5
        unfold err
        have HBd5 := Keep.mk hbad5
        have B5 : Keep (Below w1.heap.size w1 w5) := ⟨B4.out.trans (hb5.mono B4.out.size)⟩
        have HR5 := Keep.mk (HR4.out.below hb5)
        clear hbad5 hb5
        simp only [Act.put, List.setIfInBounds_toArray, List.set_cons_zero, List.set_cons_succ]
        refine WL.val (by kernel_rfl) (.tuple #[.agg (ndA 0 0 noS noS), .iface 68 (ptr q5)]) (by go_simp) ?_
        simp only [Act.put, List.setIfInBounds_toArray, List.set_cons_zero, List.set_cons_succ]
        refine WL.val (by kernel_rfl) (.agg (ndA 0 0 noS noS)) (by go_simp) ?_
        simp only [Act.put, List.setIfInBounds_toArray, List.set_cons_zero, List.set_cons_succ]
        refine WL.val (by kernel_rfl) (.iface 68 (ptr q5)) (by go_simp) ?_
        simp only [Act.put, List.setIfInBounds_toArray, List.set_cons_zero, List.set_cons_succ]
        refine WL.new (by kernel_rfl) 27 rfl _ Try.new27N ?_
        simp only [Act.put, List.setIfInBounds_toArray, List.set_cons_zero, List.set_cons_succ]
        refine WL.storeR (by kernel_rfl) 27 (.tmp 9) (.tmp 47) rfl w5.heap.size (ndA 0 0 noS noS) rfl rfl 27 (ndA 0 0 noS noS) (Blk.new w5 27 _) (Try.size27B _ _ _ _) rfl (nd_one 0 0 none 0 0 none 0 0) ?_
        have HN6 := Keep.mk ((Blk.new w5 27 (ndA 0 0 noS noS)).setRow (ndA 0 0 noS noS))
        have BS6 : Keep (Below w5.heap.size w5 ((w5.alloc (.cells (ndA 0 0 noS noS) 27)).setRow w5.heap.size (ndA 0 0 noS noS))) := ⟨below_setRow (below_new w5 _) (Nat.le_refl _) _⟩
        generalize (w5.alloc (.cells (ndA 0 0 noS noS) 27)).setRow w5.heap.size (ndA 0 0 noS noS) = w6 at *
        have B6 : Keep (Below w1.heap.size w1 w6) := ⟨B5.out.trans (BS6.out.mono B5.out.size)⟩
        have HR6 := Keep.mk (HR5.out.below BS6.out)
        have HBd6 : Keep (BadAt w6 q5 23 (blkL N).length) := ⟨HBd5.out.below BS6.out HBd5.out.lt⟩
        simp only [Act.put]
        refine WL.val (by kernel_rfl) (.iface 68 (ptr q5)) (by go_simp) ?_
        simp only [Act.put, List.setIfInBounds_toArray, List.set_cons_zero, List.set_cons_succ]
        refine WL.nil ?_
        refine hK15 _ _ ?_
        refine wp_seq_k fun K16 hK16 => ?_
        refine wp_region_list (WL.out ?_)
        refine WL.val (by kernel_rfl) (.iface 68 (ptr q5)) (by go_simp) ?_
        simp only [Act.put, List.setIfInBounds_toArray, List.set_cons_zero, List.set_cons_succ]
        refine WL.callF (by kernel_rfl) 21 _ _ rfl Try.in21 #[.iface 68 (ptr q5)] (by simp [Act.eval]) ?_
        refine (told_err q5 23 (blkL N).length w6 HBd6.out (by decide)).mono ?_
        rintro e w7 ⟨rfl, hb7⟩
        refine ⟨_, rfl, ?_⟩
        have B7 : Keep (Below w1.heap.size w1 w7) := ⟨B6.out.trans (hb7.mono B6.out.size)⟩
        have HR7 := Keep.mk (HR6.out.below hb7)
        have HN7 := Keep.mk (HN6.out.below hb7 HN6.out.lt)
        clear hb7
        simp only [Act.put, List.setIfInBounds_toArray, List.set_cons_zero, List.set_cons_succ]
        refine WL.val (by kernel_rfl) (.tuple #[.agg (erA 23 ((blkL N).length : Int)), .bool true]) (by go_simp) ?_
        simp only [Act.put, List.setIfInBounds_toArray, List.set_cons_zero, List.set_cons_succ]
        refine WL.val (by kernel_rfl) (.agg (erA 23 ((blkL N).length : Int))) (by go_simp) ?_
        simp only [Act.put, List.setIfInBounds_toArray, List.set_cons_zero, List.set_cons_succ]
        refine WL.val (by kernel_rfl) (.bool true) (by go_simp) ?_
        simp only [Act.put, List.setIfInBounds_toArray, List.set_cons_zero, List.set_cons_succ]
        refine WL.new (by kernel_rfl) 49 rfl _ Try.new49E ?_
        simp only [Act.put, List.setIfInBounds_toArray, List.set_cons_zero, List.set_cons_succ]
        refine WL.storeR (by kernel_rfl) 49 (.tmp 11) (.tmp 52) rfl w7.heap.size (erA 23 ((blkL N).length : Int)) rfl rfl 49 (erA 0 0) (Blk.new w7 49 _) (Try.size49B _ _) (erA_sizes _ _ _ _) (erA_one _ _) ?_
        have HE8 := Keep.mk ((Blk.new w7 49 (erA 0 0)).setRow (erA 23 ((blkL N).length : Int)))
        have BS8 : Keep (Below w7.heap.size w7 ((w7.alloc (.cells (erA 0 0) 49)).setRow w7.heap.size (erA 23 ((blkL N).length : Int)))) := ⟨below_setRow (below_new w7 _) (Nat.le_refl _) _⟩
        generalize (w7.alloc (.cells (erA 0 0) 49)).setRow w7.heap.size (erA 23 ((blkL N).length : Int)) = w8 at *
        have B8 : Keep (Below w1.heap.size w1 w8) := ⟨B7.out.trans (BS8.out.mono B7.out.size)⟩
        have HR8 := Keep.mk (HR7.out.below BS8.out)
        have HN8 := Keep.mk (HN7.out.below BS8.out HN7.out.lt)
        have z0 : w8.cell? ⟨w7.heap.size, 0, none⟩ = some (.int .i64 23) := HE8.out.c 0 rfl
        have z1 : w8.cell? ⟨w7.heap.size, 1, none⟩ = some (.int .i64 ((blkL N).length : Int)) := HE8.out.c 1 rfl
        simp only [Act.put]
        refine WL.val (by kernel_rfl) (.bool true) (by go_simp) ?_
        simp only [Act.put, List.setIfInBounds_toArray, List.set_cons_zero, List.set_cons_succ]
        refine WL.nil ?_
        refine hK16 _ _ ?_
        refine wp_seq_k fun K17 hK17 => ?_
        refine wp_region_list (WL.out ?_)
        refine WL.val (by kernel_rfl) (.bool true) (by go_simp) ?_
        simp only [Act.put, List.setIfInBounds_toArray, List.set_cons_zero, List.set_cons_succ]
        refine WL.val (by kernel_rfl) (.bool false) (by go_simp) ?_
        simp only [Act.put, List.setIfInBounds_toArray, List.set_cons_zero, List.set_cons_succ]
        refine WL.val (by kernel_rfl) (.bool false) (by go_simp) ?_
        simp only [Act.put, List.setIfInBounds_toArray, List.set_cons_zero, List.set_cons_succ]
        refine WL.val (by kernel_rfl) (.pointer (some ⟨w7.heap.size, 0, none⟩)) (by go_simp) ?_
        simp only [Act.put, List.setIfInBounds_toArray, List.set_cons_zero, List.set_cons_succ]
        refine WL.val (by kernel_rfl) (.int .i64 23) (by go_simp) ?_
        simp only [Act.put, List.setIfInBounds_toArray, List.set_cons_zero, List.set_cons_succ]
        refine WL.val (by kernel_rfl) (.bool false) (by go_simp) ?_
        simp only [Act.put, List.setIfInBounds_toArray, List.set_cons_zero, List.set_cons_succ]
        refine WL.val (by kernel_rfl) (.bool false) (by go_simp) ?_
        simp only [Act.put, List.setIfInBounds_toArray, List.set_cons_zero, List.set_cons_succ]
        refine WL.val (by kernel_rfl) (.bool false) (by go_simp) ?_
        simp only [Act.put, List.setIfInBounds_toArray, List.set_cons_zero, List.set_cons_succ]
        refine WL.val (by kernel_rfl) (.pointer (some ⟨w7.heap.size, 1, none⟩)) (by go_simp) ?_
        simp only [Act.put, List.setIfInBounds_toArray, List.set_cons_zero, List.set_cons_succ]
        refine WL.val (by kernel_rfl) (.int .i64 ((blkL N).length : Int)) (by go_simp) ?_
        simp only [Act.put, List.setIfInBounds_toArray, List.set_cons_zero, List.set_cons_succ]
        refine WL.val (by kernel_rfl) (.slice (some ⟨gb, 0, none⟩) (blkL N).length (blkL N).length) (by go_simp) ?_
        simp only [Act.put, List.setIfInBounds_toArray, List.set_cons_zero, List.set_cons_succ]
        refine WL.val (by kernel_rfl) (.int .i64 ((blkL N).length : Int)) (by go_simp) ?_
        simp only [Act.put, List.setIfInBounds_toArray, List.set_cons_zero, List.set_cons_succ]
        refine WL.val (by kernel_rfl) (.bool false) (by go_simp) ?_
        simp only [Act.put, List.setIfInBounds_toArray, List.set_cons_zero, List.set_cons_succ]
        refine WL.val (by kernel_rfl) (.bool false) (by go_simp) ?_
        simp only [Act.put, List.setIfInBounds_toArray, List.set_cons_zero, List.set_cons_succ]
        refine WL.val (by kernel_rfl) (.bool false) (by go_simp) ?_
        simp only [Act.put, List.setIfInBounds_toArray, List.set_cons_zero, List.set_cons_succ]
        refine WL.row (by kernel_rfl) 27 (.tmp 9) rfl w5.heap.size rfl 27 (ndA 0 0 noS noS) _ HN8.out Try.underlying27 rfl (Try.size27B _ _ _ _) ?_
        simp only [Act.put, List.setIfInBounds_toArray, List.set_cons_zero, List.set_cons_succ]
        refine WL.bld (by kernel_rfl) 27 _ rfl [] (by simp) _ nd_built0 ?_
        simp only [Act.put, List.setIfInBounds_toArray, List.set_cons_zero, List.set_cons_succ]
        refine WL.callF (by kernel_rfl) 18 _ _ rfl Try.in18 #[.agg (ndA 0 0 noS noS), .agg (ndA 0 0 noS noS)] (by simp [Act.eval]) ?_
        refine (rsame_node zeroN zeroN noS noS noS noS w8 (ndAt_empty w8 zeroN rfl rfl (by decide) (by decide)) (ndAt_empty w8 zeroN rfl rfl (by decide) (by decide))).mono ?_
        rintro e w9 ⟨rfl, hbz⟩
        refine ⟨_, rfl, ?_⟩
        rw [sameN_refl]
        have B9 : Keep (Below w1.heap.size w1 w9) := ⟨B8.out.trans (hbz.mono B8.out.size)⟩
        have BS9 := Keep.mk hbz
        clear hbz
        have HR9 := Keep.mk (HR8.out.below BS9.out)
        clear z0 z1
        simp only [Act.put, List.setIfInBounds_toArray, List.set_cons_zero, List.set_cons_succ]
        refine WL.val (by kernel_rfl) (.bool false) (by go_simp) ?_
        simp only [Act.put, List.setIfInBounds_toArray, List.set_cons_zero, List.set_cons_succ]
        refine WL.val (by kernel_rfl) (.bool false) (by go_simp) ?_
        simp only [Act.put, List.setIfInBounds_toArray, List.set_cons_zero, List.set_cons_succ]
        refine WL.nil ?_
        refine hK17 _ _ ?_
        refine wp_cond_false rfl ?_
        refine wp_skip ?_
        refine hK13 _ _ ?_
        refine wp_seq_k fun K18 hK18 => ?_
        refine wp_seq_k fun K19 hK19 => ?_
        obtain ⟨wt, Bt, HRt⟩ : ∃ wt, Keep (Below w1.heap.size w1 wt ∧ wt = w9) ∧ Keep (RowAt wt (.slice (some ⟨gb, 0, none⟩) (blkL N).length (blkL N).length) (blkL N)) := ⟨_, ⟨B9.out, rfl⟩, ⟨HR9.out⟩⟩
        rw [← Bt.out.2]
        refine wp_region_list (WL.out ?_)
        refine WL.val (by kernel_rfl) (.int .i64 c) (by go_simp) ?_
        simp only [Act.put, List.setIfInBounds_toArray, List.set_cons_zero, List.set_cons_succ]
        by_cases h11_1 : c < 0
        · skip
          refine WL.val (by kernel_rfl) (.bool true) (by go_simp) ?_
          simp only [Act.put, List.setIfInBounds_toArray, List.set_cons_zero, List.set_cons_succ]
          refine WL.val (by kernel_rfl) (.bool true) (by go_simp) ?_
          simp only [Act.put, List.setIfInBounds_toArray, List.set_cons_zero, List.set_cons_succ]
          refine WL.skip (by kernel_rfl) ?_
          simp only [Act.put, List.setIfInBounds_toArray, List.set_cons_zero, List.set_cons_succ]
          refine WL.skip (by kernel_rfl) ?_
          simp only [Act.put, List.setIfInBounds_toArray, List.set_cons_zero, List.set_cons_succ]
          refine WL.skip (by kernel_rfl) ?_
          simp only [Act.put, List.setIfInBounds_toArray, List.set_cons_zero, List.set_cons_succ]
          refine WL.skip (by kernel_rfl) ?_
          simp only [Act.put, List.setIfInBounds_toArray, List.set_cons_zero, List.set_cons_succ]
          refine WL.val (by kernel_rfl) (.bool true) (by go_simp) ?_
          simp only [Act.put, List.setIfInBounds_toArray, List.set_cons_zero, List.set_cons_succ]
          refine WL.nil ?_
          refine hK19 _ _ ?_
          refine wp_cond_true rfl ?_
          refine wp_seq_k fun K20 hK20 => ?_
          refine wp_region_list (WL.out ?_)
          refine WL.val (by kernel_rfl) (.bool true) (by go_simp) ?_
          simp only [Act.put, List.setIfInBounds_toArray, List.set_cons_zero, List.set_cons_succ]
          refine WL.nil ?_
          refine hK20 _ _ ?_
          refine wp_ret ?_
          go_ret
          exact ⟨rfl, B1.out.trans (Bt.out.1.mono B1x.out)⟩
        · skip
          refine WL.val (by kernel_rfl) (.bool false) (by go_simp) ?_
          simp only [Act.put, List.setIfInBounds_toArray, List.set_cons_zero, List.set_cons_succ]
          refine WL.val (by kernel_rfl) (.bool false) (by go_simp) ?_
          simp only [Act.put, List.setIfInBounds_toArray, List.set_cons_zero, List.set_cons_succ]
          refine WL.val (by kernel_rfl) (.int .i64 c) (by go_simp) ?_
          simp only [Act.put, List.setIfInBounds_toArray, List.set_cons_zero, List.set_cons_succ]
          refine WL.val (by kernel_rfl) (.slice (some ⟨gb, 0, none⟩) (blkL N).length (blkL N).length) (by go_simp) ?_
          simp only [Act.put, List.setIfInBounds_toArray, List.set_cons_zero, List.set_cons_succ]
          refine WL.val (by kernel_rfl) (.int .i64 ((blkL N).length : Int)) (by go_simp) ?_
          simp only [Act.put, List.setIfInBounds_toArray, List.set_cons_zero, List.set_cons_succ]
          by_cases h11_6 : ((blkL N).length : Int) ≤ c
          · skip
            refine WL.val (by kernel_rfl) (.bool true) (by go_simp) ?_
            simp only [Act.put, List.setIfInBounds_toArray, List.set_cons_zero, List.set_cons_succ]
            refine WL.val (by kernel_rfl) (.bool true) (by go_simp) ?_
            simp only [Act.put, List.setIfInBounds_toArray, List.set_cons_zero, List.set_cons_succ]
            refine WL.nil ?_
            refine hK19 _ _ ?_
            refine wp_cond_true rfl ?_
            refine wp_seq_k fun K21 hK21 => ?_
            refine wp_region_list (WL.out ?_)
            refine WL.val (by kernel_rfl) (.bool true) (by go_simp) ?_
            simp only [Act.put, List.setIfInBounds_toArray, List.set_cons_zero, List.set_cons_succ]
            refine WL.nil ?_
            refine hK21 _ _ ?_
            refine wp_ret ?_
            go_ret
            exact ⟨rfl, B1.out.trans (Bt.out.1.mono B1x.out)⟩
          · skip
            refine WL.val (by kernel_rfl) (.bool false) (by go_simp) ?_
            simp only [Act.put, List.setIfInBounds_toArray, List.set_cons_zero, List.set_cons_succ]
            refine WL.val (by kernel_rfl) (.bool false) (by go_simp) ?_
            simp only [Act.put, List.setIfInBounds_toArray, List.set_cons_zero, List.set_cons_succ]
            refine WL.nil ?_
            refine hK19 _ _ ?_
            refine wp_cond_false rfl ?_
            refine wp_skip ?_
            refine hK18 _ _ ?_
            refine wp_seq_k fun K22 hK22 => ?_
            obtain ⟨k, hk⟩ : ∃ k : Nat, c = (k : Int) := ⟨c.toNat, by omega⟩
            subst hk
            have hkl : k < (blkL N).length := by omega
            have hs1 := sl_run (some ⟨gb, 0, none⟩) (blkL N).length (blkL N).length k (by omega)
            have HD : Keep (RowAt wt (.slice (some ⟨gb, 0, none⟩) k (blkL N).length) ((blkL N).take k)) := ⟨by
              rcases HRt.out with ⟨e1, e2⟩ | ⟨a, c, e1, e2⟩ | ⟨h, off, cap, e1, e2, e3⟩
              · rw [e2] at hkl; exact absurd hkl (Nat.not_lt_zero _)
              · rw [e2] at hkl; exact absurd hkl (Nat.not_lt_zero _)
              · injection e1 with e4 e5 e6
                injection e4 with e4
                injection e4 with e7 e8
                refine .inr (.inr ⟨gb, 0, (blkL N).length, by rw [List.length_take, Nat.min_eq_left (by omega)], by rw [List.length_take]; omega, fun i hi => ?_⟩)
                rw [List.length_take] at hi
                have := e3 i (by omega)
                rw [← e7, ← e8] at this
                rw [this, List.getD_eq_getElem?_getD, List.getD_eq_getElem?_getD, List.getElem?_take, if_pos (by omega)]⟩
            refine wp_region_list (WL.out ?_)
            refine WL.val (by kernel_rfl) (.slice (some ⟨gb, 0, none⟩) (blkL N).length (blkL N).length) (by go_simp) ?_
            simp only [Act.put, List.setIfInBounds_toArray, List.set_cons_zero, List.set_cons_succ]
            refine WL.val (by kernel_rfl) (.int .i64 (k : Int)) (by go_simp) ?_
            simp only [Act.put, List.setIfInBounds_toArray, List.set_cons_zero, List.set_cons_succ]
            refine WL.val (by kernel_rfl) (.slice (some ⟨gb, 0, none⟩) k (blkL N).length) (by go_simp) ?_
            simp only [Act.put, List.setIfInBounds_toArray, List.set_cons_zero, List.set_cons_succ]
            refine WL.callF (by kernel_rfl) 16 _ _ rfl Try.in16 #[.slice (some ⟨gb, 0, none⟩) k (blkL N).length] (by simp [Act.eval]) ?_
            refine (decode_any _ ((blkL N).take k) wt HD.out ((HbyN.out Hch.out).take k)).mono ?_
            rintro e u5 h5
            obtain ⟨q, at_, hq5, rfl, hat, hbad5, hb5⟩ : ∃ q at_, wt.heap.size ≤ q ∧ e = .returned (.tuple #[.agg (ndA 0 0 noS noS), err q]) ∧ at_ ≤ k ∧ BadAt u5 q 20 at_ ∧ Below wt.heap.size wt u5 := by
              have hlt : ((blkL N).take k).length = k := by rw [List.length_take]; omega
              have hd := decR_short Hch.out HN.out.ok (D := (blkL N).take k) (m := (blkL N).drop k) (List.take_append_drop _ _) (by intro e0; have := congrArg List.length e0; rw [List.length_drop] at this; simp only [List.length_nil] at this; omega)
              have hl : ¬ 1048576 < ((blkL N).take k).length := by rw [hlt]; have := Hlen.out; omega
              have hbr : badR ((blkL N).take k) = (20, (decR ((blkL N).take k)).2.1) := by unfold badR; rw [if_neg hl, hd.1]
              unfold DecPost at h5
              rw [hbr] at h5
              rcases h5 with ⟨_, h5, _⟩ | ⟨_, q, h6, h7, h8, h9⟩
              · rw [hd.1] at h5; exact absurd h5 (by decide)
              · exact ⟨q, _, h6, h7, by have := hd.2; rw [hlt] at this; exact this, h8, h9⟩
            refine ⟨_, rfl, ?_⟩
            clear h5
            unfold err
            have HBd5 := Keep.mk hbad5
            have Bu5 : Keep (Below w1.heap.size w1 u5) := ⟨Bt.out.1.trans (hb5.mono Bt.out.1.size)⟩
            have hati : (at_ : Int) ≤ (k : Int) := by omega
            clear hbad5 hb5 hs1 hq5
            simp only [Act.put, List.setIfInBounds_toArray, List.set_cons_zero, List.set_cons_succ]
            refine WL.val (by kernel_rfl) (.tuple #[.agg (ndA 0 0 noS noS), .iface 68 (ptr q)]) (by go_simp) ?_
            simp only [Act.put, List.setIfInBounds_toArray, List.set_cons_zero, List.set_cons_succ]
            refine WL.val (by kernel_rfl) (.agg (ndA 0 0 noS noS)) (by go_simp) ?_
            simp only [Act.put, List.setIfInBounds_toArray, List.set_cons_zero, List.set_cons_succ]
            refine WL.val (by kernel_rfl) (.iface 68 (ptr q)) (by go_simp) ?_
            simp only [Act.put, List.setIfInBounds_toArray, List.set_cons_zero, List.set_cons_succ]
            refine WL.new (by kernel_rfl) 27 rfl _ Try.new27N ?_
            simp only [Act.put, List.setIfInBounds_toArray, List.set_cons_zero, List.set_cons_succ]
            refine WL.storeR (by kernel_rfl) 27 (.tmp 13) (.tmp 87) rfl u5.heap.size (ndA 0 0 noS noS) rfl rfl 27 (ndA 0 0 noS noS) (Blk.new u5 27 _) (Try.size27B _ _ _ _) rfl (nd_one 0 0 none 0 0 none 0 0) ?_
            have HV6 := Keep.mk ((Blk.new u5 27 (ndA 0 0 noS noS)).setRow (ndA 0 0 noS noS))
            have BV6 : Keep (Below u5.heap.size u5 ((u5.alloc (.cells (ndA 0 0 noS noS) 27)).setRow u5.heap.size (ndA 0 0 noS noS))) := ⟨below_setRow (below_new u5 _) (Nat.le_refl _) _⟩
            generalize (u5.alloc (.cells (ndA 0 0 noS noS) 27)).setRow u5.heap.size (ndA 0 0 noS noS) = u6 at *
            have Bu6 : Keep (Below w1.heap.size w1 u6) := ⟨Bu5.out.trans (BV6.out.mono Bu5.out.size)⟩
            have HC6 : Keep (BadAt u6 q 20 at_) := ⟨HBd5.out.below BV6.out HBd5.out.lt⟩
            simp only [Act.put]
            refine WL.val (by kernel_rfl) (.iface 68 (ptr q)) (by go_simp) ?_
            simp only [Act.put, List.setIfInBounds_toArray, List.set_cons_zero, List.set_cons_succ]
            refine WL.nil ?_
            refine hK22 _ _ ?_
            refine wp_seq_k fun K23 hK23 => ?_
            refine wp_region_list (WL.out ?_)
            refine WL.val (by kernel_rfl) (.iface 68 (ptr q)) (by go_simp) ?_
            simp only [Act.put, List.setIfInBounds_toArray, List.set_cons_zero, List.set_cons_succ]
            refine WL.callF (by kernel_rfl) 21 _ _ rfl Try.in21 #[.iface 68 (ptr q)] (by simp [Act.eval]) ?_
            refine (told_err q 20 at_ u6 HC6.out (by decide)).mono ?_
            rintro e u7 ⟨rfl, hb7⟩
            refine ⟨_, rfl, ?_⟩
            have Bu7 : Keep (Below w1.heap.size w1 u7) := ⟨Bu6.out.trans (hb7.mono Bu6.out.size)⟩
            have HV7 := Keep.mk (HV6.out.below hb7 HV6.out.lt)
            clear hb7
            simp only [Act.put, List.setIfInBounds_toArray, List.set_cons_zero, List.set_cons_succ]
            refine WL.val (by kernel_rfl) (.tuple #[.agg (erA 20 (at_ : Int)), .bool true]) (by go_simp) ?_
            simp only [Act.put, List.setIfInBounds_toArray, List.set_cons_zero, List.set_cons_succ]
            refine WL.val (by kernel_rfl) (.agg (erA 20 (at_ : Int))) (by go_simp) ?_
            simp only [Act.put, List.setIfInBounds_toArray, List.set_cons_zero, List.set_cons_succ]
            refine WL.val (by kernel_rfl) (.bool true) (by go_simp) ?_
            simp only [Act.put, List.setIfInBounds_toArray, List.set_cons_zero, List.set_cons_succ]
            refine WL.new (by kernel_rfl) 49 rfl _ Try.new49E ?_
            simp only [Act.put, List.setIfInBounds_toArray, List.set_cons_zero, List.set_cons_succ]
            refine WL.storeR (by kernel_rfl) 49 (.tmp 15) (.tmp 92) rfl u7.heap.size (erA 20 (at_ : Int)) rfl rfl 49 (erA 0 0) (Blk.new u7 49 _) (Try.size49B _ _) (erA_sizes _ _ _ _) (erA_one _ _) ?_
            have HF8 := Keep.mk ((Blk.new u7 49 (erA 0 0)).setRow (erA 20 (at_ : Int)))
            have BV8 : Keep (Below u7.heap.size u7 ((u7.alloc (.cells (erA 0 0) 49)).setRow u7.heap.size (erA 20 (at_ : Int)))) := ⟨below_setRow (below_new u7 _) (Nat.le_refl _) _⟩
            generalize (u7.alloc (.cells (erA 0 0) 49)).setRow u7.heap.size (erA 20 (at_ : Int)) = u8 at *
            have Bu8 : Keep (Below w1.heap.size w1 u8) := ⟨Bu7.out.trans (BV8.out.mono Bu7.out.size)⟩
            have HV8 := Keep.mk (HV7.out.below BV8.out HV7.out.lt)
            have z0 : u8.cell? ⟨u7.heap.size, 0, none⟩ = some (.int .i64 20) := HF8.out.c 0 rfl
            have z1 : u8.cell? ⟨u7.heap.size, 1, none⟩ = some (.int .i64 (at_ : Int)) := HF8.out.c 1 rfl
            simp only [Act.put]
            refine WL.val (by kernel_rfl) (.bool true) (by go_simp) ?_
            simp only [Act.put, List.setIfInBounds_toArray, List.set_cons_zero, List.set_cons_succ]
            refine WL.nil ?_
            refine hK23 _ _ ?_
            refine wp_seq_k fun K24 hK24 => ?_
            refine wp_region_list (WL.out ?_)
            refine WL.val (by kernel_rfl) (.bool true) (by go_simp) ?_
            simp only [Act.put, List.setIfInBounds_toArray, List.set_cons_zero, List.set_cons_succ]
            refine WL.val (by kernel_rfl) (.bool true) (by go_simp) ?_
            simp only [Act.put, List.setIfInBounds_toArray, List.set_cons_zero, List.set_cons_succ]
            refine WL.val (by kernel_rfl) (.pointer (some ⟨u7.heap.size, 0, none⟩)) (by go_simp) ?_
            simp only [Act.put, List.setIfInBounds_toArray, List.set_cons_zero, List.set_cons_succ]
            refine WL.val (by kernel_rfl) (.int .i64 20) (by go_simp) ?_
            simp only [Act.put, List.setIfInBounds_toArray, List.set_cons_zero, List.set_cons_succ]
            refine WL.val (by kernel_rfl) (.bool true) (by go_simp) ?_
            simp only [Act.put, List.setIfInBounds_toArray, List.set_cons_zero, List.set_cons_succ]
            refine WL.val (by kernel_rfl) (.bool true) (by go_simp) ?_
            simp only [Act.put, List.setIfInBounds_toArray, List.set_cons_zero, List.set_cons_succ]
            refine WL.val (by kernel_rfl) (.bool true) (by go_simp) ?_
            simp only [Act.put, List.setIfInBounds_toArray, List.set_cons_zero, List.set_cons_succ]
            refine WL.val (by kernel_rfl) (.pointer (some ⟨u7.heap.size, 1, none⟩)) (by go_simp) ?_
            simp only [Act.put, List.setIfInBounds_toArray, List.set_cons_zero, List.set_cons_succ]
            refine WL.val (by kernel_rfl) (.int .i64 (at_ : Int)) (by go_simp) ?_
            simp only [Act.put, List.setIfInBounds_toArray, List.set_cons_zero, List.set_cons_succ]
            refine WL.val (by kernel_rfl) (.int .i64 (k : Int)) (by go_simp) ?_
            simp only [Act.put, List.setIfInBounds_toArray, List.set_cons_zero, List.set_cons_succ]
            refine WL.val (by kernel_rfl) (.bool true) (by go_simp) ?_
            simp only [Act.put, List.setIfInBounds_toArray, List.set_cons_zero, List.set_cons_succ]
            refine WL.val (by kernel_rfl) (.bool true) (by go_simp) ?_
            simp only [Act.put, List.setIfInBounds_toArray, List.set_cons_zero, List.set_cons_succ]
            refine WL.val (by kernel_rfl) (.bool true) (by go_simp) ?_
            simp only [Act.put, List.setIfInBounds_toArray, List.set_cons_zero, List.set_cons_succ]
            refine WL.row (by kernel_rfl) 27 (.tmp 13) rfl u5.heap.size rfl 27 (ndA 0 0 noS noS) _ HV8.out Try.underlying27 rfl (Try.size27B _ _ _ _) ?_
            simp only [Act.put, List.setIfInBounds_toArray, List.set_cons_zero, List.set_cons_succ]
            refine WL.bld (by kernel_rfl) 27 _ rfl [] (by simp) _ nd_built0 ?_
            simp only [Act.put, List.setIfInBounds_toArray, List.set_cons_zero, List.set_cons_succ]
            refine WL.callF (by kernel_rfl) 18 _ _ rfl Try.in18 #[.agg (ndA 0 0 noS noS), .agg (ndA 0 0 noS noS)] (by simp [Act.eval]) ?_
            refine (rsame_node zeroN zeroN noS noS noS noS u8 (ndAt_empty u8 zeroN rfl rfl (by decide) (by decide)) (ndAt_empty u8 zeroN rfl rfl (by decide) (by decide))).mono ?_
            rintro e u9 ⟨rfl, hbz⟩
            refine ⟨_, rfl, ?_⟩
            rw [sameN_refl]
            have Bu9 : Keep (Below w1.heap.size w1 u9) := ⟨Bu8.out.trans (hbz.mono Bu8.out.size)⟩
            clear hbz
            simp only [Act.put, List.setIfInBounds_toArray, List.set_cons_zero, List.set_cons_succ]
            refine WL.val (by kernel_rfl) (.bool true) (by go_simp) ?_
            simp only [Act.put, List.setIfInBounds_toArray, List.set_cons_zero, List.set_cons_succ]
            refine WL.val (by kernel_rfl) (.bool true) (by go_simp) ?_
            simp only [Act.put, List.setIfInBounds_toArray, List.set_cons_zero, List.set_cons_succ]
            refine WL.nil ?_
            refine hK24 _ _ ?_
            refine wp_ret ?_
            go_ret
            exact ⟨rfl, B1.out.trans (Bu9.out.mono B1x.out)⟩
      · have h6_9i : ¬ ((blkL N).length : Int) + (M.length : Int) ≤ 1048576 := by omega
        refine WL.val (by kernel_rfl) (.bool false) (by go_simp) ?_
        simp only [Act.put, List.setIfInBounds_toArray, List.set_cons_zero, List.set_cons_succ]
        refine WL.val (by kernel_rfl) (.bool false) (by go_simp) ?_
        simp only [Act.put, List.setIfInBounds_toArray, List.set_cons_zero, List.set_cons_succ]
        refine WL.nil ?_
        refine hK14 _ _ ?_
        refine wp_cond_false rfl ?_
        refine wp_skip ?_
        refine hK13 _ _ ?_
        refine wp_seq_k fun K25 hK25 => ?_
        refine wp_seq_k fun K26 hK26 => ?_
        obtain ⟨wt, Bt, HRt⟩ : ∃ wt, Keep (Below w1.heap.size w1 wt ∧ wt = w3) ∧ Keep (RowAt wt (.slice (some ⟨gb, 0, none⟩) (blkL N).length (blkL N).length) (blkL N)) := ⟨_, ⟨B3.out, rfl⟩, ⟨row_of HB3.out rfl⟩⟩
        rw [← Bt.out.2]
        refine wp_region_list (WL.out ?_)
        refine WL.val (by kernel_rfl) (.int .i64 c) (by go_simp) ?_
        simp only [Act.put, List.setIfInBounds_toArray, List.set_cons_zero, List.set_cons_succ]
        by_cases h11_1 : c < 0
        · skip
          refine WL.val (by kernel_rfl) (.bool true) (by go_simp) ?_
          simp only [Act.put, List.setIfInBounds_toArray, List.set_cons_zero, List.set_cons_succ]
          refine WL.val (by kernel_rfl) (.bool true) (by go_simp) ?_
          simp only [Act.put, List.setIfInBounds_toArray, List.set_cons_zero, List.set_cons_succ]
          refine WL.skip (by kernel_rfl) ?_
          simp only [Act.put, List.setIfInBounds_toArray, List.set_cons_zero, List.set_cons_succ]
          refine WL.skip (by kernel_rfl) ?_
          simp only [Act.put, List.setIfInBounds_toArray, List.set_cons_zero, List.set_cons_succ]
          refine WL.skip (by kernel_rfl) ?_
          simp only [Act.put, List.setIfInBounds_toArray, List.set_cons_zero, List.set_cons_succ]
          refine WL.skip (by kernel_rfl) ?_
          simp only [Act.put, List.setIfInBounds_toArray, List.set_cons_zero, List.set_cons_succ]
          refine WL.val (by kernel_rfl) (.bool true) (by go_simp) ?_
          simp only [Act.put, List.setIfInBounds_toArray, List.set_cons_zero, List.set_cons_succ]
          refine WL.nil ?_
          refine hK26 _ _ ?_
          refine wp_cond_true rfl ?_
          refine wp_seq_k fun K27 hK27 => ?_
          refine wp_region_list (WL.out ?_)
          refine WL.val (by kernel_rfl) (.bool true) (by go_simp) ?_
          simp only [Act.put, List.setIfInBounds_toArray, List.set_cons_zero, List.set_cons_succ]
          refine WL.nil ?_
          refine hK27 _ _ ?_
          refine wp_ret ?_
          go_ret
          exact ⟨rfl, B1.out.trans (Bt.out.1.mono B1x.out)⟩
        · skip
          refine WL.val (by kernel_rfl) (.bool false) (by go_simp) ?_
          simp only [Act.put, List.setIfInBounds_toArray, List.set_cons_zero, List.set_cons_succ]
          refine WL.val (by kernel_rfl) (.bool false) (by go_simp) ?_
          simp only [Act.put, List.setIfInBounds_toArray, List.set_cons_zero, List.set_cons_succ]
          refine WL.val (by kernel_rfl) (.int .i64 c) (by go_simp) ?_
          simp only [Act.put, List.setIfInBounds_toArray, List.set_cons_zero, List.set_cons_succ]
          refine WL.val (by kernel_rfl) (.slice (some ⟨gb, 0, none⟩) (blkL N).length (blkL N).length) (by go_simp) ?_
          simp only [Act.put, List.setIfInBounds_toArray, List.set_cons_zero, List.set_cons_succ]
          refine WL.val (by kernel_rfl) (.int .i64 ((blkL N).length : Int)) (by go_simp) ?_
          simp only [Act.put, List.setIfInBounds_toArray, List.set_cons_zero, List.set_cons_succ]
          by_cases h11_6 : ((blkL N).length : Int) ≤ c
          · skip
            refine WL.val (by kernel_rfl) (.bool true) (by go_simp) ?_
            simp only [Act.put, List.setIfInBounds_toArray, List.set_cons_zero, List.set_cons_succ]
            refine WL.val (by kernel_rfl) (.bool true) (by go_simp) ?_
            simp only [Act.put, List.setIfInBounds_toArray, List.set_cons_zero, List.set_cons_succ]
            refine WL.nil ?_
            refine hK26 _ _ ?_
            refine wp_cond_true rfl ?_
            refine wp_seq_k fun K28 hK28 => ?_
            refine wp_region_list (WL.out ?_)
            refine WL.val (by kernel_rfl) (.bool true) (by go_simp) ?_
            simp only [Act.put, List.setIfInBounds_toArray, List.set_cons_zero, List.set_cons_succ]
            refine WL.nil ?_
            refine hK28 _ _ ?_
            refine wp_ret ?_
            go_ret
            exact ⟨rfl, B1.out.trans (Bt.out.1.mono B1x.out)⟩
          · skip
            refine WL.val (by kernel_rfl) (.bool false) (by go_simp) ?_
            simp only [Act.put, List.setIfInBounds_toArray, List.set_cons_zero, List.set_cons_succ]
            refine WL.val (by kernel_rfl) (.bool false) (by go_simp) ?_
            simp only [Act.put, List.setIfInBounds_toArray, List.set_cons_zero, List.set_cons_succ]
            refine WL.nil ?_
            refine hK26 _ _ ?_
            refine wp_cond_false rfl ?_
            refine wp_skip ?_
            refine hK25 _ _ ?_
            refine wp_seq_k fun K29 hK29 => ?_
            obtain ⟨k, hk⟩ : ∃ k : Nat, c = (k : Int) := ⟨c.toNat, by omega⟩
            subst hk
            have hkl : k < (blkL N).length := by omega
            have hs1 := sl_run (some ⟨gb, 0, none⟩) (blkL N).length (blkL N).length k (by omega)
            have HD : Keep (RowAt wt (.slice (some ⟨gb, 0, none⟩) k (blkL N).length) ((blkL N).take k)) := ⟨by
              rcases HRt.out with ⟨e1, e2⟩ | ⟨a, c, e1, e2⟩ | ⟨h, off, cap, e1, e2, e3⟩
              · rw [e2] at hkl; exact absurd hkl (Nat.not_lt_zero _)
              · rw [e2] at hkl; exact absurd hkl (Nat.not_lt_zero _)
              · injection e1 with e4 e5 e6
                injection e4 with e4
                injection e4 with e7 e8
                refine .inr (.inr ⟨gb, 0, (blkL N).length, by rw [List.length_take, Nat.min_eq_left (by omega)], by rw [List.length_take]; omega, fun i hi => ?_⟩)
                rw [List.length_take] at hi
                have := e3 i (by omega)
                rw [← e7, ← e8] at this
                rw [this, List.getD_eq_getElem?_getD, List.getD_eq_getElem?_getD, List.getElem?_take, if_pos (by omega)]⟩
            refine wp_region_list (WL.out ?_)
            refine WL.val (by kernel_rfl) (.slice (some ⟨gb, 0, none⟩) (blkL N).length (blkL N).length) (by go_simp) ?_
            simp only [Act.put, List.setIfInBounds_toArray, List.set_cons_zero, List.set_cons_succ]
            refine WL.val (by kernel_rfl) (.int .i64 (k : Int)) (by go_simp) ?_
            simp only [Act.put, List.setIfInBounds_toArray, List.set_cons_zero, List.set_cons_succ]
            refine WL.val (by kernel_rfl) (.slice (some ⟨gb, 0, none⟩) k (blkL N).length) (by go_simp) ?_
            simp only [Act.put, List.setIfInBounds_toArray, List.set_cons_zero, List.set_cons_succ]
            refine WL.callF (by kernel_rfl) 16 _ _ rfl Try.in16 #[.slice (some ⟨gb, 0, none⟩) k (blkL N).length] (by simp [Act.eval]) ?_
            refine (decode_any _ ((blkL N).take k) wt HD.out ((HbyN.out Hch.out).take k)).mono ?_
            rintro e u5 h5
            obtain ⟨q, at_, hq5, rfl, hat, hbad5, hb5⟩ : ∃ q at_, wt.heap.size ≤ q ∧ e = .returned (.tuple #[.agg (ndA 0 0 noS noS), err q]) ∧ at_ ≤ k ∧ BadAt u5 q 20 at_ ∧ Below wt.heap.size wt u5 := by
              have hlt : ((blkL N).take k).length = k := by rw [List.length_take]; omega
              have hd := decR_short Hch.out HN.out.ok (D := (blkL N).take k) (m := (blkL N).drop k) (List.take_append_drop _ _) (by intro e0; have := congrArg List.length e0; rw [List.length_drop] at this; simp only [List.length_nil] at this; omega)
              have hl : ¬ 1048576 < ((blkL N).take k).length := by rw [hlt]; have := Hlen.out; omega
              have hbr : badR ((blkL N).take k) = (20, (decR ((blkL N).take k)).2.1) := by unfold badR; rw [if_neg hl, hd.1]
              unfold DecPost at h5
              rw [hbr] at h5
              rcases h5 with ⟨_, h5, _⟩ | ⟨_, q, h6, h7, h8, h9⟩
              · rw [hd.1] at h5; exact absurd h5 (by decide)
              · exact ⟨q, _, h6, h7, by have := hd.2; rw [hlt] at this; exact this, h8, h9⟩
            refine ⟨_, rfl, ?_⟩
            clear h5
            unfold err
            have HBd5 := Keep.mk hbad5
            have Bu5 : Keep (Below w1.heap.size w1 u5) := ⟨Bt.out.1.trans (hb5.mono Bt.out.1.size)⟩
            have hati : (at_ : Int) ≤ (k : Int) := by omega
            clear hbad5 hb5 hs1 hq5
            simp only [Act.put, List.setIfInBounds_toArray, List.set_cons_zero, List.set_cons_succ]
            refine WL.val (by kernel_rfl) (.tuple #[.agg (ndA 0 0 noS noS), .iface 68 (ptr q)]) (by go_simp) ?_
            simp only [Act.put, List.setIfInBounds_toArray, List.set_cons_zero, List.set_cons_succ]
            refine WL.val (by kernel_rfl) (.agg (ndA 0 0 noS noS)) (by go_simp) ?_
            simp only [Act.put, List.setIfInBounds_toArray, List.set_cons_zero, List.set_cons_succ]
            refine WL.val (by kernel_rfl) (.iface 68 (ptr q)) (by go_simp) ?_
            simp only [Act.put, List.setIfInBounds_toArray, List.set_cons_zero, List.set_cons_succ]
            refine WL.new (by kernel_rfl) 27 rfl _ Try.new27N ?_
            simp only [Act.put, List.setIfInBounds_toArray, List.set_cons_zero, List.set_cons_succ]
            refine WL.storeR (by kernel_rfl) 27 (.tmp 13) (.tmp 87) rfl u5.heap.size (ndA 0 0 noS noS) rfl rfl 27 (ndA 0 0 noS noS) (Blk.new u5 27 _) (Try.size27B _ _ _ _) rfl (nd_one 0 0 none 0 0 none 0 0) ?_
            have HV6 := Keep.mk ((Blk.new u5 27 (ndA 0 0 noS noS)).setRow (ndA 0 0 noS noS))
            have BV6 : Keep (Below u5.heap.size u5 ((u5.alloc (.cells (ndA 0 0 noS noS) 27)).setRow u5.heap.size (ndA 0 0 noS noS))) := ⟨below_setRow (below_new u5 _) (Nat.le_refl _) _⟩
            generalize (u5.alloc (.cells (ndA 0 0 noS noS) 27)).setRow u5.heap.size (ndA 0 0 noS noS) = u6 at *
            have Bu6 : Keep (Below w1.heap.size w1 u6) := ⟨Bu5.out.trans (BV6.out.mono Bu5.out.size)⟩
            have HC6 : Keep (BadAt u6 q 20 at_) := ⟨HBd5.out.below BV6.out HBd5.out.lt⟩
            simp only [Act.put]
            refine WL.val (by kernel_rfl) (.iface 68 (ptr q)) (by go_simp) ?_
            simp only [Act.put, List.setIfInBounds_toArray, List.set_cons_zero, List.set_cons_succ]
            refine WL.nil ?_
            refine hK29 _ _ ?_
            refine wp_seq_k fun K30 hK30 => ?_
            refine wp_region_list (WL.out ?_)
            refine WL.val (by kernel_rfl) (.iface 68 (ptr q)) (by go_simp) ?_
            simp only [Act.put, List.setIfInBounds_toArray, List.set_cons_zero, List.set_cons_succ]
            refine WL.callF (by kernel_rfl) 21 _ _ rfl Try.in21 #[.iface 68 (ptr q)] (by simp [Act.eval]) ?_
            refine (told_err q 20 at_ u6 HC6.out (by decide)).mono ?_
            rintro e u7 ⟨rfl, hb7⟩
            refine ⟨_, rfl, ?_⟩
            have Bu7 : Keep (Below w1.heap.size w1 u7) := ⟨Bu6.out.trans (hb7.mono Bu6.out.size)⟩
            have HV7 := Keep.mk (HV6.out.below hb7 HV6.out.lt)
            clear hb7
            simp only [Act.put, List.setIfInBounds_toArray, List.set_cons_zero, List.set_cons_succ]
            refine WL.val (by kernel_rfl) (.tuple #[.agg (erA 20 (at_ : Int)), .bool true]) (by go_simp) ?_
            simp only [Act.put, List.setIfInBounds_toArray, List.set_cons_zero, List.set_cons_succ]
            refine WL.val (by kernel_rfl) (.agg (erA 20 (at_ : Int))) (by go_simp) ?_
            simp only [Act.put, List.setIfInBounds_toArray, List.set_cons_zero, List.set_cons_succ]
            refine WL.val (by kernel_rfl) (.bool true) (by go_simp) ?_
            simp only [Act.put, List.setIfInBounds_toArray, List.set_cons_zero, List.set_cons_succ]
            refine WL.new (by kernel_rfl) 49 rfl _ Try.new49E ?_
            simp only [Act.put, List.setIfInBounds_toArray, List.set_cons_zero, List.set_cons_succ]
            refine WL.storeR (by kernel_rfl) 49 (.tmp 15) (.tmp 92) rfl u7.heap.size (erA 20 (at_ : Int)) rfl rfl 49 (erA 0 0) (Blk.new u7 49 _) (Try.size49B _ _) (erA_sizes _ _ _ _) (erA_one _ _) ?_
            have HF8 := Keep.mk ((Blk.new u7 49 (erA 0 0)).setRow (erA 20 (at_ : Int)))
            have BV8 : Keep (Below u7.heap.size u7 ((u7.alloc (.cells (erA 0 0) 49)).setRow u7.heap.size (erA 20 (at_ : Int)))) := ⟨below_setRow (below_new u7 _) (Nat.le_refl _) _⟩
            generalize (u7.alloc (.cells (erA 0 0) 49)).setRow u7.heap.size (erA 20 (at_ : Int)) = u8 at *
            have Bu8 : Keep (Below w1.heap.size w1 u8) := ⟨Bu7.out.trans (BV8.out.mono Bu7.out.size)⟩
            have HV8 := Keep.mk (HV7.out.below BV8.out HV7.out.lt)
            have z0 : u8.cell? ⟨u7.heap.size, 0, none⟩ = some (.int .i64 20) := HF8.out.c 0 rfl
            have z1 : u8.cell? ⟨u7.heap.size, 1, none⟩ = some (.int .i64 (at_ : Int)) := HF8.out.c 1 rfl
            simp only [Act.put]
            refine WL.val (by kernel_rfl) (.bool true) (by go_simp) ?_
            simp only [Act.put, List.setIfInBounds_toArray, List.set_cons_zero, List.set_cons_succ]
            refine WL.nil ?_
            refine hK30 _ _ ?_
            refine wp_seq_k fun K31 hK31 => ?_
            refine wp_region_list (WL.out ?_)
            refine WL.val (by kernel_rfl) (.bool true) (by go_simp) ?_
            simp only [Act.put, List.setIfInBounds_toArray, List.set_cons_zero, List.set_cons_succ]
            refine WL.val (by kernel_rfl) (.bool true) (by go_simp) ?_
            simp only [Act.put, List.setIfInBounds_toArray, List.set_cons_zero, List.set_cons_succ]
            refine WL.val (by kernel_rfl) (.pointer (some ⟨u7.heap.size, 0, none⟩)) (by go_simp) ?_
            simp only [Act.put, List.setIfInBounds_toArray, List.set_cons_zero, List.set_cons_succ]
            refine WL.val (by kernel_rfl) (.int .i64 20) (by go_simp) ?_
            simp only [Act.put, List.setIfInBounds_toArray, List.set_cons_zero, List.set_cons_succ]
            refine WL.val (by kernel_rfl) (.bool true) (by go_simp) ?_
            simp only [Act.put, List.setIfInBounds_toArray, List.set_cons_zero, List.set_cons_succ]
            refine WL.val (by kernel_rfl) (.bool true) (by go_simp) ?_
            simp only [Act.put, List.setIfInBounds_toArray, List.set_cons_zero, List.set_cons_succ]
            refine WL.val (by kernel_rfl) (.bool true) (by go_simp) ?_
            simp only [Act.put, List.setIfInBounds_toArray, List.set_cons_zero, List.set_cons_succ]
            refine WL.val (by kernel_rfl) (.pointer (some ⟨u7.heap.size, 1, none⟩)) (by go_simp) ?_
            simp only [Act.put, List.setIfInBounds_toArray, List.set_cons_zero, List.set_cons_succ]
            refine WL.val (by kernel_rfl) (.int .i64 (at_ : Int)) (by go_simp) ?_
            simp only [Act.put, List.setIfInBounds_toArray, List.set_cons_zero, List.set_cons_succ]
            refine WL.val (by kernel_rfl) (.int .i64 (k : Int)) (by go_simp) ?_
            simp only [Act.put, List.setIfInBounds_toArray, List.set_cons_zero, List.set_cons_succ]
            refine WL.val (by kernel_rfl) (.bool true) (by go_simp) ?_
            simp only [Act.put, List.setIfInBounds_toArray, List.set_cons_zero, List.set_cons_succ]
            refine WL.val (by kernel_rfl) (.bool true) (by go_simp) ?_
            simp only [Act.put, List.setIfInBounds_toArray, List.set_cons_zero, List.set_cons_succ]
            refine WL.val (by kernel_rfl) (.bool true) (by go_simp) ?_
            simp only [Act.put, List.setIfInBounds_toArray, List.set_cons_zero, List.set_cons_succ]
            refine WL.row (by kernel_rfl) 27 (.tmp 13) rfl u5.heap.size rfl 27 (ndA 0 0 noS noS) _ HV8.out Try.underlying27 rfl (Try.size27B _ _ _ _) ?_
            simp only [Act.put, List.setIfInBounds_toArray, List.set_cons_zero, List.set_cons_succ]
            refine WL.bld (by kernel_rfl) 27 _ rfl [] (by simp) _ nd_built0 ?_
            simp only [Act.put, List.setIfInBounds_toArray, List.set_cons_zero, List.set_cons_succ]
            refine WL.callF (by kernel_rfl) 18 _ _ rfl Try.in18 #[.agg (ndA 0 0 noS noS), .agg (ndA 0 0 noS noS)] (by simp [Act.eval]) ?_
            refine (rsame_node zeroN zeroN noS noS noS noS u8 (ndAt_empty u8 zeroN rfl rfl (by decide) (by decide)) (ndAt_empty u8 zeroN rfl rfl (by decide) (by decide))).mono ?_
            rintro e u9 ⟨rfl, hbz⟩
            refine ⟨_, rfl, ?_⟩
            rw [sameN_refl]
            have Bu9 : Keep (Below w1.heap.size w1 u9) := ⟨Bu8.out.trans (hbz.mono Bu8.out.size)⟩
            clear hbz
            simp only [Act.put, List.setIfInBounds_toArray, List.set_cons_zero, List.set_cons_succ]
            refine WL.val (by kernel_rfl) (.bool true) (by go_simp) ?_
            simp only [Act.put, List.setIfInBounds_toArray, List.set_cons_zero, List.set_cons_succ]
            refine WL.val (by kernel_rfl) (.bool true) (by go_simp) ?_
            simp only [Act.put, List.setIfInBounds_toArray, List.set_cons_zero, List.set_cons_succ]
            refine WL.nil ?_
            refine hK31 _ _ ?_
            refine wp_ret ?_
            go_ret
            exact ⟨rfl, B1.out.trans (Bu9.out.mono B1x.out)⟩
    · have h6_2i : ¬ (0 : Int) < (M.length : Int) := by omega
      have hwad : IntKind.i64.wrap (((blkL N).length : Int) + (M.length : Int)) = ((blkL N).length : Int) + (M.length : Int) := by rw [IntKind.wrap_i64]; have := Hlen.out; have := HMl.out; omega
      refine WL.val (by kernel_rfl) (.bool false) (by go_simp) ?_
      simp only [Act.put, List.setIfInBounds_toArray, List.set_cons_zero, List.set_cons_succ]
      refine WL.val (by kernel_rfl) (.bool false) (by go_simp) ?_
      simp only [Act.put, List.setIfInBounds_toArray, List.set_cons_zero, List.set_cons_succ]
      refine WL.skip (by kernel_rfl) ?_
      simp only [Act.put, List.setIfInBounds_toArray, List.set_cons_zero, List.set_cons_succ]
      refine WL.skip (by kernel_rfl) ?_
      simp only [Act.put, List.setIfInBounds_toArray, List.set_cons_zero, List.set_cons_succ]
      refine WL.skip (by kernel_rfl) ?_
      simp only [Act.put, List.setIfInBounds_toArray, List.set_cons_zero, List.set_cons_succ]
      refine WL.skip (by kernel_rfl) ?_
      simp only [Act.put, List.setIfInBounds_toArray, List.set_cons_zero, List.set_cons_succ]
      refine WL.skip (by kernel_rfl) ?_
      simp only [Act.put, List.setIfInBounds_toArray, List.set_cons_zero, List.set_cons_succ]
      refine WL.skip (by kernel_rfl) ?_
      simp only [Act.put, List.setIfInBounds_toArray, List.set_cons_zero, List.set_cons_succ]
      refine WL.val (by kernel_rfl) (.bool false) (by go_simp) ?_
      simp only [Act.put, List.setIfInBounds_toArray, List.set_cons_zero, List.set_cons_succ]
      refine WL.nil ?_
      refine hK14 _ _ ?_
      refine wp_cond_false rfl ?_
      refine wp_skip ?_
      refine hK13 _ _ ?_
      refine wp_seq_k fun K32 hK32 => ?_
      refine wp_seq_k fun K33 hK33 => ?_
      obtain ⟨wt, Bt, HRt⟩ : ∃ wt, Keep (Below w1.heap.size w1 wt ∧ wt = w3) ∧ Keep (RowAt wt (.slice (some ⟨gb, 0, none⟩) (blkL N).length (blkL N).length) (blkL N)) := ⟨_, ⟨B3.out, rfl⟩, ⟨row_of HB3.out rfl⟩⟩
      rw [← Bt.out.2]
      refine wp_region_list (WL.out ?_)
      refine WL.val (by kernel_rfl) (.int .i64 c) (by go_simp) ?_
      simp only [Act.put, List.setIfInBounds_toArray, List.set_cons_zero, List.set_cons_succ]
      by_cases h11_1 : c < 0
      · skip
        refine WL.val (by kernel_rfl) (.bool true) (by go_simp) ?_
        simp only [Act.put, List.setIfInBounds_toArray, List.set_cons_zero, List.set_cons_succ]
        refine WL.val (by kernel_rfl) (.bool true) (by go_simp) ?_
        simp only [Act.put, List.setIfInBounds_toArray, List.set_cons_zero, List.set_cons_succ]
        refine WL.skip (by kernel_rfl) ?_
        simp only [Act.put, List.setIfInBounds_toArray, List.set_cons_zero, List.set_cons_succ]
        refine WL.skip (by kernel_rfl) ?_
        simp only [Act.put, List.setIfInBounds_toArray, List.set_cons_zero, List.set_cons_succ]
        refine WL.skip (by kernel_rfl) ?_
        simp only [Act.put, List.setIfInBounds_toArray, List.set_cons_zero, List.set_cons_succ]
        refine WL.skip (by kernel_rfl) ?_
        simp only [Act.put, List.setIfInBounds_toArray, List.set_cons_zero, List.set_cons_succ]
        refine WL.val (by kernel_rfl) (.bool true) (by go_simp) ?_
        simp only [Act.put, List.setIfInBounds_toArray, List.set_cons_zero, List.set_cons_succ]
        refine WL.nil ?_
        refine hK33 _ _ ?_
        refine wp_cond_true rfl ?_
        refine wp_seq_k fun K34 hK34 => ?_
        refine wp_region_list (WL.out ?_)
        refine WL.val (by kernel_rfl) (.bool true) (by go_simp) ?_
        simp only [Act.put, List.setIfInBounds_toArray, List.set_cons_zero, List.set_cons_succ]
        refine WL.nil ?_
        refine hK34 _ _ ?_
        refine wp_ret ?_
        go_ret
        exact ⟨rfl, B1.out.trans (Bt.out.1.mono B1x.out)⟩
      · skip
        refine WL.val (by kernel_rfl) (.bool false) (by go_simp) ?_
        simp only [Act.put, List.setIfInBounds_toArray, List.set_cons_zero, List.set_cons_succ]
        refine WL.val (by kernel_rfl) (.bool false) (by go_simp) ?_
        simp only [Act.put, List.setIfInBounds_toArray, List.set_cons_zero, List.set_cons_succ]
        refine WL.val (by kernel_rfl) (.int .i64 c) (by go_simp) ?_
        simp only [Act.put, List.setIfInBounds_toArray, List.set_cons_zero, List.set_cons_succ]
        refine WL.val (by kernel_rfl) (.slice (some ⟨gb, 0, none⟩) (blkL N).length (blkL N).length) (by go_simp) ?_
        simp only [Act.put, List.setIfInBounds_toArray, List.set_cons_zero, List.set_cons_succ]
        refine WL.val (by kernel_rfl) (.int .i64 ((blkL N).length : Int)) (by go_simp) ?_
        simp only [Act.put, List.setIfInBounds_toArray, List.set_cons_zero, List.set_cons_succ]
        by_cases h11_6 : ((blkL N).length : Int) ≤ c
        · skip
          refine WL.val (by kernel_rfl) (.bool true) (by go_simp) ?_
          simp only [Act.put, List.setIfInBounds_toArray, List.set_cons_zero, List.set_cons_succ]
          refine WL.val (by kernel_rfl) (.bool true) (by go_simp) ?_
          simp only [Act.put, List.setIfInBounds_toArray, List.set_cons_zero, List.set_cons_succ]
          refine WL.nil ?_
          refine hK33 _ _ ?_
          refine wp_cond_true rfl ?_
          refine wp_seq_k fun K35 hK35 => ?_
          refine wp_region_list (WL.out ?_)
          refine WL.val (by kernel_rfl) (.bool true) (by go_simp) ?_
          simp only [Act.put, List.setIfInBounds_toArray, List.set_cons_zero, List.set_cons_succ]
          refine WL.nil ?_
          refine hK35 _ _ ?_
          refine wp_ret ?_
          go_ret
          exact ⟨rfl, B1.out.trans (Bt.out.1.mono B1x.out)⟩
        · skip
          refine WL.val (by kernel_rfl) (.bool false) (by go_simp) ?_
          simp only [Act.put, List.setIfInBounds_toArray, List.set_cons_zero, List.set_cons_succ]
          refine WL.val (by kernel_rfl) (.bool false) (by go_simp) ?_
          simp only [Act.put, List.setIfInBounds_toArray, List.set_cons_zero, List.set_cons_succ]
          refine WL.nil ?_
          refine hK33 _ _ ?_
          refine wp_cond_false rfl ?_
          refine wp_skip ?_
          refine hK32 _ _ ?_
          refine wp_seq_k fun K36 hK36 => ?_
          obtain ⟨k, hk⟩ : ∃ k : Nat, c = (k : Int) := ⟨c.toNat, by omega⟩
          subst hk
          have hkl : k < (blkL N).length := by omega
          have hs1 := sl_run (some ⟨gb, 0, none⟩) (blkL N).length (blkL N).length k (by omega)
          have HD : Keep (RowAt wt (.slice (some ⟨gb, 0, none⟩) k (blkL N).length) ((blkL N).take k)) := ⟨by
            rcases HRt.out with ⟨e1, e2⟩ | ⟨a, c, e1, e2⟩ | ⟨h, off, cap, e1, e2, e3⟩
            · rw [e2] at hkl; exact absurd hkl (Nat.not_lt_zero _)
            · rw [e2] at hkl; exact absurd hkl (Nat.not_lt_zero _)
            · injection e1 with e4 e5 e6
              injection e4 with e4
              injection e4 with e7 e8
              refine .inr (.inr ⟨gb, 0, (blkL N).length, by rw [List.length_take, Nat.min_eq_left (by omega)], by rw [List.length_take]; omega, fun i hi => ?_⟩)
              rw [List.length_take] at hi
              have := e3 i (by omega)
              rw [← e7, ← e8] at this
              rw [this, List.getD_eq_getElem?_getD, List.getD_eq_getElem?_getD, List.getElem?_take, if_pos (by omega)]⟩
          refine wp_region_list (WL.out ?_)
          refine WL.val (by kernel_rfl) (.slice (some ⟨gb, 0, none⟩) (blkL N).length (blkL N).length) (by go_simp) ?_
          simp only [Act.put, List.setIfInBounds_toArray, List.set_cons_zero, List.set_cons_succ]
          refine WL.val (by kernel_rfl) (.int .i64 (k : Int)) (by go_simp) ?_
          simp only [Act.put, List.setIfInBounds_toArray, List.set_cons_zero, List.set_cons_succ]
          refine WL.val (by kernel_rfl) (.slice (some ⟨gb, 0, none⟩) k (blkL N).length) (by go_simp) ?_
          simp only [Act.put, List.setIfInBounds_toArray, List.set_cons_zero, List.set_cons_succ]
          refine WL.callF (by kernel_rfl) 16 _ _ rfl Try.in16 #[.slice (some ⟨gb, 0, none⟩) k (blkL N).length] (by simp [Act.eval]) ?_
          refine (decode_any _ ((blkL N).take k) wt HD.out ((HbyN.out Hch.out).take k)).mono ?_
          rintro e u5 h5
          obtain ⟨q, at_, hq5, rfl, hat, hbad5, hb5⟩ : ∃ q at_, wt.heap.size ≤ q ∧ e = .returned (.tuple #[.agg (ndA 0 0 noS noS), err q]) ∧ at_ ≤ k ∧ BadAt u5 q 20 at_ ∧ Below wt.heap.size wt u5 := by
            have hlt : ((blkL N).take k).length = k := by rw [List.length_take]; omega
            have hd := decR_short Hch.out HN.out.ok (D := (blkL N).take k) (m := (blkL N).drop k) (List.take_append_drop _ _) (by intro e0; have := congrArg List.length e0; rw [List.length_drop] at this; simp only [List.length_nil] at this; omega)
            have hl : ¬ 1048576 < ((blkL N).take k).length := by rw [hlt]; have := Hlen.out; omega
            have hbr : badR ((blkL N).take k) = (20, (decR ((blkL N).take k)).2.1) := by unfold badR; rw [if_neg hl, hd.1]
            unfold DecPost at h5
            rw [hbr] at h5
            rcases h5 with ⟨_, h5, _⟩ | ⟨_, q, h6, h7, h8, h9⟩
            · rw [hd.1] at h5; exact absurd h5 (by decide)
            · exact ⟨q, _, h6, h7, by have := hd.2; rw [hlt] at this; exact this, h8, h9⟩
          refine ⟨_, rfl, ?_⟩
          clear h5
          unfold err
          have HBd5 := Keep.mk hbad5
          have Bu5 : Keep (Below w1.heap.size w1 u5) := ⟨Bt.out.1.trans (hb5.mono Bt.out.1.size)⟩
          have hati : (at_ : Int) ≤ (k : Int) := by omega
          clear hbad5 hb5 hs1 hq5
          simp only [Act.put, List.setIfInBounds_toArray, List.set_cons_zero, List.set_cons_succ]
          refine WL.val (by kernel_rfl) (.tuple #[.agg (ndA 0 0 noS noS), .iface 68 (ptr q)]) (by go_simp) ?_
          simp only [Act.put, List.setIfInBounds_toArray, List.set_cons_zero, List.set_cons_succ]
          refine WL.val (by kernel_rfl) (.agg (ndA 0 0 noS noS)) (by go_simp) ?_
          simp only [Act.put, List.setIfInBounds_toArray, List.set_cons_zero, List.set_cons_succ]
          refine WL.val (by kernel_rfl) (.iface 68 (ptr q)) (by go_simp) ?_
          simp only [Act.put, List.setIfInBounds_toArray, List.set_cons_zero, List.set_cons_succ]
          refine WL.new (by kernel_rfl) 27 rfl _ Try.new27N ?_
          simp only [Act.put, List.setIfInBounds_toArray, List.set_cons_zero, List.set_cons_succ]
          refine WL.storeR (by kernel_rfl) 27 (.tmp 13) (.tmp 87) rfl u5.heap.size (ndA 0 0 noS noS) rfl rfl 27 (ndA 0 0 noS noS) (Blk.new u5 27 _) (Try.size27B _ _ _ _) rfl (nd_one 0 0 none 0 0 none 0 0) ?_
          have HV6 := Keep.mk ((Blk.new u5 27 (ndA 0 0 noS noS)).setRow (ndA 0 0 noS noS))
          have BV6 : Keep (Below u5.heap.size u5 ((u5.alloc (.cells (ndA 0 0 noS noS) 27)).setRow u5.heap.size (ndA 0 0 noS noS))) := ⟨below_setRow (below_new u5 _) (Nat.le_refl _) _⟩
          generalize (u5.alloc (.cells (ndA 0 0 noS noS) 27)).setRow u5.heap.size (ndA 0 0 noS noS) = u6 at *
          have Bu6 : Keep (Below w1.heap.size w1 u6) := ⟨Bu5.out.trans (BV6.out.mono Bu5.out.size)⟩
          have HC6 : Keep (BadAt u6 q 20 at_) := ⟨HBd5.out.below BV6.out HBd5.out.lt⟩
          simp only [Act.put]
          refine WL.val (by kernel_rfl) (.iface 68 (ptr q)) (by go_simp) ?_
          simp only [Act.put, List.setIfInBounds_toArray, List.set_cons_zero, List.set_cons_succ]
          refine WL.nil ?_
          refine hK36 _ _ ?_
          refine wp_seq_k fun K37 hK37 => ?_
          refine wp_region_list (WL.out ?_)
          refine WL.val (by kernel_rfl) (.iface 68 (ptr q)) (by go_simp) ?_
          simp only [Act.put, List.setIfInBounds_toArray, List.set_cons_zero, List.set_cons_succ]
          refine WL.callF (by kernel_rfl) 21 _ _ rfl Try.in21 #[.iface 68 (ptr q)] (by simp [Act.eval]) ?_
          refine (told_err q 20 at_ u6 HC6.out (by decide)).mono ?_
          rintro e u7 ⟨rfl, hb7⟩
          refine ⟨_, rfl, ?_⟩
          have Bu7 : Keep (Below w1.heap.size w1 u7) := ⟨Bu6.out.trans (hb7.mono Bu6.out.size)⟩
          have HV7 := Keep.mk (HV6.out.below hb7 HV6.out.lt)
          clear hb7
          simp only [Act.put, List.setIfInBounds_toArray, List.set_cons_zero, List.set_cons_succ]
          refine WL.val (by kernel_rfl) (.tuple #[.agg (erA 20 (at_ : Int)), .bool true]) (by go_simp) ?_
          simp only [Act.put, List.setIfInBounds_toArray, List.set_cons_zero, List.set_cons_succ]
          refine WL.val (by kernel_rfl) (.agg (erA 20 (at_ : Int))) (by go_simp) ?_
          simp only [Act.put, List.setIfInBounds_toArray, List.set_cons_zero, List.set_cons_succ]
          refine WL.val (by kernel_rfl) (.bool true) (by go_simp) ?_
          simp only [Act.put, List.setIfInBounds_toArray, List.set_cons_zero, List.set_cons_succ]
          refine WL.new (by kernel_rfl) 49 rfl _ Try.new49E ?_
          simp only [Act.put, List.setIfInBounds_toArray, List.set_cons_zero, List.set_cons_succ]
          refine WL.storeR (by kernel_rfl) 49 (.tmp 15) (.tmp 92) rfl u7.heap.size (erA 20 (at_ : Int)) rfl rfl 49 (erA 0 0) (Blk.new u7 49 _) (Try.size49B _ _) (erA_sizes _ _ _ _) (erA_one _ _) ?_
          have HF8 := Keep.mk ((Blk.new u7 49 (erA 0 0)).setRow (erA 20 (at_ : Int)))
          have BV8 : Keep (Below u7.heap.size u7 ((u7.alloc (.cells (erA 0 0) 49)).setRow u7.heap.size (erA 20 (at_ : Int)))) := ⟨below_setRow (below_new u7 _) (Nat.le_refl _) _⟩
          generalize (u7.alloc (.cells (erA 0 0) 49)).setRow u7.heap.size (erA 20 (at_ : Int)) = u8 at *
          have Bu8 : Keep (Below w1.heap.size w1 u8) := ⟨Bu7.out.trans (BV8.out.mono Bu7.out.size)⟩
          have HV8 := Keep.mk (HV7.out.below BV8.out HV7.out.lt)
          have z0 : u8.cell? ⟨u7.heap.size, 0, none⟩ = some (.int .i64 20) := HF8.out.c 0 rfl
          have z1 : u8.cell? ⟨u7.heap.size, 1, none⟩ = some (.int .i64 (at_ : Int)) := HF8.out.c 1 rfl
          simp only [Act.put]
          refine WL.val (by kernel_rfl) (.bool true) (by go_simp) ?_
          simp only [Act.put, List.setIfInBounds_toArray, List.set_cons_zero, List.set_cons_succ]
          refine WL.nil ?_
          refine hK37 _ _ ?_
          refine wp_seq_k fun K38 hK38 => ?_
          refine wp_region_list (WL.out ?_)
          refine WL.val (by kernel_rfl) (.bool true) (by go_simp) ?_
          simp only [Act.put, List.setIfInBounds_toArray, List.set_cons_zero, List.set_cons_succ]
          refine WL.val (by kernel_rfl) (.bool true) (by go_simp) ?_
          simp only [Act.put, List.setIfInBounds_toArray, List.set_cons_zero, List.set_cons_succ]
          refine WL.val (by kernel_rfl) (.pointer (some ⟨u7.heap.size, 0, none⟩)) (by go_simp) ?_
          simp only [Act.put, List.setIfInBounds_toArray, List.set_cons_zero, List.set_cons_succ]
          refine WL.val (by kernel_rfl) (.int .i64 20) (by go_simp) ?_
          simp only [Act.put, List.setIfInBounds_toArray, List.set_cons_zero, List.set_cons_succ]
          refine WL.val (by kernel_rfl) (.bool true) (by go_simp) ?_
          simp only [Act.put, List.setIfInBounds_toArray, List.set_cons_zero, List.set_cons_succ]
          refine WL.val (by kernel_rfl) (.bool true) (by go_simp) ?_
          simp only [Act.put, List.setIfInBounds_toArray, List.set_cons_zero, List.set_cons_succ]
          refine WL.val (by kernel_rfl) (.bool true) (by go_simp) ?_
          simp only [Act.put, List.setIfInBounds_toArray, List.set_cons_zero, List.set_cons_succ]
          refine WL.val (by kernel_rfl) (.pointer (some ⟨u7.heap.size, 1, none⟩)) (by go_simp) ?_
          simp only [Act.put, List.setIfInBounds_toArray, List.set_cons_zero, List.set_cons_succ]
          refine WL.val (by kernel_rfl) (.int .i64 (at_ : Int)) (by go_simp) ?_
          simp only [Act.put, List.setIfInBounds_toArray, List.set_cons_zero, List.set_cons_succ]
          refine WL.val (by kernel_rfl) (.int .i64 (k : Int)) (by go_simp) ?_
          simp only [Act.put, List.setIfInBounds_toArray, List.set_cons_zero, List.set_cons_succ]
          refine WL.val (by kernel_rfl) (.bool true) (by go_simp) ?_
          simp only [Act.put, List.setIfInBounds_toArray, List.set_cons_zero, List.set_cons_succ]
          refine WL.val (by kernel_rfl) (.bool true) (by go_simp) ?_
          simp only [Act.put, List.setIfInBounds_toArray, List.set_cons_zero, List.set_cons_succ]
          refine WL.val (by kernel_rfl) (.bool true) (by go_simp) ?_
          simp only [Act.put, List.setIfInBounds_toArray, List.set_cons_zero, List.set_cons_succ]
          refine WL.row (by kernel_rfl) 27 (.tmp 13) rfl u5.heap.size rfl 27 (ndA 0 0 noS noS) _ HV8.out Try.underlying27 rfl (Try.size27B _ _ _ _) ?_
          simp only [Act.put, List.setIfInBounds_toArray, List.set_cons_zero, List.set_cons_succ]
          refine WL.bld (by kernel_rfl) 27 _ rfl [] (by simp) _ nd_built0 ?_
          simp only [Act.put, List.setIfInBounds_toArray, List.set_cons_zero, List.set_cons_succ]
          refine WL.callF (by kernel_rfl) 18 _ _ rfl Try.in18 #[.agg (ndA 0 0 noS noS), .agg (ndA 0 0 noS noS)] (by simp [Act.eval]) ?_
          refine (rsame_node zeroN zeroN noS noS noS noS u8 (ndAt_empty u8 zeroN rfl rfl (by decide) (by decide)) (ndAt_empty u8 zeroN rfl rfl (by decide) (by decide))).mono ?_
          rintro e u9 ⟨rfl, hbz⟩
          refine ⟨_, rfl, ?_⟩
          rw [sameN_refl]
          have Bu9 : Keep (Below w1.heap.size w1 u9) := ⟨Bu8.out.trans (hbz.mono Bu8.out.size)⟩
          clear hbz
          simp only [Act.put, List.setIfInBounds_toArray, List.set_cons_zero, List.set_cons_succ]
          refine WL.val (by kernel_rfl) (.bool true) (by go_simp) ?_
          simp only [Act.put, List.setIfInBounds_toArray, List.set_cons_zero, List.set_cons_succ]
          refine WL.val (by kernel_rfl) (.bool true) (by go_simp) ?_
          simp only [Act.put, List.setIfInBounds_toArray, List.set_cons_zero, List.set_cons_succ]
          refine WL.nil ?_
          refine hK38 _ _ ?_
          refine wp_ret ?_
          go_ret
          exact ⟨rfl, B1.out.trans (Bu9.out.mono B1x.out)⟩
end Go.Proofs.Ytkjjlfpghhefcaa
namespace Go.Proofs.Ytkjjlfpghhefcaa
open Go.ChangeShapes Go.WideShapes Go.ChangeAt Go.RowKit Go.Deep

theorem Try.cellsOf79 : Try.prog.cellsOf 79 = 37 := by kernel_rfl
theorem Try.cellsOf77 : Try.prog.cellsOf 77 = 33 := by kernel_rfl
theorem Try.cellsOf40 : Try.prog.cellsOf 40 = 32 := by kernel_rfl
theorem Try.cellsOf28 : Try.prog.cellsOf 28 = 1 := by kernel_rfl
theorem Try.cellsOf3 : Try.prog.cellsOf 3 = 1 := by kernel_rfl
theorem Try.cellsOf2 : Try.prog.cellsOf 2 = 1 := by kernel_rfl
theorem Try.cellsOf9 : Try.prog.cellsOf 9 = 1 := by kernel_rfl
theorem Try.cellsOf5 : Try.prog.cellsOf 5 = 1 := by kernel_rfl
theorem Try.bytesOf79 : Try.prog.bytesOf 79 = 88 := by kernel_rfl
theorem Try.bytesOf5 : Try.prog.bytesOf 5 = 1 := by kernel_rfl
theorem reach_is : reachBytes = 140737488351232 := by decide
theorem add_none' (b o i : Nat) : (⟨b, o, none⟩ : Addr).add i = ⟨b, o + i, none⟩ := by
  cases i with
  | zero => rfl
  | succ i => rfl
theorem mem_weightsAll {H : Type} {P : Program} {e : TypeId} {d : DataW H} : ∀ {ds : List (DataW H)}, d ∈ ds → ∀ n ∈ d.weights P e, n ∈ DataW.weightsAll P e ds
  | d0 :: ds, h, n, hn => by
    simp only [DataW.weightsAll, List.mem_append]
    rcases List.mem_cons.1 h with rfl | h
    · exact .inl hn
    · exact .inr (mem_weightsAll h n hn)
theorem wf_u8 {n : Int} (h : (Lit.int .u8 n).wf = true) : 0 ≤ n ∧ n < 256 := by
  have h1 : IntKind.u8.min = 0 := by decide
  have h2 : IntKind.u8.max = 255 := by decide
  simp only [Lit.wf, h1, h2, Bool.and_eq_true, decide_eq_true_eq] at h
  omega
theorem wf_i64 {n : Int} (h : (Lit.int .i64 n).wf = true) : -9223372036854775808 ≤ n ∧ n ≤ 9223372036854775807 := by
  have h1 : IntKind.i64.min = -9223372036854775808 := by decide
  have h2 : IntKind.i64.max = 9223372036854775807 := by decide
  simp only [Lit.wf, h1, h2, Bool.and_eq_true, decide_eq_true_eq] at h
  omega

/-- A reading of a slice of bytes tells a row. -/
theorem row_of_trod {H : Type} {enc : TypeId × Value → H} {W : World} {sp : Nat → Bool} {held : Bool} {n base : Nat} {v : Value} {x : DataW H × List MemPlace} (hf : DataW.trod enc Try.prog W base sp held n 28 [v] = some x) (hw : ∀ n ∈ x.1.weights Try.prog 28, n ≤ reachBytes) :
    ∃ l : List Int, RowAt W v l ∧ Byts l ∧ l.length ≤ 140737488351232 := by
  rcases open_ints Try.underlying28 Try.underlying5 Try.cellsOf5 hf with ⟨hcs, _⟩ | ⟨a, len, cap, zs, hcs, _, hl, hm, hz, hx, hcell, hwz⟩
  · simp at hcs
    subst hcs
    exact ⟨[], .inl ⟨rfl, rfl⟩, Byts.nil, by simp⟩
  · simp at hcs
    subst hcs
    unfold maxLen at hm
    have hlz : len ≤ zs.length := by rw [hz]; split <;> omega
    have hbz : Byts zs := fun c hc => wf_u8 (hwz c hc)
    have hb : len ≤ 140737488351232 := by
      have h1 := hw ((zs.take len).length + (zs.drop len).length) (by
        rw [hx]
        simp only [DataW.weights, Try.underlying28]
        simp [lits, Try.bytesOf5])
      rw [List.length_take, reach_is] at h1
      omega
    by_cases h0 : len = 0
    · subst h0
      exact ⟨[], .inr (.inl ⟨a, cap, rfl, rfl⟩), Byts.nil, by simp⟩
    · have hs : a.spot = none := by
        have := hcell 0 (by omega)
        rw [show a.add 0 = a from rfl] at this
        exact World.cell?_spot this
      obtain ⟨b, off, sp⟩ := a
      obtain rfl : sp = none := hs
      have hlen : (zs.take len).length = len := by rw [List.length_take]; omega
      refine ⟨zs.take len, .inr (.inr ⟨b, off, cap, by rw [hlen], by omega, fun i hi => ?_⟩), hbz.take len, by omega⟩
      rw [hlen] at hi
      have := hcell i (by omega)
      rw [add_none'] at this
      rw [this]
      simp [List.getD, hi]

theorem trod_struct5 {H : Type} {enc : TypeId × Value → H} {P : Program} {w : World} {base : Nat} {spare : Nat → Bool} {held : Bool} {t : TypeId} {f0 f1 f2 f3 f4 : Field} {fuel : Nat} {cs : List Value} {x : DataW H × List MemPlace} (ht : P.underlying t = some (.struct #[f0, f1, f2, f3, f4])) (h : DataW.trod enc P w base spare held fuel t cs = some x) :
    ∃ y0 y1 y2 y3 y4 n, x.1 = .agg [y0.1, y1.1, y2.1, y3.1, y4.1] ∧ cs.length = P.cellsOf t ∧ DataW.trod enc P w base spare held n f0.type ((cs.drop f0.offset).take (P.cellsOf f0.type)) = some y0 ∧
      DataW.trod enc P w base spare held n f1.type ((cs.drop f1.offset).take (P.cellsOf f1.type)) = some y1 ∧ DataW.trod enc P w base spare held n f2.type ((cs.drop f2.offset).take (P.cellsOf f2.type)) = some y2 ∧ DataW.trod enc P w base spare held n f3.type ((cs.drop f3.offset).take (P.cellsOf f3.type)) = some y3 ∧ DataW.trod enc P w base spare held n f4.type ((cs.drop f4.offset).take (P.cellsOf f4.type)) = some y4 := by
  obtain ⟨xs, n, _, rfl, hl, hlen, hf⟩ := DataW.trod_struct ht h
  match xs, hlen with
  | [y0, y1, y2, y3, y4], _ => exact ⟨y0, y1, y2, y3, y4, n, by simp, hl, by simpa using hf 0 f0 rfl, by simpa using hf 1 f1 rfl, by simpa using hf 2 f2 rfl, by simpa using hf 3 f3 rfl, by simpa using hf 4 f4 rfl⟩
theorem trod_struct2 {H : Type} {enc : TypeId × Value → H} {P : Program} {w : World} {base : Nat} {spare : Nat → Bool} {held : Bool} {t : TypeId} {f0 f1 : Field} {fuel : Nat} {cs : List Value} {x : DataW H × List MemPlace} (ht : P.underlying t = some (.struct #[f0, f1])) (h : DataW.trod enc P w base spare held fuel t cs = some x) :
    ∃ y0 y1 n, x.1 = .agg [y0.1, y1.1] ∧ cs.length = P.cellsOf t ∧ DataW.trod enc P w base spare held n f0.type ((cs.drop f0.offset).take (P.cellsOf f0.type)) = some y0 ∧
      DataW.trod enc P w base spare held n f1.type ((cs.drop f1.offset).take (P.cellsOf f1.type)) = some y1 := by
  obtain ⟨xs, n, _, rfl, hl, hlen, hf⟩ := DataW.trod_struct ht h
  match xs, hlen with
  | [y0, y1], _ => exact ⟨y0, y1, n, by simp, hl, by simpa using hf 0 f0 rfl, by simpa using hf 1 f1 rfl⟩
theorem take_one {l : List Value} {i : Nat} {v : Value} (h : (l.drop i).take 1 = [v]) : l[i]? = some v := by
  have h2 : ((l.drop i).take 1)[0]? = some v := by rw [h]; rfl
  rw [List.getElem?_take, if_pos (by omega), List.getElem?_drop] at h2
  simpa using h2
/-- A reading of 32 cells as a hash tells its bytes. -/
theorem hash_of_trod {H : Type} {enc : TypeId × Value → H} {W : World} {sp : Nat → Bool} {held : Bool} {n base : Nat} {l : List Value} {x : DataW H × List MemPlace} (hf : DataW.trod enc Try.prog W base sp held n 40 l = some x) :
    ∃ c : List Int, l = bv (hl 32 (hof c)) ∧ c.length = 32 ∧ Byts c := by
  obtain ⟨xs, m, _, _, hl_, hx, hel⟩ := DataW.trod_array Try.underlying40 hf
  rw [Try.cellsOf40] at hl_
  rw [Try.cellsOf5] at hel
  have each : ∀ i, i < 32 → ∃ z : Int, l[i]? = some (.int .u8 z) ∧ 0 ≤ z ∧ z < 256 := by
    intro i hi
    have h1 := hel i hi
    rw [List.getElem?_eq_getElem (by omega), Nat.mul_one] at h1
    obtain ⟨z, hz, _, hw⟩ := DataW.trod_int Try.underlying5 h1
    have hb := wf_u8 hw
    exact ⟨z, take_one hz, by omega, by omega⟩
  obtain ⟨c, hc⟩ := Go.Deep.choose_lt each
  refine ⟨hl 32 c, ?_, hl_len _ _, fun z hz => ?_⟩
  · rw [hl_of, ← hl_bytesA]
    apply List.ext_getElem?
    intro i
    by_cases hi : i < 32
    · rw [(hc i hi).1, Array.getElem?_toList, bytesA_get _ _ _ hi]
    · rw [List.getElem?_eq_none (by omega), List.getElem?_eq_none (by rw [Array.length_toList, bytesA_size]; omega)]
  · unfold hl at hz
    obtain ⟨i, hi, rfl⟩ := List.mem_map.1 hz
    exact (hc i (List.mem_range.1 hi)).2
theorem one_of {cs : List Value} {v : Value} {j : Nat} (h : (cs.drop j).take 1 = [v]) : cs[j]? = some v := take_one h
/-- A reading of 37 cells as an operation. -/
theorem op_of_trod {H : Type} {enc : TypeId × Value → H} {W : World} {sp : Nat → Bool} {held : Bool} {n base : Nat} {cs : List Value} {x : DataW H × List MemPlace} (hf : DataW.trod enc Try.prog W base sp held n 79 cs = some x) (hw : ∀ n ∈ x.1.weights Try.prog 79, n ≤ reachBytes) :
    ∃ q : OpV, cs = opL q ∧ OpOk q := by
  obtain ⟨y0, y1, y2, y3, y4, k, hx, hl0, h0, h1, h2, h3, h4⟩ := trod_struct5 Try.underlying79 hf
  rw [Try.cellsOf79] at hl0
  simp only [Try.cellsOf3, Try.cellsOf9, Try.cellsOf2, Try.cellsOf77] at h0 h1 h2 h3 h4
  obtain ⟨z0, e0, _, w0⟩ := DataW.trod_int Try.underlying3 h0
  obtain ⟨s1, e1, f1, w1⟩ := DataW.trod_string Try.underlying9 h1
  obtain ⟨s2, e2, f2, w2⟩ := DataW.trod_string Try.underlying9 h2
  obtain ⟨z3, e3, _, w3⟩ := DataW.trod_int Try.underlying2 h3
  obtain ⟨a0, a1, k2, hx4, hl4, g0, g1⟩ := trod_struct2 Try.underlying77 h4
  rw [Try.cellsOf77] at hl4
  simp only [Try.cellsOf40, Try.cellsOf3] at g0 g1
  obtain ⟨c, ec, hc1, hc2⟩ := hash_of_trod g0
  obtain ⟨z4, e4, _, w4⟩ := DataW.trod_int Try.underlying3 g1
  have b0 := wf_i64 w0
  have b3 := wf_i64 w3
  have b4 := wf_i64 w4
  have kb1 : s1.size ≤ reachBytes := hw s1.size (by
    rw [hx]
    simp only [DataW.weights, Try.underlying79]
    refine DataW.weights_mem_each (j := 1) (t := 9) rfl rfl _ ?_
    rw [f1]
    simp [DataW.weights])
  have kb2 : s2.size ≤ reachBytes := hw s2.size (by
    rw [hx]
    simp only [DataW.weights, Try.underlying79]
    refine DataW.weights_mem_each (j := 2) (t := 9) rfl rfl _ ?_
    rw [f2]
    simp [DataW.weights])
  rw [reach_is] at kb1 kb2
  refine ⟨⟨z0, s1, s2, z3, c, z4⟩, ?_, ⟨hc1, hc2, b0.1, b0.2, b3.1, b3.2, b4.1, b4.2, by simp only; omega, by simp only; omega⟩⟩
  have q0 : cs[0]? = some (.int .i64 z0) := one_of (by simpa using e0)
  have q1 : cs[1]? = some (.string s1) := one_of (by simpa using e1)
  have q2 : cs[2]? = some (.string s2) := one_of (by simpa using e2)
  have q3 : cs[3]? = some (.int .i64 z3) := one_of (by simpa using e3)
  have hd : cs.drop 4 = idL c z4 := by
    have hfull : (cs.drop 4).take 33 = cs.drop 4 := List.take_of_length_le (by rw [List.length_drop]; omega)
    rw [hfull] at ec e4
    have q4 : (cs.drop 4)[32]? = some (.int .i64 z4) := one_of (by simpa using e4)
    rw [List.drop_zero] at ec
    unfold idL
    rw [← ec, ← List.take_append_drop 32 (cs.drop 4)]
    congr 1
    · rw [List.take_append_drop]
    · apply List.ext_getElem?
      intro i
      match i with
      | 0 => rw [List.getElem?_drop]; simpa using q4
      | i + 1 => rw [List.getElem?_eq_none (by rw [List.length_drop, List.length_drop]; omega)]; simp
  unfold opL
  rw [← hd, ← List.take_append_drop 4 cs]
  congr 1
  · apply List.ext_getElem?
    intro i
    match i with
    | 0 => rw [List.getElem?_take, if_pos (by omega), q0]; rfl
    | 1 => rw [List.getElem?_take, if_pos (by omega), q1]; rfl
    | 2 => rw [List.getElem?_take, if_pos (by omega), q2]; rfl
    | 3 => rw [List.getElem?_take, if_pos (by omega), q3]; rfl
    | i + 4 => rw [List.getElem?_eq_none (by rw [List.length_take]; omega)]; simp
  · rw [List.take_append_drop]
/-- A reading of a list of operations. -/
theorem ops_of_trod {H : Type} {enc : TypeId × Value → H} {W : World} {sp : Nat → Bool} {held : Bool} {fuel base : Nat} {v : Value} {x : DataW H × List MemPlace} (hf : DataW.trod enc Try.prog W base sp held fuel 25 [v] = some x) (hw : ∀ n ∈ x.1.weights Try.prog 25, n ≤ reachBytes) :
    ∃ l : List OpV, OpsAt W v l ∧ (∀ q ∈ l, OpOk q) ∧ l.length ≤ 4398046511104 := by
  rcases open_slice Try.underlying25 hf with ⟨hcs, _⟩ | ⟨a, len, cap, m, n, D, Pl, hcs, _, hl_, hm, hz, hx, hcell⟩
  · simp at hcs
    subst hcs
    exact ⟨[], .inl ⟨none, 0, rfl, rfl⟩, by simp, by simp⟩
  · simp at hcs
    subst hcs
    have hlz : len ≤ m := by rw [hz]; split <;> omega
    have hb : len ≤ 4398046511104 := by
      have h1 := hw ((((List.range len).map D).length + ((List.range (m - len)).map fun j => D (len + j)).length) * 88) (by
        rw [hx]
        simp only [DataW.weights, Try.underlying25]
        simp [Try.bytesOf79])
      rw [reach_is] at h1
      simp only [List.length_map, List.length_range] at h1
      omega
    have hwD : ∀ i, i < len → ∀ n ∈ (D i).weights Try.prog 79, n ≤ reachBytes := fun i hi n hn => hw n (by
      rw [hx]
      simp only [DataW.weights, Try.underlying25]
      refine List.mem_cons_of_mem _ (List.mem_append_left _ (mem_weightsAll (d := D i) ?_ n hn))
      exact List.mem_map.2 ⟨i, List.mem_range.2 hi, rfl⟩)
    have each : ∀ i, i < len → ∃ q : OpV, (∀ j v, (opL q)[j]? = some v → W.cell? ((a.add (i * 37)).add j) = some v) ∧ OpOk q := by
      intro i hi
      obtain ⟨cs', h1, h2⟩ := hcell i (by omega)
      rw [Try.cellsOf79] at h1
      obtain ⟨_, hlen, hce⟩ := World.cells?_some h1
      obtain ⟨q, rfl, h3⟩ := op_of_trod h2 (hwD i hi)
      refine ⟨q, fun j v hv => ?_, h3⟩
      obtain ⟨hj, e⟩ := List.getElem?_eq_some_iff.1 hv
      rw [opL_len] at hj
      rw [hce j (by omega), ← hv]
    haveI : Inhabited OpV := ⟨zeroOp⟩
    obtain ⟨q, hq⟩ := Go.Deep.choose_lt each
    refine ⟨(List.range len).map q, ?_, ?_, by simpa using hb⟩
    · by_cases h0 : len = 0
      · subst h0
        exact .inl ⟨_, _, rfl, rfl⟩
      · have hs : a.spot = none := by
          have := (hq 0 (by omega)).1 0 _ (show (opL (q 0))[0]? = some (.int .i64 (q 0).kind) by simp [opL])
          rw [Nat.zero_mul, show a.add 0 = a from rfl] at this
          rw [show a.add 0 = a from rfl] at this
          exact World.cell?_spot this
        obtain ⟨b, off, sp⟩ := a
        obtain rfl : sp = none := hs
        refine .inr ⟨b, off, cap, by simp, by simp; omega, fun i x hxi j v hv => ?_⟩
        obtain ⟨hi, e⟩ := List.getElem?_eq_some_iff.1 hxi
        simp at hi e
        subst e
        have := (hq i hi).1 j v hv
        simp only [add_none'] at this
        exact this
    · intro z hz'
      obtain ⟨i, hi, rfl⟩ := List.mem_map.1 hz'
      exact (hq i (List.mem_range.1 hi)).2
end Go.Proofs.Ytkjjlfpghhefcaa
namespace Go.Proofs.Ytkjjlfpghhefcaa
open Go.ChangeShapes Go.WideShapes Go.ChangeAt Go.RowKit Go.Deep

set_option maxRecDepth 8000 in
/-- The block of a slice that is handed in is there. -/
theorem wide_lt {W : World} {r : Reach} {base : Nat} {t e : TypeId} (hu : Try.prog.underlying t = some (.slice e)) {a : Option Addr} {n c : Nat} (h : Value.okWide Try.prog W r base t (.slice a n c)) : ∀ k, (Value.slice a n c).ownBlock = some k → k < W.heap.size := by
  intro k hk
  cases a with
  | none => simp [Value.ownBlock] at hk
  | some ad =>
    simp [Value.ownBlock] at hk
    subst hk
    unfold Value.okWide at h
    simp only [hu] at h
    unfold Cell.okWide at h
    simp only [hu] at h
    unfold Cell.ok at h
    simp only [hu] at h
    obtain ⟨_, _, _, _, row, cells, hs, _⟩ := h
    apply Nat.lt_of_not_le
    intro hle
    simp [World.shape?, Array.getElem?_eq_none hle] at hs
end Go.Proofs.Ytkjjlfpghhefcaa
namespace Go.Proofs.Ytkjjlfpghhefcaa
open Go.ChangeShapes Go.WideShapes Go.ChangeAt Go.RowKit Go.Deep

theorem Try.cellsOf27 : Try.prog.cellsOf 27 = 4 := by kernel_rfl
theorem Try.cellsOf24 : Try.prog.cellsOf 24 = 1 := by kernel_rfl
theorem Try.cellsOf25 : Try.prog.cellsOf 25 = 1 := by kernel_rfl
theorem Try.bytesOf40 : Try.prog.bytesOf 40 = 32 := by kernel_rfl
theorem Try.types27 : Try.prog.cellTypes Try.prog.depth 27 = some [3, 3, 24, 25] := by kernel_rfl
theorem hashH_of_trod {H : Type} {enc : TypeId × Value → H} {W : World} {sp : Nat → Bool} {held : Bool} {n base : Nat} {l : List Value} {x : DataW H × List MemPlace} (hf : DataW.trod enc Try.prog W base sp held n 40 l = some x) : ∃ h : Hs, l = Sh.encH h := by
  obtain ⟨c, e, h1, h2⟩ := hash_of_trod hf
  exact ⟨hs c, by rw [e, encH_B, hB_hs c h1 h2, hl_hof c h1]⟩
/-- A reading of a list of hashes. -/
theorem hs_of_trod {H : Type} {enc : TypeId × Value → H} {W : World} {sp : Nat → Bool} {held : Bool} {fuel base : Nat} {v : Value} {x : DataW H × List MemPlace} (hf : DataW.trod enc Try.prog W base sp held fuel 24 [v] = some x) (hw : ∀ n ∈ x.1.weights Try.prog 24, n ≤ reachBytes) :
    ∃ l : List Hs, Sh.HRow W v l ∧ l.length ≤ 4398046511104 := by
  rcases open_slice Try.underlying24 hf with ⟨hcs, _⟩ | ⟨a, len, cap, m, n, D, Pl, hcs, _, hl_, hm, hz, hx, hcell⟩
  · simp at hcs
    subst hcs
    exact ⟨[], .inl ⟨none, 0, rfl, rfl, fun _ => rfl⟩, by simp⟩
  · simp at hcs
    subst hcs
    have hlz : len ≤ m := by rw [hz]; split <;> omega
    have hb : len ≤ 4398046511104 := by
      have h1 := hw ((((List.range len).map D).length + ((List.range (m - len)).map fun j => D (len + j)).length) * 32) (by
        rw [hx]
        simp only [DataW.weights, Try.underlying24]
        simp [Try.bytesOf40])
      rw [reach_is] at h1
      simp only [List.length_map, List.length_range] at h1
      omega
    have each : ∀ i, i < len → ∃ q : Hs, ∀ j v, (Sh.encH q)[j]? = some v → W.cell? ((a.add (i * 32)).add j) = some v := by
      intro i hi
      obtain ⟨cs', h1, h2⟩ := hcell i (by omega)
      rw [Try.cellsOf40] at h1
      obtain ⟨_, hlen, hce⟩ := World.cells?_some h1
      obtain ⟨q, hqe⟩ := hashH_of_trod h2
      clear h2
      refine ⟨q, fun j v hv => ?_⟩
      obtain ⟨hj, e⟩ := List.getElem?_eq_some_iff.1 hv
      rw [Sh.encH_len] at hj
      rw [hce j (by omega), hqe, ← hv]
    obtain ⟨q, hq⟩ := Go.Deep.choose_lt each
    refine ⟨(List.range len).map q, ?_, by simpa using hb⟩
    by_cases h0 : len = 0
    · subst h0
      exact .inl ⟨some a, cap, rfl, rfl, fun h => by cases h⟩
    · have hs : a.spot = none := by
        have hv0 : (Sh.encH (q 0))[0]? = some (.int .u8 ((q 0).f 0)) := Sh.encH_get _ 0 (by omega)
        have := hq 0 (by omega) 0 _ hv0
        rw [Nat.zero_mul, show a.add 0 = a from rfl] at this
        rw [show a.add 0 = a from rfl] at this
        exact World.cell?_spot this
      obtain ⟨b, off, sp⟩ := a
      obtain rfl : sp = none := hs
      refine .inr ⟨b, off, cap, by simp, by simp; omega, fun j v hv => ?_⟩
      have hj : j < len * 32 := by
        have := (List.getElem?_eq_some_iff.1 hv).1
        rw [Sh.flatH_len] at this
        simpa using this
      have hi : j / 32 < ((List.range len).map q).length := by simp; omega
      have hg := Sh.flatH_get ((List.range len).map q) (j / 32) hi (j % 32) (Nat.mod_lt _ (by omega))
      rw [show j / 32 * 32 + j % 32 = j by omega, hv] at hg
      have := hq (j / 32) (by simpa using hi) (j % 32) v (by rw [hg]; simp)
      simp only [add_none'] at this
      rwa [show off + j / 32 * 32 + j % 32 = off + j by omega] at this
theorem trod_struct4 {H : Type} {enc : TypeId × Value → H} {P : Program} {w : World} {base : Nat} {spare : Nat → Bool} {held : Bool} {t : TypeId} {f0 f1 f2 f3 : Field} {fuel : Nat} {cs : List Value} {x : DataW H × List MemPlace} (ht : P.underlying t = some (.struct #[f0, f1, f2, f3])) (h : DataW.trod enc P w base spare held fuel t cs = some x) :
    ∃ y0 y1 y2 y3 n, x.1 = .agg [y0.1, y1.1, y2.1, y3.1] ∧ cs.length = P.cellsOf t ∧ DataW.trod enc P w base spare held n f0.type ((cs.drop f0.offset).take (P.cellsOf f0.type)) = some y0 ∧
      DataW.trod enc P w base spare held n f1.type ((cs.drop f1.offset).take (P.cellsOf f1.type)) = some y1 ∧ DataW.trod enc P w base spare held n f2.type ((cs.drop f2.offset).take (P.cellsOf f2.type)) = some y2 ∧ DataW.trod enc P w base spare held n f3.type ((cs.drop f3.offset).take (P.cellsOf f3.type)) = some y3 := by
  obtain ⟨xs, n, _, rfl, hl, hlen, hf⟩ := DataW.trod_struct ht h
  match xs, hlen with
  | [y0, y1, y2, y3], _ => exact ⟨y0, y1, y2, y3, n, by simp, hl, by simpa using hf 0 f0 rfl, by simpa using hf 1 f1 rfl, by simpa using hf 2 f2 rfl, by simpa using hf 3 f3 rfl⟩
theorem list4 (cs : List Value) (h : cs.length = 4) : ∃ a b c d, cs = [a, b, c, d] := by
  match cs, h with
  | [a, b, c, d], _ => exact ⟨a, b, c, d, rfl⟩
/-- A reading of a transaction. -/
theorem node_of_trod {H : Type} {enc : TypeId × Value → H} {W : World} {sp : Nat → Bool} {held : Bool} {n base : Nat} {cs : List Value} {x : DataW H × List MemPlace} (hf : DataW.trod enc Try.prog W base sp held n 27 cs = some x) (hw : ∀ n ∈ x.1.weights Try.prog 27, n ≤ reachBytes) :
    ∃ (N : NodeV) (vp vo : Value), cs = [.int .i64 N.au, .int .i64 N.ck, vp, vo] ∧ Sh.HRow W vp N.ps ∧ N.ps.length ≤ 4398046511104 ∧ OpsAt W vo N.ops ∧ (∀ q ∈ N.ops, OpOk q) ∧ N.ops.length ≤ 4398046511104 ∧ (-9223372036854775808 ≤ N.au ∧ N.au ≤ 9223372036854775807) ∧ (-9223372036854775808 ≤ N.ck ∧ N.ck ≤ 9223372036854775807) := by
  obtain ⟨y0, y1, y2, y3, k, hx, hl, h0, h1, h2, h3⟩ := trod_struct4 Try.underlying27 hf
  rw [Try.cellsOf27] at hl
  obtain ⟨a, b, c, d, rfl⟩ := list4 cs hl
  simp only [Try.cellsOf3, Try.cellsOf24, Try.cellsOf25, List.drop_zero, List.take_succ_cons, List.take_zero, List.drop_succ_cons] at h0 h1 h2 h3
  obtain ⟨n0, e0, w0⟩ := DataW.trod_int Try.underlying3 h0
  obtain ⟨n1, e1, w1⟩ := DataW.trod_int Try.underlying3 h1
  obtain ⟨l, r1, r2⟩ := hs_of_trod h2 (fun n hn => hw n (by
    rw [hx]
    simp only [DataW.weights, Try.underlying27]
    exact DataW.weights_mem_each (j := 2) (t := 24) rfl rfl n hn))
  obtain ⟨m, q1, q2, q3⟩ := ops_of_trod h3 (fun n hn => hw n (by
    rw [hx]
    simp only [DataW.weights, Try.underlying27]
    exact DataW.weights_mem_each (j := 3) (t := 25) rfl rfl n hn))
  simp at e0 e1
  exact ⟨⟨n0, n1, l, m⟩, c, d, by rw [e0, e1], r1, r2, q1, q2, q3, wf_i64 w0.2, wf_i64 w1.2⟩
set_option maxRecDepth 8000 in
theorem cell_lt_of {W : World} {r : Reach} {base : Nat} {t e : TypeId} (hu : Try.prog.underlying t = some (.slice e)) {v : Value} (h : Cell.okWide Try.prog W r base t v) : ∀ k, v.ownBlock = some k → k < W.heap.size := by
  intro k hk
  cases v with
  | slice a n c =>
    cases a with
    | none => simp [Value.ownBlock] at hk
    | some ad =>
      simp [Value.ownBlock] at hk
      subst hk
      unfold Cell.okWide at h
      simp only [hu] at h
      unfold Cell.ok at h
      simp only [hu] at h
      obtain ⟨_, _, _, _, row, cells, hs, _⟩ := h
      apply Nat.lt_of_not_le
      intro hle
      simp [World.shape?, Array.getElem?_eq_none hle] at hs
  | _ =>
    unfold Cell.okWide at h
    simp only [hu] at h
    unfold Cell.ok at h
    simp only [hu] at h
set_option maxRecDepth 8000 in
theorem wide_node_lt {W : World} {r : Reach} {base : Nat} {a c : Int} {vp vo : Value} (h : Value.okWide Try.prog W r base 27 (.agg (ndA a c vp vo))) : ∀ k, vo.ownBlock = some k → k < W.heap.size := by
  unfold Value.okWide at h
  simp only [Try.underlying27] at h
  obtain ⟨cs, e, _, ts, h1, _, h2⟩ := h
  injection e with e
  subst e
  rw [Try.types27] at h1
  injection h1 with h1
  subst h1
  obtain ⟨u, h3, h4⟩ := h2 3 vo rfl
  simp at h3
  subst h3
  exact cell_lt_of Try.underlying25 h4
end Go.Proofs.Ytkjjlfpghhefcaa
