import Derived.Test.YtjklmkeedhgncaaU08
import Derived.Test.YtjklmkeedhgncaaU06
import Derived.Test.YtjklmkeedhgncaaU03
import Derived.Deep.RegionHeld3
import Derived.ChangeKeysEq
namespace Go.Proofs.Ytjklmkeedhgncaa
open Go.RowKit
set_option linter.unusedSimpArgs false
set_option linter.unusedVariables false
set_option maxRecDepth 8000 in
set_option maxHeartbeats 2000000 in
theorem down_step (B k : Nat) (E : TE) (b off n cap : Nat) (L : List CV) (ns : List Nat) (na : Option Addr) (nl nc : Nat) (hnv : Keep (E.nv = .slice na nl nc)) (hnl : Keep (ns.length = nl)) (hnlb : Keep (nl ≤ 3600000000000)) (hn : Keep (L.length = n)) (hnb : n ≤ 3600000000000) (hB : B ≤ B)
    (IH : ∀ (i j : Nat) (Ps : List PX) (w : World), i < j → j - i ≤ k → j ≤ n → TS B w E ns Ps → CsAt B w b off L → Rm Ps (j - i + 1) → B ≤ w.heap.size → Calls Try.prog 48 #[.int .i64 (i : Int), .int .i64 (j : Int), ptr E.pl, ptr E.pd, ptr E.pn, ptr E.pp] w (DP B k E L ns Ps i j w))
    (i j : Nat) (Ps : List PX) (w : World) (hij : i + 2 ≤ j) (hjk : j - i ≤ k + 1) (hjn : j ≤ n) (hT : TS B w E ns Ps) (hC : CsAt B w b off L) (hR : Rm Ps (j - i + 1)) (hBw : B ≤ w.heap.size) :
    Calls Try.prog 48 #[.int .i64 (i : Int), .int .i64 (j : Int), ptr E.pl, ptr E.pd, ptr E.pn, ptr E.pp] w (DP B (k + 1) E L ns Ps i j w) := by
  obtain ⟨q, hq⟩ : ∃ z, Keep (RtP.half (j - i) = z) := ⟨_, ⟨rfl⟩⟩
  have hh := RtP.half_le (n := j - i) (by omega)
  rw [hq.out] at hh
  obtain ⟨m, hm⟩ : ∃ m, Keep (m = i + q) := ⟨_, ⟨rfl⟩⟩
  have hmi : i < m := by have := hm.out; omega
  have hmj : m < j := by have := hm.out; omega
  obtain ⟨x1, X1e, h1r⟩ : ∃ x : Hs, Keep (hsL x = treeL k (sub L i m)) ∧ Keep (bytesA 32 (hof (treeL k (sub L i m))) = bytesA 32 x.f) := by
    obtain ⟨x, e1, e2⟩ := tree_hs (k := k) (L := sub L i m) (by rw [sub_len (by omega) (by rw [hn.out]; omega)]; omega) (by rw [sub_len (by omega) (by rw [hn.out]; omega)]; omega)
    exact ⟨x, ⟨e1⟩, ⟨by rw [e2, encH_arr]⟩⟩
  obtain ⟨x2, X2e, h2r⟩ : ∃ x : Hs, Keep (hsL x = treeL k (sub L m j)) ∧ Keep (bytesA 32 (hof (treeL k (sub L m j))) = bytesA 32 x.f) := by
    obtain ⟨x, e1, e2⟩ := tree_hs (k := k) (L := sub L m j) (by rw [sub_len (by omega) (by rw [hn.out]; omega)]; omega) (by rw [sub_len (by omega) (by rw [hn.out]; omega)]; omega)
    exact ⟨x, ⟨e1⟩, ⟨by rw [e2, encH_arr]⟩⟩
  obtain ⟨h1, h1e⟩ : ∃ z : Array Value, Keep (z = bytesA 32 x1.f) := ⟨_, ⟨rfl⟩⟩
  obtain ⟨h2, h2e⟩ : ∃ z : Array Value, Keep (z = bytesA 32 x2.f) := ⟨_, ⟨rfl⟩⟩
  have h1q : Keep (bytesA 32 (hof (treeL k (sub L i m))) = h1) := ⟨by rw [h1r.out, h1e.out]⟩
  have h2q : Keep (bytesA 32 (hof (treeL k (sub L m j))) = h2) := ⟨by rw [h2r.out, h2e.out]⟩
  have HT := Keep.mk hT
  have HC := Keep.mk hC
  have HR := Keep.mk hR
  have HB := Keep.mk hBw
  have hw1 : IntKind.i64.wrap ((j : Int) - (i : Int)) = ((j - i : Nat) : Int) := by rw [IntKind.wrap_i64]; omega
  have hw2 : IntKind.i64.wrap ((i : Int) + (q : Int)) = (m : Int) := by rw [IntKind.wrap_i64]; have := hm.out; omega
  have hj1 : (((j - i : Nat) : Int) == 1) = false := by simp; omega
  have hnlp := hnl
  clear hT hC hR hBw hB
  go_enter Try.func48, Try.ntmps48
  refine wp_seq_k fun K1 hK1 => ?_
  refine wp_region_list (WL.out ?_)
  refine WL.new (by kernel_rfl) 25 rfl _ Try.new25 ?_
  have R1 := Keep.mk (Blk.new w 25 (bytesA 32 fun _ => 0))
  have b1 := Keep.mk (below_new w (.cells (bytesA 32 fun _ => 0) 25))
  change WL _ _ _ _ _ (w.alloc (.cells (bytesA 32 fun _ => 0) 25))
  generalize w.alloc (.cells (bytesA 32 fun _ => 0) 25) = w1 at *
  obtain ⟨r, hr0⟩ : ∃ z, Keep (z = w.heap.size) := ⟨_, ⟨rfl⟩⟩
  rw [← hr0.out] at R1 ⊢
  have T1 := Keep.mk (HT.out.below b1.out)
  have N1 : Keep (TN w w1 E Ps Ps) := ⟨TN.below b1.out⟩
  have X1 : Keep (Bx w1 E Ps r (bytesA 32 fun _ => 0)) := ⟨R1.out, fun e => by have := HT.out.lt e; have := hr0.out; omega⟩
  have hrw : Keep (w.heap.size ≤ r) := ⟨by rw [hr0.out]; exact Nat.le_refl _⟩
  clear R1 b1 hr0
  simp only [Act.put, List.setIfInBounds_toArray, List.set_cons_zero, List.set_cons_succ]
  refine WL.nil ?_
  refine hK1 _ _ ?_
  refine wp_seq_k fun K2 hK2 => ?_
  refine wp_seq_k fun K3 hK3 => ?_
  refine wp_region_list (WL.out ?_)
  refine WL.val (by kernel_rfl) (.int .i64 (j : Int)) (by go_simp) ?_
  simp only [Act.put, List.setIfInBounds_toArray, List.set_cons_zero, List.set_cons_succ]
  refine WL.val (by kernel_rfl) (.int .i64 (i : Int)) (by go_simp) ?_
  simp only [Act.put, List.setIfInBounds_toArray, List.set_cons_zero, List.set_cons_succ]
  refine WL.val (by kernel_rfl) (.int .i64 ((j - i : Nat) : Int)) (by go_simp) ?_
  simp only [Act.put, List.setIfInBounds_toArray, List.set_cons_zero, List.set_cons_succ]
  refine WL.val (by kernel_rfl) (.bool false) (by go_simp) ?_
  simp only [Act.put, List.setIfInBounds_toArray, List.set_cons_zero, List.set_cons_succ]
  refine WL.nil ?_
  refine hK3 _ _ ?_
  refine wp_cond_false rfl ?_
  refine wp_skip ?_
  refine hK2 _ _ ?_
  refine wp_seq_k fun K4 hK4 => ?_
  refine wp_region_list (WL.out ?_)
  refine WL.val (by kernel_rfl) (.int .i64 (i : Int)) (by go_simp) ?_
  simp only [Act.put, List.setIfInBounds_toArray, List.set_cons_zero, List.set_cons_succ]
  refine WL.val (by kernel_rfl) (.int .i64 (j : Int)) (by go_simp) ?_
  simp only [Act.put, List.setIfInBounds_toArray, List.set_cons_zero, List.set_cons_succ]
  refine WL.val (by kernel_rfl) (.int .i64 (i : Int)) (by go_simp) ?_
  simp only [Act.put, List.setIfInBounds_toArray, List.set_cons_zero, List.set_cons_succ]
  refine WL.val (by kernel_rfl) (.int .i64 ((j - i : Nat) : Int)) (by go_simp) ?_
  simp only [Act.put, List.setIfInBounds_toArray, List.set_cons_zero, List.set_cons_succ]
  refine WL.callF (by kernel_rfl) 50 _ _ rfl Try.in50 #[.int .i64 ((j - i : Nat) : Int)] (by simp [Act.eval]) ?_
  refine (left_any (j - i) w1 (by omega) (by omega)).mono ?_
  rintro e w1_ ⟨rfl, hw_⟩
  refine ⟨_, rfl, ?_⟩
  have hw_ := hw_.symm
  subst hw_
  rw [hq.out]
  simp only [Act.put, List.setIfInBounds_toArray, List.set_cons_zero, List.set_cons_succ]
  refine WL.val (by kernel_rfl) (.int .i64 (m : Int)) (by go_simp) ?_
  simp only [Act.put, List.setIfInBounds_toArray, List.set_cons_zero, List.set_cons_succ]
  refine WL.val (by kernel_rfl) (.int .i64 (m : Int)) (by go_simp) ?_
  simp only [Act.put, List.setIfInBounds_toArray, List.set_cons_zero, List.set_cons_succ]
  refine WL.nil ?_
  refine hK4 _ _ ?_
  refine wp_seq_k fun K5 hK5 => ?_
  have bq : Keep (Below w1.heap.size w1 w1.drew) := ⟨(Below.refl _ _).drew⟩
  have T2 := Keep.mk (T1.out.below bq.out)
  have N2 : Keep (TN w w1.drew E Ps Ps) := ⟨N1.out.trans (TN.below bq.out)⟩
  have X2 := Keep.mk (X1.out.below bq.out)
  clear bq T1 N1 X1
  refine wp_region_held_drew (S := fun wx => wx.cell? ⟨E.pd, 0, none⟩ = some E.cl) (by kernel_rfl) (T2.out.bd.c 0 rfl) (fun hH0 => ?_)
  clear hH0
  have hH0 : (fun wx => wx.cell? ⟨E.pd, 0, none⟩ = some E.cl) w1.drew := T2.out.bd.c 0 rfl
  generalize w1.drew = w2 at *
  refine wpAnyH_take (i := 1) (oi := ⟨some 30, Op.move (Operand.tmp 0), 3, _, _, none⟩) (v := .int .i64 (i : Int)) rfl (by kernel_rfl) (by kernel_rfl) (by kernel_rfl) (fun _ _ _ h => h) (Or.inl ⟨by rfl, fun w hS => by go_simp⟩) hH0 ?_
  simp only [Act.put, List.setIfInBounds_toArray, List.set_cons_zero, List.set_cons_succ]
  refine wpAnyH_take (i := 2) (oi := ⟨some 31, Op.move (Operand.tmp 9), 3, _, _, none⟩) (v := .int .i64 (m : Int)) rfl (by kernel_rfl) (by kernel_rfl) (by kernel_rfl) (fun _ _ _ h => h) (Or.inl ⟨by rfl, fun w hS => by go_simp⟩) hH0 ?_
  simp only [Act.put, List.setIfInBounds_toArray, List.set_cons_zero, List.set_cons_succ]
  refine wpAnyH_take (i := 5) (oi := ⟨some 34, Op.move (Operand.tmp 9), 3, _, _, none⟩) (v := .int .i64 (m : Int)) rfl (by kernel_rfl) (by kernel_rfl) (by kernel_rfl) (fun _ _ _ h => h) (Or.inl ⟨by rfl, fun w hS => by go_simp⟩) hH0 ?_
  simp only [Act.put, List.setIfInBounds_toArray, List.set_cons_zero, List.set_cons_succ]
  refine wpAnyH_take (i := 6) (oi := ⟨some 35, Op.move (Operand.tmp 1), 3, _, _, none⟩) (v := .int .i64 (j : Int)) rfl (by kernel_rfl) (by kernel_rfl) (by kernel_rfl) (fun _ _ _ h => h) (Or.inl ⟨by rfl, fun w hS => by go_simp⟩) hH0 ?_
  simp only [Act.put, List.setIfInBounds_toArray, List.set_cons_zero, List.set_cons_succ]
  refine wpAnyH_take (i := 0) (oi := ⟨some 29, Op.load 90 (Operand.tmp 3), 90, _, _, none⟩) (v := E.cl) rfl (by kernel_rfl) (by kernel_rfl) (by kernel_rfl) (fun _ _ _ h => h) (Or.inl ⟨by rfl, fun w hS => by go_simp⟩) hH0 ?_
  simp only [Act.put, List.setIfInBounds_toArray, List.set_cons_zero, List.set_cons_succ]
  refine wpAnyH_take (i := 4) (oi := ⟨some 33, Op.load 90 (Operand.tmp 3), 90, _, _, none⟩) (v := E.cl) rfl (by kernel_rfl) (by kernel_rfl) (by kernel_rfl) (fun _ _ _ h => h) (Or.inl ⟨by rfl, fun w hS => by go_simp⟩) hH0 ?_
  simp only [Act.put, List.setIfInBounds_toArray, List.set_cons_zero, List.set_cons_succ]
  refine wpAnyH_ready (rs := [3, 8, 9]) (by kernel_rfl) (by simp) ?_
  refine AllReadyH.cons (o := ⟨some 32, Op.call { callee := Callee.value (Operand.tmp 29), args := #[Operand.tmp 30, Operand.tmp 31], argTypes := #[3, 3] }, 25, _, _, none⟩) rfl (fun K hK => ?_) (AllReadyH.cons (o := ⟨some 10, Op.alloc 25, 0, _, _, none⟩) rfl (fun K hK => ?_) (AllReadyH.cons (o := ⟨some 11, Op.alloc 25, 0, _, _, none⟩) rfl (fun K hK => ?_) AllReadyH.nil))
  · rw [if_pos (by rfl)]
    have hb_ : Below B w w2 := N2.out.bel HT.out HB.out
    have hih := IH i m Ps w2 (by omega) (by omega) (by omega) T2.out (HC.out.below hb_) (fun P hP => by have := HR.out P hP; omega) (Nat.le_trans HB.out N2.out.gr.size)
    refine wp_callC 48 (.tmp 29) _ _ #[ptr E.pl, ptr E.pd, ptr E.pn, ptr E.pp] rfl rfl Try.in48 #[.int .i64 (i : Int), .int .i64 (m : Int), ptr E.pl, ptr E.pd, ptr E.pn, ptr E.pp] (by simp [Act.eval]) (fun vz wz => vz = .agg h1 ∧ ∃ Ps', TS B wz E ns Ps' ∧ UP k L i m ns Ps Ps' ∧ TN w2 wz E Ps Ps') ?_ ?_
    · refine hih.mono ?_
      rintro e wz ⟨rfl, hz⟩
      exact ⟨_, rfl, by rw [h1q.out], hz⟩
    rintro vz w3 ⟨rfl, Q3, k1, k2, k3⟩
    have T_w3 := Keep.mk k1
    have U_w3 := Keep.mk k2
    have N_w3 : Keep (TN w w3 E Ps Q3) := ⟨N2.out.trans k3⟩
    have X_w3 := Keep.mk (X2.out.next k3)
    clear k1 k2 k3 hih hb_
    refine hK _ _ (T_w3.out.bd.c 0 rfl) fun hH_ => ?_
    clear hK hH_
    simp only [Act.put, List.setIfInBounds_toArray, List.set_cons_zero, List.set_cons_succ]
    have Ra_ : Keep (Rm Q3 (j - m + 1)) := ⟨Rm.up (s := j - m + 1) (a := i) (b := m) (fun P hP => by have := HR.out P hP; omega) U_w3.out HT.out T_w3.out (by omega) (by rw [hn.out]; omega) (by omega)⟩
    refine wpAnyH_ready (rs := [7, 8, 9]) (by kernel_rfl) (by simp) ?_
    refine AllReadyH.cons (o := ⟨some 36, Op.call { callee := Callee.value (Operand.tmp 33), args := #[Operand.tmp 34, Operand.tmp 35], argTypes := #[3, 3] }, 25, _, _, none⟩) rfl (fun K hK => ?_) (AllReadyH.cons (o := ⟨some 10, Op.alloc 25, 0, _, _, none⟩) rfl (fun K hK => ?_) (AllReadyH.cons (o := ⟨some 11, Op.alloc 25, 0, _, _, none⟩) rfl (fun K hK => ?_) AllReadyH.nil))
    · rw [if_pos (by rfl)]
      have hb_ : Below B w w3 := N_w3.out.bel HT.out HB.out
      have hih := IH m j Q3 w3 (by omega) (by omega) (by omega) T_w3.out (HC.out.below hb_) Ra_.out (Nat.le_trans HB.out N_w3.out.gr.size)
      refine wp_callC 48 (.tmp 33) _ _ #[ptr E.pl, ptr E.pd, ptr E.pn, ptr E.pp] rfl rfl Try.in48 #[.int .i64 (m : Int), .int .i64 (j : Int), ptr E.pl, ptr E.pd, ptr E.pn, ptr E.pp] (by simp [Act.eval]) (fun vz wz => vz = .agg h2 ∧ ∃ Ps', TS B wz E ns Ps' ∧ UP k L m j ns Q3 Ps' ∧ TN w3 wz E Q3 Ps') ?_ ?_
      · refine hih.mono ?_
        rintro e wz ⟨rfl, hz⟩
        exact ⟨_, rfl, by rw [h2q.out], hz⟩
      rintro vz w4 ⟨rfl, Q4, k1, k2, k3⟩
      have T_w4 := Keep.mk k1
      have U_w4 := Keep.mk k2
      have N_w4 : Keep (TN w w4 E Ps Q4) := ⟨N_w3.out.trans k3⟩
      have X_w4 := Keep.mk (X_w3.out.next k3)
      clear k1 k2 k3 hih hb_
      refine hK _ _ (T_w4.out.bd.c 0 rfl) fun hH_ => ?_
      clear hK hH_
      simp only [Act.put, List.setIfInBounds_toArray, List.set_cons_zero, List.set_cons_succ]
      have Rb_ : Keep (Rm Q4 1) := ⟨Rm.up (s := 1) (a := m) (b := j) (fun P hP => by have := Ra_.out P hP; omega) U_w4.out T_w3.out T_w4.out (by omega) (by rw [hn.out]; omega) (by omega)⟩
      refine wpAnyH_ready (rs := [8, 9]) (by kernel_rfl) (by simp) ?_
      refine AllReadyH.cons (o := ⟨some 10, Op.alloc 25, 0, _, _, none⟩) rfl (fun K hK => ?_) (AllReadyH.cons (o := ⟨some 11, Op.alloc 25, 0, _, _, none⟩) rfl (fun K hK => ?_) AllReadyH.nil)
      · rw [if_pos (by rfl)]
        refine wp_newA 25 rfl _ Try.new25 ?_
        have b_ := below_new w4 (.cells (bytesA 32 fun _ => 0) 25)
        have A_w5 : Keep (Bx _ E Q4 w4.heap.size (bytesA 32 fun _ => 0)) := ⟨Bx.new T_w4.out (bytesA 32 fun _ => 0)⟩
        have T_w5 := Keep.mk (T_w4.out.below b_)
        have N_w5 : Keep (TN w _ E Ps Q4) := ⟨N_w4.out.trans (TN.below b_)⟩
        have X_w5 := Keep.mk (X_w4.out.below b_)
        have eXA_w5 : Keep (r ≠ w4.heap.size) := ⟨by have := X_w4.out.blk.lt; omega⟩
        have wA_w5 : Keep (w.heap.size ≤ w4.heap.size) := ⟨N_w4.out.gr.size⟩
        generalize w4.alloc (.cells (bytesA 32 fun _ => 0) 25) = w5 at *
        obtain ⟨r5, hr5⟩ : ∃ z, Keep (z = w4.heap.size) := ⟨_, ⟨rfl⟩⟩
        rw [← hr5.out] at A_w5 wA_w5 eXA_w5 ⊢
        clear b_ hr5
        refine hK _ _ (T_w5.out.bd.c 0 rfl) fun hH_ => ?_
        clear hK hH_
        simp only [Act.put, List.setIfInBounds_toArray, List.set_cons_zero, List.set_cons_succ]
        refine wpAnyH_ready (rs := [9]) (by kernel_rfl) (by simp) ?_
        refine AllReadyH.cons (o := ⟨some 11, Op.alloc 25, 0, _, _, none⟩) rfl (fun K hK => ?_) AllReadyH.nil
        rw [if_pos (by rfl)]
        refine wp_newA 25 rfl _ Try.new25 ?_
        have b_ := below_new w5 (.cells (bytesA 32 fun _ => 0) 25)
        have B_w6 : Keep (Bx _ E Q4 w5.heap.size (bytesA 32 fun _ => 0)) := ⟨Bx.new T_w5.out (bytesA 32 fun _ => 0)⟩
        have T_w6 := Keep.mk (T_w5.out.below b_)
        have N_w6 : Keep (TN w _ E Ps Q4) := ⟨N_w5.out.trans (TN.below b_)⟩
        have X_w6 := Keep.mk (X_w5.out.below b_)
        have eXB_w6 : Keep (r ≠ w5.heap.size) := ⟨by have := X_w5.out.blk.lt; omega⟩
        have A_w6 := Keep.mk (A_w5.out.below b_)
        have eAB_w6 : Keep (r5 ≠ w5.heap.size) := ⟨by have := A_w5.out.blk.lt; omega⟩
        have wB_w6 : Keep (w.heap.size ≤ w5.heap.size) := ⟨N_w5.out.gr.size⟩
        generalize w5.alloc (.cells (bytesA 32 fun _ => 0) 25) = w6 at *
        obtain ⟨r6, hr6⟩ : ∃ z, Keep (z = w5.heap.size) := ⟨_, ⟨rfl⟩⟩
        rw [← hr6.out] at B_w6 wB_w6 eXB_w6 eAB_w6 ⊢
        clear b_ hr6
        refine hK _ _ (T_w6.out.bd.c 0 rfl) fun hH_ => ?_
        clear hK hH_
        simp only [Act.put, List.setIfInBounds_toArray, List.set_cons_zero, List.set_cons_succ]
        refine wpAnyH_ready (rs := [10]) (by kernel_rfl) (by simp) ?_
        refine AllReadyH.cons (o := ⟨none, Op.store 25 (Operand.tmp 10) (Operand.tmp 32), 0, _, _, none⟩) rfl (fun K hK => ?_) AllReadyH.nil
        rw [if_pos (by rfl)]
        refine wp_store_row 25 (.tmp 10) (.tmp 32) rfl r5 h1 rfl rfl 25 _ A_w6.out.blk (by rw [h1e.out]; exact Try.size25B _) (by rw [h1e.out]; exact bytesA_sizes _ _ _) (by rw [h1e.out]; exact bytesA_one _ _) ?_
        have T_w7 := Keep.mk (T_w6.out.box A_w6.out h1)
        have N_w7 : Keep (TN w (w6.setRow r5 h1) E Ps Q4) := ⟨N_w6.out.box (by exact wA_w5.out) _⟩
        have X_w7 := Keep.mk (X_w6.out.ne (eXA_w5.out) h1)
        have A_w7 := Keep.mk (A_w6.out.set h1)
        have B_w7 := Keep.mk (B_w6.out.ne (fun e => eAB_w6.out e.symm) h1)
        generalize w6.setRow r5 h1 = w7 at *
        refine hK _ _ (T_w7.out.bd.c 0 rfl) fun hH_ => ?_
        clear hK hH_
        simp only [Act.put]
        refine wpAnyH_ready (rs := [11]) (by kernel_rfl) (by simp) ?_
        refine AllReadyH.cons (o := ⟨none, Op.store 25 (Operand.tmp 11) (Operand.tmp 36), 0, _, _, none⟩) rfl (fun K hK => ?_) AllReadyH.nil
        rw [if_pos (by rfl)]
        refine wp_store_row 25 (.tmp 11) (.tmp 36) rfl r6 h2 rfl rfl 25 _ B_w7.out.blk (by rw [h2e.out]; exact Try.size25B _) (by rw [h2e.out]; exact bytesA_sizes _ _ _) (by rw [h2e.out]; exact bytesA_one _ _) ?_
        have T_w8 := Keep.mk (T_w7.out.box B_w7.out h2)
        have N_w8 : Keep (TN w (w7.setRow r6 h2) E Ps Q4) := ⟨N_w7.out.box (by exact wB_w6.out) _⟩
        have X_w8 := Keep.mk (X_w7.out.ne (eXB_w6.out) h2)
        have A_w8 := Keep.mk (A_w7.out.ne (eAB_w6.out) h2)
        have B_w8 := Keep.mk (B_w7.out.set h2)
        generalize w7.setRow r6 h2 = w8 at *
        refine hK _ _ (T_w8.out.bd.c 0 rfl) fun hH_ => ?_
        clear hK hH_
        simp only [Act.put]
        refine wpAnyH_done (by kernel_rfl) ?_ _
        refine hK5 _ _ ?_
        exact down_tail B k E b off n cap L ns na nl nc hnv hnl hnlb hn hnb i j q m Ps w hij hjk hjn hq hh hm hmi hmj x1 x2 X1e X2e h1 h2 h1e h2e HT HB r hrw r5 r6 Q4 w8 T_w8.out ⟨Q3, T_w3.out.len, U_w3.out, U_w4.out⟩ Rb_.out X_w8.out A_w8.out B_w8.out ⟨eXA_w5.out, eXB_w6.out, eAB_w6.out⟩ N_w8.out
      · rw [if_pos (by rfl)]
        refine wp_newA 25 rfl _ Try.new25 ?_
        have b_ := below_new w4 (.cells (bytesA 32 fun _ => 0) 25)
        have B_w9 : Keep (Bx _ E Q4 w4.heap.size (bytesA 32 fun _ => 0)) := ⟨Bx.new T_w4.out (bytesA 32 fun _ => 0)⟩
        have T_w9 := Keep.mk (T_w4.out.below b_)
        have N_w9 : Keep (TN w _ E Ps Q4) := ⟨N_w4.out.trans (TN.below b_)⟩
        have X_w9 := Keep.mk (X_w4.out.below b_)
        have eXB_w9 : Keep (r ≠ w4.heap.size) := ⟨by have := X_w4.out.blk.lt; omega⟩
        have wB_w9 : Keep (w.heap.size ≤ w4.heap.size) := ⟨N_w4.out.gr.size⟩
        generalize w4.alloc (.cells (bytesA 32 fun _ => 0) 25) = w9 at *
        obtain ⟨r9, hr9⟩ : ∃ z, Keep (z = w4.heap.size) := ⟨_, ⟨rfl⟩⟩
        rw [← hr9.out] at B_w9 wB_w9 eXB_w9 ⊢
        clear b_ hr9
        refine hK _ _ (T_w9.out.bd.c 0 rfl) fun hH_ => ?_
        clear hK hH_
        simp only [Act.put, List.setIfInBounds_toArray, List.set_cons_zero, List.set_cons_succ]
        refine wpAnyH_ready (rs := [8]) (by kernel_rfl) (by simp) ?_
        refine AllReadyH.cons (o := ⟨some 10, Op.alloc 25, 0, _, _, none⟩) rfl (fun K hK => ?_) AllReadyH.nil
        rw [if_pos (by rfl)]
        refine wp_newA 25 rfl _ Try.new25 ?_
        have b_ := below_new w9 (.cells (bytesA 32 fun _ => 0) 25)
        have A_w10 : Keep (Bx _ E Q4 w9.heap.size (bytesA 32 fun _ => 0)) := ⟨Bx.new T_w9.out (bytesA 32 fun _ => 0)⟩
        have T_w10 := Keep.mk (T_w9.out.below b_)
        have N_w10 : Keep (TN w _ E Ps Q4) := ⟨N_w9.out.trans (TN.below b_)⟩
        have X_w10 := Keep.mk (X_w9.out.below b_)
        have eXA_w10 : Keep (r ≠ w9.heap.size) := ⟨by have := X_w9.out.blk.lt; omega⟩
        have B_w10 := Keep.mk (B_w9.out.below b_)
        have eBA_w10 : Keep (r9 ≠ w9.heap.size) := ⟨by have := B_w9.out.blk.lt; omega⟩
        have wA_w10 : Keep (w.heap.size ≤ w9.heap.size) := ⟨N_w9.out.gr.size⟩
        generalize w9.alloc (.cells (bytesA 32 fun _ => 0) 25) = w10 at *
        obtain ⟨r10, hr10⟩ : ∃ z, Keep (z = w9.heap.size) := ⟨_, ⟨rfl⟩⟩
        rw [← hr10.out] at A_w10 wA_w10 eXA_w10 eBA_w10 ⊢
        clear b_ hr10
        refine hK _ _ (T_w10.out.bd.c 0 rfl) fun hH_ => ?_
        clear hK hH_
        simp only [Act.put, List.setIfInBounds_toArray, List.set_cons_zero, List.set_cons_succ]
        refine wpAnyH_ready (rs := [10]) (by kernel_rfl) (by simp) ?_
        refine AllReadyH.cons (o := ⟨none, Op.store 25 (Operand.tmp 10) (Operand.tmp 32), 0, _, _, none⟩) rfl (fun K hK => ?_) AllReadyH.nil
        rw [if_pos (by rfl)]
        refine wp_store_row 25 (.tmp 10) (.tmp 32) rfl r10 h1 rfl rfl 25 _ A_w10.out.blk (by rw [h1e.out]; exact Try.size25B _) (by rw [h1e.out]; exact bytesA_sizes _ _ _) (by rw [h1e.out]; exact bytesA_one _ _) ?_
        have T_w11 := Keep.mk (T_w10.out.box A_w10.out h1)
        have N_w11 : Keep (TN w (w10.setRow r10 h1) E Ps Q4) := ⟨N_w10.out.box (by exact wA_w10.out) _⟩
        have X_w11 := Keep.mk (X_w10.out.ne (eXA_w10.out) h1)
        have A_w11 := Keep.mk (A_w10.out.set h1)
        have B_w11 := Keep.mk (B_w10.out.ne (fun e => (fun e => eBA_w10.out e.symm) e.symm) h1)
        generalize w10.setRow r10 h1 = w11 at *
        refine hK _ _ (T_w11.out.bd.c 0 rfl) fun hH_ => ?_
        clear hK hH_
        simp only [Act.put]
        refine wpAnyH_ready (rs := [11]) (by kernel_rfl) (by simp) ?_
        refine AllReadyH.cons (o := ⟨none, Op.store 25 (Operand.tmp 11) (Operand.tmp 36), 0, _, _, none⟩) rfl (fun K hK => ?_) AllReadyH.nil
        rw [if_pos (by rfl)]
        refine wp_store_row 25 (.tmp 11) (.tmp 36) rfl r9 h2 rfl rfl 25 _ B_w11.out.blk (by rw [h2e.out]; exact Try.size25B _) (by rw [h2e.out]; exact bytesA_sizes _ _ _) (by rw [h2e.out]; exact bytesA_one _ _) ?_
        have T_w12 := Keep.mk (T_w11.out.box B_w11.out h2)
        have N_w12 : Keep (TN w (w11.setRow r9 h2) E Ps Q4) := ⟨N_w11.out.box (by exact wB_w9.out) _⟩
        have X_w12 := Keep.mk (X_w11.out.ne (eXB_w9.out) h2)
        have A_w12 := Keep.mk (A_w11.out.ne ((fun e => eBA_w10.out e.symm)) h2)
        have B_w12 := Keep.mk (B_w11.out.set h2)
        generalize w11.setRow r9 h2 = w12 at *
        refine hK _ _ (T_w12.out.bd.c 0 rfl) fun hH_ => ?_
        clear hK hH_
        simp only [Act.put]
        refine wpAnyH_done (by kernel_rfl) ?_ _
        refine hK5 _ _ ?_
        exact down_tail B k E b off n cap L ns na nl nc hnv hnl hnlb hn hnb i j q m Ps w hij hjk hjn hq hh hm hmi hmj x1 x2 X1e X2e h1 h2 h1e h2e HT HB r hrw r10 r9 Q4 w12 T_w12.out ⟨Q3, T_w3.out.len, U_w3.out, U_w4.out⟩ Rb_.out X_w12.out A_w12.out B_w12.out ⟨eXA_w10.out, eXB_w9.out, (fun e => eBA_w10.out e.symm)⟩ N_w12.out
    · rw [if_pos (by rfl)]
      refine wp_newA 25 rfl _ Try.new25 ?_
      have b_ := below_new w3 (.cells (bytesA 32 fun _ => 0) 25)
      have A_w13 : Keep (Bx _ E Q3 w3.heap.size (bytesA 32 fun _ => 0)) := ⟨Bx.new T_w3.out (bytesA 32 fun _ => 0)⟩
      have T_w13 := Keep.mk (T_w3.out.below b_)
      have N_w13 : Keep (TN w _ E Ps Q3) := ⟨N_w3.out.trans (TN.below b_)⟩
      have X_w13 := Keep.mk (X_w3.out.below b_)
      have eXA_w13 : Keep (r ≠ w3.heap.size) := ⟨by have := X_w3.out.blk.lt; omega⟩
      have wA_w13 : Keep (w.heap.size ≤ w3.heap.size) := ⟨N_w3.out.gr.size⟩
      generalize w3.alloc (.cells (bytesA 32 fun _ => 0) 25) = w13 at *
      obtain ⟨r13, hr13⟩ : ∃ z, Keep (z = w3.heap.size) := ⟨_, ⟨rfl⟩⟩
      rw [← hr13.out] at A_w13 wA_w13 eXA_w13 ⊢
      clear b_ hr13
      refine hK _ _ (T_w13.out.bd.c 0 rfl) fun hH_ => ?_
      clear hK hH_
      simp only [Act.put, List.setIfInBounds_toArray, List.set_cons_zero, List.set_cons_succ]
      refine wpAnyH_ready (rs := [7, 9]) (by kernel_rfl) (by simp) ?_
      refine AllReadyH.cons (o := ⟨some 36, Op.call { callee := Callee.value (Operand.tmp 33), args := #[Operand.tmp 34, Operand.tmp 35], argTypes := #[3, 3] }, 25, _, _, none⟩) rfl (fun K hK => ?_) (AllReadyH.cons (o := ⟨some 11, Op.alloc 25, 0, _, _, none⟩) rfl (fun K hK => ?_) AllReadyH.nil)
      · rw [if_pos (by rfl)]
        have hb_ : Below B w w13 := N_w13.out.bel HT.out HB.out
        have hih := IH m j Q3 w13 (by omega) (by omega) (by omega) T_w13.out (HC.out.below hb_) Ra_.out (Nat.le_trans HB.out N_w13.out.gr.size)
        refine wp_callC 48 (.tmp 33) _ _ #[ptr E.pl, ptr E.pd, ptr E.pn, ptr E.pp] rfl rfl Try.in48 #[.int .i64 (m : Int), .int .i64 (j : Int), ptr E.pl, ptr E.pd, ptr E.pn, ptr E.pp] (by simp [Act.eval]) (fun vz wz => vz = .agg h2 ∧ ∃ Ps', TS B wz E ns Ps' ∧ UP k L m j ns Q3 Ps' ∧ TN w13 wz E Q3 Ps') ?_ ?_
        · refine hih.mono ?_
          rintro e wz ⟨rfl, hz⟩
          exact ⟨_, rfl, by rw [h2q.out], hz⟩
        rintro vz w14 ⟨rfl, Q14, k1, k2, k3⟩
        have T_w14 := Keep.mk k1
        have U_w14 := Keep.mk k2
        have N_w14 : Keep (TN w w14 E Ps Q14) := ⟨N_w13.out.trans k3⟩
        have X_w14 := Keep.mk (X_w13.out.next k3)
        have A_w14 := Keep.mk (A_w13.out.next k3)
        clear k1 k2 k3 hih hb_
        refine hK _ _ (T_w14.out.bd.c 0 rfl) fun hH_ => ?_
        clear hK hH_
        simp only [Act.put, List.setIfInBounds_toArray, List.set_cons_zero, List.set_cons_succ]
        have Rb_ : Keep (Rm Q14 1) := ⟨Rm.up (s := 1) (a := m) (b := j) (fun P hP => by have := Ra_.out P hP; omega) U_w14.out T_w3.out T_w14.out (by omega) (by rw [hn.out]; omega) (by omega)⟩
        refine wpAnyH_ready (rs := [9]) (by kernel_rfl) (by simp) ?_
        refine AllReadyH.cons (o := ⟨some 11, Op.alloc 25, 0, _, _, none⟩) rfl (fun K hK => ?_) AllReadyH.nil
        rw [if_pos (by rfl)]
        refine wp_newA 25 rfl _ Try.new25 ?_
        have b_ := below_new w14 (.cells (bytesA 32 fun _ => 0) 25)
        have B_w15 : Keep (Bx _ E Q14 w14.heap.size (bytesA 32 fun _ => 0)) := ⟨Bx.new T_w14.out (bytesA 32 fun _ => 0)⟩
        have T_w15 := Keep.mk (T_w14.out.below b_)
        have N_w15 : Keep (TN w _ E Ps Q14) := ⟨N_w14.out.trans (TN.below b_)⟩
        have X_w15 := Keep.mk (X_w14.out.below b_)
        have eXB_w15 : Keep (r ≠ w14.heap.size) := ⟨by have := X_w14.out.blk.lt; omega⟩
        have A_w15 := Keep.mk (A_w14.out.below b_)
        have eAB_w15 : Keep (r13 ≠ w14.heap.size) := ⟨by have := A_w14.out.blk.lt; omega⟩
        have wB_w15 : Keep (w.heap.size ≤ w14.heap.size) := ⟨N_w14.out.gr.size⟩
        generalize w14.alloc (.cells (bytesA 32 fun _ => 0) 25) = w15 at *
        obtain ⟨r15, hr15⟩ : ∃ z, Keep (z = w14.heap.size) := ⟨_, ⟨rfl⟩⟩
        rw [← hr15.out] at B_w15 wB_w15 eXB_w15 eAB_w15 ⊢
        clear b_ hr15
        refine hK _ _ (T_w15.out.bd.c 0 rfl) fun hH_ => ?_
        clear hK hH_
        simp only [Act.put, List.setIfInBounds_toArray, List.set_cons_zero, List.set_cons_succ]
        refine wpAnyH_ready (rs := [10]) (by kernel_rfl) (by simp) ?_
        refine AllReadyH.cons (o := ⟨none, Op.store 25 (Operand.tmp 10) (Operand.tmp 32), 0, _, _, none⟩) rfl (fun K hK => ?_) AllReadyH.nil
        rw [if_pos (by rfl)]
        refine wp_store_row 25 (.tmp 10) (.tmp 32) rfl r13 h1 rfl rfl 25 _ A_w15.out.blk (by rw [h1e.out]; exact Try.size25B _) (by rw [h1e.out]; exact bytesA_sizes _ _ _) (by rw [h1e.out]; exact bytesA_one _ _) ?_
        have T_w16 := Keep.mk (T_w15.out.box A_w15.out h1)
        have N_w16 : Keep (TN w (w15.setRow r13 h1) E Ps Q14) := ⟨N_w15.out.box (by exact wA_w13.out) _⟩
        have X_w16 := Keep.mk (X_w15.out.ne (eXA_w13.out) h1)
        have A_w16 := Keep.mk (A_w15.out.set h1)
        have B_w16 := Keep.mk (B_w15.out.ne (fun e => eAB_w15.out e.symm) h1)
        generalize w15.setRow r13 h1 = w16 at *
        refine hK _ _ (T_w16.out.bd.c 0 rfl) fun hH_ => ?_
        clear hK hH_
        simp only [Act.put]
        refine wpAnyH_ready (rs := [11]) (by kernel_rfl) (by simp) ?_
        refine AllReadyH.cons (o := ⟨none, Op.store 25 (Operand.tmp 11) (Operand.tmp 36), 0, _, _, none⟩) rfl (fun K hK => ?_) AllReadyH.nil
        rw [if_pos (by rfl)]
        refine wp_store_row 25 (.tmp 11) (.tmp 36) rfl r15 h2 rfl rfl 25 _ B_w16.out.blk (by rw [h2e.out]; exact Try.size25B _) (by rw [h2e.out]; exact bytesA_sizes _ _ _) (by rw [h2e.out]; exact bytesA_one _ _) ?_
        have T_w17 := Keep.mk (T_w16.out.box B_w16.out h2)
        have N_w17 : Keep (TN w (w16.setRow r15 h2) E Ps Q14) := ⟨N_w16.out.box (by exact wB_w15.out) _⟩
        have X_w17 := Keep.mk (X_w16.out.ne (eXB_w15.out) h2)
        have A_w17 := Keep.mk (A_w16.out.ne (eAB_w15.out) h2)
        have B_w17 := Keep.mk (B_w16.out.set h2)
        generalize w16.setRow r15 h2 = w17 at *
        refine hK _ _ (T_w17.out.bd.c 0 rfl) fun hH_ => ?_
        clear hK hH_
        simp only [Act.put]
        refine wpAnyH_done (by kernel_rfl) ?_ _
        refine hK5 _ _ ?_
        exact down_tail B k E b off n cap L ns na nl nc hnv hnl hnlb hn hnb i j q m Ps w hij hjk hjn hq hh hm hmi hmj x1 x2 X1e X2e h1 h2 h1e h2e HT HB r hrw r13 r15 Q14 w17 T_w17.out ⟨Q3, T_w3.out.len, U_w3.out, U_w14.out⟩ Rb_.out X_w17.out A_w17.out B_w17.out ⟨eXA_w13.out, eXB_w15.out, eAB_w15.out⟩ N_w17.out
      · rw [if_pos (by rfl)]
        refine wp_newA 25 rfl _ Try.new25 ?_
        have b_ := below_new w13 (.cells (bytesA 32 fun _ => 0) 25)
        have B_w18 : Keep (Bx _ E Q3 w13.heap.size (bytesA 32 fun _ => 0)) := ⟨Bx.new T_w13.out (bytesA 32 fun _ => 0)⟩
        have T_w18 := Keep.mk (T_w13.out.below b_)
        have N_w18 : Keep (TN w _ E Ps Q3) := ⟨N_w13.out.trans (TN.below b_)⟩
        have X_w18 := Keep.mk (X_w13.out.below b_)
        have eXB_w18 : Keep (r ≠ w13.heap.size) := ⟨by have := X_w13.out.blk.lt; omega⟩
        have A_w18 := Keep.mk (A_w13.out.below b_)
        have eAB_w18 : Keep (r13 ≠ w13.heap.size) := ⟨by have := A_w13.out.blk.lt; omega⟩
        have wB_w18 : Keep (w.heap.size ≤ w13.heap.size) := ⟨N_w13.out.gr.size⟩
        generalize w13.alloc (.cells (bytesA 32 fun _ => 0) 25) = w18 at *
        obtain ⟨r18, hr18⟩ : ∃ z, Keep (z = w13.heap.size) := ⟨_, ⟨rfl⟩⟩
        rw [← hr18.out] at B_w18 wB_w18 eXB_w18 eAB_w18 ⊢
        clear b_ hr18
        refine hK _ _ (T_w18.out.bd.c 0 rfl) fun hH_ => ?_
        clear hK hH_
        simp only [Act.put, List.setIfInBounds_toArray, List.set_cons_zero, List.set_cons_succ]
        refine wpAnyH_ready (rs := [7]) (by kernel_rfl) (by simp) ?_
        refine AllReadyH.cons (o := ⟨some 36, Op.call { callee := Callee.value (Operand.tmp 33), args := #[Operand.tmp 34, Operand.tmp 35], argTypes := #[3, 3] }, 25, _, _, none⟩) rfl (fun K hK => ?_) AllReadyH.nil
        rw [if_pos (by rfl)]
        have hb_ : Below B w w18 := N_w18.out.bel HT.out HB.out
        have hih := IH m j Q3 w18 (by omega) (by omega) (by omega) T_w18.out (HC.out.below hb_) Ra_.out (Nat.le_trans HB.out N_w18.out.gr.size)
        refine wp_callC 48 (.tmp 33) _ _ #[ptr E.pl, ptr E.pd, ptr E.pn, ptr E.pp] rfl rfl Try.in48 #[.int .i64 (m : Int), .int .i64 (j : Int), ptr E.pl, ptr E.pd, ptr E.pn, ptr E.pp] (by simp [Act.eval]) (fun vz wz => vz = .agg h2 ∧ ∃ Ps', TS B wz E ns Ps' ∧ UP k L m j ns Q3 Ps' ∧ TN w18 wz E Q3 Ps') ?_ ?_
        · refine hih.mono ?_
          rintro e wz ⟨rfl, hz⟩
          exact ⟨_, rfl, by rw [h2q.out], hz⟩
        rintro vz w19 ⟨rfl, Q19, k1, k2, k3⟩
        have T_w19 := Keep.mk k1
        have U_w19 := Keep.mk k2
        have N_w19 : Keep (TN w w19 E Ps Q19) := ⟨N_w18.out.trans k3⟩
        have X_w19 := Keep.mk (X_w18.out.next k3)
        have A_w19 := Keep.mk (A_w18.out.next k3)
        have B_w19 := Keep.mk (B_w18.out.next k3)
        clear k1 k2 k3 hih hb_
        refine hK _ _ (T_w19.out.bd.c 0 rfl) fun hH_ => ?_
        clear hK hH_
        simp only [Act.put, List.setIfInBounds_toArray, List.set_cons_zero, List.set_cons_succ]
        have Rb_ : Keep (Rm Q19 1) := ⟨Rm.up (s := 1) (a := m) (b := j) (fun P hP => by have := Ra_.out P hP; omega) U_w19.out T_w3.out T_w19.out (by omega) (by rw [hn.out]; omega) (by omega)⟩
        refine wpAnyH_ready (rs := [10]) (by kernel_rfl) (by simp) ?_
        refine AllReadyH.cons (o := ⟨none, Op.store 25 (Operand.tmp 10) (Operand.tmp 32), 0, _, _, none⟩) rfl (fun K hK => ?_) AllReadyH.nil
        rw [if_pos (by rfl)]
        refine wp_store_row 25 (.tmp 10) (.tmp 32) rfl r13 h1 rfl rfl 25 _ A_w19.out.blk (by rw [h1e.out]; exact Try.size25B _) (by rw [h1e.out]; exact bytesA_sizes _ _ _) (by rw [h1e.out]; exact bytesA_one _ _) ?_
        have T_w20 := Keep.mk (T_w19.out.box A_w19.out h1)
        have N_w20 : Keep (TN w (w19.setRow r13 h1) E Ps Q19) := ⟨N_w19.out.box (by exact wA_w13.out) _⟩
        have X_w20 := Keep.mk (X_w19.out.ne (eXA_w13.out) h1)
        have A_w20 := Keep.mk (A_w19.out.set h1)
        have B_w20 := Keep.mk (B_w19.out.ne (fun e => eAB_w18.out e.symm) h1)
        generalize w19.setRow r13 h1 = w20 at *
        refine hK _ _ (T_w20.out.bd.c 0 rfl) fun hH_ => ?_
        clear hK hH_
        simp only [Act.put]
        refine wpAnyH_ready (rs := [11]) (by kernel_rfl) (by simp) ?_
        refine AllReadyH.cons (o := ⟨none, Op.store 25 (Operand.tmp 11) (Operand.tmp 36), 0, _, _, none⟩) rfl (fun K hK => ?_) AllReadyH.nil
        rw [if_pos (by rfl)]
        refine wp_store_row 25 (.tmp 11) (.tmp 36) rfl r18 h2 rfl rfl 25 _ B_w20.out.blk (by rw [h2e.out]; exact Try.size25B _) (by rw [h2e.out]; exact bytesA_sizes _ _ _) (by rw [h2e.out]; exact bytesA_one _ _) ?_
        have T_w21 := Keep.mk (T_w20.out.box B_w20.out h2)
        have N_w21 : Keep (TN w (w20.setRow r18 h2) E Ps Q19) := ⟨N_w20.out.box (by exact wB_w18.out) _⟩
        have X_w21 := Keep.mk (X_w20.out.ne (eXB_w18.out) h2)
        have A_w21 := Keep.mk (A_w20.out.ne (eAB_w18.out) h2)
        have B_w21 := Keep.mk (B_w20.out.set h2)
        generalize w20.setRow r18 h2 = w21 at *
        refine hK _ _ (T_w21.out.bd.c 0 rfl) fun hH_ => ?_
        clear hK hH_
        simp only [Act.put]
        refine wpAnyH_done (by kernel_rfl) ?_ _
        refine hK5 _ _ ?_
        exact down_tail B k E b off n cap L ns na nl nc hnv hnl hnlb hn hnb i j q m Ps w hij hjk hjn hq hh hm hmi hmj x1 x2 X1e X2e h1 h2 h1e h2e HT HB r hrw r13 r18 Q19 w21 T_w21.out ⟨Q3, T_w3.out.len, U_w3.out, U_w19.out⟩ Rb_.out X_w21.out A_w21.out B_w21.out ⟨eXA_w13.out, eXB_w18.out, eAB_w18.out⟩ N_w21.out
    · rw [if_pos (by rfl)]
      refine wp_newA 25 rfl _ Try.new25 ?_
      have b_ := below_new w3 (.cells (bytesA 32 fun _ => 0) 25)
      have B_w22 : Keep (Bx _ E Q3 w3.heap.size (bytesA 32 fun _ => 0)) := ⟨Bx.new T_w3.out (bytesA 32 fun _ => 0)⟩
      have T_w22 := Keep.mk (T_w3.out.below b_)
      have N_w22 : Keep (TN w _ E Ps Q3) := ⟨N_w3.out.trans (TN.below b_)⟩
      have X_w22 := Keep.mk (X_w3.out.below b_)
      have eXB_w22 : Keep (r ≠ w3.heap.size) := ⟨by have := X_w3.out.blk.lt; omega⟩
      have wB_w22 : Keep (w.heap.size ≤ w3.heap.size) := ⟨N_w3.out.gr.size⟩
      generalize w3.alloc (.cells (bytesA 32 fun _ => 0) 25) = w22 at *
      obtain ⟨r22, hr22⟩ : ∃ z, Keep (z = w3.heap.size) := ⟨_, ⟨rfl⟩⟩
      rw [← hr22.out] at B_w22 wB_w22 eXB_w22 ⊢
      clear b_ hr22
      refine hK _ _ (T_w22.out.bd.c 0 rfl) fun hH_ => ?_
      clear hK hH_
      simp only [Act.put, List.setIfInBounds_toArray, List.set_cons_zero, List.set_cons_succ]
      refine wpAnyH_ready (rs := [7, 8]) (by kernel_rfl) (by simp) ?_
      refine AllReadyH.cons (o := ⟨some 36, Op.call { callee := Callee.value (Operand.tmp 33), args := #[Operand.tmp 34, Operand.tmp 35], argTypes := #[3, 3] }, 25, _, _, none⟩) rfl (fun K hK => ?_) (AllReadyH.cons (o := ⟨some 10, Op.alloc 25, 0, _, _, none⟩) rfl (fun K hK => ?_) AllReadyH.nil)
      · rw [if_pos (by rfl)]
        have hb_ : Below B w w22 := N_w22.out.bel HT.out HB.out
        have hih := IH m j Q3 w22 (by omega) (by omega) (by omega) T_w22.out (HC.out.below hb_) Ra_.out (Nat.le_trans HB.out N_w22.out.gr.size)
        refine wp_callC 48 (.tmp 33) _ _ #[ptr E.pl, ptr E.pd, ptr E.pn, ptr E.pp] rfl rfl Try.in48 #[.int .i64 (m : Int), .int .i64 (j : Int), ptr E.pl, ptr E.pd, ptr E.pn, ptr E.pp] (by simp [Act.eval]) (fun vz wz => vz = .agg h2 ∧ ∃ Ps', TS B wz E ns Ps' ∧ UP k L m j ns Q3 Ps' ∧ TN w22 wz E Q3 Ps') ?_ ?_
        · refine hih.mono ?_
          rintro e wz ⟨rfl, hz⟩
          exact ⟨_, rfl, by rw [h2q.out], hz⟩
        rintro vz w23 ⟨rfl, Q23, k1, k2, k3⟩
        have T_w23 := Keep.mk k1
        have U_w23 := Keep.mk k2
        have N_w23 : Keep (TN w w23 E Ps Q23) := ⟨N_w22.out.trans k3⟩
        have X_w23 := Keep.mk (X_w22.out.next k3)
        have B_w23 := Keep.mk (B_w22.out.next k3)
        clear k1 k2 k3 hih hb_
        refine hK _ _ (T_w23.out.bd.c 0 rfl) fun hH_ => ?_
        clear hK hH_
        simp only [Act.put, List.setIfInBounds_toArray, List.set_cons_zero, List.set_cons_succ]
        have Rb_ : Keep (Rm Q23 1) := ⟨Rm.up (s := 1) (a := m) (b := j) (fun P hP => by have := Ra_.out P hP; omega) U_w23.out T_w3.out T_w23.out (by omega) (by rw [hn.out]; omega) (by omega)⟩
        refine wpAnyH_ready (rs := [8]) (by kernel_rfl) (by simp) ?_
        refine AllReadyH.cons (o := ⟨some 10, Op.alloc 25, 0, _, _, none⟩) rfl (fun K hK => ?_) AllReadyH.nil
        rw [if_pos (by rfl)]
        refine wp_newA 25 rfl _ Try.new25 ?_
        have b_ := below_new w23 (.cells (bytesA 32 fun _ => 0) 25)
        have A_w24 : Keep (Bx _ E Q23 w23.heap.size (bytesA 32 fun _ => 0)) := ⟨Bx.new T_w23.out (bytesA 32 fun _ => 0)⟩
        have T_w24 := Keep.mk (T_w23.out.below b_)
        have N_w24 : Keep (TN w _ E Ps Q23) := ⟨N_w23.out.trans (TN.below b_)⟩
        have X_w24 := Keep.mk (X_w23.out.below b_)
        have eXA_w24 : Keep (r ≠ w23.heap.size) := ⟨by have := X_w23.out.blk.lt; omega⟩
        have B_w24 := Keep.mk (B_w23.out.below b_)
        have eBA_w24 : Keep (r22 ≠ w23.heap.size) := ⟨by have := B_w23.out.blk.lt; omega⟩
        have wA_w24 : Keep (w.heap.size ≤ w23.heap.size) := ⟨N_w23.out.gr.size⟩
        generalize w23.alloc (.cells (bytesA 32 fun _ => 0) 25) = w24 at *
        obtain ⟨r24, hr24⟩ : ∃ z, Keep (z = w23.heap.size) := ⟨_, ⟨rfl⟩⟩
        rw [← hr24.out] at A_w24 wA_w24 eXA_w24 eBA_w24 ⊢
        clear b_ hr24
        refine hK _ _ (T_w24.out.bd.c 0 rfl) fun hH_ => ?_
        clear hK hH_
        simp only [Act.put, List.setIfInBounds_toArray, List.set_cons_zero, List.set_cons_succ]
        refine wpAnyH_ready (rs := [10]) (by kernel_rfl) (by simp) ?_
        refine AllReadyH.cons (o := ⟨none, Op.store 25 (Operand.tmp 10) (Operand.tmp 32), 0, _, _, none⟩) rfl (fun K hK => ?_) AllReadyH.nil
        rw [if_pos (by rfl)]
        refine wp_store_row 25 (.tmp 10) (.tmp 32) rfl r24 h1 rfl rfl 25 _ A_w24.out.blk (by rw [h1e.out]; exact Try.size25B _) (by rw [h1e.out]; exact bytesA_sizes _ _ _) (by rw [h1e.out]; exact bytesA_one _ _) ?_
        have T_w25 := Keep.mk (T_w24.out.box A_w24.out h1)
        have N_w25 : Keep (TN w (w24.setRow r24 h1) E Ps Q23) := ⟨N_w24.out.box (by exact wA_w24.out) _⟩
        have X_w25 := Keep.mk (X_w24.out.ne (eXA_w24.out) h1)
        have A_w25 := Keep.mk (A_w24.out.set h1)
        have B_w25 := Keep.mk (B_w24.out.ne (fun e => (fun e => eBA_w24.out e.symm) e.symm) h1)
        generalize w24.setRow r24 h1 = w25 at *
        refine hK _ _ (T_w25.out.bd.c 0 rfl) fun hH_ => ?_
        clear hK hH_
        simp only [Act.put]
        refine wpAnyH_ready (rs := [11]) (by kernel_rfl) (by simp) ?_
        refine AllReadyH.cons (o := ⟨none, Op.store 25 (Operand.tmp 11) (Operand.tmp 36), 0, _, _, none⟩) rfl (fun K hK => ?_) AllReadyH.nil
        rw [if_pos (by rfl)]
        refine wp_store_row 25 (.tmp 11) (.tmp 36) rfl r22 h2 rfl rfl 25 _ B_w25.out.blk (by rw [h2e.out]; exact Try.size25B _) (by rw [h2e.out]; exact bytesA_sizes _ _ _) (by rw [h2e.out]; exact bytesA_one _ _) ?_
        have T_w26 := Keep.mk (T_w25.out.box B_w25.out h2)
        have N_w26 : Keep (TN w (w25.setRow r22 h2) E Ps Q23) := ⟨N_w25.out.box (by exact wB_w22.out) _⟩
        have X_w26 := Keep.mk (X_w25.out.ne (eXB_w22.out) h2)
        have A_w26 := Keep.mk (A_w25.out.ne ((fun e => eBA_w24.out e.symm)) h2)
        have B_w26 := Keep.mk (B_w25.out.set h2)
        generalize w25.setRow r22 h2 = w26 at *
        refine hK _ _ (T_w26.out.bd.c 0 rfl) fun hH_ => ?_
        clear hK hH_
        simp only [Act.put]
        refine wpAnyH_done (by kernel_rfl) ?_ _
        refine hK5 _ _ ?_
        exact down_tail B k E b off n cap L ns na nl nc hnv hnl hnlb hn hnb i j q m Ps w hij hjk hjn hq hh hm hmi hmj x1 x2 X1e X2e h1 h2 h1e h2e HT HB r hrw r24 r22 Q23 w26 T_w26.out ⟨Q3, T_w3.out.len, U_w3.out, U_w23.out⟩ Rb_.out X_w26.out A_w26.out B_w26.out ⟨eXA_w24.out, eXB_w22.out, (fun e => eBA_w24.out e.symm)⟩ N_w26.out
      · rw [if_pos (by rfl)]
        refine wp_newA 25 rfl _ Try.new25 ?_
        have b_ := below_new w22 (.cells (bytesA 32 fun _ => 0) 25)
        have A_w27 : Keep (Bx _ E Q3 w22.heap.size (bytesA 32 fun _ => 0)) := ⟨Bx.new T_w22.out (bytesA 32 fun _ => 0)⟩
        have T_w27 := Keep.mk (T_w22.out.below b_)
        have N_w27 : Keep (TN w _ E Ps Q3) := ⟨N_w22.out.trans (TN.below b_)⟩
        have X_w27 := Keep.mk (X_w22.out.below b_)
        have eXA_w27 : Keep (r ≠ w22.heap.size) := ⟨by have := X_w22.out.blk.lt; omega⟩
        have B_w27 := Keep.mk (B_w22.out.below b_)
        have eBA_w27 : Keep (r22 ≠ w22.heap.size) := ⟨by have := B_w22.out.blk.lt; omega⟩
        have wA_w27 : Keep (w.heap.size ≤ w22.heap.size) := ⟨N_w22.out.gr.size⟩
        generalize w22.alloc (.cells (bytesA 32 fun _ => 0) 25) = w27 at *
        obtain ⟨r27, hr27⟩ : ∃ z, Keep (z = w22.heap.size) := ⟨_, ⟨rfl⟩⟩
        rw [← hr27.out] at A_w27 wA_w27 eXA_w27 eBA_w27 ⊢
        clear b_ hr27
        refine hK _ _ (T_w27.out.bd.c 0 rfl) fun hH_ => ?_
        clear hK hH_
        simp only [Act.put, List.setIfInBounds_toArray, List.set_cons_zero, List.set_cons_succ]
        refine wpAnyH_ready (rs := [7]) (by kernel_rfl) (by simp) ?_
        refine AllReadyH.cons (o := ⟨some 36, Op.call { callee := Callee.value (Operand.tmp 33), args := #[Operand.tmp 34, Operand.tmp 35], argTypes := #[3, 3] }, 25, _, _, none⟩) rfl (fun K hK => ?_) AllReadyH.nil
        rw [if_pos (by rfl)]
        have hb_ : Below B w w27 := N_w27.out.bel HT.out HB.out
        have hih := IH m j Q3 w27 (by omega) (by omega) (by omega) T_w27.out (HC.out.below hb_) Ra_.out (Nat.le_trans HB.out N_w27.out.gr.size)
        refine wp_callC 48 (.tmp 33) _ _ #[ptr E.pl, ptr E.pd, ptr E.pn, ptr E.pp] rfl rfl Try.in48 #[.int .i64 (m : Int), .int .i64 (j : Int), ptr E.pl, ptr E.pd, ptr E.pn, ptr E.pp] (by simp [Act.eval]) (fun vz wz => vz = .agg h2 ∧ ∃ Ps', TS B wz E ns Ps' ∧ UP k L m j ns Q3 Ps' ∧ TN w27 wz E Q3 Ps') ?_ ?_
        · refine hih.mono ?_
          rintro e wz ⟨rfl, hz⟩
          exact ⟨_, rfl, by rw [h2q.out], hz⟩
        rintro vz w28 ⟨rfl, Q28, k1, k2, k3⟩
        have T_w28 := Keep.mk k1
        have U_w28 := Keep.mk k2
        have N_w28 : Keep (TN w w28 E Ps Q28) := ⟨N_w27.out.trans k3⟩
        have X_w28 := Keep.mk (X_w27.out.next k3)
        have A_w28 := Keep.mk (A_w27.out.next k3)
        have B_w28 := Keep.mk (B_w27.out.next k3)
        clear k1 k2 k3 hih hb_
        refine hK _ _ (T_w28.out.bd.c 0 rfl) fun hH_ => ?_
        clear hK hH_
        simp only [Act.put, List.setIfInBounds_toArray, List.set_cons_zero, List.set_cons_succ]
        have Rb_ : Keep (Rm Q28 1) := ⟨Rm.up (s := 1) (a := m) (b := j) (fun P hP => by have := Ra_.out P hP; omega) U_w28.out T_w3.out T_w28.out (by omega) (by rw [hn.out]; omega) (by omega)⟩
        refine wpAnyH_ready (rs := [10]) (by kernel_rfl) (by simp) ?_
        refine AllReadyH.cons (o := ⟨none, Op.store 25 (Operand.tmp 10) (Operand.tmp 32), 0, _, _, none⟩) rfl (fun K hK => ?_) AllReadyH.nil
        rw [if_pos (by rfl)]
        refine wp_store_row 25 (.tmp 10) (.tmp 32) rfl r27 h1 rfl rfl 25 _ A_w28.out.blk (by rw [h1e.out]; exact Try.size25B _) (by rw [h1e.out]; exact bytesA_sizes _ _ _) (by rw [h1e.out]; exact bytesA_one _ _) ?_
        have T_w29 := Keep.mk (T_w28.out.box A_w28.out h1)
        have N_w29 : Keep (TN w (w28.setRow r27 h1) E Ps Q28) := ⟨N_w28.out.box (by exact wA_w27.out) _⟩
        have X_w29 := Keep.mk (X_w28.out.ne (eXA_w27.out) h1)
        have A_w29 := Keep.mk (A_w28.out.set h1)
        have B_w29 := Keep.mk (B_w28.out.ne (fun e => (fun e => eBA_w27.out e.symm) e.symm) h1)
        generalize w28.setRow r27 h1 = w29 at *
        refine hK _ _ (T_w29.out.bd.c 0 rfl) fun hH_ => ?_
        clear hK hH_
        simp only [Act.put]
        refine wpAnyH_ready (rs := [11]) (by kernel_rfl) (by simp) ?_
        refine AllReadyH.cons (o := ⟨none, Op.store 25 (Operand.tmp 11) (Operand.tmp 36), 0, _, _, none⟩) rfl (fun K hK => ?_) AllReadyH.nil
        rw [if_pos (by rfl)]
        refine wp_store_row 25 (.tmp 11) (.tmp 36) rfl r22 h2 rfl rfl 25 _ B_w29.out.blk (by rw [h2e.out]; exact Try.size25B _) (by rw [h2e.out]; exact bytesA_sizes _ _ _) (by rw [h2e.out]; exact bytesA_one _ _) ?_
        have T_w30 := Keep.mk (T_w29.out.box B_w29.out h2)
        have N_w30 : Keep (TN w (w29.setRow r22 h2) E Ps Q28) := ⟨N_w29.out.box (by exact wB_w22.out) _⟩
        have X_w30 := Keep.mk (X_w29.out.ne (eXB_w22.out) h2)
        have A_w30 := Keep.mk (A_w29.out.ne ((fun e => eBA_w27.out e.symm)) h2)
        have B_w30 := Keep.mk (B_w29.out.set h2)
        generalize w29.setRow r22 h2 = w30 at *
        refine hK _ _ (T_w30.out.bd.c 0 rfl) fun hH_ => ?_
        clear hK hH_
        simp only [Act.put]
        refine wpAnyH_done (by kernel_rfl) ?_ _
        refine hK5 _ _ ?_
        exact down_tail B k E b off n cap L ns na nl nc hnv hnl hnlb hn hnb i j q m Ps w hij hjk hjn hq hh hm hmi hmj x1 x2 X1e X2e h1 h2 h1e h2e HT HB r hrw r27 r22 Q28 w30 T_w30.out ⟨Q3, T_w3.out.len, U_w3.out, U_w28.out⟩ Rb_.out X_w30.out A_w30.out B_w30.out ⟨eXA_w27.out, eXB_w22.out, (fun e => eBA_w27.out e.symm)⟩ N_w30.out
  · rw [if_pos (by rfl)]
    refine wp_newA 25 rfl _ Try.new25 ?_
    have b_ := below_new w2 (.cells (bytesA 32 fun _ => 0) 25)
    have A_w31 : Keep (Bx _ E Ps w2.heap.size (bytesA 32 fun _ => 0)) := ⟨Bx.new T2.out (bytesA 32 fun _ => 0)⟩
    have T_w31 := Keep.mk (T2.out.below b_)
    have N_w31 : Keep (TN w _ E Ps Ps) := ⟨N2.out.trans (TN.below b_)⟩
    have X_w31 := Keep.mk (X2.out.below b_)
    have eXA_w31 : Keep (r ≠ w2.heap.size) := ⟨by have := X2.out.blk.lt; omega⟩
    have wA_w31 : Keep (w.heap.size ≤ w2.heap.size) := ⟨N2.out.gr.size⟩
    generalize w2.alloc (.cells (bytesA 32 fun _ => 0) 25) = w31 at *
    obtain ⟨r31, hr31⟩ : ∃ z, Keep (z = w2.heap.size) := ⟨_, ⟨rfl⟩⟩
    rw [← hr31.out] at A_w31 wA_w31 eXA_w31 ⊢
    clear b_ hr31
    refine hK _ _ (T_w31.out.bd.c 0 rfl) fun hH_ => ?_
    clear hK hH_
    simp only [Act.put, List.setIfInBounds_toArray, List.set_cons_zero, List.set_cons_succ]
    refine wpAnyH_ready (rs := [3, 9]) (by kernel_rfl) (by simp) ?_
    refine AllReadyH.cons (o := ⟨some 32, Op.call { callee := Callee.value (Operand.tmp 29), args := #[Operand.tmp 30, Operand.tmp 31], argTypes := #[3, 3] }, 25, _, _, none⟩) rfl (fun K hK => ?_) (AllReadyH.cons (o := ⟨some 11, Op.alloc 25, 0, _, _, none⟩) rfl (fun K hK => ?_) AllReadyH.nil)
    · rw [if_pos (by rfl)]
      have hb_ : Below B w w31 := N_w31.out.bel HT.out HB.out
      have hih := IH i m Ps w31 (by omega) (by omega) (by omega) T_w31.out (HC.out.below hb_) (fun P hP => by have := HR.out P hP; omega) (Nat.le_trans HB.out N_w31.out.gr.size)
      refine wp_callC 48 (.tmp 29) _ _ #[ptr E.pl, ptr E.pd, ptr E.pn, ptr E.pp] rfl rfl Try.in48 #[.int .i64 (i : Int), .int .i64 (m : Int), ptr E.pl, ptr E.pd, ptr E.pn, ptr E.pp] (by simp [Act.eval]) (fun vz wz => vz = .agg h1 ∧ ∃ Ps', TS B wz E ns Ps' ∧ UP k L i m ns Ps Ps' ∧ TN w31 wz E Ps Ps') ?_ ?_
      · refine hih.mono ?_
        rintro e wz ⟨rfl, hz⟩
        exact ⟨_, rfl, by rw [h1q.out], hz⟩
      rintro vz w32 ⟨rfl, Q32, k1, k2, k3⟩
      have T_w32 := Keep.mk k1
      have U_w32 := Keep.mk k2
      have N_w32 : Keep (TN w w32 E Ps Q32) := ⟨N_w31.out.trans k3⟩
      have X_w32 := Keep.mk (X_w31.out.next k3)
      have A_w32 := Keep.mk (A_w31.out.next k3)
      clear k1 k2 k3 hih hb_
      refine hK _ _ (T_w32.out.bd.c 0 rfl) fun hH_ => ?_
      clear hK hH_
      simp only [Act.put, List.setIfInBounds_toArray, List.set_cons_zero, List.set_cons_succ]
      have Ra_ : Keep (Rm Q32 (j - m + 1)) := ⟨Rm.up (s := j - m + 1) (a := i) (b := m) (fun P hP => by have := HR.out P hP; omega) U_w32.out HT.out T_w32.out (by omega) (by rw [hn.out]; omega) (by omega)⟩
      refine wpAnyH_ready (rs := [7, 9]) (by kernel_rfl) (by simp) ?_
      refine AllReadyH.cons (o := ⟨some 36, Op.call { callee := Callee.value (Operand.tmp 33), args := #[Operand.tmp 34, Operand.tmp 35], argTypes := #[3, 3] }, 25, _, _, none⟩) rfl (fun K hK => ?_) (AllReadyH.cons (o := ⟨some 11, Op.alloc 25, 0, _, _, none⟩) rfl (fun K hK => ?_) AllReadyH.nil)
      · rw [if_pos (by rfl)]
        have hb_ : Below B w w32 := N_w32.out.bel HT.out HB.out
        have hih := IH m j Q32 w32 (by omega) (by omega) (by omega) T_w32.out (HC.out.below hb_) Ra_.out (Nat.le_trans HB.out N_w32.out.gr.size)
        refine wp_callC 48 (.tmp 33) _ _ #[ptr E.pl, ptr E.pd, ptr E.pn, ptr E.pp] rfl rfl Try.in48 #[.int .i64 (m : Int), .int .i64 (j : Int), ptr E.pl, ptr E.pd, ptr E.pn, ptr E.pp] (by simp [Act.eval]) (fun vz wz => vz = .agg h2 ∧ ∃ Ps', TS B wz E ns Ps' ∧ UP k L m j ns Q32 Ps' ∧ TN w32 wz E Q32 Ps') ?_ ?_
        · refine hih.mono ?_
          rintro e wz ⟨rfl, hz⟩
          exact ⟨_, rfl, by rw [h2q.out], hz⟩
        rintro vz w33 ⟨rfl, Q33, k1, k2, k3⟩
        have T_w33 := Keep.mk k1
        have U_w33 := Keep.mk k2
        have N_w33 : Keep (TN w w33 E Ps Q33) := ⟨N_w32.out.trans k3⟩
        have X_w33 := Keep.mk (X_w32.out.next k3)
        have A_w33 := Keep.mk (A_w32.out.next k3)
        clear k1 k2 k3 hih hb_
        refine hK _ _ (T_w33.out.bd.c 0 rfl) fun hH_ => ?_
        clear hK hH_
        simp only [Act.put, List.setIfInBounds_toArray, List.set_cons_zero, List.set_cons_succ]
        have Rb_ : Keep (Rm Q33 1) := ⟨Rm.up (s := 1) (a := m) (b := j) (fun P hP => by have := Ra_.out P hP; omega) U_w33.out T_w32.out T_w33.out (by omega) (by rw [hn.out]; omega) (by omega)⟩
        refine wpAnyH_ready (rs := [9]) (by kernel_rfl) (by simp) ?_
        refine AllReadyH.cons (o := ⟨some 11, Op.alloc 25, 0, _, _, none⟩) rfl (fun K hK => ?_) AllReadyH.nil
        rw [if_pos (by rfl)]
        refine wp_newA 25 rfl _ Try.new25 ?_
        have b_ := below_new w33 (.cells (bytesA 32 fun _ => 0) 25)
        have B_w34 : Keep (Bx _ E Q33 w33.heap.size (bytesA 32 fun _ => 0)) := ⟨Bx.new T_w33.out (bytesA 32 fun _ => 0)⟩
        have T_w34 := Keep.mk (T_w33.out.below b_)
        have N_w34 : Keep (TN w _ E Ps Q33) := ⟨N_w33.out.trans (TN.below b_)⟩
        have X_w34 := Keep.mk (X_w33.out.below b_)
        have eXB_w34 : Keep (r ≠ w33.heap.size) := ⟨by have := X_w33.out.blk.lt; omega⟩
        have A_w34 := Keep.mk (A_w33.out.below b_)
        have eAB_w34 : Keep (r31 ≠ w33.heap.size) := ⟨by have := A_w33.out.blk.lt; omega⟩
        have wB_w34 : Keep (w.heap.size ≤ w33.heap.size) := ⟨N_w33.out.gr.size⟩
        generalize w33.alloc (.cells (bytesA 32 fun _ => 0) 25) = w34 at *
        obtain ⟨r34, hr34⟩ : ∃ z, Keep (z = w33.heap.size) := ⟨_, ⟨rfl⟩⟩
        rw [← hr34.out] at B_w34 wB_w34 eXB_w34 eAB_w34 ⊢
        clear b_ hr34
        refine hK _ _ (T_w34.out.bd.c 0 rfl) fun hH_ => ?_
        clear hK hH_
        simp only [Act.put, List.setIfInBounds_toArray, List.set_cons_zero, List.set_cons_succ]
        refine wpAnyH_ready (rs := [10]) (by kernel_rfl) (by simp) ?_
        refine AllReadyH.cons (o := ⟨none, Op.store 25 (Operand.tmp 10) (Operand.tmp 32), 0, _, _, none⟩) rfl (fun K hK => ?_) AllReadyH.nil
        rw [if_pos (by rfl)]
        refine wp_store_row 25 (.tmp 10) (.tmp 32) rfl r31 h1 rfl rfl 25 _ A_w34.out.blk (by rw [h1e.out]; exact Try.size25B _) (by rw [h1e.out]; exact bytesA_sizes _ _ _) (by rw [h1e.out]; exact bytesA_one _ _) ?_
        have T_w35 := Keep.mk (T_w34.out.box A_w34.out h1)
        have N_w35 : Keep (TN w (w34.setRow r31 h1) E Ps Q33) := ⟨N_w34.out.box (by exact wA_w31.out) _⟩
        have X_w35 := Keep.mk (X_w34.out.ne (eXA_w31.out) h1)
        have A_w35 := Keep.mk (A_w34.out.set h1)
        have B_w35 := Keep.mk (B_w34.out.ne (fun e => eAB_w34.out e.symm) h1)
        generalize w34.setRow r31 h1 = w35 at *
        refine hK _ _ (T_w35.out.bd.c 0 rfl) fun hH_ => ?_
        clear hK hH_
        simp only [Act.put]
        refine wpAnyH_ready (rs := [11]) (by kernel_rfl) (by simp) ?_
        refine AllReadyH.cons (o := ⟨none, Op.store 25 (Operand.tmp 11) (Operand.tmp 36), 0, _, _, none⟩) rfl (fun K hK => ?_) AllReadyH.nil
        rw [if_pos (by rfl)]
        refine wp_store_row 25 (.tmp 11) (.tmp 36) rfl r34 h2 rfl rfl 25 _ B_w35.out.blk (by rw [h2e.out]; exact Try.size25B _) (by rw [h2e.out]; exact bytesA_sizes _ _ _) (by rw [h2e.out]; exact bytesA_one _ _) ?_
        have T_w36 := Keep.mk (T_w35.out.box B_w35.out h2)
        have N_w36 : Keep (TN w (w35.setRow r34 h2) E Ps Q33) := ⟨N_w35.out.box (by exact wB_w34.out) _⟩
        have X_w36 := Keep.mk (X_w35.out.ne (eXB_w34.out) h2)
        have A_w36 := Keep.mk (A_w35.out.ne (eAB_w34.out) h2)
        have B_w36 := Keep.mk (B_w35.out.set h2)
        generalize w35.setRow r34 h2 = w36 at *
        refine hK _ _ (T_w36.out.bd.c 0 rfl) fun hH_ => ?_
        clear hK hH_
        simp only [Act.put]
        refine wpAnyH_done (by kernel_rfl) ?_ _
        refine hK5 _ _ ?_
        exact down_tail B k E b off n cap L ns na nl nc hnv hnl hnlb hn hnb i j q m Ps w hij hjk hjn hq hh hm hmi hmj x1 x2 X1e X2e h1 h2 h1e h2e HT HB r hrw r31 r34 Q33 w36 T_w36.out ⟨Q32, T_w32.out.len, U_w32.out, U_w33.out⟩ Rb_.out X_w36.out A_w36.out B_w36.out ⟨eXA_w31.out, eXB_w34.out, eAB_w34.out⟩ N_w36.out
      · rw [if_pos (by rfl)]
        refine wp_newA 25 rfl _ Try.new25 ?_
        have b_ := below_new w32 (.cells (bytesA 32 fun _ => 0) 25)
        have B_w37 : Keep (Bx _ E Q32 w32.heap.size (bytesA 32 fun _ => 0)) := ⟨Bx.new T_w32.out (bytesA 32 fun _ => 0)⟩
        have T_w37 := Keep.mk (T_w32.out.below b_)
        have N_w37 : Keep (TN w _ E Ps Q32) := ⟨N_w32.out.trans (TN.below b_)⟩
        have X_w37 := Keep.mk (X_w32.out.below b_)
        have eXB_w37 : Keep (r ≠ w32.heap.size) := ⟨by have := X_w32.out.blk.lt; omega⟩
        have A_w37 := Keep.mk (A_w32.out.below b_)
        have eAB_w37 : Keep (r31 ≠ w32.heap.size) := ⟨by have := A_w32.out.blk.lt; omega⟩
        have wB_w37 : Keep (w.heap.size ≤ w32.heap.size) := ⟨N_w32.out.gr.size⟩
        generalize w32.alloc (.cells (bytesA 32 fun _ => 0) 25) = w37 at *
        obtain ⟨r37, hr37⟩ : ∃ z, Keep (z = w32.heap.size) := ⟨_, ⟨rfl⟩⟩
        rw [← hr37.out] at B_w37 wB_w37 eXB_w37 eAB_w37 ⊢
        clear b_ hr37
        refine hK _ _ (T_w37.out.bd.c 0 rfl) fun hH_ => ?_
        clear hK hH_
        simp only [Act.put, List.setIfInBounds_toArray, List.set_cons_zero, List.set_cons_succ]
        refine wpAnyH_ready (rs := [7]) (by kernel_rfl) (by simp) ?_
        refine AllReadyH.cons (o := ⟨some 36, Op.call { callee := Callee.value (Operand.tmp 33), args := #[Operand.tmp 34, Operand.tmp 35], argTypes := #[3, 3] }, 25, _, _, none⟩) rfl (fun K hK => ?_) AllReadyH.nil
        rw [if_pos (by rfl)]
        have hb_ : Below B w w37 := N_w37.out.bel HT.out HB.out
        have hih := IH m j Q32 w37 (by omega) (by omega) (by omega) T_w37.out (HC.out.below hb_) Ra_.out (Nat.le_trans HB.out N_w37.out.gr.size)
        refine wp_callC 48 (.tmp 33) _ _ #[ptr E.pl, ptr E.pd, ptr E.pn, ptr E.pp] rfl rfl Try.in48 #[.int .i64 (m : Int), .int .i64 (j : Int), ptr E.pl, ptr E.pd, ptr E.pn, ptr E.pp] (by simp [Act.eval]) (fun vz wz => vz = .agg h2 ∧ ∃ Ps', TS B wz E ns Ps' ∧ UP k L m j ns Q32 Ps' ∧ TN w37 wz E Q32 Ps') ?_ ?_
        · refine hih.mono ?_
          rintro e wz ⟨rfl, hz⟩
          exact ⟨_, rfl, by rw [h2q.out], hz⟩
        rintro vz w38 ⟨rfl, Q38, k1, k2, k3⟩
        have T_w38 := Keep.mk k1
        have U_w38 := Keep.mk k2
        have N_w38 : Keep (TN w w38 E Ps Q38) := ⟨N_w37.out.trans k3⟩
        have X_w38 := Keep.mk (X_w37.out.next k3)
        have A_w38 := Keep.mk (A_w37.out.next k3)
        have B_w38 := Keep.mk (B_w37.out.next k3)
        clear k1 k2 k3 hih hb_
        refine hK _ _ (T_w38.out.bd.c 0 rfl) fun hH_ => ?_
        clear hK hH_
        simp only [Act.put, List.setIfInBounds_toArray, List.set_cons_zero, List.set_cons_succ]
        have Rb_ : Keep (Rm Q38 1) := ⟨Rm.up (s := 1) (a := m) (b := j) (fun P hP => by have := Ra_.out P hP; omega) U_w38.out T_w32.out T_w38.out (by omega) (by rw [hn.out]; omega) (by omega)⟩
        refine wpAnyH_ready (rs := [10]) (by kernel_rfl) (by simp) ?_
        refine AllReadyH.cons (o := ⟨none, Op.store 25 (Operand.tmp 10) (Operand.tmp 32), 0, _, _, none⟩) rfl (fun K hK => ?_) AllReadyH.nil
        rw [if_pos (by rfl)]
        refine wp_store_row 25 (.tmp 10) (.tmp 32) rfl r31 h1 rfl rfl 25 _ A_w38.out.blk (by rw [h1e.out]; exact Try.size25B _) (by rw [h1e.out]; exact bytesA_sizes _ _ _) (by rw [h1e.out]; exact bytesA_one _ _) ?_
        have T_w39 := Keep.mk (T_w38.out.box A_w38.out h1)
        have N_w39 : Keep (TN w (w38.setRow r31 h1) E Ps Q38) := ⟨N_w38.out.box (by exact wA_w31.out) _⟩
        have X_w39 := Keep.mk (X_w38.out.ne (eXA_w31.out) h1)
        have A_w39 := Keep.mk (A_w38.out.set h1)
        have B_w39 := Keep.mk (B_w38.out.ne (fun e => eAB_w37.out e.symm) h1)
        generalize w38.setRow r31 h1 = w39 at *
        refine hK _ _ (T_w39.out.bd.c 0 rfl) fun hH_ => ?_
        clear hK hH_
        simp only [Act.put]
        refine wpAnyH_ready (rs := [11]) (by kernel_rfl) (by simp) ?_
        refine AllReadyH.cons (o := ⟨none, Op.store 25 (Operand.tmp 11) (Operand.tmp 36), 0, _, _, none⟩) rfl (fun K hK => ?_) AllReadyH.nil
        rw [if_pos (by rfl)]
        refine wp_store_row 25 (.tmp 11) (.tmp 36) rfl r37 h2 rfl rfl 25 _ B_w39.out.blk (by rw [h2e.out]; exact Try.size25B _) (by rw [h2e.out]; exact bytesA_sizes _ _ _) (by rw [h2e.out]; exact bytesA_one _ _) ?_
        have T_w40 := Keep.mk (T_w39.out.box B_w39.out h2)
        have N_w40 : Keep (TN w (w39.setRow r37 h2) E Ps Q38) := ⟨N_w39.out.box (by exact wB_w37.out) _⟩
        have X_w40 := Keep.mk (X_w39.out.ne (eXB_w37.out) h2)
        have A_w40 := Keep.mk (A_w39.out.ne (eAB_w37.out) h2)
        have B_w40 := Keep.mk (B_w39.out.set h2)
        generalize w39.setRow r37 h2 = w40 at *
        refine hK _ _ (T_w40.out.bd.c 0 rfl) fun hH_ => ?_
        clear hK hH_
        simp only [Act.put]
        refine wpAnyH_done (by kernel_rfl) ?_ _
        refine hK5 _ _ ?_
        exact down_tail B k E b off n cap L ns na nl nc hnv hnl hnlb hn hnb i j q m Ps w hij hjk hjn hq hh hm hmi hmj x1 x2 X1e X2e h1 h2 h1e h2e HT HB r hrw r31 r37 Q38 w40 T_w40.out ⟨Q32, T_w32.out.len, U_w32.out, U_w38.out⟩ Rb_.out X_w40.out A_w40.out B_w40.out ⟨eXA_w31.out, eXB_w37.out, eAB_w37.out⟩ N_w40.out
    · rw [if_pos (by rfl)]
      refine wp_newA 25 rfl _ Try.new25 ?_
      have b_ := below_new w31 (.cells (bytesA 32 fun _ => 0) 25)
      have B_w41 : Keep (Bx _ E Ps w31.heap.size (bytesA 32 fun _ => 0)) := ⟨Bx.new T_w31.out (bytesA 32 fun _ => 0)⟩
      have T_w41 := Keep.mk (T_w31.out.below b_)
      have N_w41 : Keep (TN w _ E Ps Ps) := ⟨N_w31.out.trans (TN.below b_)⟩
      have X_w41 := Keep.mk (X_w31.out.below b_)
      have eXB_w41 : Keep (r ≠ w31.heap.size) := ⟨by have := X_w31.out.blk.lt; omega⟩
      have A_w41 := Keep.mk (A_w31.out.below b_)
      have eAB_w41 : Keep (r31 ≠ w31.heap.size) := ⟨by have := A_w31.out.blk.lt; omega⟩
      have wB_w41 : Keep (w.heap.size ≤ w31.heap.size) := ⟨N_w31.out.gr.size⟩
      generalize w31.alloc (.cells (bytesA 32 fun _ => 0) 25) = w41 at *
      obtain ⟨r41, hr41⟩ : ∃ z, Keep (z = w31.heap.size) := ⟨_, ⟨rfl⟩⟩
      rw [← hr41.out] at B_w41 wB_w41 eXB_w41 eAB_w41 ⊢
      clear b_ hr41
      refine hK _ _ (T_w41.out.bd.c 0 rfl) fun hH_ => ?_
      clear hK hH_
      simp only [Act.put, List.setIfInBounds_toArray, List.set_cons_zero, List.set_cons_succ]
      refine wpAnyH_ready (rs := [3]) (by kernel_rfl) (by simp) ?_
      refine AllReadyH.cons (o := ⟨some 32, Op.call { callee := Callee.value (Operand.tmp 29), args := #[Operand.tmp 30, Operand.tmp 31], argTypes := #[3, 3] }, 25, _, _, none⟩) rfl (fun K hK => ?_) AllReadyH.nil
      rw [if_pos (by rfl)]
      have hb_ : Below B w w41 := N_w41.out.bel HT.out HB.out
      have hih := IH i m Ps w41 (by omega) (by omega) (by omega) T_w41.out (HC.out.below hb_) (fun P hP => by have := HR.out P hP; omega) (Nat.le_trans HB.out N_w41.out.gr.size)
      refine wp_callC 48 (.tmp 29) _ _ #[ptr E.pl, ptr E.pd, ptr E.pn, ptr E.pp] rfl rfl Try.in48 #[.int .i64 (i : Int), .int .i64 (m : Int), ptr E.pl, ptr E.pd, ptr E.pn, ptr E.pp] (by simp [Act.eval]) (fun vz wz => vz = .agg h1 ∧ ∃ Ps', TS B wz E ns Ps' ∧ UP k L i m ns Ps Ps' ∧ TN w41 wz E Ps Ps') ?_ ?_
      · refine hih.mono ?_
        rintro e wz ⟨rfl, hz⟩
        exact ⟨_, rfl, by rw [h1q.out], hz⟩
      rintro vz w42 ⟨rfl, Q42, k1, k2, k3⟩
      have T_w42 := Keep.mk k1
      have U_w42 := Keep.mk k2
      have N_w42 : Keep (TN w w42 E Ps Q42) := ⟨N_w41.out.trans k3⟩
      have X_w42 := Keep.mk (X_w41.out.next k3)
      have A_w42 := Keep.mk (A_w41.out.next k3)
      have B_w42 := Keep.mk (B_w41.out.next k3)
      clear k1 k2 k3 hih hb_
      refine hK _ _ (T_w42.out.bd.c 0 rfl) fun hH_ => ?_
      clear hK hH_
      simp only [Act.put, List.setIfInBounds_toArray, List.set_cons_zero, List.set_cons_succ]
      have Ra_ : Keep (Rm Q42 (j - m + 1)) := ⟨Rm.up (s := j - m + 1) (a := i) (b := m) (fun P hP => by have := HR.out P hP; omega) U_w42.out HT.out T_w42.out (by omega) (by rw [hn.out]; omega) (by omega)⟩
      refine wpAnyH_ready (rs := [7]) (by kernel_rfl) (by simp) ?_
      refine AllReadyH.cons (o := ⟨some 36, Op.call { callee := Callee.value (Operand.tmp 33), args := #[Operand.tmp 34, Operand.tmp 35], argTypes := #[3, 3] }, 25, _, _, none⟩) rfl (fun K hK => ?_) AllReadyH.nil
      rw [if_pos (by rfl)]
      have hb_ : Below B w w42 := N_w42.out.bel HT.out HB.out
      have hih := IH m j Q42 w42 (by omega) (by omega) (by omega) T_w42.out (HC.out.below hb_) Ra_.out (Nat.le_trans HB.out N_w42.out.gr.size)
      refine wp_callC 48 (.tmp 33) _ _ #[ptr E.pl, ptr E.pd, ptr E.pn, ptr E.pp] rfl rfl Try.in48 #[.int .i64 (m : Int), .int .i64 (j : Int), ptr E.pl, ptr E.pd, ptr E.pn, ptr E.pp] (by simp [Act.eval]) (fun vz wz => vz = .agg h2 ∧ ∃ Ps', TS B wz E ns Ps' ∧ UP k L m j ns Q42 Ps' ∧ TN w42 wz E Q42 Ps') ?_ ?_
      · refine hih.mono ?_
        rintro e wz ⟨rfl, hz⟩
        exact ⟨_, rfl, by rw [h2q.out], hz⟩
      rintro vz w43 ⟨rfl, Q43, k1, k2, k3⟩
      have T_w43 := Keep.mk k1
      have U_w43 := Keep.mk k2
      have N_w43 : Keep (TN w w43 E Ps Q43) := ⟨N_w42.out.trans k3⟩
      have X_w43 := Keep.mk (X_w42.out.next k3)
      have A_w43 := Keep.mk (A_w42.out.next k3)
      have B_w43 := Keep.mk (B_w42.out.next k3)
      clear k1 k2 k3 hih hb_
      refine hK _ _ (T_w43.out.bd.c 0 rfl) fun hH_ => ?_
      clear hK hH_
      simp only [Act.put, List.setIfInBounds_toArray, List.set_cons_zero, List.set_cons_succ]
      have Rb_ : Keep (Rm Q43 1) := ⟨Rm.up (s := 1) (a := m) (b := j) (fun P hP => by have := Ra_.out P hP; omega) U_w43.out T_w42.out T_w43.out (by omega) (by rw [hn.out]; omega) (by omega)⟩
      refine wpAnyH_ready (rs := [10]) (by kernel_rfl) (by simp) ?_
      refine AllReadyH.cons (o := ⟨none, Op.store 25 (Operand.tmp 10) (Operand.tmp 32), 0, _, _, none⟩) rfl (fun K hK => ?_) AllReadyH.nil
      rw [if_pos (by rfl)]
      refine wp_store_row 25 (.tmp 10) (.tmp 32) rfl r31 h1 rfl rfl 25 _ A_w43.out.blk (by rw [h1e.out]; exact Try.size25B _) (by rw [h1e.out]; exact bytesA_sizes _ _ _) (by rw [h1e.out]; exact bytesA_one _ _) ?_
      have T_w44 := Keep.mk (T_w43.out.box A_w43.out h1)
      have N_w44 : Keep (TN w (w43.setRow r31 h1) E Ps Q43) := ⟨N_w43.out.box (by exact wA_w31.out) _⟩
      have X_w44 := Keep.mk (X_w43.out.ne (eXA_w31.out) h1)
      have A_w44 := Keep.mk (A_w43.out.set h1)
      have B_w44 := Keep.mk (B_w43.out.ne (fun e => eAB_w41.out e.symm) h1)
      generalize w43.setRow r31 h1 = w44 at *
      refine hK _ _ (T_w44.out.bd.c 0 rfl) fun hH_ => ?_
      clear hK hH_
      simp only [Act.put]
      refine wpAnyH_ready (rs := [11]) (by kernel_rfl) (by simp) ?_
      refine AllReadyH.cons (o := ⟨none, Op.store 25 (Operand.tmp 11) (Operand.tmp 36), 0, _, _, none⟩) rfl (fun K hK => ?_) AllReadyH.nil
      rw [if_pos (by rfl)]
      refine wp_store_row 25 (.tmp 11) (.tmp 36) rfl r41 h2 rfl rfl 25 _ B_w44.out.blk (by rw [h2e.out]; exact Try.size25B _) (by rw [h2e.out]; exact bytesA_sizes _ _ _) (by rw [h2e.out]; exact bytesA_one _ _) ?_
      have T_w45 := Keep.mk (T_w44.out.box B_w44.out h2)
      have N_w45 : Keep (TN w (w44.setRow r41 h2) E Ps Q43) := ⟨N_w44.out.box (by exact wB_w41.out) _⟩
      have X_w45 := Keep.mk (X_w44.out.ne (eXB_w41.out) h2)
      have A_w45 := Keep.mk (A_w44.out.ne (eAB_w41.out) h2)
      have B_w45 := Keep.mk (B_w44.out.set h2)
      generalize w44.setRow r41 h2 = w45 at *
      refine hK _ _ (T_w45.out.bd.c 0 rfl) fun hH_ => ?_
      clear hK hH_
      simp only [Act.put]
      refine wpAnyH_done (by kernel_rfl) ?_ _
      refine hK5 _ _ ?_
      exact down_tail B k E b off n cap L ns na nl nc hnv hnl hnlb hn hnb i j q m Ps w hij hjk hjn hq hh hm hmi hmj x1 x2 X1e X2e h1 h2 h1e h2e HT HB r hrw r31 r41 Q43 w45 T_w45.out ⟨Q42, T_w42.out.len, U_w42.out, U_w43.out⟩ Rb_.out X_w45.out A_w45.out B_w45.out ⟨eXA_w31.out, eXB_w41.out, eAB_w41.out⟩ N_w45.out
  · rw [if_pos (by rfl)]
    refine wp_newA 25 rfl _ Try.new25 ?_
    have b_ := below_new w2 (.cells (bytesA 32 fun _ => 0) 25)
    have B_w46 : Keep (Bx _ E Ps w2.heap.size (bytesA 32 fun _ => 0)) := ⟨Bx.new T2.out (bytesA 32 fun _ => 0)⟩
    have T_w46 := Keep.mk (T2.out.below b_)
    have N_w46 : Keep (TN w _ E Ps Ps) := ⟨N2.out.trans (TN.below b_)⟩
    have X_w46 := Keep.mk (X2.out.below b_)
    have eXB_w46 : Keep (r ≠ w2.heap.size) := ⟨by have := X2.out.blk.lt; omega⟩
    have wB_w46 : Keep (w.heap.size ≤ w2.heap.size) := ⟨N2.out.gr.size⟩
    generalize w2.alloc (.cells (bytesA 32 fun _ => 0) 25) = w46 at *
    obtain ⟨r46, hr46⟩ : ∃ z, Keep (z = w2.heap.size) := ⟨_, ⟨rfl⟩⟩
    rw [← hr46.out] at B_w46 wB_w46 eXB_w46 ⊢
    clear b_ hr46
    refine hK _ _ (T_w46.out.bd.c 0 rfl) fun hH_ => ?_
    clear hK hH_
    simp only [Act.put, List.setIfInBounds_toArray, List.set_cons_zero, List.set_cons_succ]
    refine wpAnyH_ready (rs := [3, 8]) (by kernel_rfl) (by simp) ?_
    refine AllReadyH.cons (o := ⟨some 32, Op.call { callee := Callee.value (Operand.tmp 29), args := #[Operand.tmp 30, Operand.tmp 31], argTypes := #[3, 3] }, 25, _, _, none⟩) rfl (fun K hK => ?_) (AllReadyH.cons (o := ⟨some 10, Op.alloc 25, 0, _, _, none⟩) rfl (fun K hK => ?_) AllReadyH.nil)
    · rw [if_pos (by rfl)]
      have hb_ : Below B w w46 := N_w46.out.bel HT.out HB.out
      have hih := IH i m Ps w46 (by omega) (by omega) (by omega) T_w46.out (HC.out.below hb_) (fun P hP => by have := HR.out P hP; omega) (Nat.le_trans HB.out N_w46.out.gr.size)
      refine wp_callC 48 (.tmp 29) _ _ #[ptr E.pl, ptr E.pd, ptr E.pn, ptr E.pp] rfl rfl Try.in48 #[.int .i64 (i : Int), .int .i64 (m : Int), ptr E.pl, ptr E.pd, ptr E.pn, ptr E.pp] (by simp [Act.eval]) (fun vz wz => vz = .agg h1 ∧ ∃ Ps', TS B wz E ns Ps' ∧ UP k L i m ns Ps Ps' ∧ TN w46 wz E Ps Ps') ?_ ?_
      · refine hih.mono ?_
        rintro e wz ⟨rfl, hz⟩
        exact ⟨_, rfl, by rw [h1q.out], hz⟩
      rintro vz w47 ⟨rfl, Q47, k1, k2, k3⟩
      have T_w47 := Keep.mk k1
      have U_w47 := Keep.mk k2
      have N_w47 : Keep (TN w w47 E Ps Q47) := ⟨N_w46.out.trans k3⟩
      have X_w47 := Keep.mk (X_w46.out.next k3)
      have B_w47 := Keep.mk (B_w46.out.next k3)
      clear k1 k2 k3 hih hb_
      refine hK _ _ (T_w47.out.bd.c 0 rfl) fun hH_ => ?_
      clear hK hH_
      simp only [Act.put, List.setIfInBounds_toArray, List.set_cons_zero, List.set_cons_succ]
      have Ra_ : Keep (Rm Q47 (j - m + 1)) := ⟨Rm.up (s := j - m + 1) (a := i) (b := m) (fun P hP => by have := HR.out P hP; omega) U_w47.out HT.out T_w47.out (by omega) (by rw [hn.out]; omega) (by omega)⟩
      refine wpAnyH_ready (rs := [7, 8]) (by kernel_rfl) (by simp) ?_
      refine AllReadyH.cons (o := ⟨some 36, Op.call { callee := Callee.value (Operand.tmp 33), args := #[Operand.tmp 34, Operand.tmp 35], argTypes := #[3, 3] }, 25, _, _, none⟩) rfl (fun K hK => ?_) (AllReadyH.cons (o := ⟨some 10, Op.alloc 25, 0, _, _, none⟩) rfl (fun K hK => ?_) AllReadyH.nil)
      · rw [if_pos (by rfl)]
        have hb_ : Below B w w47 := N_w47.out.bel HT.out HB.out
        have hih := IH m j Q47 w47 (by omega) (by omega) (by omega) T_w47.out (HC.out.below hb_) Ra_.out (Nat.le_trans HB.out N_w47.out.gr.size)
        refine wp_callC 48 (.tmp 33) _ _ #[ptr E.pl, ptr E.pd, ptr E.pn, ptr E.pp] rfl rfl Try.in48 #[.int .i64 (m : Int), .int .i64 (j : Int), ptr E.pl, ptr E.pd, ptr E.pn, ptr E.pp] (by simp [Act.eval]) (fun vz wz => vz = .agg h2 ∧ ∃ Ps', TS B wz E ns Ps' ∧ UP k L m j ns Q47 Ps' ∧ TN w47 wz E Q47 Ps') ?_ ?_
        · refine hih.mono ?_
          rintro e wz ⟨rfl, hz⟩
          exact ⟨_, rfl, by rw [h2q.out], hz⟩
        rintro vz w48 ⟨rfl, Q48, k1, k2, k3⟩
        have T_w48 := Keep.mk k1
        have U_w48 := Keep.mk k2
        have N_w48 : Keep (TN w w48 E Ps Q48) := ⟨N_w47.out.trans k3⟩
        have X_w48 := Keep.mk (X_w47.out.next k3)
        have B_w48 := Keep.mk (B_w47.out.next k3)
        clear k1 k2 k3 hih hb_
        refine hK _ _ (T_w48.out.bd.c 0 rfl) fun hH_ => ?_
        clear hK hH_
        simp only [Act.put, List.setIfInBounds_toArray, List.set_cons_zero, List.set_cons_succ]
        have Rb_ : Keep (Rm Q48 1) := ⟨Rm.up (s := 1) (a := m) (b := j) (fun P hP => by have := Ra_.out P hP; omega) U_w48.out T_w47.out T_w48.out (by omega) (by rw [hn.out]; omega) (by omega)⟩
        refine wpAnyH_ready (rs := [8]) (by kernel_rfl) (by simp) ?_
        refine AllReadyH.cons (o := ⟨some 10, Op.alloc 25, 0, _, _, none⟩) rfl (fun K hK => ?_) AllReadyH.nil
        rw [if_pos (by rfl)]
        refine wp_newA 25 rfl _ Try.new25 ?_
        have b_ := below_new w48 (.cells (bytesA 32 fun _ => 0) 25)
        have A_w49 : Keep (Bx _ E Q48 w48.heap.size (bytesA 32 fun _ => 0)) := ⟨Bx.new T_w48.out (bytesA 32 fun _ => 0)⟩
        have T_w49 := Keep.mk (T_w48.out.below b_)
        have N_w49 : Keep (TN w _ E Ps Q48) := ⟨N_w48.out.trans (TN.below b_)⟩
        have X_w49 := Keep.mk (X_w48.out.below b_)
        have eXA_w49 : Keep (r ≠ w48.heap.size) := ⟨by have := X_w48.out.blk.lt; omega⟩
        have B_w49 := Keep.mk (B_w48.out.below b_)
        have eBA_w49 : Keep (r46 ≠ w48.heap.size) := ⟨by have := B_w48.out.blk.lt; omega⟩
        have wA_w49 : Keep (w.heap.size ≤ w48.heap.size) := ⟨N_w48.out.gr.size⟩
        generalize w48.alloc (.cells (bytesA 32 fun _ => 0) 25) = w49 at *
        obtain ⟨r49, hr49⟩ : ∃ z, Keep (z = w48.heap.size) := ⟨_, ⟨rfl⟩⟩
        rw [← hr49.out] at A_w49 wA_w49 eXA_w49 eBA_w49 ⊢
        clear b_ hr49
        refine hK _ _ (T_w49.out.bd.c 0 rfl) fun hH_ => ?_
        clear hK hH_
        simp only [Act.put, List.setIfInBounds_toArray, List.set_cons_zero, List.set_cons_succ]
        refine wpAnyH_ready (rs := [10]) (by kernel_rfl) (by simp) ?_
        refine AllReadyH.cons (o := ⟨none, Op.store 25 (Operand.tmp 10) (Operand.tmp 32), 0, _, _, none⟩) rfl (fun K hK => ?_) AllReadyH.nil
        rw [if_pos (by rfl)]
        refine wp_store_row 25 (.tmp 10) (.tmp 32) rfl r49 h1 rfl rfl 25 _ A_w49.out.blk (by rw [h1e.out]; exact Try.size25B _) (by rw [h1e.out]; exact bytesA_sizes _ _ _) (by rw [h1e.out]; exact bytesA_one _ _) ?_
        have T_w50 := Keep.mk (T_w49.out.box A_w49.out h1)
        have N_w50 : Keep (TN w (w49.setRow r49 h1) E Ps Q48) := ⟨N_w49.out.box (by exact wA_w49.out) _⟩
        have X_w50 := Keep.mk (X_w49.out.ne (eXA_w49.out) h1)
        have A_w50 := Keep.mk (A_w49.out.set h1)
        have B_w50 := Keep.mk (B_w49.out.ne (fun e => (fun e => eBA_w49.out e.symm) e.symm) h1)
        generalize w49.setRow r49 h1 = w50 at *
        refine hK _ _ (T_w50.out.bd.c 0 rfl) fun hH_ => ?_
        clear hK hH_
        simp only [Act.put]
        refine wpAnyH_ready (rs := [11]) (by kernel_rfl) (by simp) ?_
        refine AllReadyH.cons (o := ⟨none, Op.store 25 (Operand.tmp 11) (Operand.tmp 36), 0, _, _, none⟩) rfl (fun K hK => ?_) AllReadyH.nil
        rw [if_pos (by rfl)]
        refine wp_store_row 25 (.tmp 11) (.tmp 36) rfl r46 h2 rfl rfl 25 _ B_w50.out.blk (by rw [h2e.out]; exact Try.size25B _) (by rw [h2e.out]; exact bytesA_sizes _ _ _) (by rw [h2e.out]; exact bytesA_one _ _) ?_
        have T_w51 := Keep.mk (T_w50.out.box B_w50.out h2)
        have N_w51 : Keep (TN w (w50.setRow r46 h2) E Ps Q48) := ⟨N_w50.out.box (by exact wB_w46.out) _⟩
        have X_w51 := Keep.mk (X_w50.out.ne (eXB_w46.out) h2)
        have A_w51 := Keep.mk (A_w50.out.ne ((fun e => eBA_w49.out e.symm)) h2)
        have B_w51 := Keep.mk (B_w50.out.set h2)
        generalize w50.setRow r46 h2 = w51 at *
        refine hK _ _ (T_w51.out.bd.c 0 rfl) fun hH_ => ?_
        clear hK hH_
        simp only [Act.put]
        refine wpAnyH_done (by kernel_rfl) ?_ _
        refine hK5 _ _ ?_
        exact down_tail B k E b off n cap L ns na nl nc hnv hnl hnlb hn hnb i j q m Ps w hij hjk hjn hq hh hm hmi hmj x1 x2 X1e X2e h1 h2 h1e h2e HT HB r hrw r49 r46 Q48 w51 T_w51.out ⟨Q47, T_w47.out.len, U_w47.out, U_w48.out⟩ Rb_.out X_w51.out A_w51.out B_w51.out ⟨eXA_w49.out, eXB_w46.out, (fun e => eBA_w49.out e.symm)⟩ N_w51.out
      · rw [if_pos (by rfl)]
        refine wp_newA 25 rfl _ Try.new25 ?_
        have b_ := below_new w47 (.cells (bytesA 32 fun _ => 0) 25)
        have A_w52 : Keep (Bx _ E Q47 w47.heap.size (bytesA 32 fun _ => 0)) := ⟨Bx.new T_w47.out (bytesA 32 fun _ => 0)⟩
        have T_w52 := Keep.mk (T_w47.out.below b_)
        have N_w52 : Keep (TN w _ E Ps Q47) := ⟨N_w47.out.trans (TN.below b_)⟩
        have X_w52 := Keep.mk (X_w47.out.below b_)
        have eXA_w52 : Keep (r ≠ w47.heap.size) := ⟨by have := X_w47.out.blk.lt; omega⟩
        have B_w52 := Keep.mk (B_w47.out.below b_)
        have eBA_w52 : Keep (r46 ≠ w47.heap.size) := ⟨by have := B_w47.out.blk.lt; omega⟩
        have wA_w52 : Keep (w.heap.size ≤ w47.heap.size) := ⟨N_w47.out.gr.size⟩
        generalize w47.alloc (.cells (bytesA 32 fun _ => 0) 25) = w52 at *
        obtain ⟨r52, hr52⟩ : ∃ z, Keep (z = w47.heap.size) := ⟨_, ⟨rfl⟩⟩
        rw [← hr52.out] at A_w52 wA_w52 eXA_w52 eBA_w52 ⊢
        clear b_ hr52
        refine hK _ _ (T_w52.out.bd.c 0 rfl) fun hH_ => ?_
        clear hK hH_
        simp only [Act.put, List.setIfInBounds_toArray, List.set_cons_zero, List.set_cons_succ]
        refine wpAnyH_ready (rs := [7]) (by kernel_rfl) (by simp) ?_
        refine AllReadyH.cons (o := ⟨some 36, Op.call { callee := Callee.value (Operand.tmp 33), args := #[Operand.tmp 34, Operand.tmp 35], argTypes := #[3, 3] }, 25, _, _, none⟩) rfl (fun K hK => ?_) AllReadyH.nil
        rw [if_pos (by rfl)]
        have hb_ : Below B w w52 := N_w52.out.bel HT.out HB.out
        have hih := IH m j Q47 w52 (by omega) (by omega) (by omega) T_w52.out (HC.out.below hb_) Ra_.out (Nat.le_trans HB.out N_w52.out.gr.size)
        refine wp_callC 48 (.tmp 33) _ _ #[ptr E.pl, ptr E.pd, ptr E.pn, ptr E.pp] rfl rfl Try.in48 #[.int .i64 (m : Int), .int .i64 (j : Int), ptr E.pl, ptr E.pd, ptr E.pn, ptr E.pp] (by simp [Act.eval]) (fun vz wz => vz = .agg h2 ∧ ∃ Ps', TS B wz E ns Ps' ∧ UP k L m j ns Q47 Ps' ∧ TN w52 wz E Q47 Ps') ?_ ?_
        · refine hih.mono ?_
          rintro e wz ⟨rfl, hz⟩
          exact ⟨_, rfl, by rw [h2q.out], hz⟩
        rintro vz w53 ⟨rfl, Q53, k1, k2, k3⟩
        have T_w53 := Keep.mk k1
        have U_w53 := Keep.mk k2
        have N_w53 : Keep (TN w w53 E Ps Q53) := ⟨N_w52.out.trans k3⟩
        have X_w53 := Keep.mk (X_w52.out.next k3)
        have A_w53 := Keep.mk (A_w52.out.next k3)
        have B_w53 := Keep.mk (B_w52.out.next k3)
        clear k1 k2 k3 hih hb_
        refine hK _ _ (T_w53.out.bd.c 0 rfl) fun hH_ => ?_
        clear hK hH_
        simp only [Act.put, List.setIfInBounds_toArray, List.set_cons_zero, List.set_cons_succ]
        have Rb_ : Keep (Rm Q53 1) := ⟨Rm.up (s := 1) (a := m) (b := j) (fun P hP => by have := Ra_.out P hP; omega) U_w53.out T_w47.out T_w53.out (by omega) (by rw [hn.out]; omega) (by omega)⟩
        refine wpAnyH_ready (rs := [10]) (by kernel_rfl) (by simp) ?_
        refine AllReadyH.cons (o := ⟨none, Op.store 25 (Operand.tmp 10) (Operand.tmp 32), 0, _, _, none⟩) rfl (fun K hK => ?_) AllReadyH.nil
        rw [if_pos (by rfl)]
        refine wp_store_row 25 (.tmp 10) (.tmp 32) rfl r52 h1 rfl rfl 25 _ A_w53.out.blk (by rw [h1e.out]; exact Try.size25B _) (by rw [h1e.out]; exact bytesA_sizes _ _ _) (by rw [h1e.out]; exact bytesA_one _ _) ?_
        have T_w54 := Keep.mk (T_w53.out.box A_w53.out h1)
        have N_w54 : Keep (TN w (w53.setRow r52 h1) E Ps Q53) := ⟨N_w53.out.box (by exact wA_w52.out) _⟩
        have X_w54 := Keep.mk (X_w53.out.ne (eXA_w52.out) h1)
        have A_w54 := Keep.mk (A_w53.out.set h1)
        have B_w54 := Keep.mk (B_w53.out.ne (fun e => (fun e => eBA_w52.out e.symm) e.symm) h1)
        generalize w53.setRow r52 h1 = w54 at *
        refine hK _ _ (T_w54.out.bd.c 0 rfl) fun hH_ => ?_
        clear hK hH_
        simp only [Act.put]
        refine wpAnyH_ready (rs := [11]) (by kernel_rfl) (by simp) ?_
        refine AllReadyH.cons (o := ⟨none, Op.store 25 (Operand.tmp 11) (Operand.tmp 36), 0, _, _, none⟩) rfl (fun K hK => ?_) AllReadyH.nil
        rw [if_pos (by rfl)]
        refine wp_store_row 25 (.tmp 11) (.tmp 36) rfl r46 h2 rfl rfl 25 _ B_w54.out.blk (by rw [h2e.out]; exact Try.size25B _) (by rw [h2e.out]; exact bytesA_sizes _ _ _) (by rw [h2e.out]; exact bytesA_one _ _) ?_
        have T_w55 := Keep.mk (T_w54.out.box B_w54.out h2)
        have N_w55 : Keep (TN w (w54.setRow r46 h2) E Ps Q53) := ⟨N_w54.out.box (by exact wB_w46.out) _⟩
        have X_w55 := Keep.mk (X_w54.out.ne (eXB_w46.out) h2)
        have A_w55 := Keep.mk (A_w54.out.ne ((fun e => eBA_w52.out e.symm)) h2)
        have B_w55 := Keep.mk (B_w54.out.set h2)
        generalize w54.setRow r46 h2 = w55 at *
        refine hK _ _ (T_w55.out.bd.c 0 rfl) fun hH_ => ?_
        clear hK hH_
        simp only [Act.put]
        refine wpAnyH_done (by kernel_rfl) ?_ _
        refine hK5 _ _ ?_
        exact down_tail B k E b off n cap L ns na nl nc hnv hnl hnlb hn hnb i j q m Ps w hij hjk hjn hq hh hm hmi hmj x1 x2 X1e X2e h1 h2 h1e h2e HT HB r hrw r52 r46 Q53 w55 T_w55.out ⟨Q47, T_w47.out.len, U_w47.out, U_w53.out⟩ Rb_.out X_w55.out A_w55.out B_w55.out ⟨eXA_w52.out, eXB_w46.out, (fun e => eBA_w52.out e.symm)⟩ N_w55.out
    · rw [if_pos (by rfl)]
      refine wp_newA 25 rfl _ Try.new25 ?_
      have b_ := below_new w46 (.cells (bytesA 32 fun _ => 0) 25)
      have A_w56 : Keep (Bx _ E Ps w46.heap.size (bytesA 32 fun _ => 0)) := ⟨Bx.new T_w46.out (bytesA 32 fun _ => 0)⟩
      have T_w56 := Keep.mk (T_w46.out.below b_)
      have N_w56 : Keep (TN w _ E Ps Ps) := ⟨N_w46.out.trans (TN.below b_)⟩
      have X_w56 := Keep.mk (X_w46.out.below b_)
      have eXA_w56 : Keep (r ≠ w46.heap.size) := ⟨by have := X_w46.out.blk.lt; omega⟩
      have B_w56 := Keep.mk (B_w46.out.below b_)
      have eBA_w56 : Keep (r46 ≠ w46.heap.size) := ⟨by have := B_w46.out.blk.lt; omega⟩
      have wA_w56 : Keep (w.heap.size ≤ w46.heap.size) := ⟨N_w46.out.gr.size⟩
      generalize w46.alloc (.cells (bytesA 32 fun _ => 0) 25) = w56 at *
      obtain ⟨r56, hr56⟩ : ∃ z, Keep (z = w46.heap.size) := ⟨_, ⟨rfl⟩⟩
      rw [← hr56.out] at A_w56 wA_w56 eXA_w56 eBA_w56 ⊢
      clear b_ hr56
      refine hK _ _ (T_w56.out.bd.c 0 rfl) fun hH_ => ?_
      clear hK hH_
      simp only [Act.put, List.setIfInBounds_toArray, List.set_cons_zero, List.set_cons_succ]
      refine wpAnyH_ready (rs := [3]) (by kernel_rfl) (by simp) ?_
      refine AllReadyH.cons (o := ⟨some 32, Op.call { callee := Callee.value (Operand.tmp 29), args := #[Operand.tmp 30, Operand.tmp 31], argTypes := #[3, 3] }, 25, _, _, none⟩) rfl (fun K hK => ?_) AllReadyH.nil
      rw [if_pos (by rfl)]
      have hb_ : Below B w w56 := N_w56.out.bel HT.out HB.out
      have hih := IH i m Ps w56 (by omega) (by omega) (by omega) T_w56.out (HC.out.below hb_) (fun P hP => by have := HR.out P hP; omega) (Nat.le_trans HB.out N_w56.out.gr.size)
      refine wp_callC 48 (.tmp 29) _ _ #[ptr E.pl, ptr E.pd, ptr E.pn, ptr E.pp] rfl rfl Try.in48 #[.int .i64 (i : Int), .int .i64 (m : Int), ptr E.pl, ptr E.pd, ptr E.pn, ptr E.pp] (by simp [Act.eval]) (fun vz wz => vz = .agg h1 ∧ ∃ Ps', TS B wz E ns Ps' ∧ UP k L i m ns Ps Ps' ∧ TN w56 wz E Ps Ps') ?_ ?_
      · refine hih.mono ?_
        rintro e wz ⟨rfl, hz⟩
        exact ⟨_, rfl, by rw [h1q.out], hz⟩
      rintro vz w57 ⟨rfl, Q57, k1, k2, k3⟩
      have T_w57 := Keep.mk k1
      have U_w57 := Keep.mk k2
      have N_w57 : Keep (TN w w57 E Ps Q57) := ⟨N_w56.out.trans k3⟩
      have X_w57 := Keep.mk (X_w56.out.next k3)
      have A_w57 := Keep.mk (A_w56.out.next k3)
      have B_w57 := Keep.mk (B_w56.out.next k3)
      clear k1 k2 k3 hih hb_
      refine hK _ _ (T_w57.out.bd.c 0 rfl) fun hH_ => ?_
      clear hK hH_
      simp only [Act.put, List.setIfInBounds_toArray, List.set_cons_zero, List.set_cons_succ]
      have Ra_ : Keep (Rm Q57 (j - m + 1)) := ⟨Rm.up (s := j - m + 1) (a := i) (b := m) (fun P hP => by have := HR.out P hP; omega) U_w57.out HT.out T_w57.out (by omega) (by rw [hn.out]; omega) (by omega)⟩
      refine wpAnyH_ready (rs := [7]) (by kernel_rfl) (by simp) ?_
      refine AllReadyH.cons (o := ⟨some 36, Op.call { callee := Callee.value (Operand.tmp 33), args := #[Operand.tmp 34, Operand.tmp 35], argTypes := #[3, 3] }, 25, _, _, none⟩) rfl (fun K hK => ?_) AllReadyH.nil
      rw [if_pos (by rfl)]
      have hb_ : Below B w w57 := N_w57.out.bel HT.out HB.out
      have hih := IH m j Q57 w57 (by omega) (by omega) (by omega) T_w57.out (HC.out.below hb_) Ra_.out (Nat.le_trans HB.out N_w57.out.gr.size)
      refine wp_callC 48 (.tmp 33) _ _ #[ptr E.pl, ptr E.pd, ptr E.pn, ptr E.pp] rfl rfl Try.in48 #[.int .i64 (m : Int), .int .i64 (j : Int), ptr E.pl, ptr E.pd, ptr E.pn, ptr E.pp] (by simp [Act.eval]) (fun vz wz => vz = .agg h2 ∧ ∃ Ps', TS B wz E ns Ps' ∧ UP k L m j ns Q57 Ps' ∧ TN w57 wz E Q57 Ps') ?_ ?_
      · refine hih.mono ?_
        rintro e wz ⟨rfl, hz⟩
        exact ⟨_, rfl, by rw [h2q.out], hz⟩
      rintro vz w58 ⟨rfl, Q58, k1, k2, k3⟩
      have T_w58 := Keep.mk k1
      have U_w58 := Keep.mk k2
      have N_w58 : Keep (TN w w58 E Ps Q58) := ⟨N_w57.out.trans k3⟩
      have X_w58 := Keep.mk (X_w57.out.next k3)
      have A_w58 := Keep.mk (A_w57.out.next k3)
      have B_w58 := Keep.mk (B_w57.out.next k3)
      clear k1 k2 k3 hih hb_
      refine hK _ _ (T_w58.out.bd.c 0 rfl) fun hH_ => ?_
      clear hK hH_
      simp only [Act.put, List.setIfInBounds_toArray, List.set_cons_zero, List.set_cons_succ]
      have Rb_ : Keep (Rm Q58 1) := ⟨Rm.up (s := 1) (a := m) (b := j) (fun P hP => by have := Ra_.out P hP; omega) U_w58.out T_w57.out T_w58.out (by omega) (by rw [hn.out]; omega) (by omega)⟩
      refine wpAnyH_ready (rs := [10]) (by kernel_rfl) (by simp) ?_
      refine AllReadyH.cons (o := ⟨none, Op.store 25 (Operand.tmp 10) (Operand.tmp 32), 0, _, _, none⟩) rfl (fun K hK => ?_) AllReadyH.nil
      rw [if_pos (by rfl)]
      refine wp_store_row 25 (.tmp 10) (.tmp 32) rfl r56 h1 rfl rfl 25 _ A_w58.out.blk (by rw [h1e.out]; exact Try.size25B _) (by rw [h1e.out]; exact bytesA_sizes _ _ _) (by rw [h1e.out]; exact bytesA_one _ _) ?_
      have T_w59 := Keep.mk (T_w58.out.box A_w58.out h1)
      have N_w59 : Keep (TN w (w58.setRow r56 h1) E Ps Q58) := ⟨N_w58.out.box (by exact wA_w56.out) _⟩
      have X_w59 := Keep.mk (X_w58.out.ne (eXA_w56.out) h1)
      have A_w59 := Keep.mk (A_w58.out.set h1)
      have B_w59 := Keep.mk (B_w58.out.ne (fun e => (fun e => eBA_w56.out e.symm) e.symm) h1)
      generalize w58.setRow r56 h1 = w59 at *
      refine hK _ _ (T_w59.out.bd.c 0 rfl) fun hH_ => ?_
      clear hK hH_
      simp only [Act.put]
      refine wpAnyH_ready (rs := [11]) (by kernel_rfl) (by simp) ?_
      refine AllReadyH.cons (o := ⟨none, Op.store 25 (Operand.tmp 11) (Operand.tmp 36), 0, _, _, none⟩) rfl (fun K hK => ?_) AllReadyH.nil
      rw [if_pos (by rfl)]
      refine wp_store_row 25 (.tmp 11) (.tmp 36) rfl r46 h2 rfl rfl 25 _ B_w59.out.blk (by rw [h2e.out]; exact Try.size25B _) (by rw [h2e.out]; exact bytesA_sizes _ _ _) (by rw [h2e.out]; exact bytesA_one _ _) ?_
      have T_w60 := Keep.mk (T_w59.out.box B_w59.out h2)
      have N_w60 : Keep (TN w (w59.setRow r46 h2) E Ps Q58) := ⟨N_w59.out.box (by exact wB_w46.out) _⟩
      have X_w60 := Keep.mk (X_w59.out.ne (eXB_w46.out) h2)
      have A_w60 := Keep.mk (A_w59.out.ne ((fun e => eBA_w56.out e.symm)) h2)
      have B_w60 := Keep.mk (B_w59.out.set h2)
      generalize w59.setRow r46 h2 = w60 at *
      refine hK _ _ (T_w60.out.bd.c 0 rfl) fun hH_ => ?_
      clear hK hH_
      simp only [Act.put]
      refine wpAnyH_done (by kernel_rfl) ?_ _
      refine hK5 _ _ ?_
      exact down_tail B k E b off n cap L ns na nl nc hnv hnl hnlb hn hnb i j q m Ps w hij hjk hjn hq hh hm hmi hmj x1 x2 X1e X2e h1 h2 h1e h2e HT HB r hrw r56 r46 Q58 w60 T_w60.out ⟨Q57, T_w57.out.len, U_w57.out, U_w58.out⟩ Rb_.out X_w60.out A_w60.out B_w60.out ⟨eXA_w56.out, eXB_w46.out, (fun e => eBA_w56.out e.symm)⟩ N_w60.out
theorem down_any (B : Nat) (E : TE) (b off n cap : Nat) (L : List CV) (ns : List Nat) (na : Option Addr) (nl nc : Nat) (hlv : E.lv = .slice (some ⟨b, off, none⟩) n cap) (hnv : E.nv = .slice na nl nc) (hnl : ns.length = nl) (hnlb : nl ≤ 3600000000000) (hn : L.length = n) (hnb : n ≤ 3600000000000) (hF : Fit L) : ∀ (k i j : Nat) (Ps : List PX) (w : World), i < j → j - i ≤ k → j ≤ n → TS B w E ns Ps → CsAt B w b off L → Rm Ps (j - i + 1) → B ≤ w.heap.size → Calls Try.prog 48 #[.int .i64 (i : Int), .int .i64 (j : Int), ptr E.pl, ptr E.pd, ptr E.pn, ptr E.pp] w (DP B k E L ns Ps i j w)
  | 0, i, j, Ps, w, h1, h2, _, _, _, _, _ => by omega
  | k + 1, i, j, Ps, w, h1, h2, h3, hT, hC, hR, hB => by
    by_cases h : i + 2 ≤ j
    · exact down_step B k E b off n cap L ns na nl nc ⟨hnv⟩ ⟨hnl⟩ ⟨hnlb⟩ ⟨hn⟩ hnb (Nat.le_refl _) (down_any B E b off n cap L ns na nl nc hlv hnv hnl hnlb hn hnb hF k) i j Ps w h h2 h3 hT hC hR hB
    · obtain rfl : j = i + 1 := by omega
      obtain ⟨c, hc⟩ : ∃ c, L[i]? = some c := ⟨L[i]'(by omega), List.getElem?_eq_getElem _⟩
      exact down_one B k E b off n cap L ns Ps i c w ⟨hlv⟩ ⟨hc⟩ (by omega) hnb hT hC hF hB
theorem ptree_any (b off n cap : Nat) (L : List CV) (ns : List Nat) (nv : Value) (w : World) (hn : L.length = n) (hn1 : 1 ≤ n) (hnb : n ≤ 3600000000000) (hnl : ns.length ≤ 3600000000000) (hF : Fit L) (hC : CsAt w.heap.size w b off L) (hNs : NsV w nv ns) :
    Calls Try.prog 26 #[.slice (some ⟨b, off, none⟩) n cap, nv] w fun e w' => ∃ (gp : Nat) (Ps : List PX), e = .returned (.tuple #[.agg (bytesA 32 (hof (treeL n L))), .slice (some ⟨gp, 0, none⟩) ns.length ns.length]) ∧ TR w.heap.size w' gp L ns Ps ∧ Below w.heap.size w w' := by
  obtain ⟨na, nc, rfl⟩ : ∃ na nc, nv = .slice na ns.length nc := by
    rcases hNs with ⟨a, c, e, rfl⟩ | ⟨g, c, e, _, _⟩
    · exact ⟨a, c, e⟩
    · exact ⟨_, c, e⟩
  exact tree_gen b off n cap L ns na ns.length nc w ⟨rfl⟩ ⟨hnl⟩ ⟨hn⟩ hn1 hnb (fun E i j Ps w' e1 e2 h1 h2 h3 hT hC' hR hB => down_any w.heap.size E b off n cap L ns na _ nc e1 e2 rfl hnl hn hnb hF n i j Ps w' h1 h2 h3 hT hC' hR hB) hC hNs

theorem Try.in10 (w : World) (vs : Array Value) : (callFunc 10 vs).run Try.prog w = .ok (.enter 10 vs) w := by kernel_rfl
set_option maxRecDepth 8000 in
theorem pRoot_bad (la : Option Addr) (n cap : Nat) (L : List CV) (e : Int) (w : World) (hn : Keep (L.length = n)) (hwi : Keep (wrongI L = e)) (he : (e == 0) = false) (he2 : ¬ e = 0) (hC : CsV w.heap.size w (.slice la n cap) L) (hN : n ≤ 3600000000000) : Calls Try.prog 10 #[.slice la n cap] w fun e w' => e = .returned (.tuple #[.agg (bytesA 32 (rootF L)), .int .i64 (wrongI L)]) ∧ Below w.heap.size w w' := by
  have HC := Keep.mk hC
  have HN := Keep.mk hN
  clear hC hN
  go_enter Try.func10, Try.ntmps10
  refine wp_seq_k fun K1 hK1 => ?_
  refine wp_region_list (WL.out ?_)
  refine WL.new (by kernel_rfl) 25 rfl _ Try.new25 ?_
  have R1 := Keep.mk (Blk.new w 25 (bytesA 32 fun _ => 0))
  have b1 := Keep.mk (below_new w (.cells (bytesA 32 fun _ => 0) 25))
  change WL _ _ _ _ _ (w.alloc (.cells (bytesA 32 fun _ => 0) 25))
  generalize w.alloc (.cells (bytesA 32 fun _ => 0) 25) = w1 at *
  obtain ⟨r, hr0⟩ : ∃ z, Keep (z = w.heap.size) := ⟨_, ⟨rfl⟩⟩
  rw [← hr0.out] at R1 ⊢
  have hrw : Keep (w.heap.size ≤ r) := ⟨by rw [hr0.out]; exact Nat.le_refl _⟩
  clear hr0
  simp only [Act.put, List.setIfInBounds_toArray, List.set_cons_zero, List.set_cons_succ]
  refine WL.val (by kernel_rfl) (.int .i64 0) (by go_simp) ?_
  simp only [Act.put, List.setIfInBounds_toArray, List.set_cons_zero, List.set_cons_succ]
  refine WL.nil ?_
  refine hK1 _ _ ?_
  refine wp_seq_k fun K2 hK2 => ?_
  refine wp_seq_k fun K3 hK3 => ?_
  refine wp_region_list (WL.out ?_)
  refine WL.val (by kernel_rfl) (.slice la n cap) (by go_simp) ?_
  simp only [Act.put, List.setIfInBounds_toArray, List.set_cons_zero, List.set_cons_succ]
  refine WL.callF (by kernel_rfl) 24 _ _ rfl Try.in24 #[.slice la n cap] (by simp [Act.eval]) ?_
  refine (maybe_any w.heap.size _ L w1 (HC.out.below b1.out) b1.out.size (by rw [hn.out]; have := HN.out; omega)).mono ?_
  rintro e w2 ⟨rfl, k1⟩
  refine ⟨_, rfl, ?_⟩
  rw [hwi.out]
  have R2 := Keep.mk (R1.out.below k1 R1.out.lt)
  have B2 : Keep (Below w.heap.size w w2) := ⟨b1.out.trans (k1.mono b1.out.size)⟩
  clear k1 R1 b1
  simp only [Act.put, List.setIfInBounds_toArray, List.set_cons_zero, List.set_cons_succ]
  refine WL.val (by kernel_rfl) (.int .i64 e) (by go_simp) ?_
  simp only [Act.put, List.setIfInBounds_toArray, List.set_cons_zero, List.set_cons_succ]
  refine WL.nil ?_
  refine hK3 _ _ ?_
  refine wp_seq_k fun K4 hK4 => ?_
  refine wp_region_list (WL.out ?_)
  refine WL.val (by kernel_rfl) (.int .i64 e) (by go_simp) ?_
  simp only [Act.put, List.setIfInBounds_toArray, List.set_cons_zero, List.set_cons_succ]
  refine WL.val (by kernel_rfl) (.bool true) (by go_simp) ?_
  simp only [Act.put, List.setIfInBounds_toArray, List.set_cons_zero, List.set_cons_succ]
  refine WL.nil ?_
  refine hK4 _ _ ?_
  refine wp_cond_true rfl ?_
  refine wp_seq_k fun K5 hK5 => ?_
  refine wp_region_list (WL.out ?_)
  refine WL.bld (by kernel_rfl) 25 #[] rfl [] (by simp) (bytesA 32 fun _ => 0) bld_hz ?_
  simp only [Act.put, List.setIfInBounds_toArray, List.set_cons_zero, List.set_cons_succ]
  refine WL.val (by kernel_rfl) (.int .i64 e) (by go_simp) ?_
  simp only [Act.put, List.setIfInBounds_toArray, List.set_cons_zero, List.set_cons_succ]
  refine WL.storeR (by kernel_rfl) 25 (.tmp 2) (.tmp 11) rfl r (bytesA 32 fun _ => 0) rfl rfl 25 (bytesA 32 fun _ => 0) R2.out (Try.size25B _) (bytesA_sizes _ _ _) (bytesA_one _ _) ?_
  have R9 := Keep.mk (R2.out.setRow (bytesA 32 fun _ => 0))
  have B9 : Keep (Below w.heap.size w (w2.setRow r (bytesA 32 fun _ => 0))) := ⟨below_setRow B2.out hrw.out _⟩
  generalize w2.setRow r (bytesA 32 fun _ => 0) = w9 at *
  simp only [Act.put]
  refine WL.val (by kernel_rfl) (.int .i64 e) (by go_simp) ?_
  simp only [Act.put, List.setIfInBounds_toArray, List.set_cons_zero, List.set_cons_succ]
  refine WL.nil ?_
  refine hK5 _ _ ?_
  refine wp_ret ?_
  try simp only [Exit.inBlock, Exit.then]
  refine bodyPost_ret (v := .tuple #[.agg (bytesA 32 fun _ => 0), .int .i64 e]) (results_cell_row2 Try.results10 _ _ r 25 _ (0, 0) _ _ rfl rfl R9.out Try.underlying25 rfl (Try.size25B _)) rfl ⟨?_, B9.out⟩
  rw [hwi.out, rootF, hwi.out, if_neg (by simpa using he)]
set_option maxRecDepth 8000 in
theorem pRoot_none (la : Option Addr) (cap : Nat) (w : World) (hC : CsV w.heap.size w (.slice la 0 cap) []) : Calls Try.prog 10 #[.slice la 0 cap] w fun e w' => e = .returned (.tuple #[.agg (bytesA 32 (rootF [])), .int .i64 (wrongI [])]) ∧ Below w.heap.size w w' := by
  have HC := Keep.mk hC
  clear hC
  go_enter Try.func10, Try.ntmps10
  refine wp_seq_k fun K1 hK1 => ?_
  refine wp_region_list (WL.out ?_)
  refine WL.new (by kernel_rfl) 25 rfl _ Try.new25 ?_
  have R1 := Keep.mk (Blk.new w 25 (bytesA 32 fun _ => 0))
  have b1 := Keep.mk (below_new w (.cells (bytesA 32 fun _ => 0) 25))
  change WL _ _ _ _ _ (w.alloc (.cells (bytesA 32 fun _ => 0) 25))
  generalize w.alloc (.cells (bytesA 32 fun _ => 0) 25) = w1 at *
  obtain ⟨r, hr0⟩ : ∃ z, Keep (z = w.heap.size) := ⟨_, ⟨rfl⟩⟩
  rw [← hr0.out] at R1 ⊢
  have hrw : Keep (w.heap.size ≤ r) := ⟨by rw [hr0.out]; exact Nat.le_refl _⟩
  clear hr0
  simp only [Act.put, List.setIfInBounds_toArray, List.set_cons_zero, List.set_cons_succ]
  refine WL.val (by kernel_rfl) (.int .i64 0) (by go_simp) ?_
  simp only [Act.put, List.setIfInBounds_toArray, List.set_cons_zero, List.set_cons_succ]
  refine WL.nil ?_
  refine hK1 _ _ ?_
  refine wp_seq_k fun K2 hK2 => ?_
  refine wp_seq_k fun K3 hK3 => ?_
  refine wp_region_list (WL.out ?_)
  refine WL.val (by kernel_rfl) (.slice la 0 cap) (by go_simp) ?_
  simp only [Act.put, List.setIfInBounds_toArray, List.set_cons_zero, List.set_cons_succ]
  refine WL.callF (by kernel_rfl) 24 _ _ rfl Try.in24 #[.slice la 0 cap] (by simp [Act.eval]) ?_
  refine (maybe_any w.heap.size _ [] w1 (HC.out.below b1.out) b1.out.size (by simp)).mono ?_
  rintro e w2 ⟨rfl, k1⟩
  refine ⟨_, rfl, ?_⟩
  change WL _ _ _ _ (Act.put _ _ (.int .i64 0)) w2
  have R2 := Keep.mk (R1.out.below k1 R1.out.lt)
  have B2 : Keep (Below w.heap.size w w2) := ⟨b1.out.trans (k1.mono b1.out.size)⟩
  clear k1 R1 b1
  simp only [Act.put, List.setIfInBounds_toArray, List.set_cons_zero, List.set_cons_succ]
  refine WL.val (by kernel_rfl) (.int .i64 0) (by go_simp) ?_
  simp only [Act.put, List.setIfInBounds_toArray, List.set_cons_zero, List.set_cons_succ]
  refine WL.nil ?_
  refine hK3 _ _ ?_
  refine wp_seq_k fun K4 hK4 => ?_
  refine wp_region_list (WL.out ?_)
  refine WL.val (by kernel_rfl) (.int .i64 0) (by go_simp) ?_
  simp only [Act.put, List.setIfInBounds_toArray, List.set_cons_zero, List.set_cons_succ]
  refine WL.val (by kernel_rfl) (.bool false) (by go_simp) ?_
  simp only [Act.put, List.setIfInBounds_toArray, List.set_cons_zero, List.set_cons_succ]
  refine WL.nil ?_
  refine hK4 _ _ ?_
  refine wp_cond_false rfl ?_
  refine wp_skip ?_
  refine hK2 _ _ ?_
  refine wp_seq_k fun K5 hK5 => ?_
  refine wp_seq_k fun K6 hK6 => ?_
  refine wp_region_list (WL.out ?_)
  refine WL.val (by kernel_rfl) (.slice la 0 cap) (by go_simp) ?_
  simp only [Act.put, List.setIfInBounds_toArray, List.set_cons_zero, List.set_cons_succ]
  refine WL.val (by kernel_rfl) (.int .i64 0) (by go_simp) ?_
  simp only [Act.put, List.setIfInBounds_toArray, List.set_cons_zero, List.set_cons_succ]
  refine WL.val (by kernel_rfl) (.bool true) (by go_simp) ?_
  simp only [Act.put, List.setIfInBounds_toArray, List.set_cons_zero, List.set_cons_succ]
  refine WL.nil ?_
  refine hK6 _ _ ?_
  refine wp_cond_true rfl ?_
  refine wp_seq_k fun K7 hK7 => ?_
  refine wp_region_list (WL.out ?_)
  refine WL.callF (by kernel_rfl) 25 _ _ rfl Try.in25 #[.int .i64 ((0 : Nat) : Int), .slice none 0 0] (by simp [Act.eval]) ?_
  refine (proot_any 0 (.slice none 0 0) [] [] w2 ⟨rfl, fun j u l h _ => by simp at h, .inl ⟨rfl, rfl⟩⟩ (by simp) (by simp)).mono ?_
  rintro e w8 ⟨rfl, k1⟩
  refine ⟨_, rfl, ?_⟩
  have R8 := Keep.mk (R2.out.below k1 R2.out.lt)
  have B8 : Keep (Below w.heap.size w w8) := ⟨B2.out.trans (k1.mono B2.out.size)⟩
  clear k1
  simp only [Act.put, List.setIfInBounds_toArray, List.set_cons_zero, List.set_cons_succ]
  refine WL.storeR (by kernel_rfl) 25 (.tmp 2) (.tmp 16) rfl r (bytesA 32 (shaP (2 :: (le8 0 ++ [])))) rfl rfl 25 (bytesA 32 fun _ => 0) R8.out (Try.size25B _) (bytesA_sizes _ _ _) (bytesA_one _ _) ?_
  have R9 := Keep.mk (R8.out.setRow (bytesA 32 (shaP (2 :: (le8 0 ++ [])))))
  have B9 : Keep (Below w.heap.size w (w8.setRow r (bytesA 32 (shaP (2 :: (le8 0 ++ [])))))) := ⟨below_setRow B8.out hrw.out _⟩
  generalize w8.setRow r (bytesA 32 (shaP (2 :: (le8 0 ++ [])))) = w9 at *
  simp only [Act.put]
  refine WL.val (by kernel_rfl) (.int .i64 0) (by go_simp) ?_
  simp only [Act.put, List.setIfInBounds_toArray, List.set_cons_zero, List.set_cons_succ]
  refine WL.nil ?_
  refine hK7 _ _ ?_
  refine wp_ret ?_
  try simp only [Exit.inBlock, Exit.then]
  refine bodyPost_ret (v := .tuple #[.agg (bytesA 32 (shaP (2 :: (le8 0 ++ [])))), .int .i64 0]) (results_cell_row2 Try.results10 _ _ r 25 _ (0, 0) _ _ rfl rfl R9.out Try.underlying25 rfl (Try.size25B _)) rfl ⟨?_, B9.out⟩
  rfl
set_option maxRecDepth 8000 in
theorem pRoot_some (b off n cap : Nat) (L : List CV) (w : World) (hn : Keep (L.length = n)) (hn1 : 1 ≤ n) (hwi : Keep (wrongI L = 0)) (hF : Fit L) (hC : CsV w.heap.size w (.slice (some ⟨b, off, none⟩) n cap) L) (hA : CsAt w.heap.size w b off L) (hN : n ≤ 3600000000000) : Calls Try.prog 10 #[.slice (some ⟨b, off, none⟩) n cap] w fun e w' => e = .returned (.tuple #[.agg (bytesA 32 (rootF L)), .int .i64 (wrongI L)]) ∧ Below w.heap.size w w' := by
  have HF := Keep.mk hF
  have HA := Keep.mk hA
  have HTl : Keep ((treeL n L).length = 32) := ⟨treeL_len (by rw [hn.out]; exact hn1) (by rw [hn.out]; exact Nat.le_refl _)⟩
  have hn0 : ((n : Int) == 0) = false := by simp; omega
  have HC := Keep.mk hC
  have HN := Keep.mk hN
  clear hC hN
  clear hF hA
  go_enter Try.func10, Try.ntmps10
  refine wp_seq_k fun K1 hK1 => ?_
  refine wp_region_list (WL.out ?_)
  refine WL.new (by kernel_rfl) 25 rfl _ Try.new25 ?_
  have R1 := Keep.mk (Blk.new w 25 (bytesA 32 fun _ => 0))
  have b1 := Keep.mk (below_new w (.cells (bytesA 32 fun _ => 0) 25))
  change WL _ _ _ _ _ (w.alloc (.cells (bytesA 32 fun _ => 0) 25))
  generalize w.alloc (.cells (bytesA 32 fun _ => 0) 25) = w1 at *
  obtain ⟨r, hr0⟩ : ∃ z, Keep (z = w.heap.size) := ⟨_, ⟨rfl⟩⟩
  rw [← hr0.out] at R1 ⊢
  have hrw : Keep (w.heap.size ≤ r) := ⟨by rw [hr0.out]; exact Nat.le_refl _⟩
  clear hr0
  simp only [Act.put, List.setIfInBounds_toArray, List.set_cons_zero, List.set_cons_succ]
  refine WL.val (by kernel_rfl) (.int .i64 0) (by go_simp) ?_
  simp only [Act.put, List.setIfInBounds_toArray, List.set_cons_zero, List.set_cons_succ]
  refine WL.nil ?_
  refine hK1 _ _ ?_
  refine wp_seq_k fun K2 hK2 => ?_
  refine wp_seq_k fun K3 hK3 => ?_
  refine wp_region_list (WL.out ?_)
  refine WL.val (by kernel_rfl) (.slice (some ⟨b, off, none⟩) n cap) (by go_simp) ?_
  simp only [Act.put, List.setIfInBounds_toArray, List.set_cons_zero, List.set_cons_succ]
  refine WL.callF (by kernel_rfl) 24 _ _ rfl Try.in24 #[.slice (some ⟨b, off, none⟩) n cap] (by simp [Act.eval]) ?_
  refine (maybe_any w.heap.size _ L w1 (HC.out.below b1.out) b1.out.size (by rw [hn.out]; have := HN.out; omega)).mono ?_
  rintro e w2 ⟨rfl, k1⟩
  refine ⟨_, rfl, ?_⟩
  rw [hwi.out]
  have R2 := Keep.mk (R1.out.below k1 R1.out.lt)
  have B2 : Keep (Below w.heap.size w w2) := ⟨b1.out.trans (k1.mono b1.out.size)⟩
  clear k1 R1 b1
  simp only [Act.put, List.setIfInBounds_toArray, List.set_cons_zero, List.set_cons_succ]
  refine WL.val (by kernel_rfl) (.int .i64 0) (by go_simp) ?_
  simp only [Act.put, List.setIfInBounds_toArray, List.set_cons_zero, List.set_cons_succ]
  refine WL.nil ?_
  refine hK3 _ _ ?_
  refine wp_seq_k fun K4 hK4 => ?_
  refine wp_region_list (WL.out ?_)
  refine WL.val (by kernel_rfl) (.int .i64 0) (by go_simp) ?_
  simp only [Act.put, List.setIfInBounds_toArray, List.set_cons_zero, List.set_cons_succ]
  refine WL.val (by kernel_rfl) (.bool false) (by go_simp) ?_
  simp only [Act.put, List.setIfInBounds_toArray, List.set_cons_zero, List.set_cons_succ]
  refine WL.nil ?_
  refine hK4 _ _ ?_
  refine wp_cond_false rfl ?_
  refine wp_skip ?_
  refine hK2 _ _ ?_
  refine wp_seq_k fun K5 hK5 => ?_
  refine wp_seq_k fun K6 hK6 => ?_
  refine wp_region_list (WL.out ?_)
  refine WL.val (by kernel_rfl) (.slice (some ⟨b, off, none⟩) n cap) (by go_simp) ?_
  simp only [Act.put, List.setIfInBounds_toArray, List.set_cons_zero, List.set_cons_succ]
  refine WL.val (by kernel_rfl) (.int .i64 (n : Int)) (by go_simp) ?_
  simp only [Act.put, List.setIfInBounds_toArray, List.set_cons_zero, List.set_cons_succ]
  refine WL.val (by kernel_rfl) (.bool false) (by go_simp) ?_
  simp only [Act.put, List.setIfInBounds_toArray, List.set_cons_zero, List.set_cons_succ]
  refine WL.nil ?_
  refine hK6 _ _ ?_
  refine wp_cond_false rfl ?_
  refine wp_skip ?_
  refine hK5 _ _ ?_
  refine wp_seq_k fun K7 hK7 => ?_
  refine wp_region_list (WL.out ?_)
  refine WL.val (by kernel_rfl) (.slice (some ⟨b, off, none⟩) n cap) (by go_simp) ?_
  simp only [Act.put, List.setIfInBounds_toArray, List.set_cons_zero, List.set_cons_succ]
  refine WL.callF (by kernel_rfl) 26 _ _ rfl Try.in26 #[.slice (some ⟨b, off, none⟩) n cap, .slice none 0 0] (by simp [Act.eval]) ?_
  refine (ptree_any b off n cap L [] (.slice none 0 0) w2 hn.out hn1 HN.out (by simp) HF.out ((HA.out.below B2.out).mono B2.out.size) (.inl ⟨none, 0, rfl, rfl⟩)).mono ?_
  rintro e w3 ⟨gp, Ps, rfl, -, k1⟩
  refine ⟨_, rfl, ?_⟩
  have R3 := Keep.mk (R2.out.below k1 R2.out.lt)
  have B3 : Keep (Below w.heap.size w w3) := ⟨B2.out.trans (k1.mono B2.out.size)⟩
  clear k1 R2 B2
  change WL _ _ _ _ (Act.put _ _ (.tuple #[.agg (bytesA 32 (hof (treeL n L))), .slice (some ⟨gp, 0, none⟩) 0 0])) w3
  simp only [Act.put, List.setIfInBounds_toArray, List.set_cons_zero, List.set_cons_succ]
  refine WL.val (by kernel_rfl) (.tuple #[.agg (bytesA 32 (hof (treeL n L))), .slice (some ⟨gp, 0, none⟩) 0 0]) (by go_simp) ?_
  simp only [Act.put, List.setIfInBounds_toArray, List.set_cons_zero, List.set_cons_succ]
  refine WL.val (by kernel_rfl) (.agg (bytesA 32 (hof (treeL n L)))) (by go_simp) ?_
  simp only [Act.put, List.setIfInBounds_toArray, List.set_cons_zero, List.set_cons_succ]
  refine WL.val (by kernel_rfl) (.slice (some ⟨gp, 0, none⟩) 0 0) (by go_simp) ?_
  simp only [Act.put, List.setIfInBounds_toArray, List.set_cons_zero, List.set_cons_succ]
  refine WL.new (by kernel_rfl) 25 rfl _ Try.new25 ?_
  have D4 := Keep.mk (Blk.new w3 25 (bytesA 32 fun _ => 0))
  have b4 := Keep.mk (below_new w3 (.cells (bytesA 32 fun _ => 0) 25))
  change WL _ _ _ _ _ (w3.alloc (.cells (bytesA 32 fun _ => 0) 25))
  generalize w3.alloc (.cells (bytesA 32 fun _ => 0) 25) = w4 at *
  obtain ⟨d, hd0⟩ : ∃ z, Keep (z = w3.heap.size) := ⟨_, ⟨rfl⟩⟩
  rw [← hd0.out] at D4 ⊢
  have R4 := Keep.mk (R3.out.below b4.out R3.out.lt)
  have B4 : Keep (Below w.heap.size w w4) := ⟨B3.out.trans (b4.out.mono B3.out.size)⟩
  have hrd : Keep (r ≠ d) := ⟨by have := R3.out.lt; have := hd0.out; omega⟩
  have hdw : Keep (w.heap.size ≤ d) := ⟨by rw [hd0.out]; exact B3.out.size⟩
  clear R3 b4 B3 hd0
  simp only [Act.put, List.setIfInBounds_toArray, List.set_cons_zero, List.set_cons_succ]
  refine WL.storeR (by kernel_rfl) 25 (.tmp 5) (.tmp 20) rfl d (bytesA 32 (hof (treeL n L))) rfl rfl 25 (bytesA 32 fun _ => 0) D4.out (Try.size25B _) (bytesA_sizes _ _ _) (bytesA_one _ _) ?_
  have D5 := Keep.mk (D4.out.setRow (bytesA 32 (hof (treeL n L))))
  have R5 := Keep.mk (R4.out.setRow_ne hrd.out (bytesA 32 (hof (treeL n L))))
  have B5 : Keep (Below w.heap.size w (w4.setRow d (bytesA 32 (hof (treeL n L))))) := ⟨below_setRow B4.out hdw.out _⟩
  generalize w4.setRow d (bytesA 32 (hof (treeL n L))) = w5 at *
  simp only [Act.put]
  refine WL.val (by kernel_rfl) (.slice (some ⟨gp, 0, none⟩) 0 0) (by go_simp) ?_
  simp only [Act.put, List.setIfInBounds_toArray, List.set_cons_zero, List.set_cons_succ]
  refine WL.nil ?_
  refine hK7 _ _ ?_
  refine wp_seq_k fun K8 hK8 => ?_
  refine wp_region_list (WL.out ?_)
  refine WL.val (by kernel_rfl) (.slice (some ⟨b, off, none⟩) n cap) (by go_simp) ?_
  simp only [Act.put, List.setIfInBounds_toArray, List.set_cons_zero, List.set_cons_succ]
  refine WL.val (by kernel_rfl) (.int .i64 (n : Int)) (by go_simp) ?_
  simp only [Act.put, List.setIfInBounds_toArray, List.set_cons_zero, List.set_cons_succ]
  refine WL.val (by kernel_rfl) (.slice (some ⟨d, 0, none⟩) 32 32) (by go_simp) ?_
  simp only [Act.put, List.setIfInBounds_toArray, List.set_cons_zero, List.set_cons_succ]
  refine WL.bs (by kernel_rfl) 59 1 _ rfl #[(0, .slice (some ⟨d, 0, none⟩) 32 32)] (by simp [Act.eval]) _ _ (bsRw1 _ _ _ w5) ?_
  have b6 := Keep.mk (below_new w5 (.cells #[.slice (some ⟨d, 0, none⟩) 32 32] 38))
  have Q6 := Keep.mk (Blk.new w5 38 #[.slice (some ⟨d, 0, none⟩) 32 32])
  generalize w5.alloc (.cells #[.slice (some ⟨d, 0, none⟩) 32 32] 38) = w6 at *
  obtain ⟨g2, hg2⟩ : ∃ z, Keep (z = w5.heap.size) := ⟨_, ⟨rfl⟩⟩
  rw [← hg2.out] at Q6 ⊢
  have X6 : Keep (RsV w6 (.slice (some ⟨g2, 0, none⟩) 1 1) [.slice (some ⟨d, 0, none⟩) 32 32] [treeL n L]) := ⟨RsV.one Q6.out (by have h := (row_arr D5.out).below b6.out; rw [hl_hof HTl.out] at h; exact h)⟩
  have R6 := Keep.mk (R5.out.below b6.out R5.out.lt)
  have B6 : Keep (Below w.heap.size w w6) := ⟨B5.out.trans (b6.out.mono B5.out.size)⟩
  clear b6 Q6 R5 B5 hg2
  simp only [Act.put, List.setIfInBounds_toArray, List.set_cons_zero, List.set_cons_succ]
  refine WL.callF (by kernel_rfl) 25 _ _ rfl Try.in25 #[.int .i64 (n : Int), .slice (some ⟨g2, 0, none⟩) 1 1] (by simp [Act.eval]) ?_
  refine (proot_any n _ _ _ w6 X6.out (by simp) (by simp [HTl.out])).mono ?_
  rintro e w8 ⟨rfl, k1⟩
  refine ⟨_, rfl, ?_⟩
  rw [show 2 :: (le8 n ++ [treeL n L].flatten) = 2 :: (le8 n ++ treeL n L) from by simp]
  have R8 := Keep.mk (R6.out.below k1 R6.out.lt)
  have B8 : Keep (Below w.heap.size w w8) := ⟨B6.out.trans (k1.mono B6.out.size)⟩
  clear k1
  simp only [Act.put, List.setIfInBounds_toArray, List.set_cons_zero, List.set_cons_succ]
  refine WL.storeR (by kernel_rfl) 25 (.tmp 2) (.tmp 26) rfl r (bytesA 32 (shaP (2 :: (le8 n ++ treeL n L)))) rfl rfl 25 (bytesA 32 fun _ => 0) R8.out (Try.size25B _) (bytesA_sizes _ _ _) (bytesA_one _ _) ?_
  have R9 := Keep.mk (R8.out.setRow (bytesA 32 (shaP (2 :: (le8 n ++ treeL n L)))))
  have B9 : Keep (Below w.heap.size w (w8.setRow r (bytesA 32 (shaP (2 :: (le8 n ++ treeL n L)))))) := ⟨below_setRow B8.out hrw.out _⟩
  generalize w8.setRow r (bytesA 32 (shaP (2 :: (le8 n ++ treeL n L)))) = w9 at *
  simp only [Act.put]
  refine WL.val (by kernel_rfl) (.int .i64 0) (by go_simp) ?_
  simp only [Act.put, List.setIfInBounds_toArray, List.set_cons_zero, List.set_cons_succ]
  refine WL.nil ?_
  refine hK8 _ _ ?_
  refine wp_ret ?_
  try simp only [Exit.inBlock, Exit.then]
  refine bodyPost_ret (v := .tuple #[.agg (bytesA 32 (shaP (2 :: (le8 n ++ treeL n L)))), .int .i64 0]) (results_cell_row2 Try.results10 _ _ r 25 _ (0, 0) _ _ rfl rfl R9.out Try.underlying25 rfl (Try.size25B _)) rfl ⟨?_, B9.out⟩
  rw [hwi.out, rootF, hwi.out, if_pos rfl, rootL_eq, hn.out]
  unfold RtP.topR
  rw [if_pos (by omega)]
theorem pRoot_any (v : Value) (L : List CV) (w : World) (hC : CsV w.heap.size w v L) (hS : Sml L) (hN : L.length ≤ 3600000000000) : Calls Try.prog 10 #[v] w fun e w' => e = .returned (.tuple #[.agg (bytesA 32 (rootF L)), .int .i64 (wrongI L)]) ∧ Below w.heap.size w w' := by
  have hC0 := hC
  rcases hC with ⟨a, c, rfl, rfl⟩ | ⟨b, off, cap, rfl, h2, h3⟩
  · exact pRoot_none a c w hC0
  · by_cases hW : wrongI L = 0
    · by_cases h1 : 1 ≤ L.length
      · exact pRoot_some b off _ cap L w ⟨rfl⟩ h1 ⟨hW⟩ (fit_of (okK_of hW) hS) hC0 h3 hN
      · have : L = [] := List.eq_nil_of_length_eq_zero (by omega)
        subst this
        exact pRoot_none _ cap w hC0
    · exact pRoot_bad _ _ cap L _ w ⟨rfl⟩ ⟨rfl⟩ (by simpa using hW) hW hC0 hN

end Go.Proofs.Ytjklmkeedhgncaa
namespace Go.Proofs.Ytjklmkeedhgncaa
open Go.RowKit



theorem run_equal_arr (c : Nat → Int) (w : World) : (Op.equalIn 10000 25 (.agg (bytesA 32 c)) (.agg (bytesA 32 c))).run Try.prog w = .ok true w := by
  obtain ⟨i, hi, _⟩ := Option.map_eq_some_iff.1 Try.size5
  rw [run_equalIn_array (P := Try.prog) w 9999 _ _ Try.underlying25 hi, Try.cells5]
  exact run_items c 9998 w _ (fun j hj => List.mem_range.1 hj)

end Go.Proofs.Ytjklmkeedhgncaa
namespace Go.Proofs.Ytjklmkeedhgncaa
open Go.RowKit
set_option linter.unusedSimpArgs false
set_option linter.unusedVariables false
theorem Try.in22 (w : World) (vs : Array Value) : (callFunc 22 vs).run Try.prog w = .ok (.enter 22 vs) w := by kernel_rfl
theorem Try.in9 (w : World) (vs : Array Value) : (callFunc 9 vs).run Try.prog w = .ok (.enter 9 vs) w := by kernel_rfl
set_option maxRecDepth 8000 in
theorem psha_any (vx : Value) (l : List Int) (w : World) (hx : RowAt w vx l) (hl : l.length ≤ 1125899906842624) :
    Calls Try.prog 22 #[vx] w fun e w' => e = .returned (.agg (bytesA 32 (shaP l))) ∧ Below w.heap.size w w' := by
  obtain ⟨va, vc, rfl⟩ := row_form hx
  have HX := Keep.mk hx
  have HL := Keep.mk hl
  clear hx hl
  go_enter Try.func22, Try.ntmps22
  refine wp_seq_k fun K1 hK1 => ?_
  refine wp_region_list (WL.out ?_)
  refine WL.new (by kernel_rfl) 25 rfl _ Try.new25 ?_
  have R1 := Keep.mk (Blk.new w 25 (bytesA 32 fun _ => 0))
  have b1 := Keep.mk (below_new w (.cells (bytesA 32 fun _ => 0) 25))
  change WL _ _ _ _ _ (w.alloc (.cells (bytesA 32 fun _ => 0) 25))
  generalize w.alloc (.cells (bytesA 32 fun _ => 0) 25) = w1 at *
  obtain ⟨r, hr0⟩ : ∃ z, Keep (z = w.heap.size) := ⟨_, ⟨rfl⟩⟩
  rw [← hr0.out] at R1 ⊢
  have hrw : Keep (w.heap.size ≤ r) := ⟨by rw [hr0.out]; exact Nat.le_refl _⟩
  have Y1 := Keep.mk (HX.out.below b1.out)
  simp only [Act.put, List.setIfInBounds_toArray, List.set_cons_zero, List.set_cons_succ]
  refine WL.nil ?_
  refine hK1 _ _ ?_
  refine wp_seq_k fun K2 hK2 => ?_
  refine wp_region_list (WL.out ?_)
  refine WL.val (by kernel_rfl) (.slice va l.length vc) (by go_simp) ?_
  simp only [Act.put, List.setIfInBounds_toArray, List.set_cons_zero, List.set_cons_succ]
  refine WL.bs (by kernel_rfl) 59 1 _ rfl #[(0, .slice va l.length vc)] (by simp [Act.eval]) _ _ (bsRw1 _ _ _ w1) ?_
  have O3 : Keep ((w1.alloc (.cells #[.slice va l.length vc] 38)).ownsRow w1.heap.size 38 1 (.slice (some ⟨w1.heap.size, 0, none⟩) 1 1) 1 [.slice va l.length vc]) := ⟨rfl, .inr ⟨w1.heap.size, 1, _, rfl, Nat.le_refl _, Blk.new w1 38 _, Nat.le_refl _, by decide, rfl, rfl⟩⟩
  have b3 := Keep.mk (below_new w1 (.cells #[.slice va l.length vc] 38))
  generalize w1.alloc (.cells #[.slice va l.length vc] 38) = w3 at *
  obtain ⟨g2, hg2⟩ : ∃ z, Keep (z = w1.heap.size) := ⟨_, ⟨rfl⟩⟩
  rw [← hg2.out] at O3 ⊢
  have R3 := Keep.mk (R1.out.below b3.out R1.out.lt)
  have Y3 := Keep.mk (Y1.out.below b3.out)
  have B3 : Keep (Below w.heap.size w w3) := ⟨b1.out.trans (b3.out.mono b1.out.size)⟩
  clear R1 Y1 b3 b1
  simp only [Act.put, List.setIfInBounds_toArray, List.set_cons_zero, List.set_cons_succ]
  have hall := all_any g2 _ [.slice va l.length vc] [l] w3 O3.out (by simp) rfl (fun j u m hu hm => by
    cases j with
    | zero => simp at hu hm; subst hu hm; exact Y3.out
    | succ j => simp at hu) (by simp) (by simpa using HL.out)
  rw [show [l].flatten = l from by simp] at hall
  refine WL.callF (by kernel_rfl) 41 _ _ rfl Try.in41 #[.slice (some ⟨g2, 0, none⟩) 1 1] (by simp [Act.eval]) ?_
  refine hall.mono ?_
  rintro e w8 ⟨rfl, k1⟩
  refine ⟨_, rfl, ?_⟩
  have R8 := Keep.mk (R3.out.below k1 R3.out.lt)
  have B8 : Keep (Below w.heap.size w w8) := ⟨B3.out.trans (k1.mono B3.out.size)⟩
  clear hall k1
  simp only [Act.put, List.setIfInBounds_toArray, List.set_cons_zero, List.set_cons_succ]
  refine WL.storeR (by kernel_rfl) 25 (.tmp 2) (.tmp 5) rfl r (bytesA 32 (shaP l)) rfl rfl 25 (bytesA 32 fun _ => 0) R8.out (Try.size25B _) (bytesA_sizes _ _ _) (bytesA_one _ _) ?_
  have R9 := Keep.mk (R8.out.setRow (bytesA 32 (shaP l)))
  have B9 : Keep (Below w.heap.size w (w8.setRow r (bytesA 32 (shaP l)))) := ⟨below_setRow B8.out hrw.out _⟩
  generalize w8.setRow r (bytesA 32 (shaP l)) = w9 at *
  simp only [Act.put]
  refine WL.nil ?_
  refine hK2 _ _ ?_
  refine wp_ret ?_
  try simp only [Exit.inBlock, Exit.then]
  refine bodyPost_ret (v := .agg (bytesA 32 (shaP l))) (results_cell_row Try.results22 _ _ r 25 _ (0, 0) _ rfl R9.out Try.underlying25 rfl (Try.size25B _)) rfl ⟨rfl, B9.out⟩
def cB : CV := ⟨1, ⟨#[98]⟩, .slice none 0 0, []⟩
def cA : CV := ⟨1, ⟨#[97]⟩, .slice none 0 0, []⟩
theorem wrongBA : wrongI [cB, cA] = 130 := by decide +kernel
def z9 : List Int := [2, 0, 0, 0, 0, 0, 0, 0, 0]
theorem z9_eq : 2 :: (le8 0 ++ []) = z9 := by decide +kernel
theorem bs9 (w : World) : (Instr.buildSlice 38 9 #[(0, .int .u8 2), (1, .int .u8 0), (2, .int .u8 0), (3, .int .u8 0), (4, .int .u8 0), (5, .int .u8 0), (6, .int .u8 0), (7, .int .u8 0), (8, .int .u8 0)]).run Try.prog w = .ok (.slice (some ⟨w.heap.size, 0, none⟩) 9 9) (w.alloc (.cells (bv z9).toArray 5)) := by kernel_rfl
theorem bldB : Try.prog.built 40 [(0, .int .i64 1), (1, .string ⟨#[98]⟩)] = some (cvL cB).toArray := by kernel_rfl
theorem bldA : Try.prog.built 40 [(0, .int .i64 1), (1, .string ⟨#[97]⟩)] = some (cvL cA).toArray := by kernel_rfl
theorem bsBA (w : World) : (Instr.buildSlice 23 2 #[(0, .agg (cvL cB).toArray), (1, .agg (cvL cA).toArray)]).run Try.prog w = .ok (.slice (some ⟨w.heap.size, 0, none⟩) 2 2) (w.alloc (.cells (cvL cB ++ cvL cA).toArray 40)) := by kernel_rfl
theorem csBA {w : World} {g B : Nat} (h : Blk w g 40 (cvL cB ++ cvL cA).toArray) (hg : g < B) : CsV B w (.slice (some ⟨g, 0, none⟩) 2 2) [cB, cA] := by
  refine .inr ⟨g, 0, 2, rfl, Nat.le_refl _, hg, fun i c hc => ?_, fun c hc => ?_⟩
  · intro j v hv
    rw [h.cell]
    match i with
    | 0 =>
      simp at hc; subst hc
      have hj := (List.getElem?_eq_some_iff.1 hv).1
      rw [List.getElem?_toArray, show 0 + 0 * 3 + j = j by omega, List.getElem?_append_left hj]; exact hv
    | 1 =>
      simp at hc; subst hc
      rw [List.getElem?_toArray, List.getElem?_append_right (by simp [cvL])]
      simpa [cvL, show 0 + 1 * 3 + j - 3 = j by omega] using hv
    | i + 2 => simp at hc
  · simp at hc
    rcases hc with rfl | rfl <;> exact ⟨.inl ⟨rfl, rfl⟩, fun _ k hk => by simp [cB, cA, Value.ownBlock] at hk⟩
theorem smlBA : Sml [cB, cA] := fun c hc => by
  simp at hc
  rcases hc with rfl | rfl <;> decide
theorem eqA {x : Array Value} {c : Nat → Int} (h : x = bytesA 32 c) (w : World) : (Op.equalIn 10000 25 (.agg x) (.agg x)).run Try.prog w = .ok true w := by rw [h]; exact run_equal_arr c w
set_option maxRecDepth 8000 in
theorem fixed_any (w : World) : Calls Try.prog 9 #[] w fun e w' => e = .returned (.bool true) ∧ Below w.heap.size w w' := by
  obtain ⟨hh, hhe⟩ : ∃ z : Array Value, Keep (z = bytesA 32 (shaP z9)) := ⟨_, ⟨rfl⟩⟩
  obtain ⟨ho, hoe⟩ : ∃ z : Array Value, Keep (z = (bytesA 32 fun _ => 0)) := ⟨_, ⟨rfl⟩⟩
  go_enter Try.func9, Try.ntmps9
  refine wp_seq_k fun K1 hK1 => ?_
  refine wp_region_list (WL.out ?_)
  refine WL.val (by kernel_rfl) (.bool false) (by go_simp) ?_
  simp only [Act.put, List.setIfInBounds_toArray, List.set_cons_zero, List.set_cons_succ]
  refine WL.nil ?_
  refine hK1 _ _ ?_
  refine wp_seq_k fun K2 hK2 => ?_
  refine wp_region_list (WL.out ?_)
  refine WL.callF (by kernel_rfl) 10 _ _ rfl Try.in10 #[.slice none 0 0] (by simp [Act.eval]) ?_
  refine (pRoot_any (.slice none 0 0) [] w (.inl ⟨_, _, rfl, rfl⟩) (fun c hc => by simp at hc) (by simp)).mono ?_
  rintro e w1 ⟨rfl, k1⟩
  refine ⟨_, rfl, ?_⟩
  change WL _ _ _ _ (Act.put _ _ (.tuple #[.agg (bytesA 32 (shaP (2 :: (le8 0 ++ [])))), .int .i64 0])) w1
  rw [z9_eq, ← hhe.out]
  have B1 := Keep.mk k1
  clear k1
  simp only [Act.put, List.setIfInBounds_toArray, List.set_cons_zero, List.set_cons_succ]
  refine WL.val (by kernel_rfl) (.tuple #[.agg hh, .int .i64 0]) (by go_simp) ?_
  simp only [Act.put, List.setIfInBounds_toArray, List.set_cons_zero, List.set_cons_succ]
  refine WL.val (by kernel_rfl) (.agg hh) (by go_simp) ?_
  simp only [Act.put, List.setIfInBounds_toArray, List.set_cons_zero, List.set_cons_succ]
  refine WL.val (by kernel_rfl) (.int .i64 0) (by go_simp) ?_
  simp only [Act.put, List.setIfInBounds_toArray, List.set_cons_zero, List.set_cons_succ]
  refine WL.new (by kernel_rfl) 25 rfl _ Try.new25 ?_
  have D2 := Keep.mk (Blk.new w1 25 (bytesA 32 fun _ => 0))
  have b_ := below_new w1 (.cells (bytesA 32 fun _ => 0) 25)
  change WL _ _ _ _ _ (w1.alloc (.cells (bytesA 32 fun _ => 0) 25))
  generalize w1.alloc (.cells (bytesA 32 fun _ => 0) 25) = w2 at *
  obtain ⟨d, hd⟩ : ∃ z, Keep (z = w1.heap.size) := ⟨_, ⟨rfl⟩⟩
  rw [← hd.out] at D2 ⊢
  have B2 : Keep (Below w.heap.size w w2) := ⟨B1.out.trans (b_.mono B1.out.size)⟩
  have gd : Keep (w.heap.size ≤ d) := ⟨by rw [hd.out]; exact B1.out.size⟩
  clear b_
  simp only [Act.put, List.setIfInBounds_toArray, List.set_cons_zero, List.set_cons_succ]
  refine WL.storeR (by kernel_rfl) 25 (.tmp 1) (.tmp 7) rfl d hh rfl rfl 25 (bytesA 32 fun _ => 0) D2.out (by rw [hhe.out]; exact Try.size25B _) (by simp [hhe.out, bytesA_size]) (by rw [hhe.out]; exact bytesA_one _ _) ?_
  have D3 := Keep.mk (D2.out.setRow hh)
  have B3 : Keep (Below w.heap.size w (w2.setRow d hh)) := ⟨below_setRow B2.out gd.out _⟩
  generalize w2.setRow d hh = w3 at *
  simp only [Act.put]
  refine WL.val (by kernel_rfl) (.int .i64 0) (by go_simp) ?_
  simp only [Act.put, List.setIfInBounds_toArray, List.set_cons_zero, List.set_cons_succ]
  refine WL.nil ?_
  refine hK2 _ _ ?_
  refine wp_seq_k fun K3 hK3 => ?_
  refine wp_region_list (WL.out ?_)
  refine WL.bld (by kernel_rfl) 40 _ rfl [(0, .int .i64 1), (1, .string ⟨#[98]⟩)] (by simp [Act.eval]) _ bldB ?_
  simp only [Act.put, List.setIfInBounds_toArray, List.set_cons_zero, List.set_cons_succ]
  refine WL.bld (by kernel_rfl) 40 _ rfl [(0, .int .i64 1), (1, .string ⟨#[97]⟩)] (by simp [Act.eval]) _ bldA ?_
  simp only [Act.put, List.setIfInBounds_toArray, List.set_cons_zero, List.set_cons_succ]
  refine WL.bs (by kernel_rfl) 23 2 _ rfl #[(0, .agg (cvL cB).toArray), (1, .agg (cvL cA).toArray)] (by simp [Act.eval]) _ _ (bsBA w3) ?_
  have b_ := below_new w3 (.cells (cvL cB ++ cvL cA).toArray 40)
  have Q4 := Keep.mk (Blk.new w3 40 (cvL cB ++ cvL cA).toArray)
  generalize w3.alloc (.cells (cvL cB ++ cvL cA).toArray 40) = w4 at *
  obtain ⟨g, hg⟩ : ∃ z, Keep (z = w3.heap.size) := ⟨_, ⟨rfl⟩⟩
  rw [← hg.out] at Q4 ⊢
  have D4 := Keep.mk (D3.out.below b_ D3.out.lt)
  have B4 : Keep (Below w.heap.size w w4) := ⟨B3.out.trans (b_.mono B3.out.size)⟩
  clear b_ hg
  simp only [Act.put, List.setIfInBounds_toArray, List.set_cons_zero, List.set_cons_succ]
  have hrt := pRoot_any _ [cB, cA] w4 (csBA Q4.out Q4.out.lt) smlBA (by simp)
  rw [show rootF [cB, cA] = fun _ => 0 from by unfold rootF; rw [wrongBA, if_neg (by decide)], wrongBA, ← hoe.out] at hrt
  refine WL.callF (by kernel_rfl) 10 _ _ rfl Try.in10 #[.slice (some ⟨g, 0, none⟩) 2 2] (by simp [Act.eval]) ?_
  refine (hrt).mono ?_
  rintro e w5 ⟨rfl, k1⟩
  refine ⟨_, rfl, ?_⟩
  have D5 := Keep.mk (D4.out.below k1 D4.out.lt)
  have B5 : Keep (Below w.heap.size w w5) := ⟨B4.out.trans (k1.mono B4.out.size)⟩
  clear k1 hrt Q4 D4 B4
  simp only [Act.put, List.setIfInBounds_toArray, List.set_cons_zero, List.set_cons_succ]
  refine WL.val (by kernel_rfl) (.tuple #[.agg ho, .int .i64 130]) (by go_simp) ?_
  simp only [Act.put, List.setIfInBounds_toArray, List.set_cons_zero, List.set_cons_succ]
  refine WL.val (by kernel_rfl) (.agg ho) (by go_simp) ?_
  simp only [Act.put, List.setIfInBounds_toArray, List.set_cons_zero, List.set_cons_succ]
  refine WL.val (by kernel_rfl) (.int .i64 130) (by go_simp) ?_
  simp only [Act.put, List.setIfInBounds_toArray, List.set_cons_zero, List.set_cons_succ]
  refine WL.new (by kernel_rfl) 25 rfl _ Try.new25 ?_
  have F6 := Keep.mk (Blk.new w5 25 (bytesA 32 fun _ => 0))
  have b_ := below_new w5 (.cells (bytesA 32 fun _ => 0) 25)
  change WL _ _ _ _ _ (w5.alloc (.cells (bytesA 32 fun _ => 0) 25))
  generalize w5.alloc (.cells (bytesA 32 fun _ => 0) 25) = w6 at *
  obtain ⟨f, hf⟩ : ∃ z, Keep (z = w5.heap.size) := ⟨_, ⟨rfl⟩⟩
  rw [← hf.out] at F6 ⊢
  have B6 : Keep (Below w.heap.size w w6) := ⟨B5.out.trans (b_.mono B5.out.size)⟩
  have gf : Keep (w.heap.size ≤ f) := ⟨by rw [hf.out]; exact B5.out.size⟩
  have D6 := Keep.mk (D5.out.below b_ D5.out.lt)
  have nef : Keep (d ≠ f) := ⟨by have := D5.out.lt; have := hf.out; omega⟩
  clear b_
  simp only [Act.put, List.setIfInBounds_toArray, List.set_cons_zero, List.set_cons_succ]
  refine WL.storeR (by kernel_rfl) 25 (.tmp 3) (.tmp 14) rfl f ho rfl rfl 25 (bytesA 32 fun _ => 0) F6.out (by rw [hoe.out]; exact Try.size25B _) (by simp [hoe.out, bytesA_size]) (by rw [hoe.out]; exact bytesA_one _ _) ?_
  have F7 := Keep.mk (F6.out.setRow ho)
  have B7 : Keep (Below w.heap.size w (w6.setRow f ho)) := ⟨below_setRow B6.out gf.out _⟩
  have D7 := Keep.mk (D6.out.setRow_ne nef.out ho)
  generalize w6.setRow f ho = w7 at *
  simp only [Act.put]
  refine WL.val (by kernel_rfl) (.int .i64 130) (by go_simp) ?_
  simp only [Act.put, List.setIfInBounds_toArray, List.set_cons_zero, List.set_cons_succ]
  refine WL.nil ?_
  refine hK3 _ _ ?_
  refine wp_seq_k fun K4 hK4 => ?_
  have Dd : Keep (Blk w7.drew d _ _) := ⟨D7.out⟩
  have Fd : Keep (Blk w7.drew f _ _) := ⟨F7.out⟩
  have Bd : Keep (Below w.heap.size w w7.drew) := ⟨B7.out.drew⟩
  clear D7 F7 B7
  refine wp_region_held_drew (S := fun wx => wx.rangeAt d 0 hh.toList ∧ wx.rangeAt f 0 ho.toList) (by kernel_rfl) (⟨blk_range Dd.out, blk_range Fd.out⟩) (fun hHeld => ?_)
  refine wpAnyH_take (i := 0) (oi := ⟨some 16, Op.move (Operand.tmp 2), 26, _, _, none⟩) (v := .int .i64 0) rfl (by kernel_rfl) (by kernel_rfl) (by kernel_rfl) (fun _ _ _ h => h) (Or.inl ⟨by rfl, fun w hS => by obtain ⟨hS1, hS2⟩ := hS; clear hS1 hS2; go_simp⟩) hHeld ?_
  simp only [Act.put, List.setIfInBounds_toArray, List.set_cons_zero, List.set_cons_succ]
  refine wpAnyH_take (i := 1) (oi := ⟨some 17, Op.binOp BinOp.eql 26 (Operand.tmp 16) (Operand.const (Value.int IntKind.i64 0)) 26, 4, _, _, none⟩) (v := .bool true) rfl (by kernel_rfl) (by kernel_rfl) (by kernel_rfl) (fun _ _ _ h => h) (Or.inl ⟨by rfl, fun w hS => by obtain ⟨hS1, hS2⟩ := hS; clear hS1 hS2; go_simp⟩) hHeld ?_
  simp only [Act.put, List.setIfInBounds_toArray, List.set_cons_zero, List.set_cons_succ]
  refine wpAnyH_take (i := 2) (oi := ⟨some 18, Op.move (Operand.tmp 17), 4, _, _, none⟩) (v := .bool true) rfl (by kernel_rfl) (by kernel_rfl) (by kernel_rfl) (fun _ _ _ h => h) (Or.inl ⟨by rfl, fun w hS => by obtain ⟨hS1, hS2⟩ := hS; clear hS1 hS2; go_simp⟩) hHeld ?_
  simp only [Act.put, List.setIfInBounds_toArray, List.set_cons_zero, List.set_cons_succ]
  refine wpAnyH_take (i := 3) (oi := ⟨some 19, Op.load 25 (Operand.tmp 1), 25, _, _, some (2, true)⟩) (v := .agg hh) rfl (by kernel_rfl) (by kernel_rfl) (by kernel_rfl) (fun _ _ _ h => h) (yieldsIf_ld (by rfl) (Operand.tmp 1) 25 rfl d 0 rfl hh _ Try.underlying25 rfl (by rw [hhe.out]; exact Try.size25B _) fun w hS => hS.1) hHeld ?_
  simp only [Act.put, List.setIfInBounds_toArray, List.set_cons_zero, List.set_cons_succ]
  refine wpAnyH_ready (rs := [4]) (by kernel_rfl) (by simp) ?_
  refine AllReadyH.cons (o := ⟨some 20, Op.buildSlice 38 9 #[(0, Operand.const (Value.int IntKind.u8 2)), (1, Operand.const (Value.int IntKind.u8 0)), (2, Operand.const (Value.int IntKind.u8 0)), (3, Operand.const (Value.int IntKind.u8 0)), (4, Operand.const (Value.int IntKind.u8 0)), (5, Operand.const (Value.int IntKind.u8 0)), (6, Operand.const (Value.int IntKind.u8 0)), (7, Operand.const (Value.int IntKind.u8 0)), (8, Operand.const (Value.int IntKind.u8 0))], 38, _, _, some (2, true)⟩) rfl (fun K hK => ?_) AllReadyH.nil
  rw [if_pos (by rfl)]
  refine wp_bs 38 9 _ rfl #[(0, .int .u8 2), (1, .int .u8 0), (2, .int .u8 0), (3, .int .u8 0), (4, .int .u8 0), (5, .int .u8 0), (6, .int .u8 0), (7, .int .u8 0), (8, .int .u8 0)] (by simp [Act.eval]) _ _ (bs9 _) ?_
  have b_ := below_new w7.drew (.cells (bv z9).toArray 5)
  have Yg8 : Keep (RowAt (w7.drew.alloc (.cells (bv z9).toArray 5)) (.slice (some ⟨w7.drew.heap.size, 0, none⟩) 9 9) z9) := ⟨(own_done w7.drew z9 (by decide)).row⟩
  generalize w7.drew.alloc (.cells (bv z9).toArray 5) = w8 at *
  obtain ⟨g8, hg8⟩ : ∃ z, Keep (z = w7.drew.heap.size) := ⟨_, ⟨rfl⟩⟩
  rw [← hg8.out] at Yg8 ⊢
  have D8 := Keep.mk (Dd.out.below b_ Dd.out.lt)
  have F8 := Keep.mk (Fd.out.below b_ Fd.out.lt)
  have B8 : Keep (Below w.heap.size w w8) := ⟨Bd.out.trans (b_.mono Bd.out.size)⟩
  clear b_ hg8 Dd Fd Bd
  refine hK _ _ ⟨blk_range D8.out, blk_range F8.out⟩ fun hH_ => ?_
  clear hK
  simp only [Act.put, List.setIfInBounds_toArray, List.set_cons_zero, List.set_cons_succ]
  refine wpAnyH_ready (rs := [5]) (by kernel_rfl) (by simp) ?_
  refine AllReadyH.cons (o := ⟨some 21, Op.call { callee := Callee.value (Operand.func 22), args := #[Operand.tmp 20], argTypes := #[38] }, 25, _, _, some (2, true)⟩) rfl (fun K hK => ?_) AllReadyH.nil
  rw [if_pos (by rfl)]
  refine wp_callF 22 _ _ rfl Try.in22 #[.slice (some ⟨g8, 0, none⟩) 9 9] (by simp [Act.eval]) (fun vz wz => vz = .agg hh ∧ Below w8.heap.size w8 wz) ?_ ?_
  · refine (psha_any _ z9 w8 Yg8.out (by decide)).mono ?_
    rintro e wz ⟨rfl, k1⟩
    exact ⟨_, rfl, by rw [hhe.out], k1⟩
  rintro vz w9 ⟨rfl, k1⟩
  have D9 := Keep.mk (D8.out.below k1 D8.out.lt)
  have F9 := Keep.mk (F8.out.below k1 F8.out.lt)
  have B9 : Keep (Below w.heap.size w w9) := ⟨B8.out.trans (k1.mono B8.out.size)⟩
  clear k1 D8 F8 B8 Yg8
  refine hK _ _ (⟨blk_range D9.out, blk_range F9.out⟩) fun hH_ => ?_
  clear hK
  simp only [Act.put, List.setIfInBounds_toArray, List.set_cons_zero, List.set_cons_succ]
  refine wpAnyH_take (i := 6) (oi := ⟨some 22, Op.binOp BinOp.eql 25 (Operand.tmp 19) (Operand.tmp 21) 25, 4, _, _, some (2, true)⟩) (v := .bool true) rfl (by kernel_rfl) (by kernel_rfl) (by kernel_rfl) (fun _ _ _ h => h) (Or.inl ⟨by rfl, fun w hS => by have hq_ := eqA hhe.out w; clear hS; go_simp⟩) hH_ ?_
  simp only [Act.put, List.setIfInBounds_toArray, List.set_cons_zero, List.set_cons_succ]
  refine wpAnyH_take (i := 7) (oi := ⟨some 23, Op.pick (Operand.tmp 18) (Operand.tmp 22) (Operand.const (Value.bool false)), 4, _, _, none⟩) (v := .bool true) rfl (by kernel_rfl) (by kernel_rfl) (by kernel_rfl) (fun _ _ _ h => h) (Or.inl ⟨by rfl, fun w hS => by obtain ⟨hS1, hS2⟩ := hS; clear hS1 hS2; go_simp⟩) hH_ ?_
  simp only [Act.put, List.setIfInBounds_toArray, List.set_cons_zero, List.set_cons_succ]
  refine wpAnyH_take (i := 8) (oi := ⟨some 24, Op.move (Operand.tmp 23), 4, _, _, none⟩) (v := .bool true) rfl (by kernel_rfl) (by kernel_rfl) (by kernel_rfl) (fun _ _ _ h => h) (Or.inl ⟨by rfl, fun w hS => by obtain ⟨hS1, hS2⟩ := hS; clear hS1 hS2; go_simp⟩) hH_ ?_
  simp only [Act.put, List.setIfInBounds_toArray, List.set_cons_zero, List.set_cons_succ]
  refine wpAnyH_take (i := 9) (oi := ⟨some 25, Op.load 25 (Operand.tmp 1), 25, _, _, some (8, true)⟩) (v := .agg hh) rfl (by kernel_rfl) (by kernel_rfl) (by kernel_rfl) (fun _ _ _ h => h) (yieldsIf_ld (by rfl) (Operand.tmp 1) 25 rfl d 0 rfl hh _ Try.underlying25 rfl (by rw [hhe.out]; exact Try.size25B _) fun w hS => hS.1) hH_ ?_
  simp only [Act.put, List.setIfInBounds_toArray, List.set_cons_zero, List.set_cons_succ]
  refine wpAnyH_ready (rs := [10]) (by kernel_rfl) (by simp) ?_
  refine AllReadyH.cons (o := ⟨some 26, Op.buildSlice 38 9 #[(0, Operand.const (Value.int IntKind.u8 2)), (1, Operand.const (Value.int IntKind.u8 0)), (2, Operand.const (Value.int IntKind.u8 0)), (3, Operand.const (Value.int IntKind.u8 0)), (4, Operand.const (Value.int IntKind.u8 0)), (5, Operand.const (Value.int IntKind.u8 0)), (6, Operand.const (Value.int IntKind.u8 0)), (7, Operand.const (Value.int IntKind.u8 0)), (8, Operand.const (Value.int IntKind.u8 0))], 38, _, _, some (8, true)⟩) rfl (fun K hK => ?_) AllReadyH.nil
  rw [if_pos (by rfl)]
  refine wp_bs 38 9 _ rfl #[(0, .int .u8 2), (1, .int .u8 0), (2, .int .u8 0), (3, .int .u8 0), (4, .int .u8 0), (5, .int .u8 0), (6, .int .u8 0), (7, .int .u8 0), (8, .int .u8 0)] (by simp [Act.eval]) _ _ (bs9 _) ?_
  have b_ := below_new w9 (.cells (bv z9).toArray 5)
  have Yga : Keep (RowAt (w9.alloc (.cells (bv z9).toArray 5)) (.slice (some ⟨w9.heap.size, 0, none⟩) 9 9) z9) := ⟨(own_done w9 z9 (by decide)).row⟩
  generalize w9.alloc (.cells (bv z9).toArray 5) = wa at *
  obtain ⟨ga, hga⟩ : ∃ z, Keep (z = w9.heap.size) := ⟨_, ⟨rfl⟩⟩
  rw [← hga.out] at Yga ⊢
  have Da := Keep.mk (D9.out.below b_ D9.out.lt)
  have Fa := Keep.mk (F9.out.below b_ F9.out.lt)
  have Ba : Keep (Below w.heap.size w wa) := ⟨B9.out.trans (b_.mono B9.out.size)⟩
  clear b_ hga D9 F9 B9
  refine hK _ _ ⟨blk_range Da.out, blk_range Fa.out⟩ fun hH_ => ?_
  clear hK
  simp only [Act.put, List.setIfInBounds_toArray, List.set_cons_zero, List.set_cons_succ]
  refine wpAnyH_ready (rs := [11]) (by kernel_rfl) (by simp) ?_
  refine AllReadyH.cons (o := ⟨some 27, Op.call { callee := Callee.value (Operand.func 23), args := #[Operand.tmp 26], argTypes := #[38] }, 25, _, _, some (8, true)⟩) rfl (fun K hK => ?_) AllReadyH.nil
  rw [if_pos (by rfl)]
  refine wp_callF 23 _ _ rfl Try.in23 #[.slice (some ⟨ga, 0, none⟩) 9 9] (by simp [Act.eval]) (fun vz wz => vz = .agg hh ∧ Below wa.heap.size wa wz) ?_ ?_
  · refine (refOf_sha _ z9 wa Yga.out (by decide)).mono ?_
    rintro e wz ⟨rfl, k1⟩
    exact ⟨_, rfl, by rw [hhe.out], k1⟩
  rintro vz wb ⟨rfl, k1⟩
  have Db := Keep.mk (Da.out.below k1 Da.out.lt)
  have Fb := Keep.mk (Fa.out.below k1 Fa.out.lt)
  have Bb : Keep (Below w.heap.size w wb) := ⟨Ba.out.trans (k1.mono Ba.out.size)⟩
  clear k1 Da Fa Ba Yga
  refine hK _ _ (⟨blk_range Db.out, blk_range Fb.out⟩) fun hH_ => ?_
  clear hK
  simp only [Act.put, List.setIfInBounds_toArray, List.set_cons_zero, List.set_cons_succ]
  refine wpAnyH_take (i := 12) (oi := ⟨some 28, Op.binOp BinOp.eql 25 (Operand.tmp 25) (Operand.tmp 27) 25, 4, _, _, some (8, true)⟩) (v := .bool true) rfl (by kernel_rfl) (by kernel_rfl) (by kernel_rfl) (fun _ _ _ h => h) (Or.inl ⟨by rfl, fun w hS => by have hq_ := eqA hhe.out w; clear hS; go_simp⟩) hH_ ?_
  simp only [Act.put, List.setIfInBounds_toArray, List.set_cons_zero, List.set_cons_succ]
  refine wpAnyH_take (i := 13) (oi := ⟨some 29, Op.pick (Operand.tmp 24) (Operand.tmp 28) (Operand.const (Value.bool false)), 4, _, _, none⟩) (v := .bool true) rfl (by kernel_rfl) (by kernel_rfl) (by kernel_rfl) (fun _ _ _ h => h) (Or.inl ⟨by rfl, fun w hS => by obtain ⟨hS1, hS2⟩ := hS; clear hS1 hS2; go_simp⟩) hH_ ?_
  simp only [Act.put, List.setIfInBounds_toArray, List.set_cons_zero, List.set_cons_succ]
  refine wpAnyH_take (i := 14) (oi := ⟨some 30, Op.move (Operand.tmp 29), 4, _, _, none⟩) (v := .bool true) rfl (by kernel_rfl) (by kernel_rfl) (by kernel_rfl) (fun _ _ _ h => h) (Or.inl ⟨by rfl, fun w hS => by obtain ⟨hS1, hS2⟩ := hS; clear hS1 hS2; go_simp⟩) hH_ ?_
  simp only [Act.put, List.setIfInBounds_toArray, List.set_cons_zero, List.set_cons_succ]
  refine wpAnyH_take (i := 15) (oi := ⟨some 31, Op.load 25 (Operand.tmp 3), 25, _, _, some (14, true)⟩) (v := .agg ho) rfl (by kernel_rfl) (by kernel_rfl) (by kernel_rfl) (fun _ _ _ h => h) (yieldsIf_ld (by rfl) (Operand.tmp 3) 25 rfl f 0 rfl ho _ Try.underlying25 rfl (by rw [hoe.out]; exact Try.size25B _) fun w hS => hS.2) hH_ ?_
  simp only [Act.put, List.setIfInBounds_toArray, List.set_cons_zero, List.set_cons_succ]
  refine wpAnyH_ready (rs := [16]) (by kernel_rfl) (by simp) ?_
  refine AllReadyH.cons (o := ⟨some 32, Op.build 25 #[], 25, _, _, some (14, true)⟩) rfl (fun K hK => ?_) AllReadyH.nil
  rw [if_pos (by rfl)]
  refine wp_bldG 25 #[] rfl ho (by rw [hoe.out]; simpa using bld_hz) ?_
  refine hK _ _ ⟨blk_range Db.out, blk_range Fb.out⟩ fun hH_ => ?_
  clear hK
  simp only [Act.put, List.setIfInBounds_toArray, List.set_cons_zero, List.set_cons_succ]
  refine wpAnyH_take (i := 17) (oi := ⟨some 33, Op.binOp BinOp.eql 25 (Operand.tmp 31) (Operand.tmp 32) 25, 4, _, _, some (14, true)⟩) (v := .bool true) rfl (by kernel_rfl) (by kernel_rfl) (by kernel_rfl) (fun _ _ _ h => h) (Or.inl ⟨by rfl, fun w hS => by have hq_ := eqA hoe.out w; clear hS; go_simp⟩) hH_ ?_
  simp only [Act.put, List.setIfInBounds_toArray, List.set_cons_zero, List.set_cons_succ]
  refine wpAnyH_take (i := 18) (oi := ⟨some 34, Op.pick (Operand.tmp 30) (Operand.tmp 33) (Operand.const (Value.bool false)), 4, _, _, none⟩) (v := .bool true) rfl (by kernel_rfl) (by kernel_rfl) (by kernel_rfl) (fun _ _ _ h => h) (Or.inl ⟨by rfl, fun w hS => by obtain ⟨hS1, hS2⟩ := hS; clear hS1 hS2; go_simp⟩) hH_ ?_
  simp only [Act.put, List.setIfInBounds_toArray, List.set_cons_zero, List.set_cons_succ]
  refine wpAnyH_take (i := 19) (oi := ⟨some 0, Op.assign (Operand.tmp 34), 4, _, _, none⟩) (v := .bool true) rfl (by kernel_rfl) (by kernel_rfl) (by kernel_rfl) (fun _ _ _ h => h) (Or.inl ⟨by rfl, fun w hS => by obtain ⟨hS1, hS2⟩ := hS; clear hS1 hS2; go_simp⟩) hH_ ?_
  simp only [Act.put, List.setIfInBounds_toArray, List.set_cons_zero, List.set_cons_succ]
  refine wpAnyH_done (by kernel_rfl) ?_ _
  refine hK4 _ _ ?_
  refine wp_ret ?_
  go_ret
  exact ⟨rfl, Bb.out⟩

end Go.Proofs.Ytjklmkeedhgncaa
