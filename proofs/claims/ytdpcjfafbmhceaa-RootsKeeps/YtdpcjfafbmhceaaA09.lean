import Derived.Test.YtdpcjfafbmhceaaA08
import Derived.Test.YtdpcjfafbmhceaaA03
import Derived.Deep.RegionHeld3
import Derived.ChangeKeysEq
set_option maxRecDepth 8000
set_option maxHeartbeats 2000000
namespace Go.Proofs.Ytdpcjfafbmhceaa
open Go.RowKit
set_option linter.unusedSimpArgs false
set_option linter.unusedVariables false
theorem YQ (B k : Nat) (E : TE) (b off n cap : Nat) (L : List CV) (ns : List Nat) (na : Option Addr) (nl nc : Nat) (hnv : Keep (E.nv = .slice na nl nc)) (hnl : Keep (ns.length = nl)) (hnlb : Keep (nl ≤ 1099511627776)) (hn : Keep (L.length = n)) (hnb : n ≤ 1099511627776) (hB : B ≤ B)
  (IH : ∀ (i j : Nat) (Ps : List PX) (w : World), i < j → j - i ≤ k → j ≤ n → TS B w E ns Ps → CsAt B w b off L → Rm Ps (j - i + 1) → B ≤ w.heap.size → Calls Try.prog 48 #[.int .i64 (i : Int), .int .i64 (j : Int), ptr E.pl, ptr E.pd, ptr E.pn, ptr E.pp] w (DP B k E L ns Ps i j w))
  (i j : Nat) (Ps : List PX) (w : World) (hij : i + 2 ≤ j) (hjk : j - i ≤ k + 1) (hjn : j ≤ n) (hT : TS B w E ns Ps) (hC : CsAt B w b off L) (hR : Rm Ps (j - i + 1)) (hBw : B ≤ w.heap.size) :
  Calls Try.prog 48 #[.int .i64 (i : Int), .int .i64 (j : Int), ptr E.pl, ptr E.pd, ptr E.pn, ptr E.pp] w (DP B (k + 1) E L ns Ps i j w) := by
 obtain ⟨q, hq⟩ : ∃ z, Keep (RtP.half (j - i) = z) := ⟨_, ⟨rfl⟩⟩
 have hh := RtP.half_le (n := j - i) (by omega)
 rw [hq.o] at hh
 obtain ⟨m, hm⟩ : ∃ m, Keep (m = i + q) := ⟨_, ⟨rfl⟩⟩
 have hmi : i < m := by have := hm.o; omega
 have hmj : m < j := by have := hm.o; omega
 obtain ⟨x1, X1e, h1r⟩ : ∃ x : Hs, Keep (hsL x = qx k (sub L i m)) ∧ Keep (qb 32 (hof (qx k (sub L i m))) = qb 32 x.f) := by
  obtain ⟨x, e1, e2⟩ := vC (k := k) (L := sub L i m) (by rw [js (by omega) (by rw [hn.o]; omega)]; omega) (by rw [js (by omega) (by rw [hn.o]; omega)]; omega)
  exact ⟨x, ⟨e1⟩, ⟨by rw [e2, zT]⟩⟩
 obtain ⟨x2, X2e, h2r⟩ : ∃ x : Hs, Keep (hsL x = qx k (sub L m j)) ∧ Keep (qb 32 (hof (qx k (sub L m j))) = qb 32 x.f) := by
  obtain ⟨x, e1, e2⟩ := vC (k := k) (L := sub L m j) (by rw [js (by omega) (by rw [hn.o]; omega)]; omega) (by rw [js (by omega) (by rw [hn.o]; omega)]; omega)
  exact ⟨x, ⟨e1⟩, ⟨by rw [e2, zT]⟩⟩
 obtain ⟨h1, h1e⟩ : ∃ z : Array Value, Keep (z = qb 32 x1.f) := ⟨_, ⟨rfl⟩⟩
 obtain ⟨h2, h2e⟩ : ∃ z : Array Value, Keep (z = qb 32 x2.f) := ⟨_, ⟨rfl⟩⟩
 have h1q : Keep (qb 32 (hof (qx k (sub L i m))) = h1) := ⟨by rw [h1r.o, h1e.o]⟩
 have h2q : Keep (qb 32 (hof (qx k (sub L m j))) = h2) := ⟨by rw [h2r.o, h2e.o]⟩
 have HT := kk hT
 have HC := kk hC
 have HR := kk hR
 have HB := kk hBw
 have hw1 : IntKind.i64.wrap ((j : Int) - (i : Int)) = ((j - i : Nat) : Int) := by rw [IntKind.wrap_i64]; omega
 have hw2 : IntKind.i64.wrap ((i : Int) + (q : Int)) = (m : Int) := by rw [IntKind.wrap_i64]; have := hm.o; omega
 have hj1 : (((j - i : Nat) : Int) == 1) = false := by simp; omega
 have hnlp := hnl
 clear hT hC hR hBw hB
 go_enter Try.func48, Try.ntmps48
 refine wp_seq_k fun K1 hK1 => rgn (zO 32 qm fun r w1 hr0 R1 b1 => ?_)
 have T1 := kk (HT.o.below b1.o)
 have N1 : Keep (TN w w1 E Ps Ps) := ⟨TN.below b1.o⟩
 have X1 : Keep (Bx w1 E Ps r (qb 32 fun _ => 0)) := ⟨R1.o, fun e => by have := HT.o.lt e; have := hr0.o; omega⟩
 have hrw := lh hr0
 clear R1 b1 hr0
 refine WL.nil (hK1 _ _ (wp_seq_k fun K2 hK2 => wp_seq_k fun K3 hK3 => rgn (Vv (.int .i64 (j : Int)) (h:=Vv (.int .i64 (i : Int)) (h:=Vv (.int .i64 ((j - i : Nat) : Int)) (h:=Vf (h:=WL.nil (hK3 _ _ (Cf (h:=wp_skip (hK2 _ _ (wp_seq_k fun K4 hK4 => rgn (Vv (.int .i64 (i : Int)) (h:=Vv (.int .i64 (j : Int)) (h:=Vv (.int .i64 (i : Int)) (h:=?_))))))))))))))))
 refine Vv (.int .i64 ((j - i : Nat) : Int)) (h:=ClS (kn (j - i) w1 (by omega) (by omega)) ?_)
 rintro e w1_ ⟨rfl, hw_⟩
 refine ⟨_, rfl, ?_⟩
 have hw_ := hw_.symm
 subst hw_
 rw [hq.o]
 refine Vv (.int .i64 (m : Int)) (h:=Vv (.int .i64 (m : Int)) (h:=WL.nil (hK4 _ _ (wp_seq_k fun K5 hK5 => ?_))))
 have bq : Keep (Below w1.heap.size w1 w1.drew) := ⟨(Below.refl _ _).drew⟩
 have T2 := kk (T1.o.below bq.o)
 have N2 : Keep (TN w w1.drew E Ps Ps) := ⟨N1.o.trans (TN.below bq.o)⟩
 have X2 := kk (X1.o.below bq.o)
 clear bq T1 N1 X1
 refine wp_region_held_drew (S := fun wx => wx.cell? ⟨E.pd, 0, none⟩ = some E.cl) (by kernel_rfl) (T2.o.bd.c 0 rfl) (fun hH0 => ?_)
 clear hH0
 have hH0 : (fun wx => wx.cell? ⟨E.pd, 0, none⟩ = some E.cl) w1.drew := T2.o.bd.c 0 rfl
 generalize w1.drew = w2 at *
 refine uG 1 ⟨some 30, .move (.tmp 0), 3, _, _, none⟩ (.int .i64 (i : Int)) rfl hH0 ?_
 refine uG 2 ⟨some 31, .move (.tmp 9), 3, _, _, none⟩ (.int .i64 (m : Int)) rfl hH0 ?_
 refine uG 5 ⟨some 34, .move (.tmp 9), 3, _, _, none⟩ (.int .i64 (m : Int)) rfl hH0 ?_
 refine uG 6 ⟨some 35, .move (.tmp 1), 3, _, _, none⟩ (.int .i64 (j : Int)) rfl hH0 ?_
 refine uG 0 ⟨some 29, .load 89 (.tmp 3), 89, _, _, none⟩ E.cl rfl hH0 ?_
 refine uG 4 ⟨some 33, .load 89 (.tmp 3), 89, _, _, none⟩ E.cl rfl hH0 ?_
 refine wpAnyH_ready (rs := [3, 8, 9]) (by kernel_rfl) (by simp) ?_
 refine AllReadyH.cons (o := ⟨some 32, .call { callee := .value (.tmp 29), args := #[.tmp 30, .tmp 31], argTypes := #[3, 3] }, 32, _, _, none⟩) rfl (fun K hK => ?_) (AllReadyH.cons (o := ⟨some 10, .alloc 32, 0, _, _, none⟩) rfl (fun K hK => ?_) (AllReadyH.cons (o := ⟨some 11, .alloc 32, 0, _, _, none⟩) rfl (fun K hK => ?_) AllReadyH.nil))
 ·rw [if_pos (by rfl)]
  have hb_ : Below B w w2 := N2.o.bel HT.o HB.o
  have hih := IH i m Ps w2 (by omega) (by omega) (by omega) T2.o (HC.o.below hb_) (fun P hP => by have := HR.o P hP; omega) (Nat.le_trans HB.o N2.o.gr.size)
  refine qX 48 (.tmp 29) _ _ #[ptr E.pl, ptr E.pd, ptr E.pn, ptr E.pp] rfl rfl zk #[.int .i64 (i : Int), .int .i64 (m : Int), ptr E.pl, ptr E.pd, ptr E.pn, ptr E.pp] (by simp [Act.eval]) (fun vz wz => vz = .agg h1 ∧ ∃ Ps', TS B wz E ns Ps' ∧ UP k L i m ns Ps Ps' ∧ TN w2 wz E Ps Ps') ?_ ?_
  ·refine hih.mono ?_
   rintro e wz ⟨rfl, hz⟩
   exact ⟨_, rfl, by rw [h1q.o], hz⟩
  rintro vz w3 ⟨rfl, Q3, k1, k2, k3⟩
  have T_w3 := kk k1
  have U_w3 := kk k2
  have N_w3 : Keep (TN w w3 E Ps Q3) := ⟨N2.o.trans k3⟩
  have X_w3 := kk (X2.o.next k3)
  clear k1 k2 k3 hih hb_
  refine hK _ _ (T_w3.o.bd.c 0 rfl) fun hH_ => kNx ?_
  clear hK hH_
  have Ra_ : Keep (Rm Q3 (j - m + 1)) := ⟨Rm.up (s := j - m + 1) (a := i) (b := m) (fun P hP => by have := HR.o P hP; omega) U_w3.o HT.o T_w3.o (by omega) (by rw [hn.o]; omega) (by omega)⟩
  refine wpAnyH_ready (rs := [7, 8, 9]) (by kernel_rfl) (by simp) ?_
  refine AllReadyH.cons (o := ⟨some 36, .call { callee := .value (.tmp 33), args := #[.tmp 34, .tmp 35], argTypes := #[3, 3] }, 32, _, _, none⟩) rfl (fun K hK => ?_) (AllReadyH.cons (o := ⟨some 10, .alloc 32, 0, _, _, none⟩) rfl (fun K hK => ?_) (AllReadyH.cons (o := ⟨some 11, .alloc 32, 0, _, _, none⟩) rfl (fun K hK => ?_) AllReadyH.nil))
  ·rw [if_pos (by rfl)]
   have hb_ : Below B w w3 := N_w3.o.bel HT.o HB.o
   have hih := IH m j Q3 w3 (by omega) (by omega) (by omega) T_w3.o (HC.o.below hb_) Ra_.o (Nat.le_trans HB.o N_w3.o.gr.size)
   refine qX 48 (.tmp 33) _ _ #[ptr E.pl, ptr E.pd, ptr E.pn, ptr E.pp] rfl rfl zk #[.int .i64 (m : Int), .int .i64 (j : Int), ptr E.pl, ptr E.pd, ptr E.pn, ptr E.pp] (by simp [Act.eval]) (fun vz wz => vz = .agg h2 ∧ ∃ Ps', TS B wz E ns Ps' ∧ UP k L m j ns Q3 Ps' ∧ TN w3 wz E Q3 Ps') ?_ ?_
   ·refine hih.mono ?_
    rintro e wz ⟨rfl, hz⟩
    exact ⟨_, rfl, by rw [h2q.o], hz⟩
   rintro vz w4 ⟨rfl, Q4, k1, k2, k3⟩
   have T_w4 := kk k1
   have U_w4 := kk k2
   have N_w4 : Keep (TN w w4 E Ps Q4) := ⟨N_w3.o.trans k3⟩
   have X_w4 := kk (X_w3.o.next k3)
   clear k1 k2 k3 hih hb_
   refine hK _ _ (T_w4.o.bd.c 0 rfl) fun hH_ => kNx ?_
   clear hK hH_
   have Rb_ : Keep (Rm Q4 1) := ⟨Rm.up (s := 1) (a := m) (b := j) (fun P hP => by have := Ra_.o P hP; omega) U_w4.o T_w3.o T_w4.o (by omega) (by rw [hn.o]; omega) (by omega)⟩
   refine wpAnyH_ready (rs := [8, 9]) (by kernel_rfl) (by simp) ?_
   refine AllReadyH.cons (o := ⟨some 10, .alloc 32, 0, _, _, none⟩) rfl (fun K hK => ?_) (AllReadyH.cons (o := ⟨some 11, .alloc 32, 0, _, _, none⟩) rfl (fun K hK => ?_) AllReadyH.nil)
   ·rw [if_pos (by rfl)]
    refine qK 32 rfl _ qm ?_
    have b_ := qg w4 (.cells (qb 32 fun _ => 0) 32)
    have A_w5 : Keep (Bx _ E Q4 w4.heap.size (qb 32 fun _ => 0)) := ⟨Bx.new T_w4.o (qb 32 fun _ => 0)⟩
    have T_w5 := kk (T_w4.o.below b_)
    have N_w5 : Keep (TN w _ E Ps Q4) := ⟨N_w4.o.trans (TN.below b_)⟩
    have X_w5 := kk (X_w4.o.below b_)
    have eXA_w5 : Keep (r ≠ w4.heap.size) := ⟨by have := X_w4.o.blk.lt; omega⟩
    have wA_w5 : Keep (w.heap.size ≤ w4.heap.size) := ⟨N_w4.o.gr.size⟩
    generalize w4.alloc (.cells (qb 32 fun _ => 0) 32) = w5 at *
    obtain ⟨r5, hr5⟩ := nm w4
    rw [← hr5.o] at A_w5 wA_w5 eXA_w5 ⊢
    clear b_ hr5
    refine hK _ _ (T_w5.o.bd.c 0 rfl) fun hH_ => kNx ?_
    clear hK hH_
    refine rd1 9 ⟨some 11, .alloc 32, 0, _, _, none⟩ rfl fun K hK => ?_
    refine qK 32 rfl _ qm ?_
    have b_ := qg w5 (.cells (qb 32 fun _ => 0) 32)
    have B_w6 : Keep (Bx _ E Q4 w5.heap.size (qb 32 fun _ => 0)) := ⟨Bx.new T_w5.o (qb 32 fun _ => 0)⟩
    have T_w6 := kk (T_w5.o.below b_)
    have N_w6 : Keep (TN w _ E Ps Q4) := ⟨N_w5.o.trans (TN.below b_)⟩
    have X_w6 := kk (X_w5.o.below b_)
    have eXB_w6 : Keep (r ≠ w5.heap.size) := ⟨by have := X_w5.o.blk.lt; omega⟩
    have A_w6 := kk (A_w5.o.below b_)
    have eAB_w6 : Keep (r5 ≠ w5.heap.size) := ⟨by have := A_w5.o.blk.lt; omega⟩
    have wB_w6 : Keep (w.heap.size ≤ w5.heap.size) := ⟨N_w5.o.gr.size⟩
    generalize w5.alloc (.cells (qb 32 fun _ => 0) 32) = w6 at *
    obtain ⟨r6, hr6⟩ := nm w5
    rw [← hr6.o] at B_w6 wB_w6 eXB_w6 eAB_w6 ⊢
    clear b_ hr6
    refine hK _ _ (T_w6.o.bd.c 0 rfl) fun hH_ => kNx ?_
    clear hK hH_
    refine rd1 10 ⟨none, .store 32 (.tmp 10) (.tmp 32), 0, _, _, none⟩ rfl fun K hK => ?_
    refine wp_store_row 32 (.tmp 10) (.tmp 32) rfl r5 h1 rfl rfl 32 _ A_w6.o.blk (by rw [h1e.o]; exact qd _) (by rw [h1e.o]; exact qh _ _ _) (by rw [h1e.o]; exact qi _ _) ?_
    have T_w7 := kk (T_w6.o.box A_w6.o h1)
    have N_w7 : Keep (TN w (w6.setRow r5 h1) E Ps Q4) := ⟨N_w6.o.box (by exact wA_w5.o) _⟩
    have X_w7 := kk (X_w6.o.ne (eXA_w5.o) h1)
    have A_w7 := kk (A_w6.o.set h1)
    have B_w7 := kk (B_w6.o.ne (fun e => eAB_w6.o e.symm) h1)
    generalize w6.setRow r5 h1 = w7 at *
    refine hK _ _ (T_w7.o.bd.c 0 rfl) fun hH_ => kNx ?_
    clear hK hH_
    refine rd1 11 ⟨none, .store 32 (.tmp 11) (.tmp 36), 0, _, _, none⟩ rfl fun K hK => ?_
    refine wp_store_row 32 (.tmp 11) (.tmp 36) rfl r6 h2 rfl rfl 32 _ B_w7.o.blk (by rw [h2e.o]; exact qd _) (by rw [h2e.o]; exact qh _ _ _) (by rw [h2e.o]; exact qi _ _) ?_
    have T_w8 := kk (T_w7.o.box B_w7.o h2)
    have N_w8 : Keep (TN w (w7.setRow r6 h2) E Ps Q4) := ⟨N_w7.o.box (by exact wB_w6.o) _⟩
    have X_w8 := kk (X_w7.o.ne (eXB_w6.o) h2)
    have A_w8 := kk (A_w7.o.ne (eAB_w6.o) h2)
    have B_w8 := kk (B_w7.o.set h2)
    generalize w7.setRow r6 h2 = w8 at *
    refine hK _ _ (T_w8.o.bd.c 0 rfl) fun hH_ => kNx ?_
    clear hK hH_
    refine wpAnyH_done (by kernel_rfl) ?_ _
    refine hK5 _ _ ?_
    exact zt B k E b off n cap L ns na nl nc hnv hnl hnlb hn hnb i j q m Ps w hij hjk hjn hq hh hm hmi hmj x1 x2 X1e X2e h1 h2 h1e h2e HT HB r hrw r5 r6 Q4 w8 T_w8.o ⟨Q3, T_w3.o.len, U_w3.o, U_w4.o⟩ Rb_.o X_w8.o A_w8.o B_w8.o ⟨eXA_w5.o, eXB_w6.o, eAB_w6.o⟩ N_w8.o
   ·rw [if_pos (by rfl)]
    refine qK 32 rfl _ qm ?_
    have b_ := qg w4 (.cells (qb 32 fun _ => 0) 32)
    have B_w9 : Keep (Bx _ E Q4 w4.heap.size (qb 32 fun _ => 0)) := ⟨Bx.new T_w4.o (qb 32 fun _ => 0)⟩
    have T_w9 := kk (T_w4.o.below b_)
    have N_w9 : Keep (TN w _ E Ps Q4) := ⟨N_w4.o.trans (TN.below b_)⟩
    have X_w9 := kk (X_w4.o.below b_)
    have eXB_w9 : Keep (r ≠ w4.heap.size) := ⟨by have := X_w4.o.blk.lt; omega⟩
    have wB_w9 : Keep (w.heap.size ≤ w4.heap.size) := ⟨N_w4.o.gr.size⟩
    generalize w4.alloc (.cells (qb 32 fun _ => 0) 32) = w9 at *
    obtain ⟨r9, hr9⟩ := nm w4
    rw [← hr9.o] at B_w9 wB_w9 eXB_w9 ⊢
    clear b_ hr9
    refine hK _ _ (T_w9.o.bd.c 0 rfl) fun hH_ => kNx ?_
    clear hK hH_
    refine rd1 8 ⟨some 10, .alloc 32, 0, _, _, none⟩ rfl fun K hK => ?_
    refine qK 32 rfl _ qm ?_
    have b_ := qg w9 (.cells (qb 32 fun _ => 0) 32)
    have A_w10 : Keep (Bx _ E Q4 w9.heap.size (qb 32 fun _ => 0)) := ⟨Bx.new T_w9.o (qb 32 fun _ => 0)⟩
    have T_w10 := kk (T_w9.o.below b_)
    have N_w10 : Keep (TN w _ E Ps Q4) := ⟨N_w9.o.trans (TN.below b_)⟩
    have X_w10 := kk (X_w9.o.below b_)
    have eXA_w10 : Keep (r ≠ w9.heap.size) := ⟨by have := X_w9.o.blk.lt; omega⟩
    have B_w10 := kk (B_w9.o.below b_)
    have eBA_w10 : Keep (r9 ≠ w9.heap.size) := ⟨by have := B_w9.o.blk.lt; omega⟩
    have wA_w10 : Keep (w.heap.size ≤ w9.heap.size) := ⟨N_w9.o.gr.size⟩
    generalize w9.alloc (.cells (qb 32 fun _ => 0) 32) = w10 at *
    obtain ⟨r10, hr10⟩ := nm w9
    rw [← hr10.o] at A_w10 wA_w10 eXA_w10 eBA_w10 ⊢
    clear b_ hr10
    refine hK _ _ (T_w10.o.bd.c 0 rfl) fun hH_ => kNx ?_
    clear hK hH_
    refine rd1 10 ⟨none, .store 32 (.tmp 10) (.tmp 32), 0, _, _, none⟩ rfl fun K hK => ?_
    refine wp_store_row 32 (.tmp 10) (.tmp 32) rfl r10 h1 rfl rfl 32 _ A_w10.o.blk (by rw [h1e.o]; exact qd _) (by rw [h1e.o]; exact qh _ _ _) (by rw [h1e.o]; exact qi _ _) ?_
    have T_w11 := kk (T_w10.o.box A_w10.o h1)
    have N_w11 : Keep (TN w (w10.setRow r10 h1) E Ps Q4) := ⟨N_w10.o.box (by exact wA_w10.o) _⟩
    have X_w11 := kk (X_w10.o.ne (eXA_w10.o) h1)
    have A_w11 := kk (A_w10.o.set h1)
    have B_w11 := kk (B_w10.o.ne (fun e => (fun e => eBA_w10.o e.symm) e.symm) h1)
    generalize w10.setRow r10 h1 = w11 at *
    refine hK _ _ (T_w11.o.bd.c 0 rfl) fun hH_ => kNx ?_
    clear hK hH_
    refine rd1 11 ⟨none, .store 32 (.tmp 11) (.tmp 36), 0, _, _, none⟩ rfl fun K hK => ?_
    refine wp_store_row 32 (.tmp 11) (.tmp 36) rfl r9 h2 rfl rfl 32 _ B_w11.o.blk (by rw [h2e.o]; exact qd _) (by rw [h2e.o]; exact qh _ _ _) (by rw [h2e.o]; exact qi _ _) ?_
    have T_w12 := kk (T_w11.o.box B_w11.o h2)
    have N_w12 : Keep (TN w (w11.setRow r9 h2) E Ps Q4) := ⟨N_w11.o.box (by exact wB_w9.o) _⟩
    have X_w12 := kk (X_w11.o.ne (eXB_w9.o) h2)
    have A_w12 := kk (A_w11.o.ne ((fun e => eBA_w10.o e.symm)) h2)
    have B_w12 := kk (B_w11.o.set h2)
    generalize w11.setRow r9 h2 = w12 at *
    refine hK _ _ (T_w12.o.bd.c 0 rfl) fun hH_ => kNx ?_
    clear hK hH_
    refine wpAnyH_done (by kernel_rfl) ?_ _
    refine hK5 _ _ ?_
    exact zt B k E b off n cap L ns na nl nc hnv hnl hnlb hn hnb i j q m Ps w hij hjk hjn hq hh hm hmi hmj x1 x2 X1e X2e h1 h2 h1e h2e HT HB r hrw r10 r9 Q4 w12 T_w12.o ⟨Q3, T_w3.o.len, U_w3.o, U_w4.o⟩ Rb_.o X_w12.o A_w12.o B_w12.o ⟨eXA_w10.o, eXB_w9.o, (fun e => eBA_w10.o e.symm)⟩ N_w12.o
  ·rw [if_pos (by rfl)]
   refine qK 32 rfl _ qm ?_
   have b_ := qg w3 (.cells (qb 32 fun _ => 0) 32)
   have A_w13 : Keep (Bx _ E Q3 w3.heap.size (qb 32 fun _ => 0)) := ⟨Bx.new T_w3.o (qb 32 fun _ => 0)⟩
   have T_w13 := kk (T_w3.o.below b_)
   have N_w13 : Keep (TN w _ E Ps Q3) := ⟨N_w3.o.trans (TN.below b_)⟩
   have X_w13 := kk (X_w3.o.below b_)
   have eXA_w13 : Keep (r ≠ w3.heap.size) := ⟨by have := X_w3.o.blk.lt; omega⟩
   have wA_w13 : Keep (w.heap.size ≤ w3.heap.size) := ⟨N_w3.o.gr.size⟩
   generalize w3.alloc (.cells (qb 32 fun _ => 0) 32) = w13 at *
   obtain ⟨r13, hr13⟩ := nm w3
   rw [← hr13.o] at A_w13 wA_w13 eXA_w13 ⊢
   clear b_ hr13
   refine hK _ _ (T_w13.o.bd.c 0 rfl) fun hH_ => kNx ?_
   clear hK hH_
   refine wpAnyH_ready (rs := [7, 9]) (by kernel_rfl) (by simp) ?_
   refine AllReadyH.cons (o := ⟨some 36, .call { callee := .value (.tmp 33), args := #[.tmp 34, .tmp 35], argTypes := #[3, 3] }, 32, _, _, none⟩) rfl (fun K hK => ?_) (AllReadyH.cons (o := ⟨some 11, .alloc 32, 0, _, _, none⟩) rfl (fun K hK => ?_) AllReadyH.nil)
   ·rw [if_pos (by rfl)]
    have hb_ : Below B w w13 := N_w13.o.bel HT.o HB.o
    have hih := IH m j Q3 w13 (by omega) (by omega) (by omega) T_w13.o (HC.o.below hb_) Ra_.o (Nat.le_trans HB.o N_w13.o.gr.size)
    refine qX 48 (.tmp 33) _ _ #[ptr E.pl, ptr E.pd, ptr E.pn, ptr E.pp] rfl rfl zk #[.int .i64 (m : Int), .int .i64 (j : Int), ptr E.pl, ptr E.pd, ptr E.pn, ptr E.pp] (by simp [Act.eval]) (fun vz wz => vz = .agg h2 ∧ ∃ Ps', TS B wz E ns Ps' ∧ UP k L m j ns Q3 Ps' ∧ TN w13 wz E Q3 Ps') ?_ ?_
    ·refine hih.mono ?_
     rintro e wz ⟨rfl, hz⟩
     exact ⟨_, rfl, by rw [h2q.o], hz⟩
    rintro vz w14 ⟨rfl, Q14, k1, k2, k3⟩
    have T_w14 := kk k1
    have U_w14 := kk k2
    have N_w14 : Keep (TN w w14 E Ps Q14) := ⟨N_w13.o.trans k3⟩
    have X_w14 := kk (X_w13.o.next k3)
    have A_w14 := kk (A_w13.o.next k3)
    clear k1 k2 k3 hih hb_
    refine hK _ _ (T_w14.o.bd.c 0 rfl) fun hH_ => kNx ?_
    clear hK hH_
    have Rb_ : Keep (Rm Q14 1) := ⟨Rm.up (s := 1) (a := m) (b := j) (fun P hP => by have := Ra_.o P hP; omega) U_w14.o T_w3.o T_w14.o (by omega) (by rw [hn.o]; omega) (by omega)⟩
    refine rd1 9 ⟨some 11, .alloc 32, 0, _, _, none⟩ rfl fun K hK => ?_
    refine qK 32 rfl _ qm ?_
    have b_ := qg w14 (.cells (qb 32 fun _ => 0) 32)
    have B_w15 : Keep (Bx _ E Q14 w14.heap.size (qb 32 fun _ => 0)) := ⟨Bx.new T_w14.o (qb 32 fun _ => 0)⟩
    have T_w15 := kk (T_w14.o.below b_)
    have N_w15 : Keep (TN w _ E Ps Q14) := ⟨N_w14.o.trans (TN.below b_)⟩
    have X_w15 := kk (X_w14.o.below b_)
    have eXB_w15 : Keep (r ≠ w14.heap.size) := ⟨by have := X_w14.o.blk.lt; omega⟩
    have A_w15 := kk (A_w14.o.below b_)
    have eAB_w15 : Keep (r13 ≠ w14.heap.size) := ⟨by have := A_w14.o.blk.lt; omega⟩
    have wB_w15 : Keep (w.heap.size ≤ w14.heap.size) := ⟨N_w14.o.gr.size⟩
    generalize w14.alloc (.cells (qb 32 fun _ => 0) 32) = w15 at *
    obtain ⟨r15, hr15⟩ := nm w14
    rw [← hr15.o] at B_w15 wB_w15 eXB_w15 eAB_w15 ⊢
    clear b_ hr15
    refine hK _ _ (T_w15.o.bd.c 0 rfl) fun hH_ => kNx ?_
    clear hK hH_
    refine rd1 10 ⟨none, .store 32 (.tmp 10) (.tmp 32), 0, _, _, none⟩ rfl fun K hK => ?_
    refine wp_store_row 32 (.tmp 10) (.tmp 32) rfl r13 h1 rfl rfl 32 _ A_w15.o.blk (by rw [h1e.o]; exact qd _) (by rw [h1e.o]; exact qh _ _ _) (by rw [h1e.o]; exact qi _ _) ?_
    have T_w16 := kk (T_w15.o.box A_w15.o h1)
    have N_w16 : Keep (TN w (w15.setRow r13 h1) E Ps Q14) := ⟨N_w15.o.box (by exact wA_w13.o) _⟩
    have X_w16 := kk (X_w15.o.ne (eXA_w13.o) h1)
    have A_w16 := kk (A_w15.o.set h1)
    have B_w16 := kk (B_w15.o.ne (fun e => eAB_w15.o e.symm) h1)
    generalize w15.setRow r13 h1 = w16 at *
    refine hK _ _ (T_w16.o.bd.c 0 rfl) fun hH_ => kNx ?_
    clear hK hH_
    refine rd1 11 ⟨none, .store 32 (.tmp 11) (.tmp 36), 0, _, _, none⟩ rfl fun K hK => ?_
    refine wp_store_row 32 (.tmp 11) (.tmp 36) rfl r15 h2 rfl rfl 32 _ B_w16.o.blk (by rw [h2e.o]; exact qd _) (by rw [h2e.o]; exact qh _ _ _) (by rw [h2e.o]; exact qi _ _) ?_
    have T_w17 := kk (T_w16.o.box B_w16.o h2)
    have N_w17 : Keep (TN w (w16.setRow r15 h2) E Ps Q14) := ⟨N_w16.o.box (by exact wB_w15.o) _⟩
    have X_w17 := kk (X_w16.o.ne (eXB_w15.o) h2)
    have A_w17 := kk (A_w16.o.ne (eAB_w15.o) h2)
    have B_w17 := kk (B_w16.o.set h2)
    generalize w16.setRow r15 h2 = w17 at *
    refine hK _ _ (T_w17.o.bd.c 0 rfl) fun hH_ => kNx ?_
    clear hK hH_
    refine wpAnyH_done (by kernel_rfl) ?_ _
    refine hK5 _ _ ?_
    exact zt B k E b off n cap L ns na nl nc hnv hnl hnlb hn hnb i j q m Ps w hij hjk hjn hq hh hm hmi hmj x1 x2 X1e X2e h1 h2 h1e h2e HT HB r hrw r13 r15 Q14 w17 T_w17.o ⟨Q3, T_w3.o.len, U_w3.o, U_w14.o⟩ Rb_.o X_w17.o A_w17.o B_w17.o ⟨eXA_w13.o, eXB_w15.o, eAB_w15.o⟩ N_w17.o
   ·rw [if_pos (by rfl)]
    refine qK 32 rfl _ qm ?_
    have b_ := qg w13 (.cells (qb 32 fun _ => 0) 32)
    have B_w18 : Keep (Bx _ E Q3 w13.heap.size (qb 32 fun _ => 0)) := ⟨Bx.new T_w13.o (qb 32 fun _ => 0)⟩
    have T_w18 := kk (T_w13.o.below b_)
    have N_w18 : Keep (TN w _ E Ps Q3) := ⟨N_w13.o.trans (TN.below b_)⟩
    have X_w18 := kk (X_w13.o.below b_)
    have eXB_w18 : Keep (r ≠ w13.heap.size) := ⟨by have := X_w13.o.blk.lt; omega⟩
    have A_w18 := kk (A_w13.o.below b_)
    have eAB_w18 : Keep (r13 ≠ w13.heap.size) := ⟨by have := A_w13.o.blk.lt; omega⟩
    have wB_w18 : Keep (w.heap.size ≤ w13.heap.size) := ⟨N_w13.o.gr.size⟩
    generalize w13.alloc (.cells (qb 32 fun _ => 0) 32) = w18 at *
    obtain ⟨r18, hr18⟩ := nm w13
    rw [← hr18.o] at B_w18 wB_w18 eXB_w18 eAB_w18 ⊢
    clear b_ hr18
    refine hK _ _ (T_w18.o.bd.c 0 rfl) fun hH_ => kNx ?_
    clear hK hH_
    refine rd1 7 ⟨some 36, .call { callee := .value (.tmp 33), args := #[.tmp 34, .tmp 35], argTypes := #[3, 3] }, 32, _, _, none⟩ rfl fun K hK => ?_
    have hb_ : Below B w w18 := N_w18.o.bel HT.o HB.o
    have hih := IH m j Q3 w18 (by omega) (by omega) (by omega) T_w18.o (HC.o.below hb_) Ra_.o (Nat.le_trans HB.o N_w18.o.gr.size)
    refine qX 48 (.tmp 33) _ _ #[ptr E.pl, ptr E.pd, ptr E.pn, ptr E.pp] rfl rfl zk #[.int .i64 (m : Int), .int .i64 (j : Int), ptr E.pl, ptr E.pd, ptr E.pn, ptr E.pp] (by simp [Act.eval]) (fun vz wz => vz = .agg h2 ∧ ∃ Ps', TS B wz E ns Ps' ∧ UP k L m j ns Q3 Ps' ∧ TN w18 wz E Q3 Ps') ?_ ?_
    ·refine hih.mono ?_
     rintro e wz ⟨rfl, hz⟩
     exact ⟨_, rfl, by rw [h2q.o], hz⟩
    rintro vz w19 ⟨rfl, Q19, k1, k2, k3⟩
    have T_w19 := kk k1
    have U_w19 := kk k2
    have N_w19 : Keep (TN w w19 E Ps Q19) := ⟨N_w18.o.trans k3⟩
    have X_w19 := kk (X_w18.o.next k3)
    have A_w19 := kk (A_w18.o.next k3)
    have B_w19 := kk (B_w18.o.next k3)
    clear k1 k2 k3 hih hb_
    refine hK _ _ (T_w19.o.bd.c 0 rfl) fun hH_ => kNx ?_
    clear hK hH_
    have Rb_ : Keep (Rm Q19 1) := ⟨Rm.up (s := 1) (a := m) (b := j) (fun P hP => by have := Ra_.o P hP; omega) U_w19.o T_w3.o T_w19.o (by omega) (by rw [hn.o]; omega) (by omega)⟩
    refine rd1 10 ⟨none, .store 32 (.tmp 10) (.tmp 32), 0, _, _, none⟩ rfl fun K hK => ?_
    refine wp_store_row 32 (.tmp 10) (.tmp 32) rfl r13 h1 rfl rfl 32 _ A_w19.o.blk (by rw [h1e.o]; exact qd _) (by rw [h1e.o]; exact qh _ _ _) (by rw [h1e.o]; exact qi _ _) ?_
    have T_w20 := kk (T_w19.o.box A_w19.o h1)
    have N_w20 : Keep (TN w (w19.setRow r13 h1) E Ps Q19) := ⟨N_w19.o.box (by exact wA_w13.o) _⟩
    have X_w20 := kk (X_w19.o.ne (eXA_w13.o) h1)
    have A_w20 := kk (A_w19.o.set h1)
    have B_w20 := kk (B_w19.o.ne (fun e => eAB_w18.o e.symm) h1)
    generalize w19.setRow r13 h1 = w20 at *
    refine hK _ _ (T_w20.o.bd.c 0 rfl) fun hH_ => kNx ?_
    clear hK hH_
    refine rd1 11 ⟨none, .store 32 (.tmp 11) (.tmp 36), 0, _, _, none⟩ rfl fun K hK => ?_
    refine wp_store_row 32 (.tmp 11) (.tmp 36) rfl r18 h2 rfl rfl 32 _ B_w20.o.blk (by rw [h2e.o]; exact qd _) (by rw [h2e.o]; exact qh _ _ _) (by rw [h2e.o]; exact qi _ _) ?_
    have T_w21 := kk (T_w20.o.box B_w20.o h2)
    have N_w21 : Keep (TN w (w20.setRow r18 h2) E Ps Q19) := ⟨N_w20.o.box (by exact wB_w18.o) _⟩
    have X_w21 := kk (X_w20.o.ne (eXB_w18.o) h2)
    have A_w21 := kk (A_w20.o.ne (eAB_w18.o) h2)
    have B_w21 := kk (B_w20.o.set h2)
    generalize w20.setRow r18 h2 = w21 at *
    refine hK _ _ (T_w21.o.bd.c 0 rfl) fun hH_ => kNx ?_
    clear hK hH_
    refine wpAnyH_done (by kernel_rfl) ?_ _
    refine hK5 _ _ ?_
    exact zt B k E b off n cap L ns na nl nc hnv hnl hnlb hn hnb i j q m Ps w hij hjk hjn hq hh hm hmi hmj x1 x2 X1e X2e h1 h2 h1e h2e HT HB r hrw r13 r18 Q19 w21 T_w21.o ⟨Q3, T_w3.o.len, U_w3.o, U_w19.o⟩ Rb_.o X_w21.o A_w21.o B_w21.o ⟨eXA_w13.o, eXB_w18.o, eAB_w18.o⟩ N_w21.o
  ·rw [if_pos (by rfl)]
   refine qK 32 rfl _ qm ?_
   have b_ := qg w3 (.cells (qb 32 fun _ => 0) 32)
   have B_w22 : Keep (Bx _ E Q3 w3.heap.size (qb 32 fun _ => 0)) := ⟨Bx.new T_w3.o (qb 32 fun _ => 0)⟩
   have T_w22 := kk (T_w3.o.below b_)
   have N_w22 : Keep (TN w _ E Ps Q3) := ⟨N_w3.o.trans (TN.below b_)⟩
   have X_w22 := kk (X_w3.o.below b_)
   have eXB_w22 : Keep (r ≠ w3.heap.size) := ⟨by have := X_w3.o.blk.lt; omega⟩
   have wB_w22 : Keep (w.heap.size ≤ w3.heap.size) := ⟨N_w3.o.gr.size⟩
   generalize w3.alloc (.cells (qb 32 fun _ => 0) 32) = w22 at *
   obtain ⟨r22, hr22⟩ := nm w3
   rw [← hr22.o] at B_w22 wB_w22 eXB_w22 ⊢
   clear b_ hr22
   refine hK _ _ (T_w22.o.bd.c 0 rfl) fun hH_ => kNx ?_
   clear hK hH_
   refine wpAnyH_ready (rs := [7, 8]) (by kernel_rfl) (by simp) ?_
   refine AllReadyH.cons (o := ⟨some 36, .call { callee := .value (.tmp 33), args := #[.tmp 34, .tmp 35], argTypes := #[3, 3] }, 32, _, _, none⟩) rfl (fun K hK => ?_) (AllReadyH.cons (o := ⟨some 10, .alloc 32, 0, _, _, none⟩) rfl (fun K hK => ?_) AllReadyH.nil)
   ·rw [if_pos (by rfl)]
    have hb_ : Below B w w22 := N_w22.o.bel HT.o HB.o
    have hih := IH m j Q3 w22 (by omega) (by omega) (by omega) T_w22.o (HC.o.below hb_) Ra_.o (Nat.le_trans HB.o N_w22.o.gr.size)
    refine qX 48 (.tmp 33) _ _ #[ptr E.pl, ptr E.pd, ptr E.pn, ptr E.pp] rfl rfl zk #[.int .i64 (m : Int), .int .i64 (j : Int), ptr E.pl, ptr E.pd, ptr E.pn, ptr E.pp] (by simp [Act.eval]) (fun vz wz => vz = .agg h2 ∧ ∃ Ps', TS B wz E ns Ps' ∧ UP k L m j ns Q3 Ps' ∧ TN w22 wz E Q3 Ps') ?_ ?_
    ·refine hih.mono ?_
     rintro e wz ⟨rfl, hz⟩
     exact ⟨_, rfl, by rw [h2q.o], hz⟩
    rintro vz w23 ⟨rfl, Q23, k1, k2, k3⟩
    have T_w23 := kk k1
    have U_w23 := kk k2
    have N_w23 : Keep (TN w w23 E Ps Q23) := ⟨N_w22.o.trans k3⟩
    have X_w23 := kk (X_w22.o.next k3)
    have B_w23 := kk (B_w22.o.next k3)
    clear k1 k2 k3 hih hb_
    refine hK _ _ (T_w23.o.bd.c 0 rfl) fun hH_ => kNx ?_
    clear hK hH_
    have Rb_ : Keep (Rm Q23 1) := ⟨Rm.up (s := 1) (a := m) (b := j) (fun P hP => by have := Ra_.o P hP; omega) U_w23.o T_w3.o T_w23.o (by omega) (by rw [hn.o]; omega) (by omega)⟩
    refine rd1 8 ⟨some 10, .alloc 32, 0, _, _, none⟩ rfl fun K hK => ?_
    refine qK 32 rfl _ qm ?_
    have b_ := qg w23 (.cells (qb 32 fun _ => 0) 32)
    have A_w24 : Keep (Bx _ E Q23 w23.heap.size (qb 32 fun _ => 0)) := ⟨Bx.new T_w23.o (qb 32 fun _ => 0)⟩
    have T_w24 := kk (T_w23.o.below b_)
    have N_w24 : Keep (TN w _ E Ps Q23) := ⟨N_w23.o.trans (TN.below b_)⟩
    have X_w24 := kk (X_w23.o.below b_)
    have eXA_w24 : Keep (r ≠ w23.heap.size) := ⟨by have := X_w23.o.blk.lt; omega⟩
    have B_w24 := kk (B_w23.o.below b_)
    have eBA_w24 : Keep (r22 ≠ w23.heap.size) := ⟨by have := B_w23.o.blk.lt; omega⟩
    have wA_w24 : Keep (w.heap.size ≤ w23.heap.size) := ⟨N_w23.o.gr.size⟩
    generalize w23.alloc (.cells (qb 32 fun _ => 0) 32) = w24 at *
    obtain ⟨r24, hr24⟩ := nm w23
    rw [← hr24.o] at A_w24 wA_w24 eXA_w24 eBA_w24 ⊢
    clear b_ hr24
    refine hK _ _ (T_w24.o.bd.c 0 rfl) fun hH_ => kNx ?_
    clear hK hH_
    refine rd1 10 ⟨none, .store 32 (.tmp 10) (.tmp 32), 0, _, _, none⟩ rfl fun K hK => ?_
    refine wp_store_row 32 (.tmp 10) (.tmp 32) rfl r24 h1 rfl rfl 32 _ A_w24.o.blk (by rw [h1e.o]; exact qd _) (by rw [h1e.o]; exact qh _ _ _) (by rw [h1e.o]; exact qi _ _) ?_
    have T_w25 := kk (T_w24.o.box A_w24.o h1)
    have N_w25 : Keep (TN w (w24.setRow r24 h1) E Ps Q23) := ⟨N_w24.o.box (by exact wA_w24.o) _⟩
    have X_w25 := kk (X_w24.o.ne (eXA_w24.o) h1)
    have A_w25 := kk (A_w24.o.set h1)
    have B_w25 := kk (B_w24.o.ne (fun e => (fun e => eBA_w24.o e.symm) e.symm) h1)
    generalize w24.setRow r24 h1 = w25 at *
    refine hK _ _ (T_w25.o.bd.c 0 rfl) fun hH_ => kNx ?_
    clear hK hH_
    refine rd1 11 ⟨none, .store 32 (.tmp 11) (.tmp 36), 0, _, _, none⟩ rfl fun K hK => ?_
    refine wp_store_row 32 (.tmp 11) (.tmp 36) rfl r22 h2 rfl rfl 32 _ B_w25.o.blk (by rw [h2e.o]; exact qd _) (by rw [h2e.o]; exact qh _ _ _) (by rw [h2e.o]; exact qi _ _) ?_
    have T_w26 := kk (T_w25.o.box B_w25.o h2)
    have N_w26 : Keep (TN w (w25.setRow r22 h2) E Ps Q23) := ⟨N_w25.o.box (by exact wB_w22.o) _⟩
    have X_w26 := kk (X_w25.o.ne (eXB_w22.o) h2)
    have A_w26 := kk (A_w25.o.ne ((fun e => eBA_w24.o e.symm)) h2)
    have B_w26 := kk (B_w25.o.set h2)
    generalize w25.setRow r22 h2 = w26 at *
    refine hK _ _ (T_w26.o.bd.c 0 rfl) fun hH_ => kNx ?_
    clear hK hH_
    refine wpAnyH_done (by kernel_rfl) ?_ _
    refine hK5 _ _ ?_
    exact zt B k E b off n cap L ns na nl nc hnv hnl hnlb hn hnb i j q m Ps w hij hjk hjn hq hh hm hmi hmj x1 x2 X1e X2e h1 h2 h1e h2e HT HB r hrw r24 r22 Q23 w26 T_w26.o ⟨Q3, T_w3.o.len, U_w3.o, U_w23.o⟩ Rb_.o X_w26.o A_w26.o B_w26.o ⟨eXA_w24.o, eXB_w22.o, (fun e => eBA_w24.o e.symm)⟩ N_w26.o
   ·rw [if_pos (by rfl)]
    refine qK 32 rfl _ qm ?_
    have b_ := qg w22 (.cells (qb 32 fun _ => 0) 32)
    have A_w27 : Keep (Bx _ E Q3 w22.heap.size (qb 32 fun _ => 0)) := ⟨Bx.new T_w22.o (qb 32 fun _ => 0)⟩
    have T_w27 := kk (T_w22.o.below b_)
    have N_w27 : Keep (TN w _ E Ps Q3) := ⟨N_w22.o.trans (TN.below b_)⟩
    have X_w27 := kk (X_w22.o.below b_)
    have eXA_w27 : Keep (r ≠ w22.heap.size) := ⟨by have := X_w22.o.blk.lt; omega⟩
    have B_w27 := kk (B_w22.o.below b_)
    have eBA_w27 : Keep (r22 ≠ w22.heap.size) := ⟨by have := B_w22.o.blk.lt; omega⟩
    have wA_w27 : Keep (w.heap.size ≤ w22.heap.size) := ⟨N_w22.o.gr.size⟩
    generalize w22.alloc (.cells (qb 32 fun _ => 0) 32) = w27 at *
    obtain ⟨r27, hr27⟩ := nm w22
    rw [← hr27.o] at A_w27 wA_w27 eXA_w27 eBA_w27 ⊢
    clear b_ hr27
    refine hK _ _ (T_w27.o.bd.c 0 rfl) fun hH_ => kNx ?_
    clear hK hH_
    refine rd1 7 ⟨some 36, .call { callee := .value (.tmp 33), args := #[.tmp 34, .tmp 35], argTypes := #[3, 3] }, 32, _, _, none⟩ rfl fun K hK => ?_
    have hb_ : Below B w w27 := N_w27.o.bel HT.o HB.o
    have hih := IH m j Q3 w27 (by omega) (by omega) (by omega) T_w27.o (HC.o.below hb_) Ra_.o (Nat.le_trans HB.o N_w27.o.gr.size)
    refine qX 48 (.tmp 33) _ _ #[ptr E.pl, ptr E.pd, ptr E.pn, ptr E.pp] rfl rfl zk #[.int .i64 (m : Int), .int .i64 (j : Int), ptr E.pl, ptr E.pd, ptr E.pn, ptr E.pp] (by simp [Act.eval]) (fun vz wz => vz = .agg h2 ∧ ∃ Ps', TS B wz E ns Ps' ∧ UP k L m j ns Q3 Ps' ∧ TN w27 wz E Q3 Ps') ?_ ?_
    ·refine hih.mono ?_
     rintro e wz ⟨rfl, hz⟩
     exact ⟨_, rfl, by rw [h2q.o], hz⟩
    rintro vz w28 ⟨rfl, Q28, k1, k2, k3⟩
    have T_w28 := kk k1
    have U_w28 := kk k2
    have N_w28 : Keep (TN w w28 E Ps Q28) := ⟨N_w27.o.trans k3⟩
    have X_w28 := kk (X_w27.o.next k3)
    have A_w28 := kk (A_w27.o.next k3)
    have B_w28 := kk (B_w27.o.next k3)
    clear k1 k2 k3 hih hb_
    refine hK _ _ (T_w28.o.bd.c 0 rfl) fun hH_ => kNx ?_
    clear hK hH_
    have Rb_ : Keep (Rm Q28 1) := ⟨Rm.up (s := 1) (a := m) (b := j) (fun P hP => by have := Ra_.o P hP; omega) U_w28.o T_w3.o T_w28.o (by omega) (by rw [hn.o]; omega) (by omega)⟩
    refine rd1 10 ⟨none, .store 32 (.tmp 10) (.tmp 32), 0, _, _, none⟩ rfl fun K hK => ?_
    refine wp_store_row 32 (.tmp 10) (.tmp 32) rfl r27 h1 rfl rfl 32 _ A_w28.o.blk (by rw [h1e.o]; exact qd _) (by rw [h1e.o]; exact qh _ _ _) (by rw [h1e.o]; exact qi _ _) ?_
    have T_w29 := kk (T_w28.o.box A_w28.o h1)
    have N_w29 : Keep (TN w (w28.setRow r27 h1) E Ps Q28) := ⟨N_w28.o.box (by exact wA_w27.o) _⟩
    have X_w29 := kk (X_w28.o.ne (eXA_w27.o) h1)
    have A_w29 := kk (A_w28.o.set h1)
    have B_w29 := kk (B_w28.o.ne (fun e => (fun e => eBA_w27.o e.symm) e.symm) h1)
    generalize w28.setRow r27 h1 = w29 at *
    refine hK _ _ (T_w29.o.bd.c 0 rfl) fun hH_ => kNx ?_
    clear hK hH_
    refine rd1 11 ⟨none, .store 32 (.tmp 11) (.tmp 36), 0, _, _, none⟩ rfl fun K hK => ?_
    refine wp_store_row 32 (.tmp 11) (.tmp 36) rfl r22 h2 rfl rfl 32 _ B_w29.o.blk (by rw [h2e.o]; exact qd _) (by rw [h2e.o]; exact qh _ _ _) (by rw [h2e.o]; exact qi _ _) ?_
    have T_w30 := kk (T_w29.o.box B_w29.o h2)
    have N_w30 : Keep (TN w (w29.setRow r22 h2) E Ps Q28) := ⟨N_w29.o.box (by exact wB_w22.o) _⟩
    have X_w30 := kk (X_w29.o.ne (eXB_w22.o) h2)
    have A_w30 := kk (A_w29.o.ne ((fun e => eBA_w27.o e.symm)) h2)
    have B_w30 := kk (B_w29.o.set h2)
    generalize w29.setRow r22 h2 = w30 at *
    refine hK _ _ (T_w30.o.bd.c 0 rfl) fun hH_ => kNx ?_
    clear hK hH_
    refine wpAnyH_done (by kernel_rfl) ?_ _
    refine hK5 _ _ ?_
    exact zt B k E b off n cap L ns na nl nc hnv hnl hnlb hn hnb i j q m Ps w hij hjk hjn hq hh hm hmi hmj x1 x2 X1e X2e h1 h2 h1e h2e HT HB r hrw r27 r22 Q28 w30 T_w30.o ⟨Q3, T_w3.o.len, U_w3.o, U_w28.o⟩ Rb_.o X_w30.o A_w30.o B_w30.o ⟨eXA_w27.o, eXB_w22.o, (fun e => eBA_w27.o e.symm)⟩ N_w30.o
 ·rw [if_pos (by rfl)]
  refine qK 32 rfl _ qm ?_
  have b_ := qg w2 (.cells (qb 32 fun _ => 0) 32)
  have A_w31 : Keep (Bx _ E Ps w2.heap.size (qb 32 fun _ => 0)) := ⟨Bx.new T2.o (qb 32 fun _ => 0)⟩
  have T_w31 := kk (T2.o.below b_)
  have N_w31 : Keep (TN w _ E Ps Ps) := ⟨N2.o.trans (TN.below b_)⟩
  have X_w31 := kk (X2.o.below b_)
  have eXA_w31 : Keep (r ≠ w2.heap.size) := ⟨by have := X2.o.blk.lt; omega⟩
  have wA_w31 : Keep (w.heap.size ≤ w2.heap.size) := ⟨N2.o.gr.size⟩
  generalize w2.alloc (.cells (qb 32 fun _ => 0) 32) = w31 at *
  obtain ⟨r31, hr31⟩ := nm w2
  rw [← hr31.o] at A_w31 wA_w31 eXA_w31 ⊢
  clear b_ hr31
  refine hK _ _ (T_w31.o.bd.c 0 rfl) fun hH_ => kNx ?_
  clear hK hH_
  refine wpAnyH_ready (rs := [3, 9]) (by kernel_rfl) (by simp) ?_
  refine AllReadyH.cons (o := ⟨some 32, .call { callee := .value (.tmp 29), args := #[.tmp 30, .tmp 31], argTypes := #[3, 3] }, 32, _, _, none⟩) rfl (fun K hK => ?_) (AllReadyH.cons (o := ⟨some 11, .alloc 32, 0, _, _, none⟩) rfl (fun K hK => ?_) AllReadyH.nil)
  ·rw [if_pos (by rfl)]
   have hb_ : Below B w w31 := N_w31.o.bel HT.o HB.o
   have hih := IH i m Ps w31 (by omega) (by omega) (by omega) T_w31.o (HC.o.below hb_) (fun P hP => by have := HR.o P hP; omega) (Nat.le_trans HB.o N_w31.o.gr.size)
   refine qX 48 (.tmp 29) _ _ #[ptr E.pl, ptr E.pd, ptr E.pn, ptr E.pp] rfl rfl zk #[.int .i64 (i : Int), .int .i64 (m : Int), ptr E.pl, ptr E.pd, ptr E.pn, ptr E.pp] (by simp [Act.eval]) (fun vz wz => vz = .agg h1 ∧ ∃ Ps', TS B wz E ns Ps' ∧ UP k L i m ns Ps Ps' ∧ TN w31 wz E Ps Ps') ?_ ?_
   ·refine hih.mono ?_
    rintro e wz ⟨rfl, hz⟩
    exact ⟨_, rfl, by rw [h1q.o], hz⟩
   rintro vz w32 ⟨rfl, Q32, k1, k2, k3⟩
   have T_w32 := kk k1
   have U_w32 := kk k2
   have N_w32 : Keep (TN w w32 E Ps Q32) := ⟨N_w31.o.trans k3⟩
   have X_w32 := kk (X_w31.o.next k3)
   have A_w32 := kk (A_w31.o.next k3)
   clear k1 k2 k3 hih hb_
   refine hK _ _ (T_w32.o.bd.c 0 rfl) fun hH_ => kNx ?_
   clear hK hH_
   have Ra_ : Keep (Rm Q32 (j - m + 1)) := ⟨Rm.up (s := j - m + 1) (a := i) (b := m) (fun P hP => by have := HR.o P hP; omega) U_w32.o HT.o T_w32.o (by omega) (by rw [hn.o]; omega) (by omega)⟩
   refine wpAnyH_ready (rs := [7, 9]) (by kernel_rfl) (by simp) ?_
   refine AllReadyH.cons (o := ⟨some 36, .call { callee := .value (.tmp 33), args := #[.tmp 34, .tmp 35], argTypes := #[3, 3] }, 32, _, _, none⟩) rfl (fun K hK => ?_) (AllReadyH.cons (o := ⟨some 11, .alloc 32, 0, _, _, none⟩) rfl (fun K hK => ?_) AllReadyH.nil)
   ·rw [if_pos (by rfl)]
    have hb_ : Below B w w32 := N_w32.o.bel HT.o HB.o
    have hih := IH m j Q32 w32 (by omega) (by omega) (by omega) T_w32.o (HC.o.below hb_) Ra_.o (Nat.le_trans HB.o N_w32.o.gr.size)
    refine qX 48 (.tmp 33) _ _ #[ptr E.pl, ptr E.pd, ptr E.pn, ptr E.pp] rfl rfl zk #[.int .i64 (m : Int), .int .i64 (j : Int), ptr E.pl, ptr E.pd, ptr E.pn, ptr E.pp] (by simp [Act.eval]) (fun vz wz => vz = .agg h2 ∧ ∃ Ps', TS B wz E ns Ps' ∧ UP k L m j ns Q32 Ps' ∧ TN w32 wz E Q32 Ps') ?_ ?_
    ·refine hih.mono ?_
     rintro e wz ⟨rfl, hz⟩
     exact ⟨_, rfl, by rw [h2q.o], hz⟩
    rintro vz w33 ⟨rfl, Q33, k1, k2, k3⟩
    have T_w33 := kk k1
    have U_w33 := kk k2
    have N_w33 : Keep (TN w w33 E Ps Q33) := ⟨N_w32.o.trans k3⟩
    have X_w33 := kk (X_w32.o.next k3)
    have A_w33 := kk (A_w32.o.next k3)
    clear k1 k2 k3 hih hb_
    refine hK _ _ (T_w33.o.bd.c 0 rfl) fun hH_ => kNx ?_
    clear hK hH_
    have Rb_ : Keep (Rm Q33 1) := ⟨Rm.up (s := 1) (a := m) (b := j) (fun P hP => by have := Ra_.o P hP; omega) U_w33.o T_w32.o T_w33.o (by omega) (by rw [hn.o]; omega) (by omega)⟩
    refine rd1 9 ⟨some 11, .alloc 32, 0, _, _, none⟩ rfl fun K hK => ?_
    refine qK 32 rfl _ qm ?_
    have b_ := qg w33 (.cells (qb 32 fun _ => 0) 32)
    have B_w34 : Keep (Bx _ E Q33 w33.heap.size (qb 32 fun _ => 0)) := ⟨Bx.new T_w33.o (qb 32 fun _ => 0)⟩
    have T_w34 := kk (T_w33.o.below b_)
    have N_w34 : Keep (TN w _ E Ps Q33) := ⟨N_w33.o.trans (TN.below b_)⟩
    have X_w34 := kk (X_w33.o.below b_)
    have eXB_w34 : Keep (r ≠ w33.heap.size) := ⟨by have := X_w33.o.blk.lt; omega⟩
    have A_w34 := kk (A_w33.o.below b_)
    have eAB_w34 : Keep (r31 ≠ w33.heap.size) := ⟨by have := A_w33.o.blk.lt; omega⟩
    have wB_w34 : Keep (w.heap.size ≤ w33.heap.size) := ⟨N_w33.o.gr.size⟩
    generalize w33.alloc (.cells (qb 32 fun _ => 0) 32) = w34 at *
    obtain ⟨r34, hr34⟩ := nm w33
    rw [← hr34.o] at B_w34 wB_w34 eXB_w34 eAB_w34 ⊢
    clear b_ hr34
    refine hK _ _ (T_w34.o.bd.c 0 rfl) fun hH_ => kNx ?_
    clear hK hH_
    refine rd1 10 ⟨none, .store 32 (.tmp 10) (.tmp 32), 0, _, _, none⟩ rfl fun K hK => ?_
    refine wp_store_row 32 (.tmp 10) (.tmp 32) rfl r31 h1 rfl rfl 32 _ A_w34.o.blk (by rw [h1e.o]; exact qd _) (by rw [h1e.o]; exact qh _ _ _) (by rw [h1e.o]; exact qi _ _) ?_
    have T_w35 := kk (T_w34.o.box A_w34.o h1)
    have N_w35 : Keep (TN w (w34.setRow r31 h1) E Ps Q33) := ⟨N_w34.o.box (by exact wA_w31.o) _⟩
    have X_w35 := kk (X_w34.o.ne (eXA_w31.o) h1)
    have A_w35 := kk (A_w34.o.set h1)
    have B_w35 := kk (B_w34.o.ne (fun e => eAB_w34.o e.symm) h1)
    generalize w34.setRow r31 h1 = w35 at *
    refine hK _ _ (T_w35.o.bd.c 0 rfl) fun hH_ => kNx ?_
    clear hK hH_
    refine rd1 11 ⟨none, .store 32 (.tmp 11) (.tmp 36), 0, _, _, none⟩ rfl fun K hK => ?_
    refine wp_store_row 32 (.tmp 11) (.tmp 36) rfl r34 h2 rfl rfl 32 _ B_w35.o.blk (by rw [h2e.o]; exact qd _) (by rw [h2e.o]; exact qh _ _ _) (by rw [h2e.o]; exact qi _ _) ?_
    have T_w36 := kk (T_w35.o.box B_w35.o h2)
    have N_w36 : Keep (TN w (w35.setRow r34 h2) E Ps Q33) := ⟨N_w35.o.box (by exact wB_w34.o) _⟩
    have X_w36 := kk (X_w35.o.ne (eXB_w34.o) h2)
    have A_w36 := kk (A_w35.o.ne (eAB_w34.o) h2)
    have B_w36 := kk (B_w35.o.set h2)
    generalize w35.setRow r34 h2 = w36 at *
    refine hK _ _ (T_w36.o.bd.c 0 rfl) fun hH_ => kNx ?_
    clear hK hH_
    refine wpAnyH_done (by kernel_rfl) ?_ _
    refine hK5 _ _ ?_
    exact zt B k E b off n cap L ns na nl nc hnv hnl hnlb hn hnb i j q m Ps w hij hjk hjn hq hh hm hmi hmj x1 x2 X1e X2e h1 h2 h1e h2e HT HB r hrw r31 r34 Q33 w36 T_w36.o ⟨Q32, T_w32.o.len, U_w32.o, U_w33.o⟩ Rb_.o X_w36.o A_w36.o B_w36.o ⟨eXA_w31.o, eXB_w34.o, eAB_w34.o⟩ N_w36.o
   ·rw [if_pos (by rfl)]
    refine qK 32 rfl _ qm ?_
    have b_ := qg w32 (.cells (qb 32 fun _ => 0) 32)
    have B_w37 : Keep (Bx _ E Q32 w32.heap.size (qb 32 fun _ => 0)) := ⟨Bx.new T_w32.o (qb 32 fun _ => 0)⟩
    have T_w37 := kk (T_w32.o.below b_)
    have N_w37 : Keep (TN w _ E Ps Q32) := ⟨N_w32.o.trans (TN.below b_)⟩
    have X_w37 := kk (X_w32.o.below b_)
    have eXB_w37 : Keep (r ≠ w32.heap.size) := ⟨by have := X_w32.o.blk.lt; omega⟩
    have A_w37 := kk (A_w32.o.below b_)
    have eAB_w37 : Keep (r31 ≠ w32.heap.size) := ⟨by have := A_w32.o.blk.lt; omega⟩
    have wB_w37 : Keep (w.heap.size ≤ w32.heap.size) := ⟨N_w32.o.gr.size⟩
    generalize w32.alloc (.cells (qb 32 fun _ => 0) 32) = w37 at *
    obtain ⟨r37, hr37⟩ := nm w32
    rw [← hr37.o] at B_w37 wB_w37 eXB_w37 eAB_w37 ⊢
    clear b_ hr37
    refine hK _ _ (T_w37.o.bd.c 0 rfl) fun hH_ => kNx ?_
    clear hK hH_
    refine rd1 7 ⟨some 36, .call { callee := .value (.tmp 33), args := #[.tmp 34, .tmp 35], argTypes := #[3, 3] }, 32, _, _, none⟩ rfl fun K hK => ?_
    have hb_ : Below B w w37 := N_w37.o.bel HT.o HB.o
    have hih := IH m j Q32 w37 (by omega) (by omega) (by omega) T_w37.o (HC.o.below hb_) Ra_.o (Nat.le_trans HB.o N_w37.o.gr.size)
    refine qX 48 (.tmp 33) _ _ #[ptr E.pl, ptr E.pd, ptr E.pn, ptr E.pp] rfl rfl zk #[.int .i64 (m : Int), .int .i64 (j : Int), ptr E.pl, ptr E.pd, ptr E.pn, ptr E.pp] (by simp [Act.eval]) (fun vz wz => vz = .agg h2 ∧ ∃ Ps', TS B wz E ns Ps' ∧ UP k L m j ns Q32 Ps' ∧ TN w37 wz E Q32 Ps') ?_ ?_
    ·refine hih.mono ?_
     rintro e wz ⟨rfl, hz⟩
     exact ⟨_, rfl, by rw [h2q.o], hz⟩
    rintro vz w38 ⟨rfl, Q38, k1, k2, k3⟩
    have T_w38 := kk k1
    have U_w38 := kk k2
    have N_w38 : Keep (TN w w38 E Ps Q38) := ⟨N_w37.o.trans k3⟩
    have X_w38 := kk (X_w37.o.next k3)
    have A_w38 := kk (A_w37.o.next k3)
    have B_w38 := kk (B_w37.o.next k3)
    clear k1 k2 k3 hih hb_
    refine hK _ _ (T_w38.o.bd.c 0 rfl) fun hH_ => kNx ?_
    clear hK hH_
    have Rb_ : Keep (Rm Q38 1) := ⟨Rm.up (s := 1) (a := m) (b := j) (fun P hP => by have := Ra_.o P hP; omega) U_w38.o T_w32.o T_w38.o (by omega) (by rw [hn.o]; omega) (by omega)⟩
    refine rd1 10 ⟨none, .store 32 (.tmp 10) (.tmp 32), 0, _, _, none⟩ rfl fun K hK => ?_
    refine wp_store_row 32 (.tmp 10) (.tmp 32) rfl r31 h1 rfl rfl 32 _ A_w38.o.blk (by rw [h1e.o]; exact qd _) (by rw [h1e.o]; exact qh _ _ _) (by rw [h1e.o]; exact qi _ _) ?_
    have T_w39 := kk (T_w38.o.box A_w38.o h1)
    have N_w39 : Keep (TN w (w38.setRow r31 h1) E Ps Q38) := ⟨N_w38.o.box (by exact wA_w31.o) _⟩
    have X_w39 := kk (X_w38.o.ne (eXA_w31.o) h1)
    have A_w39 := kk (A_w38.o.set h1)
    have B_w39 := kk (B_w38.o.ne (fun e => eAB_w37.o e.symm) h1)
    generalize w38.setRow r31 h1 = w39 at *
    refine hK _ _ (T_w39.o.bd.c 0 rfl) fun hH_ => kNx ?_
    clear hK hH_
    refine rd1 11 ⟨none, .store 32 (.tmp 11) (.tmp 36), 0, _, _, none⟩ rfl fun K hK => ?_
    refine wp_store_row 32 (.tmp 11) (.tmp 36) rfl r37 h2 rfl rfl 32 _ B_w39.o.blk (by rw [h2e.o]; exact qd _) (by rw [h2e.o]; exact qh _ _ _) (by rw [h2e.o]; exact qi _ _) ?_
    have T_w40 := kk (T_w39.o.box B_w39.o h2)
    have N_w40 : Keep (TN w (w39.setRow r37 h2) E Ps Q38) := ⟨N_w39.o.box (by exact wB_w37.o) _⟩
    have X_w40 := kk (X_w39.o.ne (eXB_w37.o) h2)
    have A_w40 := kk (A_w39.o.ne (eAB_w37.o) h2)
    have B_w40 := kk (B_w39.o.set h2)
    generalize w39.setRow r37 h2 = w40 at *
    refine hK _ _ (T_w40.o.bd.c 0 rfl) fun hH_ => kNx ?_
    clear hK hH_
    refine wpAnyH_done (by kernel_rfl) ?_ _
    refine hK5 _ _ ?_
    exact zt B k E b off n cap L ns na nl nc hnv hnl hnlb hn hnb i j q m Ps w hij hjk hjn hq hh hm hmi hmj x1 x2 X1e X2e h1 h2 h1e h2e HT HB r hrw r31 r37 Q38 w40 T_w40.o ⟨Q32, T_w32.o.len, U_w32.o, U_w38.o⟩ Rb_.o X_w40.o A_w40.o B_w40.o ⟨eXA_w31.o, eXB_w37.o, eAB_w37.o⟩ N_w40.o
  ·rw [if_pos (by rfl)]
   refine qK 32 rfl _ qm ?_
   have b_ := qg w31 (.cells (qb 32 fun _ => 0) 32)
   have B_w41 : Keep (Bx _ E Ps w31.heap.size (qb 32 fun _ => 0)) := ⟨Bx.new T_w31.o (qb 32 fun _ => 0)⟩
   have T_w41 := kk (T_w31.o.below b_)
   have N_w41 : Keep (TN w _ E Ps Ps) := ⟨N_w31.o.trans (TN.below b_)⟩
   have X_w41 := kk (X_w31.o.below b_)
   have eXB_w41 : Keep (r ≠ w31.heap.size) := ⟨by have := X_w31.o.blk.lt; omega⟩
   have A_w41 := kk (A_w31.o.below b_)
   have eAB_w41 : Keep (r31 ≠ w31.heap.size) := ⟨by have := A_w31.o.blk.lt; omega⟩
   have wB_w41 : Keep (w.heap.size ≤ w31.heap.size) := ⟨N_w31.o.gr.size⟩
   generalize w31.alloc (.cells (qb 32 fun _ => 0) 32) = w41 at *
   obtain ⟨r41, hr41⟩ := nm w31
   rw [← hr41.o] at B_w41 wB_w41 eXB_w41 eAB_w41 ⊢
   clear b_ hr41
   refine hK _ _ (T_w41.o.bd.c 0 rfl) fun hH_ => kNx ?_
   clear hK hH_
   refine rd1 3 ⟨some 32, .call { callee := .value (.tmp 29), args := #[.tmp 30, .tmp 31], argTypes := #[3, 3] }, 32, _, _, none⟩ rfl fun K hK => ?_
   have hb_ : Below B w w41 := N_w41.o.bel HT.o HB.o
   have hih := IH i m Ps w41 (by omega) (by omega) (by omega) T_w41.o (HC.o.below hb_) (fun P hP => by have := HR.o P hP; omega) (Nat.le_trans HB.o N_w41.o.gr.size)
   refine qX 48 (.tmp 29) _ _ #[ptr E.pl, ptr E.pd, ptr E.pn, ptr E.pp] rfl rfl zk #[.int .i64 (i : Int), .int .i64 (m : Int), ptr E.pl, ptr E.pd, ptr E.pn, ptr E.pp] (by simp [Act.eval]) (fun vz wz => vz = .agg h1 ∧ ∃ Ps', TS B wz E ns Ps' ∧ UP k L i m ns Ps Ps' ∧ TN w41 wz E Ps Ps') ?_ ?_
   ·refine hih.mono ?_
    rintro e wz ⟨rfl, hz⟩
    exact ⟨_, rfl, by rw [h1q.o], hz⟩
   rintro vz w42 ⟨rfl, Q42, k1, k2, k3⟩
   have T_w42 := kk k1
   have U_w42 := kk k2
   have N_w42 : Keep (TN w w42 E Ps Q42) := ⟨N_w41.o.trans k3⟩
   have X_w42 := kk (X_w41.o.next k3)
   have A_w42 := kk (A_w41.o.next k3)
   have B_w42 := kk (B_w41.o.next k3)
   clear k1 k2 k3 hih hb_
   refine hK _ _ (T_w42.o.bd.c 0 rfl) fun hH_ => kNx ?_
   clear hK hH_
   have Ra_ : Keep (Rm Q42 (j - m + 1)) := ⟨Rm.up (s := j - m + 1) (a := i) (b := m) (fun P hP => by have := HR.o P hP; omega) U_w42.o HT.o T_w42.o (by omega) (by rw [hn.o]; omega) (by omega)⟩
   refine rd1 7 ⟨some 36, .call { callee := .value (.tmp 33), args := #[.tmp 34, .tmp 35], argTypes := #[3, 3] }, 32, _, _, none⟩ rfl fun K hK => ?_
   have hb_ : Below B w w42 := N_w42.o.bel HT.o HB.o
   have hih := IH m j Q42 w42 (by omega) (by omega) (by omega) T_w42.o (HC.o.below hb_) Ra_.o (Nat.le_trans HB.o N_w42.o.gr.size)
   refine qX 48 (.tmp 33) _ _ #[ptr E.pl, ptr E.pd, ptr E.pn, ptr E.pp] rfl rfl zk #[.int .i64 (m : Int), .int .i64 (j : Int), ptr E.pl, ptr E.pd, ptr E.pn, ptr E.pp] (by simp [Act.eval]) (fun vz wz => vz = .agg h2 ∧ ∃ Ps', TS B wz E ns Ps' ∧ UP k L m j ns Q42 Ps' ∧ TN w42 wz E Q42 Ps') ?_ ?_
   ·refine hih.mono ?_
    rintro e wz ⟨rfl, hz⟩
    exact ⟨_, rfl, by rw [h2q.o], hz⟩
   rintro vz w43 ⟨rfl, Q43, k1, k2, k3⟩
   have T_w43 := kk k1
   have U_w43 := kk k2
   have N_w43 : Keep (TN w w43 E Ps Q43) := ⟨N_w42.o.trans k3⟩
   have X_w43 := kk (X_w42.o.next k3)
   have A_w43 := kk (A_w42.o.next k3)
   have B_w43 := kk (B_w42.o.next k3)
   clear k1 k2 k3 hih hb_
   refine hK _ _ (T_w43.o.bd.c 0 rfl) fun hH_ => kNx ?_
   clear hK hH_
   have Rb_ : Keep (Rm Q43 1) := ⟨Rm.up (s := 1) (a := m) (b := j) (fun P hP => by have := Ra_.o P hP; omega) U_w43.o T_w42.o T_w43.o (by omega) (by rw [hn.o]; omega) (by omega)⟩
   refine rd1 10 ⟨none, .store 32 (.tmp 10) (.tmp 32), 0, _, _, none⟩ rfl fun K hK => ?_
   refine wp_store_row 32 (.tmp 10) (.tmp 32) rfl r31 h1 rfl rfl 32 _ A_w43.o.blk (by rw [h1e.o]; exact qd _) (by rw [h1e.o]; exact qh _ _ _) (by rw [h1e.o]; exact qi _ _) ?_
   have T_w44 := kk (T_w43.o.box A_w43.o h1)
   have N_w44 : Keep (TN w (w43.setRow r31 h1) E Ps Q43) := ⟨N_w43.o.box (by exact wA_w31.o) _⟩
   have X_w44 := kk (X_w43.o.ne (eXA_w31.o) h1)
   have A_w44 := kk (A_w43.o.set h1)
   have B_w44 := kk (B_w43.o.ne (fun e => eAB_w41.o e.symm) h1)
   generalize w43.setRow r31 h1 = w44 at *
   refine hK _ _ (T_w44.o.bd.c 0 rfl) fun hH_ => kNx ?_
   clear hK hH_
   refine rd1 11 ⟨none, .store 32 (.tmp 11) (.tmp 36), 0, _, _, none⟩ rfl fun K hK => ?_
   refine wp_store_row 32 (.tmp 11) (.tmp 36) rfl r41 h2 rfl rfl 32 _ B_w44.o.blk (by rw [h2e.o]; exact qd _) (by rw [h2e.o]; exact qh _ _ _) (by rw [h2e.o]; exact qi _ _) ?_
   have T_w45 := kk (T_w44.o.box B_w44.o h2)
   have N_w45 : Keep (TN w (w44.setRow r41 h2) E Ps Q43) := ⟨N_w44.o.box (by exact wB_w41.o) _⟩
   have X_w45 := kk (X_w44.o.ne (eXB_w41.o) h2)
   have A_w45 := kk (A_w44.o.ne (eAB_w41.o) h2)
   have B_w45 := kk (B_w44.o.set h2)
   generalize w44.setRow r41 h2 = w45 at *
   refine hK _ _ (T_w45.o.bd.c 0 rfl) fun hH_ => kNx ?_
   clear hK hH_
   refine wpAnyH_done (by kernel_rfl) ?_ _
   refine hK5 _ _ ?_
   exact zt B k E b off n cap L ns na nl nc hnv hnl hnlb hn hnb i j q m Ps w hij hjk hjn hq hh hm hmi hmj x1 x2 X1e X2e h1 h2 h1e h2e HT HB r hrw r31 r41 Q43 w45 T_w45.o ⟨Q42, T_w42.o.len, U_w42.o, U_w43.o⟩ Rb_.o X_w45.o A_w45.o B_w45.o ⟨eXA_w31.o, eXB_w41.o, eAB_w41.o⟩ N_w45.o
 ·rw [if_pos (by rfl)]
  refine qK 32 rfl _ qm ?_
  have b_ := qg w2 (.cells (qb 32 fun _ => 0) 32)
  have B_w46 : Keep (Bx _ E Ps w2.heap.size (qb 32 fun _ => 0)) := ⟨Bx.new T2.o (qb 32 fun _ => 0)⟩
  have T_w46 := kk (T2.o.below b_)
  have N_w46 : Keep (TN w _ E Ps Ps) := ⟨N2.o.trans (TN.below b_)⟩
  have X_w46 := kk (X2.o.below b_)
  have eXB_w46 : Keep (r ≠ w2.heap.size) := ⟨by have := X2.o.blk.lt; omega⟩
  have wB_w46 : Keep (w.heap.size ≤ w2.heap.size) := ⟨N2.o.gr.size⟩
  generalize w2.alloc (.cells (qb 32 fun _ => 0) 32) = w46 at *
  obtain ⟨r46, hr46⟩ := nm w2
  rw [← hr46.o] at B_w46 wB_w46 eXB_w46 ⊢
  clear b_ hr46
  refine hK _ _ (T_w46.o.bd.c 0 rfl) fun hH_ => kNx ?_
  clear hK hH_
  refine wpAnyH_ready (rs := [3, 8]) (by kernel_rfl) (by simp) ?_
  refine AllReadyH.cons (o := ⟨some 32, .call { callee := .value (.tmp 29), args := #[.tmp 30, .tmp 31], argTypes := #[3, 3] }, 32, _, _, none⟩) rfl (fun K hK => ?_) (AllReadyH.cons (o := ⟨some 10, .alloc 32, 0, _, _, none⟩) rfl (fun K hK => ?_) AllReadyH.nil)
  ·rw [if_pos (by rfl)]
   have hb_ : Below B w w46 := N_w46.o.bel HT.o HB.o
   have hih := IH i m Ps w46 (by omega) (by omega) (by omega) T_w46.o (HC.o.below hb_) (fun P hP => by have := HR.o P hP; omega) (Nat.le_trans HB.o N_w46.o.gr.size)
   refine qX 48 (.tmp 29) _ _ #[ptr E.pl, ptr E.pd, ptr E.pn, ptr E.pp] rfl rfl zk #[.int .i64 (i : Int), .int .i64 (m : Int), ptr E.pl, ptr E.pd, ptr E.pn, ptr E.pp] (by simp [Act.eval]) (fun vz wz => vz = .agg h1 ∧ ∃ Ps', TS B wz E ns Ps' ∧ UP k L i m ns Ps Ps' ∧ TN w46 wz E Ps Ps') ?_ ?_
   ·refine hih.mono ?_
    rintro e wz ⟨rfl, hz⟩
    exact ⟨_, rfl, by rw [h1q.o], hz⟩
   rintro vz w47 ⟨rfl, Q47, k1, k2, k3⟩
   have T_w47 := kk k1
   have U_w47 := kk k2
   have N_w47 : Keep (TN w w47 E Ps Q47) := ⟨N_w46.o.trans k3⟩
   have X_w47 := kk (X_w46.o.next k3)
   have B_w47 := kk (B_w46.o.next k3)
   clear k1 k2 k3 hih hb_
   refine hK _ _ (T_w47.o.bd.c 0 rfl) fun hH_ => kNx ?_
   clear hK hH_
   have Ra_ : Keep (Rm Q47 (j - m + 1)) := ⟨Rm.up (s := j - m + 1) (a := i) (b := m) (fun P hP => by have := HR.o P hP; omega) U_w47.o HT.o T_w47.o (by omega) (by rw [hn.o]; omega) (by omega)⟩
   refine wpAnyH_ready (rs := [7, 8]) (by kernel_rfl) (by simp) ?_
   refine AllReadyH.cons (o := ⟨some 36, .call { callee := .value (.tmp 33), args := #[.tmp 34, .tmp 35], argTypes := #[3, 3] }, 32, _, _, none⟩) rfl (fun K hK => ?_) (AllReadyH.cons (o := ⟨some 10, .alloc 32, 0, _, _, none⟩) rfl (fun K hK => ?_) AllReadyH.nil)
   ·rw [if_pos (by rfl)]
    have hb_ : Below B w w47 := N_w47.o.bel HT.o HB.o
    have hih := IH m j Q47 w47 (by omega) (by omega) (by omega) T_w47.o (HC.o.below hb_) Ra_.o (Nat.le_trans HB.o N_w47.o.gr.size)
    refine qX 48 (.tmp 33) _ _ #[ptr E.pl, ptr E.pd, ptr E.pn, ptr E.pp] rfl rfl zk #[.int .i64 (m : Int), .int .i64 (j : Int), ptr E.pl, ptr E.pd, ptr E.pn, ptr E.pp] (by simp [Act.eval]) (fun vz wz => vz = .agg h2 ∧ ∃ Ps', TS B wz E ns Ps' ∧ UP k L m j ns Q47 Ps' ∧ TN w47 wz E Q47 Ps') ?_ ?_
    ·refine hih.mono ?_
     rintro e wz ⟨rfl, hz⟩
     exact ⟨_, rfl, by rw [h2q.o], hz⟩
    rintro vz w48 ⟨rfl, Q48, k1, k2, k3⟩
    have T_w48 := kk k1
    have U_w48 := kk k2
    have N_w48 : Keep (TN w w48 E Ps Q48) := ⟨N_w47.o.trans k3⟩
    have X_w48 := kk (X_w47.o.next k3)
    have B_w48 := kk (B_w47.o.next k3)
    clear k1 k2 k3 hih hb_
    refine hK _ _ (T_w48.o.bd.c 0 rfl) fun hH_ => kNx ?_
    clear hK hH_
    have Rb_ : Keep (Rm Q48 1) := ⟨Rm.up (s := 1) (a := m) (b := j) (fun P hP => by have := Ra_.o P hP; omega) U_w48.o T_w47.o T_w48.o (by omega) (by rw [hn.o]; omega) (by omega)⟩
    refine rd1 8 ⟨some 10, .alloc 32, 0, _, _, none⟩ rfl fun K hK => ?_
    refine qK 32 rfl _ qm ?_
    have b_ := qg w48 (.cells (qb 32 fun _ => 0) 32)
    have A_w49 : Keep (Bx _ E Q48 w48.heap.size (qb 32 fun _ => 0)) := ⟨Bx.new T_w48.o (qb 32 fun _ => 0)⟩
    have T_w49 := kk (T_w48.o.below b_)
    have N_w49 : Keep (TN w _ E Ps Q48) := ⟨N_w48.o.trans (TN.below b_)⟩
    have X_w49 := kk (X_w48.o.below b_)
    have eXA_w49 : Keep (r ≠ w48.heap.size) := ⟨by have := X_w48.o.blk.lt; omega⟩
    have B_w49 := kk (B_w48.o.below b_)
    have eBA_w49 : Keep (r46 ≠ w48.heap.size) := ⟨by have := B_w48.o.blk.lt; omega⟩
    have wA_w49 : Keep (w.heap.size ≤ w48.heap.size) := ⟨N_w48.o.gr.size⟩
    generalize w48.alloc (.cells (qb 32 fun _ => 0) 32) = w49 at *
    obtain ⟨r49, hr49⟩ := nm w48
    rw [← hr49.o] at A_w49 wA_w49 eXA_w49 eBA_w49 ⊢
    clear b_ hr49
    refine hK _ _ (T_w49.o.bd.c 0 rfl) fun hH_ => kNx ?_
    clear hK hH_
    refine rd1 10 ⟨none, .store 32 (.tmp 10) (.tmp 32), 0, _, _, none⟩ rfl fun K hK => ?_
    refine wp_store_row 32 (.tmp 10) (.tmp 32) rfl r49 h1 rfl rfl 32 _ A_w49.o.blk (by rw [h1e.o]; exact qd _) (by rw [h1e.o]; exact qh _ _ _) (by rw [h1e.o]; exact qi _ _) ?_
    have T_w50 := kk (T_w49.o.box A_w49.o h1)
    have N_w50 : Keep (TN w (w49.setRow r49 h1) E Ps Q48) := ⟨N_w49.o.box (by exact wA_w49.o) _⟩
    have X_w50 := kk (X_w49.o.ne (eXA_w49.o) h1)
    have A_w50 := kk (A_w49.o.set h1)
    have B_w50 := kk (B_w49.o.ne (fun e => (fun e => eBA_w49.o e.symm) e.symm) h1)
    generalize w49.setRow r49 h1 = w50 at *
    refine hK _ _ (T_w50.o.bd.c 0 rfl) fun hH_ => kNx ?_
    clear hK hH_
    refine rd1 11 ⟨none, .store 32 (.tmp 11) (.tmp 36), 0, _, _, none⟩ rfl fun K hK => ?_
    refine wp_store_row 32 (.tmp 11) (.tmp 36) rfl r46 h2 rfl rfl 32 _ B_w50.o.blk (by rw [h2e.o]; exact qd _) (by rw [h2e.o]; exact qh _ _ _) (by rw [h2e.o]; exact qi _ _) ?_
    have T_w51 := kk (T_w50.o.box B_w50.o h2)
    have N_w51 : Keep (TN w (w50.setRow r46 h2) E Ps Q48) := ⟨N_w50.o.box (by exact wB_w46.o) _⟩
    have X_w51 := kk (X_w50.o.ne (eXB_w46.o) h2)
    have A_w51 := kk (A_w50.o.ne ((fun e => eBA_w49.o e.symm)) h2)
    have B_w51 := kk (B_w50.o.set h2)
    generalize w50.setRow r46 h2 = w51 at *
    refine hK _ _ (T_w51.o.bd.c 0 rfl) fun hH_ => kNx ?_
    clear hK hH_
    refine wpAnyH_done (by kernel_rfl) ?_ _
    refine hK5 _ _ ?_
    exact zt B k E b off n cap L ns na nl nc hnv hnl hnlb hn hnb i j q m Ps w hij hjk hjn hq hh hm hmi hmj x1 x2 X1e X2e h1 h2 h1e h2e HT HB r hrw r49 r46 Q48 w51 T_w51.o ⟨Q47, T_w47.o.len, U_w47.o, U_w48.o⟩ Rb_.o X_w51.o A_w51.o B_w51.o ⟨eXA_w49.o, eXB_w46.o, (fun e => eBA_w49.o e.symm)⟩ N_w51.o
   ·rw [if_pos (by rfl)]
    refine qK 32 rfl _ qm ?_
    have b_ := qg w47 (.cells (qb 32 fun _ => 0) 32)
    have A_w52 : Keep (Bx _ E Q47 w47.heap.size (qb 32 fun _ => 0)) := ⟨Bx.new T_w47.o (qb 32 fun _ => 0)⟩
    have T_w52 := kk (T_w47.o.below b_)
    have N_w52 : Keep (TN w _ E Ps Q47) := ⟨N_w47.o.trans (TN.below b_)⟩
    have X_w52 := kk (X_w47.o.below b_)
    have eXA_w52 : Keep (r ≠ w47.heap.size) := ⟨by have := X_w47.o.blk.lt; omega⟩
    have B_w52 := kk (B_w47.o.below b_)
    have eBA_w52 : Keep (r46 ≠ w47.heap.size) := ⟨by have := B_w47.o.blk.lt; omega⟩
    have wA_w52 : Keep (w.heap.size ≤ w47.heap.size) := ⟨N_w47.o.gr.size⟩
    generalize w47.alloc (.cells (qb 32 fun _ => 0) 32) = w52 at *
    obtain ⟨r52, hr52⟩ := nm w47
    rw [← hr52.o] at A_w52 wA_w52 eXA_w52 eBA_w52 ⊢
    clear b_ hr52
    refine hK _ _ (T_w52.o.bd.c 0 rfl) fun hH_ => kNx ?_
    clear hK hH_
    refine rd1 7 ⟨some 36, .call { callee := .value (.tmp 33), args := #[.tmp 34, .tmp 35], argTypes := #[3, 3] }, 32, _, _, none⟩ rfl fun K hK => ?_
    have hb_ : Below B w w52 := N_w52.o.bel HT.o HB.o
    have hih := IH m j Q47 w52 (by omega) (by omega) (by omega) T_w52.o (HC.o.below hb_) Ra_.o (Nat.le_trans HB.o N_w52.o.gr.size)
    refine qX 48 (.tmp 33) _ _ #[ptr E.pl, ptr E.pd, ptr E.pn, ptr E.pp] rfl rfl zk #[.int .i64 (m : Int), .int .i64 (j : Int), ptr E.pl, ptr E.pd, ptr E.pn, ptr E.pp] (by simp [Act.eval]) (fun vz wz => vz = .agg h2 ∧ ∃ Ps', TS B wz E ns Ps' ∧ UP k L m j ns Q47 Ps' ∧ TN w52 wz E Q47 Ps') ?_ ?_
    ·refine hih.mono ?_
     rintro e wz ⟨rfl, hz⟩
     exact ⟨_, rfl, by rw [h2q.o], hz⟩
    rintro vz w53 ⟨rfl, Q53, k1, k2, k3⟩
    have T_w53 := kk k1
    have U_w53 := kk k2
    have N_w53 : Keep (TN w w53 E Ps Q53) := ⟨N_w52.o.trans k3⟩
    have X_w53 := kk (X_w52.o.next k3)
    have A_w53 := kk (A_w52.o.next k3)
    have B_w53 := kk (B_w52.o.next k3)
    clear k1 k2 k3 hih hb_
    refine hK _ _ (T_w53.o.bd.c 0 rfl) fun hH_ => kNx ?_
    clear hK hH_
    have Rb_ : Keep (Rm Q53 1) := ⟨Rm.up (s := 1) (a := m) (b := j) (fun P hP => by have := Ra_.o P hP; omega) U_w53.o T_w47.o T_w53.o (by omega) (by rw [hn.o]; omega) (by omega)⟩
    refine rd1 10 ⟨none, .store 32 (.tmp 10) (.tmp 32), 0, _, _, none⟩ rfl fun K hK => ?_
    refine wp_store_row 32 (.tmp 10) (.tmp 32) rfl r52 h1 rfl rfl 32 _ A_w53.o.blk (by rw [h1e.o]; exact qd _) (by rw [h1e.o]; exact qh _ _ _) (by rw [h1e.o]; exact qi _ _) ?_
    have T_w54 := kk (T_w53.o.box A_w53.o h1)
    have N_w54 : Keep (TN w (w53.setRow r52 h1) E Ps Q53) := ⟨N_w53.o.box (by exact wA_w52.o) _⟩
    have X_w54 := kk (X_w53.o.ne (eXA_w52.o) h1)
    have A_w54 := kk (A_w53.o.set h1)
    have B_w54 := kk (B_w53.o.ne (fun e => (fun e => eBA_w52.o e.symm) e.symm) h1)
    generalize w53.setRow r52 h1 = w54 at *
    refine hK _ _ (T_w54.o.bd.c 0 rfl) fun hH_ => kNx ?_
    clear hK hH_
    refine rd1 11 ⟨none, .store 32 (.tmp 11) (.tmp 36), 0, _, _, none⟩ rfl fun K hK => ?_
    refine wp_store_row 32 (.tmp 11) (.tmp 36) rfl r46 h2 rfl rfl 32 _ B_w54.o.blk (by rw [h2e.o]; exact qd _) (by rw [h2e.o]; exact qh _ _ _) (by rw [h2e.o]; exact qi _ _) ?_
    have T_w55 := kk (T_w54.o.box B_w54.o h2)
    have N_w55 : Keep (TN w (w54.setRow r46 h2) E Ps Q53) := ⟨N_w54.o.box (by exact wB_w46.o) _⟩
    have X_w55 := kk (X_w54.o.ne (eXB_w46.o) h2)
    have A_w55 := kk (A_w54.o.ne ((fun e => eBA_w52.o e.symm)) h2)
    have B_w55 := kk (B_w54.o.set h2)
    generalize w54.setRow r46 h2 = w55 at *
    refine hK _ _ (T_w55.o.bd.c 0 rfl) fun hH_ => kNx ?_
    clear hK hH_
    refine wpAnyH_done (by kernel_rfl) ?_ _
    refine hK5 _ _ ?_
    exact zt B k E b off n cap L ns na nl nc hnv hnl hnlb hn hnb i j q m Ps w hij hjk hjn hq hh hm hmi hmj x1 x2 X1e X2e h1 h2 h1e h2e HT HB r hrw r52 r46 Q53 w55 T_w55.o ⟨Q47, T_w47.o.len, U_w47.o, U_w53.o⟩ Rb_.o X_w55.o A_w55.o B_w55.o ⟨eXA_w52.o, eXB_w46.o, (fun e => eBA_w52.o e.symm)⟩ N_w55.o
  ·rw [if_pos (by rfl)]
   refine qK 32 rfl _ qm ?_
   have b_ := qg w46 (.cells (qb 32 fun _ => 0) 32)
   have A_w56 : Keep (Bx _ E Ps w46.heap.size (qb 32 fun _ => 0)) := ⟨Bx.new T_w46.o (qb 32 fun _ => 0)⟩
   have T_w56 := kk (T_w46.o.below b_)
   have N_w56 : Keep (TN w _ E Ps Ps) := ⟨N_w46.o.trans (TN.below b_)⟩
   have X_w56 := kk (X_w46.o.below b_)
   have eXA_w56 : Keep (r ≠ w46.heap.size) := ⟨by have := X_w46.o.blk.lt; omega⟩
   have B_w56 := kk (B_w46.o.below b_)
   have eBA_w56 : Keep (r46 ≠ w46.heap.size) := ⟨by have := B_w46.o.blk.lt; omega⟩
   have wA_w56 : Keep (w.heap.size ≤ w46.heap.size) := ⟨N_w46.o.gr.size⟩
   generalize w46.alloc (.cells (qb 32 fun _ => 0) 32) = w56 at *
   obtain ⟨r56, hr56⟩ := nm w46
   rw [← hr56.o] at A_w56 wA_w56 eXA_w56 eBA_w56 ⊢
   clear b_ hr56
   refine hK _ _ (T_w56.o.bd.c 0 rfl) fun hH_ => kNx ?_
   clear hK hH_
   refine rd1 3 ⟨some 32, .call { callee := .value (.tmp 29), args := #[.tmp 30, .tmp 31], argTypes := #[3, 3] }, 32, _, _, none⟩ rfl fun K hK => ?_
   have hb_ : Below B w w56 := N_w56.o.bel HT.o HB.o
   have hih := IH i m Ps w56 (by omega) (by omega) (by omega) T_w56.o (HC.o.below hb_) (fun P hP => by have := HR.o P hP; omega) (Nat.le_trans HB.o N_w56.o.gr.size)
   refine qX 48 (.tmp 29) _ _ #[ptr E.pl, ptr E.pd, ptr E.pn, ptr E.pp] rfl rfl zk #[.int .i64 (i : Int), .int .i64 (m : Int), ptr E.pl, ptr E.pd, ptr E.pn, ptr E.pp] (by simp [Act.eval]) (fun vz wz => vz = .agg h1 ∧ ∃ Ps', TS B wz E ns Ps' ∧ UP k L i m ns Ps Ps' ∧ TN w56 wz E Ps Ps') ?_ ?_
   ·refine hih.mono ?_
    rintro e wz ⟨rfl, hz⟩
    exact ⟨_, rfl, by rw [h1q.o], hz⟩
   rintro vz w57 ⟨rfl, Q57, k1, k2, k3⟩
   have T_w57 := kk k1
   have U_w57 := kk k2
   have N_w57 : Keep (TN w w57 E Ps Q57) := ⟨N_w56.o.trans k3⟩
   have X_w57 := kk (X_w56.o.next k3)
   have A_w57 := kk (A_w56.o.next k3)
   have B_w57 := kk (B_w56.o.next k3)
   clear k1 k2 k3 hih hb_
   refine hK _ _ (T_w57.o.bd.c 0 rfl) fun hH_ => kNx ?_
   clear hK hH_
   have Ra_ : Keep (Rm Q57 (j - m + 1)) := ⟨Rm.up (s := j - m + 1) (a := i) (b := m) (fun P hP => by have := HR.o P hP; omega) U_w57.o HT.o T_w57.o (by omega) (by rw [hn.o]; omega) (by omega)⟩
   refine rd1 7 ⟨some 36, .call { callee := .value (.tmp 33), args := #[.tmp 34, .tmp 35], argTypes := #[3, 3] }, 32, _, _, none⟩ rfl fun K hK => ?_
   have hb_ : Below B w w57 := N_w57.o.bel HT.o HB.o
   have hih := IH m j Q57 w57 (by omega) (by omega) (by omega) T_w57.o (HC.o.below hb_) Ra_.o (Nat.le_trans HB.o N_w57.o.gr.size)
   refine qX 48 (.tmp 33) _ _ #[ptr E.pl, ptr E.pd, ptr E.pn, ptr E.pp] rfl rfl zk #[.int .i64 (m : Int), .int .i64 (j : Int), ptr E.pl, ptr E.pd, ptr E.pn, ptr E.pp] (by simp [Act.eval]) (fun vz wz => vz = .agg h2 ∧ ∃ Ps', TS B wz E ns Ps' ∧ UP k L m j ns Q57 Ps' ∧ TN w57 wz E Q57 Ps') ?_ ?_
   ·refine hih.mono ?_
    rintro e wz ⟨rfl, hz⟩
    exact ⟨_, rfl, by rw [h2q.o], hz⟩
   rintro vz w58 ⟨rfl, Q58, k1, k2, k3⟩
   have T_w58 := kk k1
   have U_w58 := kk k2
   have N_w58 : Keep (TN w w58 E Ps Q58) := ⟨N_w57.o.trans k3⟩
   have X_w58 := kk (X_w57.o.next k3)
   have A_w58 := kk (A_w57.o.next k3)
   have B_w58 := kk (B_w57.o.next k3)
   clear k1 k2 k3 hih hb_
   refine hK _ _ (T_w58.o.bd.c 0 rfl) fun hH_ => kNx ?_
   clear hK hH_
   have Rb_ : Keep (Rm Q58 1) := ⟨Rm.up (s := 1) (a := m) (b := j) (fun P hP => by have := Ra_.o P hP; omega) U_w58.o T_w57.o T_w58.o (by omega) (by rw [hn.o]; omega) (by omega)⟩
   refine rd1 10 ⟨none, .store 32 (.tmp 10) (.tmp 32), 0, _, _, none⟩ rfl fun K hK => ?_
   refine wp_store_row 32 (.tmp 10) (.tmp 32) rfl r56 h1 rfl rfl 32 _ A_w58.o.blk (by rw [h1e.o]; exact qd _) (by rw [h1e.o]; exact qh _ _ _) (by rw [h1e.o]; exact qi _ _) ?_
   have T_w59 := kk (T_w58.o.box A_w58.o h1)
   have N_w59 : Keep (TN w (w58.setRow r56 h1) E Ps Q58) := ⟨N_w58.o.box (by exact wA_w56.o) _⟩
   have X_w59 := kk (X_w58.o.ne (eXA_w56.o) h1)
   have A_w59 := kk (A_w58.o.set h1)
   have B_w59 := kk (B_w58.o.ne (fun e => (fun e => eBA_w56.o e.symm) e.symm) h1)
   generalize w58.setRow r56 h1 = w59 at *
   refine hK _ _ (T_w59.o.bd.c 0 rfl) fun hH_ => kNx ?_
   clear hK hH_
   refine rd1 11 ⟨none, .store 32 (.tmp 11) (.tmp 36), 0, _, _, none⟩ rfl fun K hK => ?_
   refine wp_store_row 32 (.tmp 11) (.tmp 36) rfl r46 h2 rfl rfl 32 _ B_w59.o.blk (by rw [h2e.o]; exact qd _) (by rw [h2e.o]; exact qh _ _ _) (by rw [h2e.o]; exact qi _ _) ?_
   have T_w60 := kk (T_w59.o.box B_w59.o h2)
   have N_w60 : Keep (TN w (w59.setRow r46 h2) E Ps Q58) := ⟨N_w59.o.box (by exact wB_w46.o) _⟩
   have X_w60 := kk (X_w59.o.ne (eXB_w46.o) h2)
   have A_w60 := kk (A_w59.o.ne ((fun e => eBA_w56.o e.symm)) h2)
   have B_w60 := kk (B_w59.o.set h2)
   generalize w59.setRow r46 h2 = w60 at *
   refine hK _ _ (T_w60.o.bd.c 0 rfl) fun hH_ => kNx ?_
   clear hK hH_
   refine wpAnyH_done (by kernel_rfl) ?_ _
   refine hK5 _ _ ?_
   exact zt B k E b off n cap L ns na nl nc hnv hnl hnlb hn hnb i j q m Ps w hij hjk hjn hq hh hm hmi hmj x1 x2 X1e X2e h1 h2 h1e h2e HT HB r hrw r56 r46 Q58 w60 T_w60.o ⟨Q57, T_w57.o.len, U_w57.o, U_w58.o⟩ Rb_.o X_w60.o A_w60.o B_w60.o ⟨eXA_w56.o, eXB_w46.o, (fun e => eBA_w56.o e.symm)⟩ N_w60.o
theorem Qg (B : Nat) (E : TE) (b off n cap : Nat) (L : List CV) (ns : List Nat) (na : Option Addr) (nl nc : Nat) (hlv : E.lv = .slice (some ⟨b, off, none⟩) n cap) (hnv : E.nv = .slice na nl nc) (hnl : ns.length = nl) (hnlb : nl ≤ 1099511627776) (hn : L.length = n) (hnb : n ≤ 1099511627776) (hF : Fit L) : ∀ (k i j : Nat) (Ps : List PX) (w : World), i < j → j - i ≤ k → j ≤ n → TS B w E ns Ps → CsAt B w b off L → Rm Ps (j - i + 1) → B ≤ w.heap.size → Calls Try.prog 48 #[.int .i64 (i : Int), .int .i64 (j : Int), ptr E.pl, ptr E.pd, ptr E.pn, ptr E.pp] w (DP B k E L ns Ps i j w)
 | 0, i, j, Ps, w, h1, h2, _, _, _, _, _ => by omega
 | k + 1, i, j, Ps, w, h1, h2, h3, hT, hC, hR, hB => by
  by_cases h : i + 2 ≤ j
  ·exact YQ B k E b off n cap L ns na nl nc ⟨hnv⟩ ⟨hnl⟩ ⟨hnlb⟩ ⟨hn⟩ hnb (Nat.le_refl _) (Qg B E b off n cap L ns na nl nc hlv hnv hnl hnlb hn hnb hF k) i j Ps w h h2 h3 hT hC hR hB
  ·obtain rfl : j = i + 1 := by omega
   obtain ⟨c, hc⟩ : ∃ c, L[i]? = some c := ⟨L[i]'(by omega), List.getElem?_eq_getElem _⟩
   exact Uh B k E b off n cap L ns Ps i c w ⟨hlv⟩ ⟨hc⟩ (by omega) hnb hT hC hF hB
theorem Jq (b off n cap : Nat) (L : List CV) (ns : List Nat) (nv : Value) (w : World) (hn : L.length = n) (hn1 : 1 ≤ n) (hnb : n ≤ 1099511627776) (hnl : ns.length ≤ 1099511627776) (hF : Fit L) (hC : CsAt w.heap.size w b off L) (hNs : NsV w nv ns) :
  Calls Try.prog 25 #[.slice (some ⟨b, off, none⟩) n cap, nv] w fun e w' => ∃ (gp : Nat) (Ps : List PX), e = .returned (.tuple #[.agg (qb 32 (hof (qx n L))), .slice (some ⟨gp, 0, none⟩) ns.length ns.length]) ∧ TR w.heap.size w' gp L ns Ps ∧ Below w.heap.size w w' := by
 obtain ⟨na, nc, rfl⟩ : ∃ na nc, nv = .slice na ns.length nc := by
  rcases hNs with ⟨a, c, e, rfl⟩ | ⟨g, c, e, _, _⟩
  ·exact ⟨a, c, e⟩
  ·exact ⟨_, c, e⟩
 exact Zl b off n cap L ns na ns.length nc w ⟨rfl⟩ ⟨hnl⟩ ⟨hn⟩ hn1 hnb (fun E i j Ps w' e1 e2 h1 h2 h3 hT hC' hR hB => Qg w.heap.size E b off n cap L ns na _ nc e1 e2 rfl hnl hn hnb hF n i j Ps w' h1 h2 h3 hT hC' hR hB) hC hNs
theorem XS (w : World) (vs : Array Value) : (callFunc 7 vs).run Try.prog w = .ok (.enter 7 vs) w := by kernel_rfl
theorem Yt (la : Option Addr) (n cap : Nat) (L : List CV) (e : Int) (w : World) (hn : Keep (L.length = n)) (hwi : Keep (qt L = e)) (he : (e == 0) = false) (he2 : ¬ e = 0) (hC : CsV w.heap.size w (.slice la n cap) L) (hN : n ≤ 1099511627776) : Calls Try.prog 7 #[.slice la n cap] w fun e w' => e = .returned (.tuple #[.agg (qb 32 (qJ L)), .int .i64 (qt L)]) ∧ Below w.heap.size w w' := by
 have HC := kk hC
 have HN := kk hN
 clear hC hN
 go_enter Try.func7, Try.ntmps7
 refine wp_seq_k fun K1 hK1 => rgn (zO 32 qm fun r w1 hr0 R1 b1 => ?_)
 have hrw := lh hr0
 clear hr0
 refine Vv (.int .i64 0) (h:=WL.nil (hK1 _ _ (wp_seq_k fun K2 hK2 => wp_seq_k fun K3 hK3 => rgn (Vv (.slice la n cap) (h:=ClS (vs := #[.slice la n cap]) (jx w.heap.size _ L w1 (HC.o.below b1.o) b1.o.size (by rw [hn.o]; have := HN.o; omega)) ?_)))))
 rintro e w2 ⟨rfl, k1⟩
 refine ⟨_, rfl, ?_⟩
 rw [hwi.o]
 have R2 := kbx R1 k1
 have B2 := tb b1 k1
 clear k1 R1 b1
 refine Vv (.int .i64 e) (h:=WL.nil (hK3 _ _ (wp_seq_k fun K4 hK4 => rgn (Vv (.int .i64 e) (h:=Vt (h:=WL.nil (hK4 _ _ (Ct (h:=wp_seq_k fun K5 hK5 => rgn (?_))))))))))
 refine WL.bld (by kernel_rfl) 32 #[] rfl [] (by simp) (qb 32 fun _ => 0) ky ?_
 simp only [Act.put, pqA, pqB, pqC]
 refine VlS (.int .i64 e) ?_
 refine StR (qb 32 fun _ => 0) R2.o (qd _) (qh _ _ _) (qi _ _) ?_
 have R9 := kk (R2.o.setRow (qb 32 fun _ => 0))
 have B9 : Keep (Below w.heap.size w (w2.setRow r (qb 32 fun _ => 0))) := ⟨qf B2.o hrw.o _⟩
 generalize w2.setRow r (qb 32 fun _ => 0) = w9 at *
 refine Vv (.int .i64 e) (h:=WL.nil (hK5 _ _ (wp_ret ?_)))
 try simp only [Exit.inBlock, Exit.then]
 refine bodyPost_ret (v := .tuple #[.agg (qb 32 fun _ => 0), .int .i64 e]) (qp Try.results7 _ _ r 32 _ (0, 0) _ _ rfl rfl R9.o Try.underlying32 rfl (qd _)) rfl ⟨?_, B9.o⟩
 rw [hwi.o, qJ, hwi.o, if_neg (by simpa using he)]
theorem ka (la : Option Addr) (cap : Nat) (w : World) (hC : CsV w.heap.size w (.slice la 0 cap) []) : Calls Try.prog 7 #[.slice la 0 cap] w fun e w' => e = .returned (.tuple #[.agg (qb 32 (qJ [])), .int .i64 (qt [])]) ∧ Below w.heap.size w w' := by
 have HC := kk hC
 clear hC
 go_enter Try.func7, Try.ntmps7
 refine wp_seq_k fun K1 hK1 => rgn (zO 32 qm fun r w1 hr0 R1 b1 => ?_)
 have hrw := lh hr0
 clear hr0
 refine Vv (.int .i64 0) (h:=WL.nil (hK1 _ _ (wp_seq_k fun K2 hK2 => wp_seq_k fun K3 hK3 => rgn (Vv (.slice la 0 cap) (h:=?_)))))
 refine WL.callF (by kernel_rfl) 23 _ _ rfl DV #[.slice la 0 cap] (by simp [Act.eval]) ?_
 refine (jx w.heap.size _ [] w1 (HC.o.below b1.o) b1.o.size (by simp)).mono ?_
 rintro e w2 ⟨rfl, k1⟩
 refine ⟨_, rfl, ?_⟩
 change WL _ _ _ _ (Act.put _ _ (.int .i64 0)) w2
 have R2 := kbx R1 k1
 have B2 := tb b1 k1
 clear k1 R1 b1
 simp only [Act.put, pqA, pqB, pqC]
 refine Vv (.int .i64 0) (h:=WL.nil (hK3 _ _ (wp_seq_k fun K4 hK4 => rgn (Vv (.int .i64 0) (h:=Vf (h:=WL.nil (hK4 _ _ (Cf (h:=wp_skip (hK2 _ _ (wp_seq_k fun K5 hK5 => wp_seq_k fun K6 hK6 => rgn (Vv (.slice la 0 cap) (h:=Vv (.int .i64 0) (h:=Vt (h:=WL.nil (hK6 _ _ (Ct (h:=?_))))))))))))))))))
 refine wp_seq_k fun K7 hK7 => rgn (ClS (vs := #[.int .i64 ((0 : Nat) : Int), .slice none 0 0]) (jw 0 (.slice none 0 0) [] [] w2 ⟨rfl, fun j u l h _ => by simp at h, .inl ⟨rfl, rfl⟩⟩ (by simp) (by simp)) ?_)
 rintro e w8 ⟨rfl, k1⟩
 refine ⟨_, rfl, ?_⟩
 have R8 := kbx R2 k1
 have B8 := tb B2 k1
 clear k1
 refine StR (qb 32 (qy (2 :: (le8 0 ++ [])))) R8.o (qd _) (qh _ _ _) (qi _ _) ?_
 have R9 := kk (R8.o.setRow (qb 32 (qy (2 :: (le8 0 ++ [])))))
 have B9 : Keep (Below w.heap.size w (w8.setRow r (qb 32 (qy (2 :: (le8 0 ++ [])))))) := ⟨qf B8.o hrw.o _⟩
 generalize w8.setRow r (qb 32 (qy (2 :: (le8 0 ++ [])))) = w9 at *
 refine Vv (.int .i64 0) (h:=WL.nil (hK7 _ _ (wp_ret ?_)))
 try simp only [Exit.inBlock, Exit.then]
 refine bodyPost_ret (v := .tuple #[.agg (qb 32 (qy (2 :: (le8 0 ++ [])))), .int .i64 0]) (qp Try.results7 _ _ r 32 _ (0, 0) _ _ rfl rfl R9.o Try.underlying32 rfl (qd _)) rfl ⟨?_, B9.o⟩
 rfl
theorem QO (b off n cap : Nat) (L : List CV) (w : World) (hn : Keep (L.length = n)) (hn1 : 1 ≤ n) (hwi : Keep (qt L = 0)) (hF : Fit L) (hC : CsV w.heap.size w (.slice (some ⟨b, off, none⟩) n cap) L) (hA : CsAt w.heap.size w b off L) (hN : n ≤ 1099511627776) : Calls Try.prog 7 #[.slice (some ⟨b, off, none⟩) n cap] w fun e w' => e = .returned (.tuple #[.agg (qb 32 (qJ L)), .int .i64 (qt L)]) ∧ Below w.heap.size w w' := by
 have HF := kk hF
 have HA := kk hA
 have HTl : Keep ((qx n L).length = 32) := ⟨xO (by rw [hn.o]; exact hn1) (by rw [hn.o]; exact Nat.le_refl _)⟩
 have hn0 : ((n : Int) == 0) = false := by simp; omega
 have HC := kk hC
 have HN := kk hN
 clear hC hN
 clear hF hA
 go_enter Try.func7, Try.ntmps7
 refine wp_seq_k fun K1 hK1 => rgn (zO 32 qm fun r w1 hr0 R1 b1 => ?_)
 have hrw := lh hr0
 clear hr0
 refine Vv (.int .i64 0) (h:=WL.nil (hK1 _ _ (wp_seq_k fun K2 hK2 => wp_seq_k fun K3 hK3 => rgn (Vv (.slice (some ⟨b, off, none⟩) n cap) (h:=ClS (vs := #[.slice (some ⟨b, off, none⟩) n cap]) (jx w.heap.size _ L w1 (HC.o.below b1.o) b1.o.size (by rw [hn.o]; have := HN.o; omega)) ?_)))))
 rintro e w2 ⟨rfl, k1⟩
 refine ⟨_, rfl, ?_⟩
 rw [hwi.o]
 have R2 := kbx R1 k1
 have B2 := tb b1 k1
 clear k1 R1 b1
 refine Vv (.int .i64 0) (h:=WL.nil (hK3 _ _ (wp_seq_k fun K4 hK4 => rgn (Vv (.int .i64 0) (h:=Vf (h:=WL.nil (hK4 _ _ (Cf (h:=wp_skip (hK2 _ _ (wp_seq_k fun K5 hK5 => wp_seq_k fun K6 hK6 => rgn (Vv (.slice (some ⟨b, off, none⟩) n cap) (h:=Vv (.int .i64 (n : Int)) (h:=Vf (h:=WL.nil (hK6 _ _ (Cf (h:=?_))))))))))))))))))
 refine wp_skip (hK5 _ _ (wp_seq_k fun K7 hK7 => rgn (Vv (.slice (some ⟨b, off, none⟩) n cap) (h:=?_))))
 refine WL.callF (by kernel_rfl) 25 _ _ rfl DX #[.slice (some ⟨b, off, none⟩) n cap, .slice none 0 0] (by simp [Act.eval]) ?_
 refine (Jq b off n cap L [] (.slice none 0 0) w2 hn.o hn1 HN.o (by simp) HF.o ((HA.o.below B2.o).mono B2.o.size) (.inl ⟨none, 0, rfl, rfl⟩)).mono ?_
 rintro e w3 ⟨gp, Ps, rfl, -, k1⟩
 refine ⟨_, rfl, ?_⟩
 have R3 := kbx R2 k1
 have B3 := tb B2 k1
 clear k1 R2 B2
 change WL _ _ _ _ (Act.put _ _ (.tuple #[.agg (qb 32 (hof (qx n L))), .slice (some ⟨gp, 0, none⟩) 0 0])) w3
 simp only [Act.put, pqA, pqB, pqC]
 refine Vv (.tuple #[.agg (qb 32 (hof (qx n L))), .slice (some ⟨gp, 0, none⟩) 0 0]) (h:=Vv (.agg (qb 32 (hof (qx n L)))) (h:=Vv (.slice (some ⟨gp, 0, none⟩) 0 0) (h:=zO 32 qm fun d w4 hd0 D4 b4 => ?_)))
 have R4 := kbx R3 b4.o
 have B4 := tb B3 b4.o
 have hrd : Keep (r ≠ d) := ⟨by have := R3.o.lt; have := hd0.o; omega⟩
 have hdw : Keep (w.heap.size ≤ d) := ⟨by rw [hd0.o]; exact B3.o.size⟩
 clear R3 b4 B3 hd0
 refine StR (qb 32 (hof (qx n L))) D4.o (qd _) (qh _ _ _) (qi _ _) ?_
 have D5 := kk (D4.o.setRow (qb 32 (hof (qx n L))))
 have R5 := kk (R4.o.setRow_ne hrd.o (qb 32 (hof (qx n L))))
 have B5 : Keep (Below w.heap.size w (w4.setRow d (qb 32 (hof (qx n L))))) := ⟨qf B4.o hdw.o _⟩
 generalize w4.setRow d (qb 32 (hof (qx n L))) = w5 at *
 refine Vv (.slice (some ⟨gp, 0, none⟩) 0 0) (h:=WL.nil (hK7 _ _ (wp_seq_k fun K8 hK8 => rgn (Vv (.slice (some ⟨b, off, none⟩) n cap) (h:=Vv (.int .i64 (n : Int)) (h:=Vv (.slice (some ⟨d, 0, none⟩) 32 32) (h:=?_)))))))
 refine WL.bs (by kernel_rfl) 48 1 _ rfl #[(0, .slice (some ⟨d, 0, none⟩) 32 32)] (by simp [Act.eval]) _ _ (kv _ _ _ w5) ?_
 have b6 := kk (qg w5 (.cells #[.slice (some ⟨d, 0, none⟩) 32 32] 42))
 have Q6 := kk (Blk.new w5 42 #[.slice (some ⟨d, 0, none⟩) 32 32])
 generalize w5.alloc (.cells #[.slice (some ⟨d, 0, none⟩) 32 32] 42) = w6 at *
 obtain ⟨g2, hg2⟩ := nm w5
 rw [← hg2.o] at Q6 ⊢
 have X6 : Keep (RsV w6 (.slice (some ⟨g2, 0, none⟩) 1 1) [.slice (some ⟨d, 0, none⟩) 32 32] [qx n L]) := ⟨RsV.one Q6.o (by have h := (xR D5.o).below b6.o; rw [jO HTl.o] at h; exact h)⟩
 have R6 := kbx R5 b6.o
 have B6 := tb B5 b6.o
 clear b6 Q6 R5 B5 hg2
 simp only [Act.put, pqA, pqB, pqC]
 refine ClS (vs := #[.int .i64 (n : Int), .slice (some ⟨g2, 0, none⟩) 1 1]) (jw n _ _ _ w6 X6.o (by simp) (by simp [HTl.o])) ?_
 rintro e w8 ⟨rfl, k1⟩
 refine ⟨_, rfl, ?_⟩
 rw [show 2 :: (le8 n ++ [qx n L].flatten) = 2 :: (le8 n ++ qx n L) from by simp]
 have R8 := kbx R6 k1
 have B8 := tb B6 k1
 clear k1
 refine StR (qb 32 (qy (2 :: (le8 n ++ qx n L)))) R8.o (qd _) (qh _ _ _) (qi _ _) ?_
 have R9 := kk (R8.o.setRow (qb 32 (qy (2 :: (le8 n ++ qx n L)))))
 have B9 : Keep (Below w.heap.size w (w8.setRow r (qb 32 (qy (2 :: (le8 n ++ qx n L)))))) := ⟨qf B8.o hrw.o _⟩
 generalize w8.setRow r (qb 32 (qy (2 :: (le8 n ++ qx n L)))) = w9 at *
 refine Vv (.int .i64 0) (h:=WL.nil (hK8 _ _ (wp_ret ?_)))
 try simp only [Exit.inBlock, Exit.then]
 refine bodyPost_ret (v := .tuple #[.agg (qb 32 (qy (2 :: (le8 n ++ qx n L)))), .int .i64 0]) (qp Try.results7 _ _ r 32 _ (0, 0) _ _ rfl rfl R9.o Try.underlying32 rfl (qd _)) rfl ⟨?_, B9.o⟩
 rw [hwi.o, qJ, hwi.o, if_pos rfl, xz, hn.o]
 unfold RtP.topR
 rw [if_pos (by omega)]
theorem xS (v : Value) (L : List CV) (w : World) (hC : CsV w.heap.size w v L) (hS : Sml L) (hN : L.length ≤ 1099511627776) : Calls Try.prog 7 #[v] w fun e w' => e = .returned (.tuple #[.agg (qb 32 (qJ L)), .int .i64 (qt L)]) ∧ Below w.heap.size w w' := by
 have hC0 := hC
 rcases hC with ⟨a, c, rfl, rfl⟩ | ⟨b, off, cap, rfl, h2, h3⟩
 ·exact ka a c w hC0
 ·by_cases hW : qt L = 0
  ·by_cases h1 : 1 ≤ L.length
   ·exact QO b off _ cap L w ⟨rfl⟩ h1 ⟨hW⟩ (Kk (Kg hW) hS) hC0 h3 hN
   ·have : L = [] := List.eq_nil_of_length_eq_zero (by omega)
    subst this
    exact ka _ cap w hC0
  ·exact Yt _ _ cap L _ w ⟨rfl⟩ ⟨rfl⟩ (by simpa using hW) hW hC0 hN
end Go.Proofs.Ytdpcjfafbmhceaa
namespace Go.Proofs.Ytdpcjfafbmhceaa
open Go.RowKit
theorem kP (c : Nat → Int) (w : World) : (Op.equalIn 10000 32 (.agg (qb 32 c)) (.agg (qb 32 c))).run Try.prog w = .ok true w := by
 obtain ⟨i, hi, _⟩ := Option.map_eq_some_iff.1 vf
 rw [run_equalIn_array (P := Try.prog) w 9999 _ _ Try.underlying32 hi, kI]
 exact Ji c 9998 w _ (fun j hj => List.mem_range.1 hj)
end Go.Proofs.Ytdpcjfafbmhceaa
namespace Go.Proofs.Ytdpcjfafbmhceaa
open Go.RowKit
set_option linter.unusedSimpArgs false
set_option linter.unusedVariables false
theorem UD (w : World) (vs : Array Value) : (callFunc 20 vs).run Try.prog w = .ok (.enter 20 vs) w := by kernel_rfl
theorem VR (w : World) (vs : Array Value) : (callFunc 5 vs).run Try.prog w = .ok (.enter 5 vs) w := by kernel_rfl
theorem ZE (vx : Value) (l : List Int) (w : World) (hx : RowAt w vx l) (hl : l.length ≤ 140737650005000) :
  Calls Try.prog 20 #[vx] w fun e w' => e = .returned (.agg (qb 32 (qy l))) ∧ Below w.heap.size w w' := by
 obtain ⟨va, vc, rfl⟩ := qR hx
 have HX := kk hx
 have HL := kk hl
 clear hx hl
 go_enter Try.func20, Try.ntmps20
 refine wp_seq_k fun K1 hK1 => rgn (zO 32 qm fun r w1 hr0 R1 b1 => ?_)
 have hrw := lh hr0
 have Y1 := kk (HX.o.below b1.o)
 refine WL.nil (hK1 _ _ (wp_seq_k fun K2 hK2 => rgn (Vv (.slice va l.length vc) (h:=?_))))
 refine WL.bs (by kernel_rfl) 48 1 _ rfl #[(0, .slice va l.length vc)] (by simp [Act.eval]) _ _ (kv _ _ _ w1) ?_
 have O3 : Keep ((w1.alloc (.cells #[.slice va l.length vc] 42)).ownsRow w1.heap.size 42 1 (.slice (some ⟨w1.heap.size, 0, none⟩) 1 1) 1 [.slice va l.length vc]) := ⟨rfl, .inr ⟨w1.heap.size, 1, _, rfl, Nat.le_refl _, Blk.new w1 42 _, Nat.le_refl _, by decide, rfl, rfl⟩⟩
 have b3 := kk (qg w1 (.cells #[.slice va l.length vc] 42))
 generalize w1.alloc (.cells #[.slice va l.length vc] 42) = w3 at *
 obtain ⟨g2, hg2⟩ := nm w1
 rw [← hg2.o] at O3 ⊢
 have R3 := kbx R1 b3.o
 have Y3 := kk (Y1.o.below b3.o)
 have B3 := tb b1 b3.o
 clear R1 Y1 b3 b1
 simp only [Act.put, pqA, pqB, pqC]
 have hall := XQ g2 _ [.slice va l.length vc] [l] w3 O3.o (by simp) rfl (fun j u m hu hm => by
  cases j with
  | zero => simp at hu hm; subst hu hm; exact Y3.o
  | succ j => simp at hu) (by simp) (by simpa using HL.o)
 rw [show [l].flatten = l from by simp] at hall
 refine WL.callF (by kernel_rfl) 41 _ _ rfl Qt #[.slice (some ⟨g2, 0, none⟩) 1 1] (by simp [Act.eval]) ?_
 refine hall.mono ?_
 rintro e w8 ⟨rfl, k1⟩
 refine ⟨_, rfl, ?_⟩
 have R8 := kbx R3 k1
 have B8 := tb B3 k1
 clear hall k1
 simp only [Act.put, pqA, pqB, pqC]
 refine StR (qb 32 (qy l)) R8.o (qd _) (qh _ _ _) (qi _ _) ?_
 have R9 := kk (R8.o.setRow (qb 32 (qy l)))
 have B9 : Keep (Below w.heap.size w (w8.setRow r (qb 32 (qy l)))) := ⟨qf B8.o hrw.o _⟩
 generalize w8.setRow r (qb 32 (qy l)) = w9 at *
 refine WL.nil (hK2 _ _ (wp_ret ?_))
 try simp only [Exit.inBlock, Exit.then]
 refine bodyPost_ret (v := .agg (qb 32 (qy l))) (results_cell_row Try.results20 _ _ r 32 _ (0, 0) _ rfl R9.o Try.underlying32 rfl (qd _)) rfl ⟨rfl, B9.o⟩
def cB : CV := ⟨1, ⟨#[98]⟩, .slice none 0 0, []⟩
def cA : CV := ⟨1, ⟨#[97]⟩, .slice none 0 0, []⟩
theorem Xs : qt [cB, cA] = 130 := by decide +kernel
def z9 : List Int := [2, 0, 0, 0, 0, 0, 0, 0, 0]
theorem GT : 2 :: (le8 0 ++ []) = z9 := by decide +kernel
theorem bs9 (w : World) : (Instr.buildSlice 42 9 #[(0, .int .u8 2), (1, .int .u8 0), (2, .int .u8 0), (3, .int .u8 0), (4, .int .u8 0), (5, .int .u8 0), (6, .int .u8 0), (7, .int .u8 0), (8, .int .u8 0)]).run Try.prog w = .ok (.slice (some ⟨w.heap.size, 0, none⟩) 9 9) (w.alloc (.cells (bv z9).toArray 5)) := by kernel_rfl
theorem DN : Try.prog.built 44 [(0, .int .i64 1), (1, .string ⟨#[98]⟩)] = some (cvL cB).toArray := by kernel_rfl
theorem DO : Try.prog.built 44 [(0, .int .i64 1), (1, .string ⟨#[97]⟩)] = some (cvL cA).toArray := by kernel_rfl
theorem DM (w : World) : (Instr.buildSlice 22 2 #[(0, .agg (cvL cB).toArray), (1, .agg (cvL cA).toArray)]).run Try.prog w = .ok (.slice (some ⟨w.heap.size, 0, none⟩) 2 2) (w.alloc (.cells (cvL cB ++ cvL cA).toArray 44)) := by kernel_rfl
theorem DG {w : World} {g B : Nat} (h : Blk w g 44 (cvL cB ++ cvL cA).toArray) (hg : g < B) : CsV B w (.slice (some ⟨g, 0, none⟩) 2 2) [cB, cA] := by
 refine .inr ⟨g, 0, 2, rfl, Nat.le_refl _, hg, fun i c hc => ?_, fun c hc => ?_⟩
 ·intro j v hv
  rw [h.cell]
  match i with
  | 0 =>
   simp at hc; subst hc
   have hj := (List.getElem?_eq_some_iff.1 hv).1
   rw [List.getElem?_toArray, show 0 + 0 * 3 + j = j by omega, List.getElem?_append_left hj]; exact hv
  | 1 =>
   simp at hc; subst hc
   rw [List.getElem?_toArray, List.getElem?_append_right (by simp [cvL])]
   simpa [cvL, show 0 + 1 * 3 + j - 3 = j by omega] using hv
  | i + 2 => simp at hc
 ·simp at hc
  rcases hc with rfl | rfl <;> exact ⟨.inl ⟨rfl, rfl⟩, fun _ k hk => by simp [cB, cA, Value.ownBlock] at hk⟩
theorem GV : Sml [cB, cA] := fun c hc => by
 simp at hc
 rcases hc with rfl | rfl <;> decide
theorem eqA {x : Array Value} {c : Nat → Int} (h : x = qb 32 c) (w : World) : (Op.equalIn 10000 32 (.agg x) (.agg x)).run Try.prog w = .ok true w := by rw [h]; exact kP c w
theorem JD (w : World) : Calls Try.prog 5 #[] w fun e w' => e = .returned (.bool true) ∧ Below w.heap.size w w' := by
 obtain ⟨hh, hhe⟩ : ∃ z : Array Value, Keep (z = qb 32 (qy z9)) := ⟨_, ⟨rfl⟩⟩
 obtain ⟨ho, hoe⟩ : ∃ z : Array Value, Keep (z = (qb 32 fun _ => 0)) := ⟨_, ⟨rfl⟩⟩
 go_enter Try.func5, Try.ntmps5
 refine wp_seq_k fun K1 hK1 => rgn (Vf (h:=WL.nil (hK1 _ _ (wp_seq_k fun K2 hK2 => rgn (?_)))))
 refine WL.callF (by kernel_rfl) 7 _ _ rfl XS #[.slice none 0 0] (by simp [Act.eval]) ?_
 refine (xS (.slice none 0 0) [] w (.inl ⟨_, _, rfl, rfl⟩) (fun c hc => by simp at hc) (by simp)).mono ?_
 rintro e w1 ⟨rfl, k1⟩
 refine ⟨_, rfl, ?_⟩
 change WL _ _ _ _ (Act.put _ _ (.tuple #[.agg (qb 32 (qy (2 :: (le8 0 ++ [])))), .int .i64 0])) w1
 rw [GT, ← hhe.o]
 have B1 := kk k1
 clear k1
 simp only [Act.put, pqA, pqB, pqC]
 refine Vv (.tuple #[.agg hh, .int .i64 0]) (h:=Vv (.agg hh) (h:=Vv (.int .i64 0) (h:=zU 32 qm fun d w2 hd D2 b_ => ?_)))
 have B2 := tb B1 b_
 have gd : Keep (w.heap.size ≤ d) := ⟨by rw [hd.o]; exact B1.o.size⟩
 clear b_
 refine StR hh D2.o (by rw [hhe.o]; exact qd _) (by simp [hhe.o, qB]) (by rw [hhe.o]; exact qi _ _) ?_
 have D3 := kk (D2.o.setRow hh)
 have B3 : Keep (Below w.heap.size w (w2.setRow d hh)) := ⟨qf B2.o gd.o _⟩
 generalize w2.setRow d hh = w3 at *
 refine Vv (.int .i64 0) (h:=WL.nil (hK2 _ _ (wp_seq_k fun K3 hK3 => rgn (?_))))
 refine WL.bld (by kernel_rfl) 44 _ rfl [(0, .int .i64 1), (1, .string ⟨#[98]⟩)] (by simp [Act.eval]) _ DN ?_
 simp only [Act.put, pqA, pqB, pqC]
 refine WL.bld (by kernel_rfl) 44 _ rfl [(0, .int .i64 1), (1, .string ⟨#[97]⟩)] (by simp [Act.eval]) _ DO ?_
 simp only [Act.put, pqA, pqB, pqC]
 refine WL.bs (by kernel_rfl) 22 2 _ rfl #[(0, .agg (cvL cB).toArray), (1, .agg (cvL cA).toArray)] (by simp [Act.eval]) _ _ (DM w3) ?_
 have b_ := qg w3 (.cells (cvL cB ++ cvL cA).toArray 44)
 have Q4 := kk (Blk.new w3 44 (cvL cB ++ cvL cA).toArray)
 generalize w3.alloc (.cells (cvL cB ++ cvL cA).toArray 44) = w4 at *
 obtain ⟨g, hg⟩ := nm w3
 rw [← hg.o] at Q4 ⊢
 have D4 := kbx D3 b_
 have B4 := tb B3 b_
 clear b_ hg
 simp only [Act.put, pqA, pqB, pqC]
 have hrt := xS _ [cB, cA] w4 (DG Q4.o Q4.o.lt) GV (by simp)
 rw [show qJ [cB, cA] = fun _ => 0 from by unfold qJ; rw [Xs, if_neg (by decide)], Xs, ← hoe.o] at hrt
 refine ClS (hrt) ?_
 rintro e w5 ⟨rfl, k1⟩
 refine ⟨_, rfl, ?_⟩
 have D5 := kbx D4 k1
 have B5 := tb B4 k1
 clear k1 hrt Q4 D4 B4
 refine Vv (.tuple #[.agg ho, .int .i64 130]) (h:=Vv (.agg ho) (h:=Vv (.int .i64 130) (h:=zU 32 qm fun f w6 hf F6 b_ => ?_)))
 have B6 := tb B5 b_
 have gf : Keep (w.heap.size ≤ f) := ⟨by rw [hf.o]; exact B5.o.size⟩
 have D6 := kbx D5 b_
 have nef : Keep (d ≠ f) := ⟨by have := D5.o.lt; have := hf.o; omega⟩
 clear b_
 refine StR ho F6.o (by rw [hoe.o]; exact qd _) (by simp [hoe.o, qB]) (by rw [hoe.o]; exact qi _ _) ?_
 have F7 := kk (F6.o.setRow ho)
 have B7 : Keep (Below w.heap.size w (w6.setRow f ho)) := ⟨qf B6.o gf.o _⟩
 have D7 := kk (D6.o.setRow_ne nef.o ho)
 generalize w6.setRow f ho = w7 at *
 refine Vv (.int .i64 130) (h:=WL.nil (hK3 _ _ (wp_seq_k fun K4 hK4 => ?_)))
 have Dd : Keep (Blk w7.drew d _ _) := ⟨D7.o⟩
 have Fd : Keep (Blk w7.drew f _ _) := ⟨F7.o⟩
 have Bd : Keep (Below w.heap.size w w7.drew) := ⟨B7.o.drew⟩
 clear D7 F7 B7
 refine wp_region_held_drew (S := fun wx => wx.rangeAt d 0 hh.toList ∧ wx.rangeAt f 0 ho.toList) (by kernel_rfl) (⟨ql Dd.o, ql Fd.o⟩) (fun hHeld => ?_)
 refine uS 0 ⟨some 16, .move (.tmp 2), 33, _, _, none⟩ (.int .i64 0) rfl (yi (by rintro w ⟨hS1, hS2⟩; clear hS1 hS2; go_simp)) hHeld ?_
 refine uS 1 ⟨some 17, .binOp BinOp.eql 33 (.tmp 16) (.const (Value.int IntKind.i64 0)) 33, 4, _, _, none⟩ (.bool true) rfl (yi (by rintro w ⟨hS1, hS2⟩; clear hS1 hS2; go_simp)) hHeld ?_
 refine uS 2 ⟨some 18, .move (.tmp 17), 4, _, _, none⟩ (.bool true) rfl (yi (by rintro w ⟨hS1, hS2⟩; clear hS1 hS2; go_simp)) hHeld ?_
 refine uS 3 ⟨some 19, .load 32 (.tmp 1), 32, _, _, some (2, true)⟩ (.agg hh) rfl (qv (by rfl) (.tmp 1) 32 rfl d 0 rfl hh _ Try.underlying32 rfl (by rw [hhe.o]; exact qd _) fun w hS => hS.1) hHeld ?_
 refine rd1 4 ⟨some 20, .buildSlice 42 9 #[(0, .const (Value.int IntKind.u8 2)), (1, .const (Value.int IntKind.u8 0)), (2, .const (Value.int IntKind.u8 0)), (3, .const (Value.int IntKind.u8 0)), (4, .const (Value.int IntKind.u8 0)), (5, .const (Value.int IntKind.u8 0)), (6, .const (Value.int IntKind.u8 0)), (7, .const (Value.int IntKind.u8 0)), (8, .const (Value.int IntKind.u8 0))], 42, _, _, some (2, true)⟩ rfl fun K hK => ?_
 refine zI 42 9 _ rfl #[(0, .int .u8 2), (1, .int .u8 0), (2, .int .u8 0), (3, .int .u8 0), (4, .int .u8 0), (5, .int .u8 0), (6, .int .u8 0), (7, .int .u8 0), (8, .int .u8 0)] (by simp [Act.eval]) _ _ (bs9 _) ?_
 have b_ := qg w7.drew (.cells (bv z9).toArray 5)
 have Yg8 : Keep (RowAt (w7.drew.alloc (.cells (bv z9).toArray 5)) (.slice (some ⟨w7.drew.heap.size, 0, none⟩) 9 9) z9) := ⟨(kc w7.drew z9 (by decide)).row⟩
 generalize w7.drew.alloc (.cells (bv z9).toArray 5) = w8 at *
 obtain ⟨g8, hg8⟩ := nm w7.drew
 rw [← hg8.o] at Yg8 ⊢
 have D8 := kbx Dd b_
 have F8 := kbx Fd b_
 have B8 := tb Bd b_
 clear b_ hg8 Dd Fd Bd
 refine hK _ _ ⟨ql D8.o, ql F8.o⟩ fun hH_ => kNx ?_
 clear hK
 refine rd1 5 ⟨some 21, .call { callee := .value (.func 20), args := #[.tmp 20], argTypes := #[42] }, 32, _, _, some (2, true)⟩ rfl fun K hK => ?_
 refine qz 20 _ _ rfl UD #[.slice (some ⟨g8, 0, none⟩) 9 9] (by simp [Act.eval]) (fun vz wz => vz = .agg hh ∧ Below w8.heap.size w8 wz) ?_ ?_
 ·refine (ZE _ z9 w8 Yg8.o (by decide)).mono ?_
  rintro e wz ⟨rfl, k1⟩
  exact ⟨_, rfl, by rw [hhe.o], k1⟩
 rintro vz w9 ⟨rfl, k1⟩
 have D9 := kbx D8 k1
 have F9 := kbx F8 k1
 have B9 := tb B8 k1
 clear k1 D8 F8 B8 Yg8
 refine hK _ _ (⟨ql D9.o, ql F9.o⟩) fun hH_ => kNx ?_
 clear hK
 refine uS 6 ⟨some 22, .binOp BinOp.eql 32 (.tmp 19) (.tmp 21) 32, 4, _, _, some (2, true)⟩ (.bool true) rfl (yi fun w hS => by have hq_ := eqA hhe.o w; clear hS; go_simp) hH_ ?_
 refine uS 7 ⟨some 23, .pick (.tmp 18) (.tmp 22) (.const (Value.bool false)), 4, _, _, none⟩ (.bool true) rfl (yi (by rintro w ⟨hS1, hS2⟩; clear hS1 hS2; go_simp)) hH_ ?_
 refine uS 8 ⟨some 24, .move (.tmp 23), 4, _, _, none⟩ (.bool true) rfl (yi (by rintro w ⟨hS1, hS2⟩; clear hS1 hS2; go_simp)) hH_ ?_
 refine uS 9 ⟨some 25, .load 32 (.tmp 1), 32, _, _, some (8, true)⟩ (.agg hh) rfl (qv (by rfl) (.tmp 1) 32 rfl d 0 rfl hh _ Try.underlying32 rfl (by rw [hhe.o]; exact qd _) fun w hS => hS.1) hH_ ?_
 refine rd1 10 ⟨some 26, .buildSlice 42 9 #[(0, .const (Value.int IntKind.u8 2)), (1, .const (Value.int IntKind.u8 0)), (2, .const (Value.int IntKind.u8 0)), (3, .const (Value.int IntKind.u8 0)), (4, .const (Value.int IntKind.u8 0)), (5, .const (Value.int IntKind.u8 0)), (6, .const (Value.int IntKind.u8 0)), (7, .const (Value.int IntKind.u8 0)), (8, .const (Value.int IntKind.u8 0))], 42, _, _, some (8, true)⟩ rfl fun K hK => ?_
 refine zI 42 9 _ rfl #[(0, .int .u8 2), (1, .int .u8 0), (2, .int .u8 0), (3, .int .u8 0), (4, .int .u8 0), (5, .int .u8 0), (6, .int .u8 0), (7, .int .u8 0), (8, .int .u8 0)] (by simp [Act.eval]) _ _ (bs9 _) ?_
 have b_ := qg w9 (.cells (bv z9).toArray 5)
 have Yga : Keep (RowAt (w9.alloc (.cells (bv z9).toArray 5)) (.slice (some ⟨w9.heap.size, 0, none⟩) 9 9) z9) := ⟨(kc w9 z9 (by decide)).row⟩
 generalize w9.alloc (.cells (bv z9).toArray 5) = wa at *
 obtain ⟨ga, hga⟩ := nm w9
 rw [← hga.o] at Yga ⊢
 have Da := kbx D9 b_
 have Fa := kbx F9 b_
 have Ba := tb B9 b_
 clear b_ hga D9 F9 B9
 refine hK _ _ ⟨ql Da.o, ql Fa.o⟩ fun hH_ => kNx ?_
 clear hK
 refine rd1 11 ⟨some 27, .call { callee := .value (.func 21), args := #[.tmp 26], argTypes := #[42] }, 32, _, _, some (8, true)⟩ rfl fun K hK => ?_
 refine qz 21 _ _ rfl UC #[.slice (some ⟨ga, 0, none⟩) 9 9] (by simp [Act.eval]) (fun vz wz => vz = .agg hh ∧ Below wa.heap.size wa wz) ?_ ?_
 ·refine (Jn _ z9 wa Yga.o (by decide)).mono ?_
  rintro e wz ⟨rfl, k1⟩
  exact ⟨_, rfl, by rw [hhe.o], k1⟩
 rintro vz wb ⟨rfl, k1⟩
 have Db := kbx Da k1
 have Fb := kbx Fa k1
 have Bb := tb Ba k1
 clear k1 Da Fa Ba Yga
 refine hK _ _ (⟨ql Db.o, ql Fb.o⟩) fun hH_ => kNx ?_
 clear hK
 refine uS 12 ⟨some 28, .binOp BinOp.eql 32 (.tmp 25) (.tmp 27) 32, 4, _, _, some (8, true)⟩ (.bool true) rfl (yi fun w hS => by have hq_ := eqA hhe.o w; clear hS; go_simp) hH_ ?_
 refine uS 13 ⟨some 29, .pick (.tmp 24) (.tmp 28) (.const (Value.bool false)), 4, _, _, none⟩ (.bool true) rfl (yi (by rintro w ⟨hS1, hS2⟩; clear hS1 hS2; go_simp)) hH_ ?_
 refine uS 14 ⟨some 30, .move (.tmp 29), 4, _, _, none⟩ (.bool true) rfl (yi (by rintro w ⟨hS1, hS2⟩; clear hS1 hS2; go_simp)) hH_ ?_
 refine uS 15 ⟨some 31, .load 32 (.tmp 3), 32, _, _, some (14, true)⟩ (.agg ho) rfl (qv (by rfl) (.tmp 3) 32 rfl f 0 rfl ho _ Try.underlying32 rfl (by rw [hoe.o]; exact qd _) fun w hS => hS.2) hH_ ?_
 refine rd1 16 ⟨some 32, .build 32 #[], 32, _, _, some (14, true)⟩ rfl fun K hK => ?_
 refine jZ 32 #[] rfl ho (by rw [hoe.o]; simpa using ky) ?_
 refine hK _ _ ⟨ql Db.o, ql Fb.o⟩ fun hH_ => kNx ?_
 clear hK
 refine uS 17 ⟨some 33, .binOp BinOp.eql 32 (.tmp 31) (.tmp 32) 32, 4, _, _, some (14, true)⟩ (.bool true) rfl (yi fun w hS => by have hq_ := eqA hoe.o w; clear hS; go_simp) hH_ ?_
 refine uS 18 ⟨some 34, .pick (.tmp 30) (.tmp 33) (.const (Value.bool false)), 4, _, _, none⟩ (.bool true) rfl (yi (by rintro w ⟨hS1, hS2⟩; clear hS1 hS2; go_simp)) hH_ ?_
 refine uS 19 ⟨some 0, .assign (.tmp 34), 4, _, _, none⟩ (.bool true) rfl (yi (by rintro w ⟨hS1, hS2⟩; clear hS1 hS2; go_simp)) hH_ ?_
 refine wpAnyH_done (by kernel_rfl) ?_ _
 refine hK4 _ _ (wp_ret ?_)
 go_ret
 exact ⟨rfl, Bb.o⟩
end Go.Proofs.Ytdpcjfafbmhceaa
