import Derived.Test.YtdpcjfafbmhceaaA20
import Derived.Test.YtdpcjfafbmhceaaA05
import Derived.Test.YtdpcjfafbmhceaaA06
set_option maxRecDepth 8000
set_option maxHeartbeats 4000000
namespace Go.Proofs.Ytdpcjfafbmhceaa
open Go.RowKit
set_option linter.unusedSimpArgs false
set_option linter.unusedVariables false
theorem Dh (f : Nat → Int) (w : World) : (Op.equalIn 10000 32 (.agg (qb 32 f)) (.agg (qb 32 f))).run Try.prog w = .ok true w := by
 rw [jC]
 congr 1
 rw [List.all_eq_true]
 intro i _
 simp
theorem Ge (w : World) : (Instr.buildSlice 42 1 #[(0, .int .u8 49)]).run Try.prog w = .ok (.slice (some ⟨w.heap.size, 0, none⟩) 1 1) (w.alloc (.cells #[.int .u8 49] 5)) := by kernel_rfl
theorem YC (vL vW : Value) (L : List CV) (kind n0 : Int) (key : ByteArray) (at_ : Nat) (w : World) (HC : Keep (CsV w.heap.size w vL L)) (HS : Keep (Sml L)) (hfew : Keep (yY L = true)) (HA : Keep (at_ ≤ L.length)) (HAt : Keep (qt L = 0 → ∀ (i : Nat) (c : CV), L[i]? = some c → (stI c.k c.s kind key < 0 ↔ i < at_))) : Calls Try.prog 3 #[.agg #[vL, .int .i64 kind, .string key, .int .i64 n0, vW]] w fun e w' => e = .returned (.bool true) ∧ Below w.heap.size w w' := by
 have HFs : Keep (∀ c ∈ L, c.l.length ≤ 140737488351232) := ⟨fun c hc => by have := HS.o c hc; omega⟩
 have HNl : Keep (L.length ≤ 1099511627776) := ⟨by have := xV hfew.o; omega⟩
 have HNn : Keep (L.length ≤ 3600000000000) := ⟨by have := HNl.o; omega⟩
 go_enter Try.func3, Try.ntmps3
 refine wp_seq_k fun K1 hK1 => rgn (GS 27 (.tmp 0) #[vL, .int .i64 kind, .string key, .int .i64 n0, vW] fun b1 w1 hb1 H1 HB => ?_)
 have X1 : Keep (b1 < w1.heap.size) := ⟨H1.o.lt⟩
 have Y1 : Keep (w.heap.size ≤ w1.heap.size) := ⟨HB.o.size⟩
 clear hb1
 refine Vf (h:=WL.nil (hK1 _ _ (wp_seq_k fun K2 hK2 => wp_seq_k fun K3 hK3 => rgn (Vv (.pointer (some ⟨b1, 0, none⟩)) (h:=Vb (vL) H1 0 (h:=ClS (XE vL L w1 ((HC.o.below HB.o).mono HB.o.size) HFs.o HNn.o) ?_))))))
 rintro e w_ ⟨rfl, hw_⟩
 refine ⟨_, rfl, ?_⟩
 have hw_ := hw_.symm
 subst hw_
 rw [hfew.o]
 refine Vf (h:=WL.nil (hK3 _ _ (Cf (h:=wp_skip (hK2 _ _ (wp_seq_k fun K4 hK4 => rgn (Vv (.pointer (some ⟨b1, 0, none⟩)) (h:=Vb (vL) H1 0 (h:=ClS (XX vL L w1 ((HC.o.below HB.o).mono HB.o.size) hfew.o) ?_)))))))))
 rintro e w2 ⟨vo, OW, rfl, k0, k1⟩
 refine ⟨_, rfl, ?_⟩
 have O3 := kk k0
 have AL := kk k0.alike
 replace HB := tb HB k1
 replace H1 := kbx H1 k1
 clear k0 k1
 refine Vv (vo) (h:=WL.nil (hK4 _ _ (wp_seq_k fun K5 hK5 => rgn (Vv (vo) (h:=?_)))))
 have HSo : Keep (Sml OW) := ⟨AL.o.sml HS.o⟩
 have HNo : Keep (OW.length ≤ 1099511627776) := ⟨by rw [AL.o.len]; have := xV hfew.o; omega⟩
 refine WL.callF (by kernel_rfl) 7 _ _ rfl XS #[vo] (by simp [Act.eval]) ?_
 refine (xS vo OW w2 (O3.o.csv) HSo.o HNo.o).mono ?_
 rintro e w3 ⟨rfl, k1⟩
 refine ⟨_, rfl, ?_⟩
 
 replace HB := tb HB k1
 replace H1 := kbx H1 k1
 replace O3 := kk (O3.o.below k1)
 clear k1
 simp only [Act.put, pqA, pqB, pqC]
 refine Vv (.tuple #[.agg (qb 32 (qJ OW)), .int .i64 (qt OW)]) (h:=Vv (.agg (qb 32 (qJ OW))) (h:=Vv (.int .i64 (qt OW)) (h:=kJ 32 qm fun b4 wn hb_ N_ bn_ => ?_)))
 have gb_ := lp hb_
 clear hb_
 refine StR (qb 32 (qJ OW)) N_.o (qd _) (qh _ _ _) (qi _ _) ?_
 have H4 := kk (N_.o.setRow (qb 32 (qJ OW)))
 have k1 : Below w3.heap.size w3 (wn.setRow b4 (qb 32 (qJ OW))) := qf bn_.o gb_.o _
 generalize wn.setRow b4 (qb 32 (qJ OW)) = w4 at *
 replace HB := tb HB k1
 replace H1 := kbx H1 k1
 replace O3 := kk (O3.o.below k1)
 clear k1 N_ bn_ gb_
 refine Vv (.int .i64 (qt OW)) (h:=WL.nil (hK5 _ _ (wp_seq_k fun K6 hK6 => rgn (Vv (vo) (h:=Vv (.pointer (some ⟨b1, 1, none⟩)) (h:=Vb (.int .i64 kind) H1 1 (h:=Vv (.pointer (some ⟨b1, 2, none⟩)) (h:=Vb (.string key) H1 2 (h:=ClS (QZ vo OW kind key at_ w4 (O3.o.csv) HSo.o HNo.o (by rw [AL.o.len]; exact HA.o) (AL.o.at_ HAt.o)) ?_)))))))))
 rintro e w5 ⟨n6, v6, ls6, er6, rfl, k0, k1, a1, a2, a3⟩
 refine ⟨_, rfl, ?_⟩
 have z4 : Keep (w.heap.size ≤ w4.heap.size) := ⟨HB.o.size⟩
 have A6 : Keep (∀ k, owS vo OW k → k < w4.heap.size) := ⟨fun k hk => (O3.o.iv k hk).2⟩
 have Z6 : Keep (b1 < w4.heap.size ∧ b4 < w4.heap.size) := ⟨H1.o.lt, H4.o.lt⟩
 have F6 := kk (AL.o.fdk (FdK.mk a1 a2 a3))
 have I6 := kk k0.iv
 have T6 := kk k0
 replace HB := tb HB k1
 replace H1 := kbx H1 k1
 replace O3 := kk (O3.o.below k1)
 replace H4 := kbx H4 k1
 have M5 := kk (Below.refl w5.heap.size w5)
 have z45 : Keep (w4.heap.size ≤ w5.heap.size) := ⟨k1.size⟩
 clear k0 k1 a1 a2 a3
 refine Vv (.tuple #[.agg (wtA n6 v6), .int .i64 er6]) (h:=Vv (.agg (wtA n6 v6)) (h:=Vv (.int .i64 er6) (h:=kJ 25 zb fun b6 wn hb_ N_ bn_ => ?_)))
 have gb_ := lp hb_
 clear hb_
 refine StR (wtA n6 v6) N_.o (qD _ _) (rfl) (by obtain ⟨a_, c_, e_⟩ := qE T6.o.own; rw [e_]; simp [wtA, Value.oneCell']) ?_
 have H6 := kk (N_.o.setRow (wtA n6 v6))
 have k1 : Below w5.heap.size w5 (wn.setRow b6 (wtA n6 v6)) := qf bn_.o gb_.o _
 generalize wn.setRow b6 (wtA n6 v6) = w6 at *
 replace HB := tb HB k1
 replace H1 := kbx H1 k1
 replace O3 := kk (O3.o.below k1)
 replace H4 := kbx H4 k1
 replace T6 := kk (T6.o.grown (gF k1) fun _ _ e => e)
 replace M5 := tb M5 k1
 clear k1 N_ bn_ gb_
 refine Vv (.int .i64 er6) (h:=WL.nil (hK6 _ _ (wp_seq_k fun K7 hK7 => rgn (Vv (vo) (h:=Vv (.pointer (some ⟨b1, 1, none⟩)) (h:=Vb (.int .i64 kind) H1 1 (h:=Vv (.pointer (some ⟨b1, 2, none⟩)) (h:=Vb (.string key) H1 2 (h:=ClS (QZ vo OW kind key at_ w6 (O3.o.csv) HSo.o HNo.o (by rw [AL.o.len]; exact HA.o) (AL.o.at_ HAt.o)) ?_)))))))))
 rintro e w7 ⟨n8, v8, ls8, er8, rfl, k0, k1, a1, a2, a3⟩
 refine ⟨_, rfl, ?_⟩
 have Y8 : Keep (w5.heap.size ≤ w6.heap.size) := ⟨M5.o.size⟩
 have A8 : Keep (∀ k, owS vo OW k → k < w6.heap.size) := ⟨fun k hk => (O3.o.iv k hk).2⟩
 have Z8 : Keep (b1 < w6.heap.size ∧ b4 < w6.heap.size) := ⟨H1.o.lt, H4.o.lt⟩
 have F8 := kk (AL.o.fdk (FdK.mk a1 a2 a3))
 have I8 := kk k0.iv
 have T8 := kk k0
 replace HB := tb HB k1
 replace H1 := kbx H1 k1
 replace O3 := kk (O3.o.below k1)
 replace H4 := kbx H4 k1
 replace T6 := kk (T6.o.grown (gF k1) fun _ _ e => e)
 replace M5 := tb M5 k1
 replace H6 := kbx H6 k1
 clear k0 k1 a1 a2 a3
 refine Vv (.tuple #[.agg (wtA n8 v8), .int .i64 er8]) (h:=Vv (.agg (wtA n8 v8)) (h:=Vv (.int .i64 er8) (h:=kJ 25 zb fun b8 wn hb_ N_ bn_ => ?_)))
 have gb_ := lp hb_
 have ge8 : Keep (w5.heap.size ≤ b8) := ⟨by rw [hb_]; exact M5.o.size⟩
 clear hb_
 refine StR (wtA n8 v8) N_.o (qD _ _) (rfl) (by obtain ⟨a_, c_, e_⟩ := qE T8.o.own; rw [e_]; simp [wtA, Value.oneCell']) ?_
 have H8 := kk (N_.o.setRow (wtA n8 v8))
 have k1 : Below w7.heap.size w7 (wn.setRow b8 (wtA n8 v8)) := qf bn_.o gb_.o _
 generalize wn.setRow b8 (wtA n8 v8) = w8 at *
 replace HB := tb HB k1
 replace H1 := kbx H1 k1
 replace O3 := kk (O3.o.below k1)
 replace H4 := kbx H4 k1
 replace T6 := kk (T6.o.grown (gF k1) fun _ _ e => e)
 replace M5 := tb M5 k1
 replace H6 := kbx H6 k1
 replace T8 := kk (T8.o.grown (gF k1) fun _ _ e => e)
 clear k1 N_ bn_ gb_
 refine Vv (.int .i64 er8) (h:=WL.nil (hK7 _ _ (wp_seq_k fun K8 hK8 => rgn (Vv (.pointer (some ⟨b1, 0, none⟩)) (h:=Vb (vL) H1 0 (h:=Vv (.pointer (some ⟨b1, 1, none⟩)) (h:=Vb (.int .i64 kind) H1 1 (h:=Vv (.pointer (some ⟨b1, 2, none⟩)) (h:=Vb (.string key) H1 2 (h:=ClS (XH vL L kind key at_ w8 ((HC.o.below HB.o).mono HB.o.size) HS.o HNl.o HA.o HAt.o) ?_))))))))))
 rintro e w9 ⟨n10, v10, ls10, er10, rfl, k0, k1, a1, a2, a3⟩
 refine ⟨_, rfl, ?_⟩
 have Y10 : Keep (w5.heap.size ≤ w8.heap.size) := ⟨M5.o.size⟩
 have F10 := kk (FdK.mk a1 a2 a3)
 have I10 := kk k0.iv
 have T10 := kk k0
 replace HB := tb HB k1
 replace H1 := kbx H1 k1
 replace O3 := kk (O3.o.below k1)
 replace H4 := kbx H4 k1
 replace T6 := kk (T6.o.grown (gF k1) fun _ _ e => e)
 replace M5 := tb M5 k1
 replace H6 := kbx H6 k1
 replace T8 := kk (T8.o.grown (gF k1) fun _ _ e => e)
 replace H8 := kbx H8 k1
 clear k0 k1 a1 a2 a3
 refine Vv (.tuple #[.agg (wtA n10 v10), .int .i64 er10]) (h:=Vv (.agg (wtA n10 v10)) (h:=Vv (.int .i64 er10) (h:=kJ 25 zb fun b10 wn hb_ N_ bn_ => ?_)))
 have gb_ := lp hb_
 have ge10 : Keep (w5.heap.size ≤ b10) := ⟨by rw [hb_]; exact M5.o.size⟩
 clear hb_
 refine WL.storeR (by kernel_rfl) 25 (.tmp 10) (.tmp 69) rfl b10 (wtA n10 v10) rfl rfl 25 #[.int .i64 0, .slice none 0 0] N_.o (qD _ _) (rfl) (by obtain ⟨a_, c_, e_⟩ := qE T10.o.own; rw [e_]; simp [wtA, Value.oneCell']) ?_
 have H10 := kk (N_.o.setRow (wtA n10 v10))
 have k1 : Below w9.heap.size w9 (wn.setRow b10 (wtA n10 v10)) := qf bn_.o gb_.o _
 generalize wn.setRow b10 (wtA n10 v10) = w10 at *
 replace HB := tb HB k1
 replace H1 := kbx H1 k1
 replace O3 := kk (O3.o.below k1)
 replace H4 := kbx H4 k1
 replace T6 := kk (T6.o.grown (gF k1) fun _ _ e => e)
 replace M5 := tb M5 k1
 replace H6 := kbx H6 k1
 replace T8 := kk (T8.o.grown (gF k1) fun _ _ e => e)
 replace H8 := kbx H8 k1
 replace T10 := kk (T10.o.grown (gF k1) fun _ _ e => e)
 clear k1 N_ bn_ gb_
 have E610 := kk (F6.o.same F10.o)
 have E810 := kk (F8.o.same F10.o)
 have her6 := E610.o.1
 subst her6
 have hl6 := kk (F6.o.sizes HA.o)
 have hl8 := kk (F8.o.sizes HA.o)
 have hl10 := kk (F10.o.sizes HA.o)
 have hL21 := kk (xV hfew.o)
 simp only [Act.put]
 refine Vv (.int .i64 er6) (h:=WL.nil (hK8 _ _ (wp_seq_k fun K9 hK9 => wp_seq_k fun K10 hK10 => rgn (Vv (.int .i64 er6) (h:=Vv (.int .i64 er6) (h:=Vf (h:=Vf (h:=Vr H6.o (qD _ _) (h:=Vr H10.o (qD _ _) (h:=ClS (vM v6 v10 n6 n10 ls6 ls10 w10 T6.o.lsv T10.o.lsv (by have := hl6.o.1; omega) (fun x hx => by have := (hl6.o.2 x hx).1; have := hL21.o; omega)) ?_))))))))))
 rintro e w11 ⟨b_, rfl, k, k1⟩
 refine ⟨_, rfl, ?_⟩
 have hb_ : b_ = true := k.mpr E610.o.2
 subst hb_
 clear k
 replace HB := tb HB k1
 replace H1 := kbx H1 k1
 replace O3 := kk (O3.o.below k1)
 replace H4 := kbx H4 k1
 replace T6 := kk (T6.o.grown (gF k1) fun _ _ e => e)
 replace M5 := tb M5 k1
 replace H6 := kbx H6 k1
 replace T8 := kk (T8.o.grown (gF k1) fun _ _ e => e)
 replace H8 := kbx H8 k1
 replace T10 := kk (T10.o.grown (gF k1) fun _ _ e => e)
 replace H10 := kbx H10 k1
 clear k1
 refine Vf (h:=Vf (h:=Vf (h:=Vv (vo) (h:=Vv (.pointer (some ⟨b1, 0, none⟩)) (h:=Vb (vL) H1 0 (h:=?_))))))
 refine WL.callF (by kernel_rfl) 11 _ _ rfl Qy #[vo, vL] (by simp [Act.eval]) ?_
 refine (Jw _ vo vL L OW w11 O3.o ((HC.o.below HB.o).mono HB.o.size) hfew.o).mono ?_
 rintro e w12 ⟨rfl, k1⟩
 refine ⟨_, rfl, ?_⟩
 
 replace HB := tb HB k1
 replace H1 := kbx H1 k1
 replace O3 := kk (O3.o.below k1)
 replace H4 := kbx H4 k1
 replace T6 := kk (T6.o.grown (gF k1) fun _ _ e => e)
 replace M5 := tb M5 k1
 replace H6 := kbx H6 k1
 replace T8 := kk (T8.o.grown (gF k1) fun _ _ e => e)
 replace H8 := kbx H8 k1
 replace T10 := kk (T10.o.grown (gF k1) fun _ _ e => e)
 replace H10 := kbx H10 k1
 clear k1
 simp only [Act.put, pqA, pqB, pqC]
 refine Vf (h:=Vf (h:=WL.nil (hK10 _ _ (Cf (h:=wp_skip (hK9 _ _ (wp_seq_k fun K11 hK11 => wp_seq_k fun K12 hK12 => rgn (Vr H6.o (qD _ _) (h:=?_)))))))))
 have hm6 := kk (F6.o.few HA.o hfew.o)
 refine ClS (Yf w4.heap.size v6 ls6 n6 w12 T6.o (Nat.le_trans z45.o M5.o.size) hm6.o.1 hm6.o.2) ?_
 rintro e w13 ⟨rfl, k1⟩
 refine ⟨_, rfl, ?_⟩
 have q6 : ∀ k, spS v6 ls6 k → w4.heap.size ≤ k ∧ k < w5.heap.size := I6.o
 replace HB : Keep (Below w.heap.size w w13) := ⟨zw HB.o k1 (fun k hk e => by have := (q6 k e).1; have := z4.o; omega) (Nat.le_refl _)⟩
 replace H1 := kk (k1.blk H1.o fun e => by have := (q6 _ e).1; have := Z6.o.1; omega)
 replace H4 := kk (k1.blk H4.o fun e => by have := (q6 _ e).1; have := Z6.o.2; omega)
 replace H8 := kk (k1.blk H8.o fun e => by have := (q6 _ e).2; have := ge8.o; omega)
 replace H10 := kk (k1.blk H10.o fun e => by have := (q6 _ e).2; have := ge10.o; omega)
 replace O3 := kk (O3.o.grown k1 (fun k hk e => by have := (q6 _ e).1; have := A6.o k (.inl hk); omega) fun c hc k hk e => by have := (q6 _ e).1; have := A6.o k (.inr ⟨c, hc, hk⟩); omega)
 replace T8 := kk (T8.o.grown k1 fun k hk e => by have := (q6 _ e).2; have := (I8.o k hk).1; have := Y8.o; omega)
 replace T10 := kk (T10.o.grown k1 fun k hk e => by have := (q6 _ e).2; have := (I10.o k hk).1; have := Y10.o; omega)
 clear k1 T6 H6 M5 q6
 refine Vf (h:=Vf (h:=Vr H8.o (qD _ _) (h:=Vr H10.o (qD _ _) (h:=ClS (vM v8 v10 n8 n10 ls8 ls10 w13 T8.o.lsv T10.o.lsv (by have := hl8.o.1; omega) (fun x hx => by have := (hl8.o.2 x hx).1; have := hL21.o; omega)) ?_))))
 rintro e w14 ⟨b_, rfl, k, k1⟩
 refine ⟨_, rfl, ?_⟩
 have hb_ : b_ = true := k.mpr E810.o.2
 subst hb_
 clear k
 replace HB := tb HB k1
 replace H1 := kbx H1 k1
 replace O3 := kk (O3.o.below k1)
 replace H4 := kbx H4 k1
 replace T8 := kk (T8.o.grown (gF k1) fun _ _ e => e)
 replace H8 := kbx H8 k1
 replace T10 := kk (T10.o.grown (gF k1) fun _ _ e => e)
 replace H10 := kbx H10 k1
 clear k1
 refine Vf (h:=Vf (h:=Vf (h:=Vv (vo) (h:=Vv (.pointer (some ⟨b1, 0, none⟩)) (h:=Vb (vL) H1 0 (h:=?_))))))
 refine WL.callF (by kernel_rfl) 11 _ _ rfl Qy #[vo, vL] (by simp [Act.eval]) ?_
 refine (Jw _ vo vL L OW w14 O3.o ((HC.o.below HB.o).mono HB.o.size) hfew.o).mono ?_
 rintro e w15 ⟨rfl, k1⟩
 refine ⟨_, rfl, ?_⟩
 
 replace HB := tb HB k1
 replace H1 := kbx H1 k1
 replace O3 := kk (O3.o.below k1)
 replace H4 := kbx H4 k1
 replace T8 := kk (T8.o.grown (gF k1) fun _ _ e => e)
 replace H8 := kbx H8 k1
 replace T10 := kk (T10.o.grown (gF k1) fun _ _ e => e)
 replace H10 := kbx H10 k1
 clear k1
 simp only [Act.put, pqA, pqB, pqC]
 refine Vf (h:=Vf (h:=WL.nil (hK12 _ _ (Cf (h:=wp_skip (hK11 _ _ (wp_seq_k fun K13 hK13 => rgn (Vr H10.o (qD _ _) (h:=?_)))))))))
 have hm10 := kk (F10.o.few HA.o hfew.o)
 refine ClS (Xh v10 ls10 n10 w15 T10.o.lsv hm10.o.1 hm10.o.2) ?_
 rintro e w16 ⟨v12, OL, rfl, k0, k1⟩
 refine ⟨_, rfl, ?_⟩
 have A12 : Keep (∀ k, owS vo OW k → k < w15.heap.size) := ⟨fun k hk => (O3.o.iv k hk).2⟩
 have D12 : Keep ((∀ k, spS v8 ls8 k → k < w15.heap.size) ∧ ∀ k, spS v10 ls10 k → k < w15.heap.size) := ⟨fun k hk => (T8.o.iv k hk).2, fun k hk => (T10.o.iv k hk).2⟩
 have X12 : Keep (b1 < w15.heap.size ∧ b4 < w15.heap.size ∧ b8 < w15.heap.size ∧ b10 < w15.heap.size) := ⟨H1.o.lt, H4.o.lt, H8.o.lt, H10.o.lt⟩
 have Y12 : Keep (w.heap.size ≤ w15.heap.size) := ⟨HB.o.size⟩
 have I12 := kk k0.iv
 have CE := kk (And.intro k0.len k0.each)
 have C12 := kk k0
 replace HB := tb HB k1
 replace H1 := kbx H1 k1
 replace O3 := kk (O3.o.below k1)
 replace H4 := kbx H4 k1
 replace T8 := kk (T8.o.grown (gF k1) fun _ _ e => e)
 replace H8 := kbx H8 k1
 replace T10 := kk (T10.o.grown (gF k1) fun _ _ e => e)
 replace H10 := kbx H10 k1
 clear k0 k1
 refine kJ 25 zb fun b12 wn hb_ N_ bn_ => ?_
 have gb_ := lp hb_
 clear hb_
 refine StR (wtA n10 v12) N_.o (qD _ _) (rfl) (by obtain ⟨g_, c_, e_, _⟩ := C12.o.own; rw [e_]; simp [wtA, Value.oneCell']) ?_
 have H12 := kk (N_.o.setRow (wtA n10 v12))
 have k1 : Below w16.heap.size w16 (wn.setRow b12 (wtA n10 v12)) := qf bn_.o gb_.o _
 generalize wn.setRow b12 (wtA n10 v12) = w17 at *
 replace HB := tb HB k1
 replace H1 := kbx H1 k1
 replace O3 := kk (O3.o.below k1)
 replace H4 := kbx H4 k1
 replace T8 := kk (T8.o.grown (gF k1) fun _ _ e => e)
 replace H8 := kbx H8 k1
 replace T10 := kk (T10.o.grown (gF k1) fun _ _ e => e)
 replace H10 := kbx H10 k1
 replace C12 := kk (C12.o.below k1)
 clear k1 N_ bn_ gb_
 have M17 := kk (Below.refl w17.heap.size w17)
 refine WL.nil (hK13 _ _ (wp_seq_k fun K14 hK14 => rgn (Vr H4.o (qd _) (h:=Vv (.pointer (some ⟨b1, 1, none⟩)) (h:=Vb (.int .i64 kind) H1 1 (h:=Vv (.pointer (some ⟨b1, 2, none⟩)) (h:=Vb (.string key) H1 2 (h:=Vr H12.o (qD _ _) (h:=?_)))))))))
 obtain ⟨root, hroot_⟩ := Vc OW
 have hroot := kk hroot_
 clear hroot_
 have HN10 := kk (F10.o.len hL21.o)
 have HSM := kk (C12.o.sml (F10.o.sml HA.o HS.o hL21.o))
 obtain ⟨ci, hci⟩ : ∃ z, Keep (xp root n10 kind key OL = z) := ⟨_, ⟨rfl⟩⟩
 obtain ⟨ce, hce⟩ : ∃ z, Keep (xY root n10 kind key OL = z) := ⟨_, ⟨rfl⟩⟩
 have D13 : Keep ((∀ k, owS vo OW k → k < w17.heap.size) ∧ (∀ k, spS v8 ls8 k → k < w17.heap.size) ∧ (∀ k, spS v10 ls10 k → k < w17.heap.size) ∧ ∀ k, spS v12 OL k → k < w17.heap.size) := ⟨fun k hk => (O3.o.iv k hk).2, fun k hk => (T8.o.iv k hk).2, fun k hk => (T10.o.iv k hk).2, fun k hk => (C12.o.iv k hk).2⟩
 have X13 : Keep (b1 < w17.heap.size ∧ b8 < w17.heap.size ∧ b10 < w17.heap.size ∧ b12 < w17.heap.size) := ⟨H1.o.lt, H8.o.lt, H10.o.lt, H12.o.lt⟩
 have Y13 : Keep (w.heap.size ≤ w17.heap.size) := ⟨HB.o.size⟩
 refine ClS (vs := #[.agg (qb 32 (qJ OW)), .int .i64 kind, .string key, .agg (wtA n10 v12)]) ((by have h := vX v12 n10 kind key OL root w17 C12.o.lsv HN10.o.2 HSM.o; rw [← hroot.o] at h; exact h : Calls Try.prog 14 _ _ _)) ?_
 rintro e w18 ⟨c13, rfl, ⟨k2, k3⟩, k1, k4, k5⟩
 refine ⟨_, rfl, ?_⟩
 rw [hci.o, hce.o]
 rw [hci.o] at k4 k5
 have Y18 := kk k1.size
 have Q13 := kk k2
 have N13 := kk k3
 have E13 := kk (And.intro k4 k5)
 replace HB := tb HB k1
 replace H1 := kbx H1 k1
 replace O3 := kk (O3.o.below k1)
 replace H4 := kbx H4 k1
 replace T8 := kk (T8.o.grown (gF k1) fun _ _ e => e)
 replace H8 := kbx H8 k1
 replace T10 := kk (T10.o.grown (gF k1) fun _ _ e => e)
 replace H10 := kbx H10 k1
 replace C12 := kk (C12.o.below k1)
 replace H12 := kbx H12 k1
 replace M17 := tb M17 k1
 clear k1 k2 k3 k4 k5
 have M13 := kk (Below.refl w18.heap.size w18)
 have L13 := kk Q13.o.lt
 refine Vv (.tuple #[.agg (cvA c13), .bool ci, .int .i64 ce]) (h:=Vv (.agg (cvA c13)) (h:=Vv (.bool ci) (h:=Vv (.int .i64 ce) (h:=kJ 44 zK fun b13 wn hb_ N_ bn_ => ?_))))
 have gb_ := lp hb_
 clear hb_
 refine StR (cvA c13) N_.o (qw _ _ _) (rfl) (by obtain ⟨a_, n_, c_, e_⟩ := Q13.o.sl; unfold cvA; rw [e_]; simp [Value.oneCell']) ?_
 have H13 := kk (N_.o.setRow (cvA c13))
 have k1 : Below w18.heap.size w18 (wn.setRow b13 (cvA c13)) := qf bn_.o gb_.o _
 generalize wn.setRow b13 (cvA c13) = w19 at *
 replace HB := tb HB k1
 replace H1 := kbx H1 k1
 replace O3 := kk (O3.o.below k1)
 replace H4 := kbx H4 k1
 replace T8 := kk (T8.o.grown (gF k1) fun _ _ e => e)
 replace H8 := kbx H8 k1
 replace T10 := kk (T10.o.grown (gF k1) fun _ _ e => e)
 replace H10 := kbx H10 k1
 replace C12 := kk (C12.o.below k1)
 replace H12 := kbx H12 k1
 replace M17 := tb M17 k1
 replace Q13 := kk (Q13.o.grown (gF k1) fun _ _ e => e)
 replace M13 := tb M13 k1
 clear k1 N_ bn_ gb_
 refine Vv (.bool ci) (h:=Vv (.int .i64 ce) (h:=WL.nil (hK14 _ _ (wp_seq_k fun K15 hK15 => rgn (Vr H4.o (qd _) (h:=Vv (.pointer (some ⟨b1, 1, none⟩)) (h:=Vb (.int .i64 kind) H1 1 (h:=Vv (.pointer (some ⟨b1, 2, none⟩)) (h:=Vb (.string key) H1 2 (h:=Vr H12.o (qD _ _) (h:=?_)))))))))))
 have Y16 : Keep (w18.heap.size ≤ w19.heap.size) := ⟨M13.o.size⟩
 refine ClS (vs := #[.agg (qb 32 (qJ OW)), .int .i64 kind, .string key, .agg (wtA n10 v12)]) ((by have h := vX v12 n10 kind key OL root w19 C12.o.lsv HN10.o.2 HSM.o; rw [← hroot.o] at h; exact h : Calls Try.prog 14 _ _ _)) ?_
 rintro e w20 ⟨c16, rfl, ⟨k2, k3⟩, k1, k4, k5⟩
 refine ⟨_, rfl, ?_⟩
 rw [hci.o, hce.o]
 rw [hci.o] at k4 k5
 have Y20 := kk k1.size
 have Q16 := kk k2
 have N16 := kk k3
 have E16 := kk (And.intro k4 k5)
 replace HB := tb HB k1
 replace H1 := kbx H1 k1
 replace O3 := kk (O3.o.below k1)
 replace H4 := kbx H4 k1
 replace T8 := kk (T8.o.grown (gF k1) fun _ _ e => e)
 replace H8 := kbx H8 k1
 replace T10 := kk (T10.o.grown (gF k1) fun _ _ e => e)
 replace H10 := kbx H10 k1
 replace C12 := kk (C12.o.below k1)
 replace H12 := kbx H12 k1
 replace M17 := tb M17 k1
 replace Q13 := kk (Q13.o.grown (gF k1) fun _ _ e => e)
 replace M13 := tb M13 k1
 replace H13 := kbx H13 k1
 clear k1 k2 k3 k4 k5
 refine Vv (.tuple #[.agg (cvA c16), .bool ci, .int .i64 ce]) (h:=Vv (.agg (cvA c16)) (h:=Vv (.bool ci) (h:=Vv (.int .i64 ce) (h:=kJ 44 zK fun b16 wn hb_ N_ bn_ => ?_))))
 have gb_ := lp hb_
 have ge16 : Keep (w18.heap.size ≤ b16) := ⟨by rw [hb_]; exact M13.o.size⟩
 clear hb_
 refine StR (cvA c16) N_.o (qw _ _ _) (rfl) (by obtain ⟨a_, n_, c_, e_⟩ := Q16.o.sl; unfold cvA; rw [e_]; simp [Value.oneCell']) ?_
 have H16 := kk (N_.o.setRow (cvA c16))
 have k1 : Below w20.heap.size w20 (wn.setRow b16 (cvA c16)) := qf bn_.o gb_.o _
 generalize wn.setRow b16 (cvA c16) = w21 at *
 replace HB := tb HB k1
 replace H1 := kbx H1 k1
 replace O3 := kk (O3.o.below k1)
 replace H4 := kbx H4 k1
 replace T8 := kk (T8.o.grown (gF k1) fun _ _ e => e)
 replace H8 := kbx H8 k1
 replace T10 := kk (T10.o.grown (gF k1) fun _ _ e => e)
 replace H10 := kbx H10 k1
 replace C12 := kk (C12.o.below k1)
 replace H12 := kbx H12 k1
 replace M17 := tb M17 k1
 replace Q13 := kk (Q13.o.grown (gF k1) fun _ _ e => e)
 replace M13 := tb M13 k1
 replace H13 := kbx H13 k1
 replace Q16 := kk (Q16.o.grown (gF k1) fun _ _ e => e)
 clear k1 N_ bn_ gb_
 refine Vv (.bool ci) (h:=Vv (.int .i64 ce) (h:=WL.nil (hK15 _ _ (wp_seq_k fun K16 hK16 => wp_seq_k fun K17 hK17 => rgn (Vr H12.o (qD _ _) (h:=Vr H10.o (qD _ _) (h:=?_)))))))
 refine WL.callF (by kernel_rfl) 15 _ _ rfl UG #[.agg (wtA n10 v12), .agg (wtA n10 v10)] (by simp [Act.eval]) ?_
 refine (Ye _ v12 v10 OL ls10 n10 w21 C12.o T10.o.lsv hm10.o.1 hm10.o.2).mono ?_
 rintro e w22 ⟨rfl, k1⟩
 refine ⟨_, rfl, ?_⟩
 
 replace HB := tb HB k1
 replace H1 := kbx H1 k1
 replace O3 := kk (O3.o.below k1)
 replace H4 := kbx H4 k1
 replace T8 := kk (T8.o.grown (gF k1) fun _ _ e => e)
 replace H8 := kbx H8 k1
 replace T10 := kk (T10.o.grown (gF k1) fun _ _ e => e)
 replace H10 := kbx H10 k1
 replace C12 := kk (C12.o.below k1)
 replace H12 := kbx H12 k1
 replace M17 := tb M17 k1
 replace Q13 := kk (Q13.o.grown (gF k1) fun _ _ e => e)
 replace M13 := tb M13 k1
 replace H13 := kbx H13 k1
 replace Q16 := kk (Q16.o.grown (gF k1) fun _ _ e => e)
 replace H16 := kbx H16 k1
 clear k1
 simp only [Act.put, pqA, pqB, pqC]
 refine Vf (h:=WL.nil (hK17 _ _ (Cf (h:=wp_skip (hK16 _ _ (wp_seq_k fun K18 hK18 => rgn (?_)))))))
 refine WL.bld (by kernel_rfl) 50 _ rfl [] (by simp) #[.slice none 0 0, .slice none 0 0, .int .i64 0, .bool false] Ur ?_
 simp only [Act.put, pqA, pqB, pqC]
 refine WL.box (by kernel_rfl) 50 (.tmp 131) rfl #[.slice none 0 0, .slice none 0 0, .int .i64 0, .bool false] rfl ?_
 have BK := kk (Qi w22 fun _ => False)
 have k1 := qg w22 (.cells #[.slice none 0 0, .slice none 0 0, .int .i64 0, .bool false] 50)
 generalize w22.alloc (.cells #[.slice none 0 0, .slice none 0 0, .int .i64 0, .bool false] 50) = w23 at *
 obtain ⟨kb, hkb⟩ := nn w22
 rw [← hkb] at BK ⊢
 have Zkb : Keep (w17.heap.size ≤ kb ∧ b13 < kb ∧ b16 < kb ∧ (∀ k, c16.v.ownBlock = some k → k < kb) ∧ ∀ k, c13.v.ownBlock = some k → k < kb) := ⟨by rw [hkb]; exact Nat.le_trans M17.o.size (Nat.le_refl _), by rw [hkb]; exact H13.o.lt, by rw [hkb]; exact H16.o.lt, fun k hk => by rw [hkb]; exact Q16.o.lt k hk, fun k hk => by rw [hkb]; exact Q13.o.lt k hk⟩
 clear hkb
 replace HB := tb HB k1
 replace H1 := kbx H1 k1
 replace O3 := kk (O3.o.below k1)
 replace H4 := kbx H4 k1
 replace T8 := kk (T8.o.grown (gF k1) fun _ _ e => e)
 replace H8 := kbx H8 k1
 replace T10 := kk (T10.o.grown (gF k1) fun _ _ e => e)
 replace H10 := kbx H10 k1
 replace C12 := kk (C12.o.below k1)
 replace H12 := kbx H12 k1
 replace M17 := tb M17 k1
 replace Q13 := kk (Q13.o.grown (gF k1) fun _ _ e => e)
 replace M13 := tb M13 k1
 replace H13 := kbx H13 k1
 replace Q16 := kk (Q16.o.grown (gF k1) fun _ _ e => e)
 replace H16 := kbx H16 k1
 clear k1
 simp only [Act.put, pqA, pqB, pqC]
 refine Vv (.pointer (some ⟨kb, 0, none⟩)) (h:=WL.nil (hK18 _ _ (wp_seq_k fun K19 hK19 => rgn (Vv (.pointer (some ⟨kb, 0, none⟩)) (h:=Vv (.pointer (some ⟨b13, 2, none⟩)) (h:=Vb c13.v H13 2 (h:=?_)))))))
 have HL13 : Keep (c13.l.length ≤ 134217728) := ⟨by
  cases hcc : ci
  ·rw [E13.o.1 hcc]; decide
  ·obtain ⟨_, x, hx⟩ := Ko (hci.o.trans hcc)
   obtain ⟨_, _, h3⟩ := E13.o.2 x hcc hx
   obtain ⟨x', hx', he⟩ := C12.o.each 0 x (by rw [hx]; rfl)
   rw [h3, he.l]
   exact (hm10.o.2 x' (List.mem_of_getElem? hx')).1⟩
 refine WL.callF (by kernel_rfl) 16 _ _ rfl Qx #[.pointer (some ⟨kb, 0, none⟩), c13.v] (by simp [Act.eval]) ?_
 refine (Qj (vb := c13.v) (lb := c13.l) BK.o (fun e => e) Q13.o.tail (fun k _ e => e) (by have := HL13.o; omega)).mono ?_
 rintro e w24 ⟨rfl, k0, k1⟩
 refine ⟨_, rfl, ?_⟩
 have r13 : ∀ k, k < w17.heap.size → ¬ (k = kb ∨ False ∨ c13.v.ownBlock = some k) := fun k h e => by
  rcases e with e | e | e
  ·have := Zkb.o.1; omega
  ·exact e
  ·have := N13.o k e; omega
 replace HB : Keep (Below w.heap.size w w24) := ⟨zw HB.o k1 (fun k hk => r13 k (by have := Y13.o; omega)) (Nat.le_refl _)⟩
 replace H1 := kk (k1.blk H1.o (r13 _ X13.o.1))
 replace H8 := kk (k1.blk H8.o (r13 _ X13.o.2.1))
 replace H10 := kk (k1.blk H10.o (r13 _ X13.o.2.2.1))
 replace H12 := kk (k1.blk H12.o (r13 _ X13.o.2.2.2))
 replace O3 := kk (O3.o.grown k1 (fun k hk => r13 k (D13.o.1 k (.inl hk))) fun c hc k hk => r13 k (D13.o.1 k (.inr ⟨c, hc, hk⟩)))
 replace T8 := kk (T8.o.grown k1 fun k hk => r13 k (D13.o.2.1 k hk))
 replace T10 := kk (T10.o.grown k1 fun k hk => r13 k (D13.o.2.2.1 k hk))
 replace C12 := kk (C12.o.grown k1 fun k hk => r13 k (D13.o.2.2.2 k hk))
 replace H16 := kk (k1.blk H16.o fun e => by
  rcases e with e | e | e
  ·have := Zkb.o.2.2.1; omega
  ·exact e
  ·have h1 := L13.o _ e; have h2 := ge16.o; omega)
 replace Q16 := kk (Q16.o.grown k1 fun k hk e => by
  rcases e with e | e | e
  ·have := Zkb.o.2.2.2.1 k hk; omega
  ·exact e
  ·have h1 := L13.o _ e; have h2 := N16.o k hk; have h3 := Y16.o; omega)
 replace BK := kk k0
 have B17 : Keep (w17.heap.size ≤ w23.heap.size) := ⟨M17.o.size⟩
 clear k0 k1 r13 H13 Q13 M13 M17 H4
 simp only [Act.put, pqA, pqB, pqC]
 refine WL.nil (hK19 _ _ (wp_seq_k fun K20 hK20 => wp_seq_k fun K21 hK21 => ?_))
 have rest21 : ∀ (y137 y138 y139 y140 y141 y142 y143 y144 y145 y146 y147 y148 y149 y150 : Value) (wX : World), (Below w.heap.size w wX ∧ Blk wX b1 27 #[vL, .int .i64 kind, .string key, .int .i64 n0, vW] ∧ Blk wX b8 25 (wtA n8 v8) ∧ Blk wX b10 25 (wtA n10 v10) ∧ Blk wX b16 44 (cvA c16) ∧ OwAt w1.heap.size L wX vo OW ∧ WtN wX w6.heap.size v8 ls8 ∧ WtF wX w8.heap.size v10 ls10 ∧ Own wX c16.v c16.l ∧ BookIn kb 50 kxB (fun k => False ∨ c13.v.ownBlock = some k ∨ (w23.heap.size ≤ k ∧ k < w24.heap.size)) wX) → K20 { tmps := #[.agg #[vL, .int .i64 kind, .string key, .int .i64 n0, vW], .pointer (some ⟨b1, 0, none⟩), .bool false, vo, .pointer (some ⟨b4, 0, none⟩), .int .i64 (qt OW), .pointer (some ⟨b6, 0, none⟩), .int .i64 er6, .pointer (some ⟨b8, 0, none⟩), .int .i64 er8, .pointer (some ⟨b10, 0, none⟩), .int .i64 er6, .pointer (some ⟨b12, 0, none⟩), .pointer (some ⟨b13, 0, none⟩), .bool ci, .int .i64 ce, .pointer (some ⟨b16, 0, none⟩), .bool ci, .int .i64 ce, .pointer (some ⟨kb, 0, none⟩), undef, undef, undef, undef, undef, undef, undef, undef, undef, undef, .pointer (some ⟨b1, 0, none⟩), vL, .bool true, .bool false, undef, .pointer (some ⟨b1, 0, none⟩), vL, vo, .tuple #[.agg (qb 32 (qJ OW)), .int .i64 (qt OW)], vo, .tuple #[.agg (qb 32 (qJ OW)), .int .i64 (qt OW)], .agg (qb 32 (qJ OW)), .int .i64 (qt OW), .tuple #[.agg (wtA n6 v6), .int .i64 er6], vo, .pointer (some ⟨b1, 1, none⟩), .int .i64 kind, .pointer (some ⟨b1, 2, none⟩), .string key, .tuple #[.agg (wtA n6 v6), .int .i64 er6], .agg (wtA n6 v6), .int .i64 er6, .tuple #[.agg (wtA n8 v8), .int .i64 er8], vo, .pointer (some ⟨b1, 1, none⟩), .int .i64 kind, .pointer (some ⟨b1, 2, none⟩), .string key, .tuple #[.agg (wtA n8 v8), .int .i64 er8], .agg (wtA n8 v8), .int .i64 er8, .tuple #[.agg (wtA n10 v10), .int .i64 er6], .pointer (some ⟨b1, 0, none⟩), vL, .pointer (some ⟨b1, 1, none⟩), .int .i64 kind, .pointer (some ⟨b1, 2, none⟩), .string key, .tuple #[.agg (wtA n10 v10), .int .i64 er6], .agg (wtA n10 v10), .int .i64 er6, .int .i64 er6, .int .i64 er6, .bool false, .bool false, .agg (wtA n6 v6), .agg (wtA n10 v10), .bool true, .bool false, .bool false, .bool false, vo, .pointer (some ⟨b1, 0, none⟩), vL, .bool true, .bool false, .bool false, .agg (wtA n6 v6), .bool true, .bool false, .bool false, .agg (wtA n8 v8), .agg (wtA n10 v10), .bool true, .bool false, .bool false, .bool false, vo, .pointer (some ⟨b1, 0, none⟩), vL, .bool true, .bool false, .bool false, .agg (wtA n10 v10), .agg (wtA n10 v12), .tuple #[.agg (cvA c13), .bool ci, .int .i64 ce], .agg (qb 32 (qJ OW)), .pointer (some ⟨b1, 1, none⟩), .int .i64 kind, .pointer (some ⟨b1, 2, none⟩), .string key, .agg (wtA n10 v12), .tuple #[.agg (cvA c13), .bool ci, .int .i64 ce], .agg (cvA c13), .bool ci, .int .i64 ce, .tuple #[.agg (cvA c16), .bool ci, .int .i64 ce], .agg (qb 32 (qJ OW)), .pointer (some ⟨b1, 1, none⟩), .int .i64 kind, .pointer (some ⟨b1, 2, none⟩), .string key, .agg (wtA n10 v12), .tuple #[.agg (cvA c16), .bool ci, .int .i64 ce], .agg (cvA c16), .bool ci, .int .i64 ce, .agg (wtA n10 v12), .agg (wtA n10 v10), .bool true, .bool false, .agg #[.slice none 0 0, .slice none 0 0, .int .i64 0, .bool false], .pointer (some ⟨kb, 0, none⟩), .pointer (some ⟨kb, 0, none⟩), .pointer (some ⟨b13, 2, none⟩), c13.v, .tuple #[], y137, y138, y139, y140, y141, y142, y143, y144, y145, y146, y147, y148, y149, y150, undef, undef, undef, undef, undef, undef, undef, undef, undef, undef, undef, undef, undef, undef, undef, undef, undef, undef, undef, undef, undef, undef, undef, undef, undef, undef, undef, undef, undef, undef, undef, undef, undef, undef, undef, undef, undef, undef, undef, undef, undef, undef, undef, undef, undef, undef, undef, undef, undef, undef, undef, undef, undef, undef, undef, undef, undef, undef, undef, undef, undef, undef, undef, undef, undef, undef, undef, undef, undef, undef, undef, undef, undef, undef, undef, undef, undef, undef, undef, undef, undef, undef, undef, undef, undef, undef, undef, undef, undef, undef, undef, undef, undef, undef, undef], defers := [] } wX := by
  intro y137 y138 y139 y140 y141 y142 y143 y144 y145 y146 y147 y148 y149 y150 wX hX
  obtain ⟨h_0, h_1, h_2, h_3, h_4, h_5, h_6, h_7, h_8, h_9⟩ := hX
  replace HB := kk h_0
  clear h_0
  replace H1 := kk h_1
  clear h_1
  replace H8 := kk h_2
  clear h_2
  replace H10 := kk h_3
  clear h_3
  replace H16 := kk h_4
  clear h_4
  replace O3 := kk h_5
  clear h_5
  replace T8 := kk h_6
  clear h_6
  replace T10 := kk h_7
  clear h_7
  replace Q16 := kk h_8
  clear h_8
  replace BK := kk h_9
  clear h_9
  clear C12 H12
  refine hK20 _ _ (wp_seq_k fun K22 hK22 => wp_seq_k fun K23 hK23 => ?_)
  have rest23 : ∀ (y151 y152 y153 y154 y155 y156 y157 y158 y159 y160 y161 y162 y163 y164 y165 y166 y167 y168 y169 y170 : Value) (wY : World), (Below w.heap.size w wY ∧ Blk wY b1 27 #[vL, .int .i64 kind, .string key, .int .i64 n0, vW] ∧ Blk wY b8 25 (wtA n8 v8) ∧ Blk wY b10 25 (wtA n10 v10) ∧ OwAt w1.heap.size L wY vo OW ∧ WtN wY w6.heap.size v8 ls8 ∧ WtF wY w8.heap.size v10 ls10) → K22 { tmps := #[.agg #[vL, .int .i64 kind, .string key, .int .i64 n0, vW], .pointer (some ⟨b1, 0, none⟩), .bool false, vo, .pointer (some ⟨b4, 0, none⟩), .int .i64 (qt OW), .pointer (some ⟨b6, 0, none⟩), .int .i64 er6, .pointer (some ⟨b8, 0, none⟩), .int .i64 er8, .pointer (some ⟨b10, 0, none⟩), .int .i64 er6, .pointer (some ⟨b12, 0, none⟩), .pointer (some ⟨b13, 0, none⟩), .bool ci, .int .i64 ce, .pointer (some ⟨b16, 0, none⟩), .bool ci, .int .i64 ce, .pointer (some ⟨kb, 0, none⟩), undef, undef, undef, undef, undef, undef, undef, undef, undef, undef, .pointer (some ⟨b1, 0, none⟩), vL, .bool true, .bool false, undef, .pointer (some ⟨b1, 0, none⟩), vL, vo, .tuple #[.agg (qb 32 (qJ OW)), .int .i64 (qt OW)], vo, .tuple #[.agg (qb 32 (qJ OW)), .int .i64 (qt OW)], .agg (qb 32 (qJ OW)), .int .i64 (qt OW), .tuple #[.agg (wtA n6 v6), .int .i64 er6], vo, .pointer (some ⟨b1, 1, none⟩), .int .i64 kind, .pointer (some ⟨b1, 2, none⟩), .string key, .tuple #[.agg (wtA n6 v6), .int .i64 er6], .agg (wtA n6 v6), .int .i64 er6, .tuple #[.agg (wtA n8 v8), .int .i64 er8], vo, .pointer (some ⟨b1, 1, none⟩), .int .i64 kind, .pointer (some ⟨b1, 2, none⟩), .string key, .tuple #[.agg (wtA n8 v8), .int .i64 er8], .agg (wtA n8 v8), .int .i64 er8, .tuple #[.agg (wtA n10 v10), .int .i64 er6], .pointer (some ⟨b1, 0, none⟩), vL, .pointer (some ⟨b1, 1, none⟩), .int .i64 kind, .pointer (some ⟨b1, 2, none⟩), .string key, .tuple #[.agg (wtA n10 v10), .int .i64 er6], .agg (wtA n10 v10), .int .i64 er6, .int .i64 er6, .int .i64 er6, .bool false, .bool false, .agg (wtA n6 v6), .agg (wtA n10 v10), .bool true, .bool false, .bool false, .bool false, vo, .pointer (some ⟨b1, 0, none⟩), vL, .bool true, .bool false, .bool false, .agg (wtA n6 v6), .bool true, .bool false, .bool false, .agg (wtA n8 v8), .agg (wtA n10 v10), .bool true, .bool false, .bool false, .bool false, vo, .pointer (some ⟨b1, 0, none⟩), vL, .bool true, .bool false, .bool false, .agg (wtA n10 v10), .agg (wtA n10 v12), .tuple #[.agg (cvA c13), .bool ci, .int .i64 ce], .agg (qb 32 (qJ OW)), .pointer (some ⟨b1, 1, none⟩), .int .i64 kind, .pointer (some ⟨b1, 2, none⟩), .string key, .agg (wtA n10 v12), .tuple #[.agg (cvA c13), .bool ci, .int .i64 ce], .agg (cvA c13), .bool ci, .int .i64 ce, .tuple #[.agg (cvA c16), .bool ci, .int .i64 ce], .agg (qb 32 (qJ OW)), .pointer (some ⟨b1, 1, none⟩), .int .i64 kind, .pointer (some ⟨b1, 2, none⟩), .string key, .agg (wtA n10 v12), .tuple #[.agg (cvA c16), .bool ci, .int .i64 ce], .agg (cvA c16), .bool ci, .int .i64 ce, .agg (wtA n10 v12), .agg (wtA n10 v10), .bool true, .bool false, .agg #[.slice none 0 0, .slice none 0 0, .int .i64 0, .bool false], .pointer (some ⟨kb, 0, none⟩), .pointer (some ⟨kb, 0, none⟩), .pointer (some ⟨b13, 2, none⟩), c13.v, .tuple #[], y137, y138, y139, y140, y141, y142, y143, y144, y145, y146, y147, y148, y149, y150, y151, y152, y153, y154, y155, y156, y157, y158, y159, y160, y161, y162, y163, y164, y165, y166, y167, y168, y169, y170, undef, undef, undef, undef, undef, undef, undef, undef, undef, undef, undef, undef, undef, undef, undef, undef, undef, undef, undef, undef, undef, undef, undef, undef, undef, undef, undef, undef, undef, undef, undef, undef, undef, undef, undef, undef, undef, undef, undef, undef, undef, undef, undef, undef, undef, undef, undef, undef, undef, undef, undef, undef, undef, undef, undef, undef, undef, undef, undef, undef, undef, undef, undef, undef, undef, undef, undef, undef, undef, undef, undef, undef, undef, undef, undef], defers := [] } wY := by
   intro y151 y152 y153 y154 y155 y156 y157 y158 y159 y160 y161 y162 y163 y164 y165 y166 y167 y168 y169 y170 wY hX
   obtain ⟨h_0, h_1, h_2, h_3, h_4, h_5, h_6⟩ := hX
   replace HB := kk h_0
   clear h_0
   replace H1 := kk h_1
   clear h_1
   replace H8 := kk h_2
   clear h_2
   replace H10 := kk h_3
   clear h_3
   replace O3 := kk h_4
   clear h_4
   replace T8 := kk h_5
   clear h_5
   replace T10 := kk h_6
   clear h_6
   clear BK H16 Q16
   refine hK22 _ _ (wp_seq_k fun K24 hK24 => wp_seq_k fun K25 hK25 => ?_)
   obtain ⟨g3, c3, hvo, _⟩ := O3.o.own
   obtain ⟨m, hm⟩ : ∃ z, Keep (OW.length = z) := ⟨_, ⟨rfl⟩⟩
   rw [hm.o] at hvo
   subst hvo
   have FL := kk O3.o.fl
   have I3 : Keep (∀ k, owS (.slice (some ⟨g3, 0, none⟩) m c3) OW k → w1.heap.size ≤ k ∧ k < w4.heap.size) := ⟨fun k hk => ⟨(O3.o.iv k hk).1, A6.o k hk⟩⟩
   have hm21 : Keep (m ≤ 2097152) := ⟨by rw [← hm.o, AL.o.len]; exact hL21.o⟩
   clear O3
   refine rgn (Vv (.int .i64 0) (h:=WL.nil (hK25 _ _ (wp_block (?_)))))
   refine wp_loop (fun ac wr => ∃ (i : Nat) (u21 u171 u172 u173 u174 u175 u176 u177 u178 u179 u180 u181 u182 u183 u184 u185 u186 u187 u188 u189 u190 u191 u192 u193 u194 u195 u196 : Value), ac = { tmps := #[.agg #[vL, .int .i64 kind, .string key, .int .i64 n0, vW], .pointer (some ⟨b1, 0, none⟩), .bool false, .slice (some ⟨g3, 0, none⟩) m c3, .pointer (some ⟨b4, 0, none⟩), .int .i64 (qt OW), .pointer (some ⟨b6, 0, none⟩), .int .i64 er6, .pointer (some ⟨b8, 0, none⟩), .int .i64 er8, .pointer (some ⟨b10, 0, none⟩), .int .i64 er6, .pointer (some ⟨b12, 0, none⟩), .pointer (some ⟨b13, 0, none⟩), .bool ci, .int .i64 ce, .pointer (some ⟨b16, 0, none⟩), .bool ci, .int .i64 ce, .pointer (some ⟨kb, 0, none⟩), .int .i64 (i : Int), u21, undef, undef, undef, undef, undef, undef, undef, undef, .pointer (some ⟨b1, 0, none⟩), vL, .bool true, .bool false, undef, .pointer (some ⟨b1, 0, none⟩), vL, .slice (some ⟨g3, 0, none⟩) m c3, .tuple #[.agg (qb 32 (qJ OW)), .int .i64 (qt OW)], .slice (some ⟨g3, 0, none⟩) m c3, .tuple #[.agg (qb 32 (qJ OW)), .int .i64 (qt OW)], .agg (qb 32 (qJ OW)), .int .i64 (qt OW), .tuple #[.agg (wtA n6 v6), .int .i64 er6], .slice (some ⟨g3, 0, none⟩) m c3, .pointer (some ⟨b1, 1, none⟩), .int .i64 kind, .pointer (some ⟨b1, 2, none⟩), .string key, .tuple #[.agg (wtA n6 v6), .int .i64 er6], .agg (wtA n6 v6), .int .i64 er6, .tuple #[.agg (wtA n8 v8), .int .i64 er8], .slice (some ⟨g3, 0, none⟩) m c3, .pointer (some ⟨b1, 1, none⟩), .int .i64 kind, .pointer (some ⟨b1, 2, none⟩), .string key, .tuple #[.agg (wtA n8 v8), .int .i64 er8], .agg (wtA n8 v8), .int .i64 er8, .tuple #[.agg (wtA n10 v10), .int .i64 er6], .pointer (some ⟨b1, 0, none⟩), vL, .pointer (some ⟨b1, 1, none⟩), .int .i64 kind, .pointer (some ⟨b1, 2, none⟩), .string key, .tuple #[.agg (wtA n10 v10), .int .i64 er6], .agg (wtA n10 v10), .int .i64 er6, .int .i64 er6, .int .i64 er6, .bool false, .bool false, .agg (wtA n6 v6), .agg (wtA n10 v10), .bool true, .bool false, .bool false, .bool false, .slice (some ⟨g3, 0, none⟩) m c3, .pointer (some ⟨b1, 0, none⟩), vL, .bool true, .bool false, .bool false, .agg (wtA n6 v6), .bool true, .bool false, .bool false, .agg (wtA n8 v8), .agg (wtA n10 v10), .bool true, .bool false, .bool false, .bool false, .slice (some ⟨g3, 0, none⟩) m c3, .pointer (some ⟨b1, 0, none⟩), vL, .bool true, .bool false, .bool false, .agg (wtA n10 v10), .agg (wtA n10 v12), .tuple #[.agg (cvA c13), .bool ci, .int .i64 ce], .agg (qb 32 (qJ OW)), .pointer (some ⟨b1, 1, none⟩), .int .i64 kind, .pointer (some ⟨b1, 2, none⟩), .string key, .agg (wtA n10 v12), .tuple #[.agg (cvA c13), .bool ci, .int .i64 ce], .agg (cvA c13), .bool ci, .int .i64 ce, .tuple #[.agg (cvA c16), .bool ci, .int .i64 ce], .agg (qb 32 (qJ OW)), .pointer (some ⟨b1, 1, none⟩), .int .i64 kind, .pointer (some ⟨b1, 2, none⟩), .string key, .agg (wtA n10 v12), .tuple #[.agg (cvA c16), .bool ci, .int .i64 ce], .agg (cvA c16), .bool ci, .int .i64 ce, .agg (wtA n10 v12), .agg (wtA n10 v10), .bool true, .bool false, .agg #[.slice none 0 0, .slice none 0 0, .int .i64 0, .bool false], .pointer (some ⟨kb, 0, none⟩), .pointer (some ⟨kb, 0, none⟩), .pointer (some ⟨b13, 2, none⟩), c13.v, .tuple #[], y137, y138, y139, y140, y141, y142, y143, y144, y145, y146, y147, y148, y149, y150, y151, y152, y153, y154, y155, y156, y157, y158, y159, y160, y161, y162, y163, y164, y165, y166, y167, y168, y169, y170, u171, u172, u173, u174, u175, u176, u177, u178, u179, u180, u181, u182, u183, u184, u185, u186, u187, u188, u189, u190, u191, u192, u193, u194, u195, u196, undef, undef, undef, undef, undef, undef, undef, undef, undef, undef, undef, undef, undef, undef, undef, undef, undef, undef, undef, undef, undef, undef, undef, undef, undef, undef, undef, undef, undef, undef, undef, undef, undef, undef, undef, undef, undef, undef, undef, undef, undef, undef, undef, undef, undef, undef, undef, undef, undef], defers := [] } ∧ i ≤ m ∧ FlAt wr (.slice (some ⟨g3, 0, none⟩) m c3) OW i 0 ∧ Below w.heap.size w wr ∧ Blk wr b1 27 #[vL, .int .i64 kind, .string key, .int .i64 n0, vW] ∧ Blk wr b8 25 (wtA n8 v8) ∧ Blk wr b10 25 (wtA n10 v10) ∧ WtN wr w6.heap.size v8 ls8 ∧ WtF wr w8.heap.size v10 ls10) (fun a _ => m - (intOf (a.tmps.getD 20 undef)).toNat) ⟨0, undef, undef, undef, undef, undef, undef, undef, undef, undef, undef, undef, undef, undef, undef, undef, undef, undef, undef, undef, undef, undef, undef, undef, undef, undef, undef, undef, rfl, Nat.zero_le _, FL.o, HB.o, H1.o, H8.o, H10.o, T8.o, T10.o⟩ ?_
   rintro ac wr ⟨i, u21, u171, u172, u173, u174, u175, u176, u177, u178, u179, u180, u181, u182, u183, u184, u185, u186, u187, u188, u189, u190, u191, u192, u193, u194, u195, u196, rfl, hi_, hF, hG⟩
   obtain ⟨h1, h2, h3, h4, h5, h6⟩ := hG
   have HB := kk h1
   have H1 := kk h2
   have H8 := kk h3
   have H10 := kk h4
   have T8 := kk h5
   have T10 := kk h6
   have JF := kk hF
   clear h1 h2 h3 h4 h5 h6 hF
   by_cases hil : i < m
   ·have hil' : (i : Int) < (m : Int) := by omega
    have hw3 : IntKind.i64.wrap ((i : Int) + 1) = ((i + 1 : Nat) : Int) := by rw [IntKind.wrap_i64]; have := hm21.o; omega
    obtain ⟨c, Hc⟩ : ∃ z, Keep (OW[i]? = some z) := ⟨OW[i]'(by rw [hm.o]; exact hil), ⟨List.getElem?_eq_getElem _⟩⟩
    obtain ⟨vg, vc, cur0, hcv, _, hcle, _⟩ := JF.o.val i c Hc.o
    have Hcv := kk hcv
    have Hcle := kk hcle
    have Hcl : Keep (c.l.length ≤ 134217728) := ⟨by obtain ⟨d, e1, e2, e3, e4⟩ := AL.o.each i c Hc.o; rw [e4]; exact yI hfew.o e1⟩
    have Hvk : Keep (w1.heap.size ≤ vg ∧ vg < w4.heap.size) := ⟨I3.o vg (.inr ⟨c, List.mem_of_getElem? Hc.o, by rw [hcv]; rfl⟩)⟩
    clear hcv hcle
    refine wp_seq_k fun K26 hK26 => wp_seq_k fun K27 hK27 => rgn (Vv (.int .i64 (i : Int)) (h:=Vv (.slice (some ⟨g3, 0, none⟩) m c3) (h:=Vv (.int .i64 (m : Int)) (h:=Vt (h:=WL.nil (hK27 _ _ (Ct (h:=wp_skip (hK26 _ _ (wp_seq_k fun K28 hK28 => wp_block (wp_seq_k fun K29 hK29 => rgn (Vv (.int .i64 0) (h:=WL.nil (hK29 _ _ (?_)))))))))))))))
    refine wp_block ?_
    refine wp_loop (fun ac wx => ∃ (j : Nat) (y177 y178 y179 y180 y181 y182 y183 y184 y185 y186 y187 y188 y189 y190 y191 y192 y193 y194 y195 y196 : Value), ac = { tmps := #[.agg #[vL, .int .i64 kind, .string key, .int .i64 n0, vW], .pointer (some ⟨b1, 0, none⟩), .bool false, .slice (some ⟨g3, 0, none⟩) m c3, .pointer (some ⟨b4, 0, none⟩), .int .i64 (qt OW), .pointer (some ⟨b6, 0, none⟩), .int .i64 er6, .pointer (some ⟨b8, 0, none⟩), .int .i64 er8, .pointer (some ⟨b10, 0, none⟩), .int .i64 er6, .pointer (some ⟨b12, 0, none⟩), .pointer (some ⟨b13, 0, none⟩), .bool ci, .int .i64 ce, .pointer (some ⟨b16, 0, none⟩), .bool ci, .int .i64 ce, .pointer (some ⟨kb, 0, none⟩), .int .i64 (i : Int), .int .i64 (j : Int), undef, undef, undef, undef, undef, undef, undef, undef, .pointer (some ⟨b1, 0, none⟩), vL, .bool true, .bool false, undef, .pointer (some ⟨b1, 0, none⟩), vL, .slice (some ⟨g3, 0, none⟩) m c3, .tuple #[.agg (qb 32 (qJ OW)), .int .i64 (qt OW)], .slice (some ⟨g3, 0, none⟩) m c3, .tuple #[.agg (qb 32 (qJ OW)), .int .i64 (qt OW)], .agg (qb 32 (qJ OW)), .int .i64 (qt OW), .tuple #[.agg (wtA n6 v6), .int .i64 er6], .slice (some ⟨g3, 0, none⟩) m c3, .pointer (some ⟨b1, 1, none⟩), .int .i64 kind, .pointer (some ⟨b1, 2, none⟩), .string key, .tuple #[.agg (wtA n6 v6), .int .i64 er6], .agg (wtA n6 v6), .int .i64 er6, .tuple #[.agg (wtA n8 v8), .int .i64 er8], .slice (some ⟨g3, 0, none⟩) m c3, .pointer (some ⟨b1, 1, none⟩), .int .i64 kind, .pointer (some ⟨b1, 2, none⟩), .string key, .tuple #[.agg (wtA n8 v8), .int .i64 er8], .agg (wtA n8 v8), .int .i64 er8, .tuple #[.agg (wtA n10 v10), .int .i64 er6], .pointer (some ⟨b1, 0, none⟩), vL, .pointer (some ⟨b1, 1, none⟩), .int .i64 kind, .pointer (some ⟨b1, 2, none⟩), .string key, .tuple #[.agg (wtA n10 v10), .int .i64 er6], .agg (wtA n10 v10), .int .i64 er6, .int .i64 er6, .int .i64 er6, .bool false, .bool false, .agg (wtA n6 v6), .agg (wtA n10 v10), .bool true, .bool false, .bool false, .bool false, .slice (some ⟨g3, 0, none⟩) m c3, .pointer (some ⟨b1, 0, none⟩), vL, .bool true, .bool false, .bool false, .agg (wtA n6 v6), .bool true, .bool false, .bool false, .agg (wtA n8 v8), .agg (wtA n10 v10), .bool true, .bool false, .bool false, .bool false, .slice (some ⟨g3, 0, none⟩) m c3, .pointer (some ⟨b1, 0, none⟩), vL, .bool true, .bool false, .bool false, .agg (wtA n10 v10), .agg (wtA n10 v12), .tuple #[.agg (cvA c13), .bool ci, .int .i64 ce], .agg (qb 32 (qJ OW)), .pointer (some ⟨b1, 1, none⟩), .int .i64 kind, .pointer (some ⟨b1, 2, none⟩), .string key, .agg (wtA n10 v12), .tuple #[.agg (cvA c13), .bool ci, .int .i64 ce], .agg (cvA c13), .bool ci, .int .i64 ce, .tuple #[.agg (cvA c16), .bool ci, .int .i64 ce], .agg (qb 32 (qJ OW)), .pointer (some ⟨b1, 1, none⟩), .int .i64 kind, .pointer (some ⟨b1, 2, none⟩), .string key, .agg (wtA n10 v12), .tuple #[.agg (cvA c16), .bool ci, .int .i64 ce], .agg (cvA c16), .bool ci, .int .i64 ce, .agg (wtA n10 v12), .agg (wtA n10 v10), .bool true, .bool false, .agg #[.slice none 0 0, .slice none 0 0, .int .i64 0, .bool false], .pointer (some ⟨kb, 0, none⟩), .pointer (some ⟨kb, 0, none⟩), .pointer (some ⟨b13, 2, none⟩), c13.v, .tuple #[], y137, y138, y139, y140, y141, y142, y143, y144, y145, y146, y147, y148, y149, y150, y151, y152, y153, y154, y155, y156, y157, y158, y159, y160, y161, y162, y163, y164, y165, y166, y167, y168, y169, y170, .int .i64 (i : Int), .slice (some ⟨g3, 0, none⟩) m c3, .int .i64 (m : Int), .bool true, u175, u176, y177, y178, y179, y180, y181, y182, y183, y184, y185, y186, y187, y188, y189, y190, y191, y192, y193, y194, y195, y196, undef, undef, undef, undef, undef, undef, undef, undef, undef, undef, undef, undef, undef, undef, undef, undef, undef, undef, undef, undef, undef, undef, undef, undef, undef, undef, undef, undef, undef, undef, undef, undef, undef, undef, undef, undef, undef, undef, undef, undef, undef, undef, undef, undef, undef, undef, undef, undef, undef], defers := [] } ∧ j ≤ c.l.length ∧ FlAt wx (.slice (some ⟨g3, 0, none⟩) m c3) OW i j ∧ Below w.heap.size w wx ∧ Blk wx b1 27 #[vL, .int .i64 kind, .string key, .int .i64 n0, vW] ∧ Blk wx b8 25 (wtA n8 v8) ∧ Blk wx b10 25 (wtA n10 v10) ∧ WtN wx w6.heap.size v8 ls8 ∧ WtF wx w8.heap.size v10 ls10) (fun a _ => c.l.length - (intOf (a.tmps.getD 21 undef)).toNat) ⟨0, u177, u178, u179, u180, u181, u182, u183, u184, u185, u186, u187, u188, u189, u190, u191, u192, u193, u194, u195, u196, rfl, Nat.zero_le _, JF.o, HB.o, H1.o, H8.o, H10.o, T8.o, T10.o⟩ ?_
    rintro ac wx ⟨j, y177, y178, y179, y180, y181, y182, y183, y184, y185, y186, y187, y188, y189, y190, y191, y192, y193, y194, y195, y196, rfl, hj, hF, hG⟩
    obtain ⟨h1, h2, h3, h4, h5, h6⟩ := hG
    have HB := kk h1
    have H1 := kk h2
    have H8 := kk h3
    have H10 := kk h4
    have T8 := kk h5
    have T10 := kk h6
    have JF := kk hF
    clear h1 h2 h3 h4 h5 h6 hF
    have cv_ : wx.cell? ⟨g3, i * 3 + 2, none⟩ = some (.slice (some ⟨vg, 0, none⟩) c.l.length vc) := by
     obtain ⟨B_, g_, cap_, e_, ho_⟩ := JF.o.own
     injection e_ with e1_ e2_ e3_
     injection e1_ with e1_
     injection e1_ with e1_
     subst e1_
     have h := World.ownsRow.cells (g := g3) ho_ rfl (i * 3 + 2) c.v (by rw [List.getElem?_append_left (by rw [jU]; have := hm.o; omega)]; exact KY OW i c Hc.o 2 c.v rfl)
     rw [Addr.add_mid, Nat.zero_add, Hcv.o] at h
     exact h
    by_cases hjl : j < c.l.length
    ·have hjl' : (j : Int) < (c.l.length : Int) := by omega
     have hw5 : IntKind.i64.wrap ((j : Int) + 1) = ((j + 1 : Nat) : Int) := by rw [IntKind.wrap_i64]; have := Hcl.o; omega
     obtain ⟨vg2, vc2, cur, e2, hB2, hcur, hle2, hF2⟩ := JF.o.step Hc.o hjl
     have e3 := Hcv.o.symm.trans e2
     injection e3 with e4 _ e5
     injection e4 with e4
     injection e4 with e4
     subst e4 e5
     have bj_ : wx.cell? ⟨vg, j, none⟩ = some (.int .u8 (c.l.getD j 0)) := hB2.c j hcur
     have f_o := hB2.frozen j
     refine wp_seq_k fun K30 hK30 => wp_seq_k fun K31 hK31 => rgn (Vv (.int .i64 (j : Int)) (h:=Vv (.slice (some ⟨g3, 0, none⟩) m c3) (h:=Vv (.int .i64 (i : Int)) (h:=Vv (.pointer (some ⟨g3, i * 3, none⟩)) (h:=Vv (.pointer (some ⟨g3, i * 3 + 2, none⟩)) (h:=Vv (.slice (some ⟨vg, 0, none⟩) c.l.length vc) (h:=Vv (.int .i64 (c.l.length : Int)) (h:=Vt (h:=WL.nil (hK31 _ _ (Ct (h:=wp_skip (hK30 _ _ (wp_seq_k fun K32 hK32 => ?_))))))))))))))
     refine wp_block (rgn (Vv (.slice (some ⟨g3, 0, none⟩) m c3) (h:=Vv (.int .i64 (i : Int)) (h:=Vv (.pointer (some ⟨g3, i * 3, none⟩)) (h:=Vv (.pointer (some ⟨g3, i * 3 + 2, none⟩)) (h:=Vv (.slice (some ⟨vg, 0, none⟩) c.l.length vc) (h:=Vv (.int .i64 (j : Int)) (h:=Vv (.pointer (some ⟨vg, j, none⟩)) (h:=Vv (.int .u8 (c.l.getD j 0)) (h:=?_))))))))))
     refine WL.val (by kernel_rfl) (.int .u8 (flB (c.l.getD j 0))) (by unfold flB; go_simp) ?_
     simp only [Act.put, pqA, pqB, pqC]
     refine VlS (.pointer (some ⟨vg, j, none⟩)) ?_
     refine WL.cell (by kernel_rfl) (wx.setCell ⟨vg, j, none⟩ (.int .u8 (flB (c.l.getD j 0)))) (by go_simp) ?_
     have k1 : Grown wx (wx.setCell ⟨vg, j, none⟩ (.int .u8 (flB (c.l.getD j 0)))) (fun k => k = vg) := Grown.setCell wx vg j _ fun _ => rfl
     have JE := kk hF2
     clear bj_ f_o cv_ hB2 hcur hF2
     generalize wx.setCell ⟨vg, j, none⟩ (.int .u8 (flB (c.l.getD j 0))) = wy at *
     have EB : Keep (Below w.heap.size w wy) := ⟨zw HB.o k1 (fun k hk e => by have := Hvk.o.1; have := Y1.o; omega) (Nat.le_refl _)⟩
     have E1 := kk (k1.blk H1.o fun e => by have := Hvk.o.1; have := X1.o; omega)
     have E8 := kk (k1.blk H8.o fun e => by have := Hvk.o.2; have := ge8.o; have := z45.o; omega)
     have E10 := kk (k1.blk H10.o fun e => by have := Hvk.o.2; have := ge10.o; have := z45.o; omega)
     have ET8 := kk (T8.o.grown k1 fun k hk e => by have := Hvk.o.2; have := (I8.o k hk).1; have := Y8.o; have := z45.o; omega)
     have ET10 := kk (T10.o.grown k1 fun k hk e => by have := Hvk.o.2; have := (I10.o k hk).1; have := Y10.o; have := z45.o; omega)
     clear k1
     simp only [Act.put]
     refine WL.nil (hK32 _ _ (rgn (Vv (.int .i64 (j : Int)) (h:=Vv (.int .i64 ((j + 1 : Nat) : Int)) (h:=Vv (.int .i64 ((j + 1 : Nat) : Int)) (h:=?_))))))
     refine WL.nil ?_
     refine ⟨⟨j + 1, .int .i64 (j : Int), .slice (some ⟨g3, 0, none⟩) m c3, .int .i64 (i : Int), .pointer (some ⟨g3, i * 3, none⟩), .pointer (some ⟨g3, i * 3 + 2, none⟩), .slice (some ⟨vg, 0, none⟩) c.l.length vc, .int .i64 (c.l.length : Int), .bool true, .int .i64 (j : Int), .int .i64 ((j + 1 : Nat) : Int), .slice (some ⟨g3, 0, none⟩) m c3, .int .i64 (i : Int), .pointer (some ⟨g3, i * 3, none⟩), .pointer (some ⟨g3, i * 3 + 2, none⟩), .slice (some ⟨vg, 0, none⟩) c.l.length vc, .int .i64 (j : Int), .pointer (some ⟨vg, j, none⟩), .int .u8 (c.l.getD j 0), .int .u8 (flB (c.l.getD j 0)), .pointer (some ⟨vg, j, none⟩), rfl, by omega, JE.o, EB.o, E1.o, E8.o, E10.o, ET8.o, ET10.o⟩, by simp [intOf]; omega⟩
    ·have hjl' : ¬ (j : Int) < (c.l.length : Int) := by omega
     have hje : j = c.l.length := by omega
     subst hje
     have JR := kk (JF.o.row Hc.o)
     refine wp_seq_k fun K33 hK33 => wp_seq_k fun K34 hK34 => rgn (Vv (.int .i64 (c.l.length : Int)) (h:=Vv (.slice (some ⟨g3, 0, none⟩) m c3) (h:=Vv (.int .i64 (i : Int)) (h:=Vv (.pointer (some ⟨g3, i * 3, none⟩)) (h:=Vv (.pointer (some ⟨g3, i * 3 + 2, none⟩)) (h:=Vv (.slice (some ⟨vg, 0, none⟩) c.l.length vc) (h:=Vv (.int .i64 (c.l.length : Int)) (h:=Vf (h:=WL.nil (hK34 _ _ (Cf (h:=wp_exit (hK28 _ _ (rgn (?_)))))))))))))))
     refine Vv (.int .i64 (i : Int)) (h:=Vv (.int .i64 ((i + 1 : Nat) : Int)) (h:=Vv (.int .i64 ((i + 1 : Nat) : Int)) (h:=?_)))
     refine WL.nil ?_
     refine ⟨⟨i + 1, .int .i64 (c.l.length : Int), .int .i64 (i : Int), .slice (some ⟨g3, 0, none⟩) m c3, .int .i64 (m : Int), .bool true, .int .i64 (i : Int), .int .i64 ((i + 1 : Nat) : Int), .int .i64 (c.l.length : Int), .slice (some ⟨g3, 0, none⟩) m c3, .int .i64 (i : Int), .pointer (some ⟨g3, i * 3, none⟩), .pointer (some ⟨g3, i * 3 + 2, none⟩), .slice (some ⟨vg, 0, none⟩) c.l.length vc, .int .i64 (c.l.length : Int), .bool false, y185, y186, y187, y188, y189, y190, y191, y192, y193, y194, y195, y196, rfl, by omega, JR.o, HB.o, H1.o, H8.o, H10.o, T8.o, T10.o⟩, by simp [intOf]; omega⟩
   ·have hil' : ¬ (i : Int) < (m : Int) := by omega
    have hie : i = OW.length := by have := hm.o; omega
    subst hie
    have CS := kk JF.o.csv
    have HSf : Keep (Sml (OW.map flC)) := ⟨GJ (AL.o.sml HS.o)⟩
    have HNf : Keep ((OW.map flC).length ≤ 2097152) := ⟨by rw [List.length_map, hm.o]; exact hm21.o⟩
    have HNf2 : Keep ((OW.map flC).length ≤ 1099511627776) := ⟨by have := HNf.o; omega⟩
    obtain ⟨LF, hLF⟩ : ∃ z, z = OW.map flC := ⟨_, rfl⟩
    rw [← hLF] at CS HSf HNf HNf2
    clear hLF JF
    obtain ⟨at2, ha2, hb2⟩ := Ut LF kind key
    have HA2 := kk ha2
    have HAt2 := kk hb2
    clear ha2 hb2
    refine wp_seq_k fun K35 hK35 => wp_seq_k fun K36 hK36 => rgn (Vv (.int .i64 (OW.length : Int)) (h:=Vv (.slice (some ⟨g3, 0, none⟩) m c3) (h:=Vv (.int .i64 (m : Int)) (h:=Vf (h:=WL.nil (hK36 _ _ (Cf (h:=wp_exit (hK24 _ _ (wp_seq_k fun K37 hK37 => rgn (Vv (.slice (some ⟨g3, 0, none⟩) m c3) (h:=?_))))))))))))
    refine WL.callF (by kernel_rfl) 7 _ _ rfl XS #[.slice (some ⟨g3, 0, none⟩) m c3] (by simp [Act.eval]) ?_
    refine (xS (.slice (some ⟨g3, 0, none⟩) m c3) LF wr CS.o HSf.o HNf2.o).mono ?_
    rintro e w30 ⟨rfl, k1⟩
    refine ⟨_, rfl, ?_⟩
    
    replace HB := tb HB k1
    replace H1 := kbx H1 k1
    replace T8 := kk (T8.o.grown (gF k1) fun _ _ e => e)
    replace H8 := kbx H8 k1
    replace T10 := kk (T10.o.grown (gF k1) fun _ _ e => e)
    replace H10 := kbx H10 k1
    replace CS := kk ((CS.o.below k1).mono k1.size)
    clear k1
    simp only [Act.put, pqA, pqB, pqC]
    refine Vv (.tuple #[.agg (qb 32 (qJ LF)), .int .i64 (qt LF)]) (h:=Vv (.agg (qb 32 (qJ LF))) (h:=Vv (.int .i64 (qt LF)) (h:=kJ 32 qm fun b22 wn hb_ N_ bn_ => ?_)))
    have gb_ := lp hb_
    clear hb_
    refine StR (qb 32 (qJ LF)) N_.o (qd _) (qh _ _ _) (qi _ _) ?_
    have H22 := kk (N_.o.setRow (qb 32 (qJ LF)))
    have k1 : Below w30.heap.size w30 (wn.setRow b22 (qb 32 (qJ LF))) := qf bn_.o gb_.o _
    generalize wn.setRow b22 (qb 32 (qJ LF)) = w31 at *
    replace HB := tb HB k1
    replace H1 := kbx H1 k1
    replace T8 := kk (T8.o.grown (gF k1) fun _ _ e => e)
    replace H8 := kbx H8 k1
    replace T10 := kk (T10.o.grown (gF k1) fun _ _ e => e)
    replace H10 := kbx H10 k1
    replace CS := kk ((CS.o.below k1).mono k1.size)
    clear k1 N_ bn_ gb_
    refine Vv (.int .i64 (qt LF)) (h:=WL.nil (hK37 _ _ (wp_seq_k fun K38 hK38 => rgn (Vv (.slice (some ⟨g3, 0, none⟩) m c3) (h:=?_)))))
    refine WL.callF (by kernel_rfl) 19 _ _ rfl UE #[.slice (some ⟨g3, 0, none⟩) m c3] (by simp [Act.eval]) ?_
    refine (UJ (.slice (some ⟨g3, 0, none⟩) m c3) LF w31 CS.o HSf.o HNf2.o).mono ?_
    rintro e w32 ⟨rfl, k1⟩
    refine ⟨_, rfl, ?_⟩
    
    replace HB := tb HB k1
    replace H1 := kbx H1 k1
    replace T8 := kk (T8.o.grown (gF k1) fun _ _ e => e)
    replace H8 := kbx H8 k1
    replace T10 := kk (T10.o.grown (gF k1) fun _ _ e => e)
    replace H10 := kbx H10 k1
    replace CS := kk ((CS.o.below k1).mono k1.size)
    replace H22 := kbx H22 k1
    clear k1
    simp only [Act.put, pqA, pqB, pqC]
    refine Vv (.tuple #[.agg (qb 32 (qJ LF)), .int .i64 (qt LF)]) (h:=Vv (.agg (qb 32 (qJ LF))) (h:=Vv (.int .i64 (qt LF)) (h:=kJ 32 qm fun b24 wn hb_ N_ bn_ => ?_)))
    have gb_ := lp hb_
    clear hb_
    refine StR (qb 32 (qJ LF)) N_.o (qd _) (qh _ _ _) (qi _ _) ?_
    have H24 := kk (N_.o.setRow (qb 32 (qJ LF)))
    have k1 : Below w32.heap.size w32 (wn.setRow b24 (qb 32 (qJ LF))) := qf bn_.o gb_.o _
    generalize wn.setRow b24 (qb 32 (qJ LF)) = w33 at *
    replace HB := tb HB k1
    replace H1 := kbx H1 k1
    replace T8 := kk (T8.o.grown (gF k1) fun _ _ e => e)
    replace H8 := kbx H8 k1
    replace T10 := kk (T10.o.grown (gF k1) fun _ _ e => e)
    replace H10 := kbx H10 k1
    replace CS := kk ((CS.o.below k1).mono k1.size)
    replace H22 := kbx H22 k1
    clear k1 N_ bn_ gb_
    refine Vv (.int .i64 (qt LF)) (h:=WL.nil (hK38 _ _ (wp_seq_k fun K39 hK39 => rgn (Vv (.slice (some ⟨g3, 0, none⟩) m c3) (h:=Vv (.pointer (some ⟨b1, 1, none⟩)) (h:=Vb (.int .i64 kind) H1 1 (h:=Vv (.pointer (some ⟨b1, 2, none⟩)) (h:=Vb (.string key) H1 2 (h:=ClS (QZ (.slice (some ⟨g3, 0, none⟩) m c3) LF kind key at2 w33 CS.o HSf.o HNf2.o HA2.o HAt2.o) ?_)))))))))
    rintro e w34 ⟨n26, v26, ls26, er26, rfl, k0, k1, a1, a2, a3⟩
    refine ⟨_, rfl, ?_⟩
    have F26 := kk (FdK.mk a1 a2 a3)
    have T26 := kk k0
    replace HB := tb HB k1
    replace H1 := kbx H1 k1
    replace T8 := kk (T8.o.grown (gF k1) fun _ _ e => e)
    replace H8 := kbx H8 k1
    replace T10 := kk (T10.o.grown (gF k1) fun _ _ e => e)
    replace H10 := kbx H10 k1
    replace CS := kk ((CS.o.below k1).mono k1.size)
    replace H22 := kbx H22 k1
    replace H24 := kbx H24 k1
    clear k0 k1 a1 a2 a3
    refine Vv (.tuple #[.agg (wtA n26 v26), .int .i64 er26]) (h:=Vv (.agg (wtA n26 v26)) (h:=Vv (.int .i64 er26) (h:=kJ 25 zb fun b26 wn hb_ N_ bn_ => ?_)))
    have gb_ := lp hb_
    clear hb_
    refine StR (wtA n26 v26) N_.o (qD _ _) (rfl) (by obtain ⟨a_, c_, e_⟩ := qE T26.o.own; rw [e_]; simp [wtA, Value.oneCell']) ?_
    have H26 := kk (N_.o.setRow (wtA n26 v26))
    have k1 : Below w34.heap.size w34 (wn.setRow b26 (wtA n26 v26)) := qf bn_.o gb_.o _
    generalize wn.setRow b26 (wtA n26 v26) = w35 at *
    replace HB := tb HB k1
    replace H1 := kbx H1 k1
    replace T8 := kk (T8.o.grown (gF k1) fun _ _ e => e)
    replace H8 := kbx H8 k1
    replace T10 := kk (T10.o.grown (gF k1) fun _ _ e => e)
    replace H10 := kbx H10 k1
    replace CS := kk ((CS.o.below k1).mono k1.size)
    replace H22 := kbx H22 k1
    replace H24 := kbx H24 k1
    replace T26 := kk (T26.o.grown (gF k1) fun _ _ e => e)
    clear k1 N_ bn_ gb_
    refine Vv (.int .i64 er26) (h:=WL.nil (hK39 _ _ (wp_seq_k fun K40 hK40 => rgn (Vv (.slice (some ⟨g3, 0, none⟩) m c3) (h:=Vv (.pointer (some ⟨b1, 1, none⟩)) (h:=Vb (.int .i64 kind) H1 1 (h:=Vv (.pointer (some ⟨b1, 2, none⟩)) (h:=Vb (.string key) H1 2 (h:=ClS (XH (.slice (some ⟨g3, 0, none⟩) m c3) LF kind key at2 w35 CS.o HSf.o HNf2.o HA2.o HAt2.o) ?_)))))))))
    rintro e w36 ⟨n28, v28, ls28, er28, rfl, k0, k1, a1, a2, a3⟩
    refine ⟨_, rfl, ?_⟩
    have F28 := kk (FdK.mk a1 a2 a3)
    have T28 := kk k0
    replace HB := tb HB k1
    replace H1 := kbx H1 k1
    replace T8 := kk (T8.o.grown (gF k1) fun _ _ e => e)
    replace H8 := kbx H8 k1
    replace T10 := kk (T10.o.grown (gF k1) fun _ _ e => e)
    replace H10 := kbx H10 k1
    replace CS := kk ((CS.o.below k1).mono k1.size)
    replace H22 := kbx H22 k1
    replace H24 := kbx H24 k1
    replace T26 := kk (T26.o.grown (gF k1) fun _ _ e => e)
    replace H26 := kbx H26 k1
    clear k0 k1 a1 a2 a3
    refine Vv (.tuple #[.agg (wtA n28 v28), .int .i64 er28]) (h:=Vv (.agg (wtA n28 v28)) (h:=Vv (.int .i64 er28) (h:=kJ 25 zb fun b28 wn hb_ N_ bn_ => ?_)))
    have gb_ := lp hb_
    clear hb_
    refine WL.storeR (by kernel_rfl) 25 (.tmp 28) (.tmp 223) rfl b28 (wtA n28 v28) rfl rfl 25 #[.int .i64 0, .slice none 0 0] N_.o (qD _ _) (rfl) (by obtain ⟨a_, c_, e_⟩ := qE T28.o.own; rw [e_]; simp [wtA, Value.oneCell']) ?_
    have H28 := kk (N_.o.setRow (wtA n28 v28))
    have k1 : Below w36.heap.size w36 (wn.setRow b28 (wtA n28 v28)) := qf bn_.o gb_.o _
    generalize wn.setRow b28 (wtA n28 v28) = w37 at *
    replace HB := tb HB k1
    replace H1 := kbx H1 k1
    replace T8 := kk (T8.o.grown (gF k1) fun _ _ e => e)
    replace H8 := kbx H8 k1
    replace T10 := kk (T10.o.grown (gF k1) fun _ _ e => e)
    replace H10 := kbx H10 k1
    replace CS := kk ((CS.o.below k1).mono k1.size)
    replace H22 := kbx H22 k1
    replace H24 := kbx H24 k1
    replace T26 := kk (T26.o.grown (gF k1) fun _ _ e => e)
    replace H26 := kbx H26 k1
    replace T28 := kk (T28.o.grown (gF k1) fun _ _ e => e)
    clear k1 N_ bn_ gb_
    have E28 := kk (F26.o.same F28.o)
    have hl26 := kk (F26.o.sizes HA2.o)
    have her_ := E28.o.1
    subst her_
    simp only [Act.put]
    refine Vv (.int .i64 er26) (h:=WL.nil (hK40 _ _ (wp_seq_k fun K41 hK41 => rgn (Vr H22.o (qd _) (h:=Vr H24.o (qd _) (h:=?_))))))
    refine WL.val (by kernel_rfl) (.bool true) (by have hq_ := Dh (qJ LF) w37; go_simp) ?_
    simp only [Act.put, pqA, pqB, pqC]
    refine Vt (h:=Vv (.int .i64 (qt LF)) (h:=Vv (.int .i64 (qt LF)) (h:=Vt (h:=Vt (h:=Vt (h:=Vr H26.o (qD _ _) (h:=Vr H28.o (qD _ _) (h:=ClS (vM v26 v28 n26 n28 ls26 ls28 w37 T26.o.lsv T28.o.lsv (by have := hl26.o.1; omega) (fun x hx => by have := (hl26.o.2 x hx).1; have := HNf.o; omega)) ?_))))))))
    rintro e w38 ⟨b_, rfl, k, k1⟩
    refine ⟨_, rfl, ?_⟩
    have hb_ : b_ = true := k.mpr E28.o.2
    subst hb_
    clear k
    replace HB := tb HB k1
    replace H1 := kbx H1 k1
    replace T8 := kk (T8.o.grown (gF k1) fun _ _ e => e)
    replace H8 := kbx H8 k1
    replace T10 := kk (T10.o.grown (gF k1) fun _ _ e => e)
    replace H10 := kbx H10 k1
    replace CS := kk ((CS.o.below k1).mono k1.size)
    replace H22 := kbx H22 k1
    replace H24 := kbx H24 k1
    replace T26 := kk (T26.o.grown (gF k1) fun _ _ e => e)
    replace H26 := kbx H26 k1
    replace T28 := kk (T28.o.grown (gF k1) fun _ _ e => e)
    replace H28 := kbx H28 k1
    clear k1
    refine Vt (h:=Vt (h:=Vr H8.o (qD _ _) (h:=Vr H10.o (qD _ _) (h:=ClS (vM v8 v10 n8 n10 ls8 ls10 w38 T8.o.lsv T10.o.lsv (by have := hl8.o.1; omega) (fun x hx => by have := (hl8.o.2 x hx).1; have := hL21.o; omega)) ?_))))
    rintro e w39 ⟨b_, rfl, k, k1⟩
    refine ⟨_, rfl, ?_⟩
    have hb_ : b_ = true := k.mpr E810.o.2
    subst hb_
    clear k
    replace HB := tb HB k1
    replace H1 := kbx H1 k1
    replace T8 := kk (T8.o.grown (gF k1) fun _ _ e => e)
    replace H8 := kbx H8 k1
    replace T10 := kk (T10.o.grown (gF k1) fun _ _ e => e)
    replace H10 := kbx H10 k1
    replace CS := kk ((CS.o.below k1).mono k1.size)
    replace H22 := kbx H22 k1
    replace H24 := kbx H24 k1
    replace T26 := kk (T26.o.grown (gF k1) fun _ _ e => e)
    replace H26 := kbx H26 k1
    replace T28 := kk (T28.o.grown (gF k1) fun _ _ e => e)
    replace H28 := kbx H28 k1
    clear k1
    refine Vt (h:=Vt (h:=?_))
    refine WL.callF (by kernel_rfl) 5 _ _ rfl VR #[] (by simp) ?_
    refine (JD w39).mono ?_
    rintro e w40 ⟨rfl, k1⟩
    refine ⟨_, rfl, ?_⟩
    
    replace HB := tb HB k1
    replace H1 := kbx H1 k1
    replace T8 := kk (T8.o.grown (gF k1) fun _ _ e => e)
    replace H8 := kbx H8 k1
    replace T10 := kk (T10.o.grown (gF k1) fun _ _ e => e)
    replace H10 := kbx H10 k1
    replace CS := kk ((CS.o.below k1).mono k1.size)
    replace H22 := kbx H22 k1
    replace H24 := kbx H24 k1
    replace T26 := kk (T26.o.grown (gF k1) fun _ _ e => e)
    replace H26 := kbx H26 k1
    replace T28 := kk (T28.o.grown (gF k1) fun _ _ e => e)
    replace H28 := kbx H28 k1
    clear k1
    simp only [Act.put, pqA, pqB, pqC]
    refine Vt (h:=Vt (h:=WL.nil (hK41 _ _ (wp_ret ?_))))
    go_ret
    exact ⟨rfl, HB.o⟩
  cases hcc : ci
  ·rw [hcc] at rest23
   by_cases hce0 : ce = 0
   ·refine wp_region_held_drew (S := fun _ => True) (by kernel_rfl) (trivial) (fun hHeld => ?_)
    have BD : Keep (Below wX.heap.size wX wX.drew) := ⟨(Below.refl _ _).drew⟩
    generalize wX.drew = wd at *
    replace HB := tb HB BD.o
    replace H1 := kbx H1 BD.o
    replace O3 := kk (O3.o.below BD.o)
    replace T8 := kk (T8.o.grown (gF BD.o) fun _ _ e => e)
    replace H8 := kbx H8 BD.o
    replace T10 := kk (T10.o.grown (gF BD.o) fun _ _ e => e)
    replace H10 := kbx H10 BD.o
    refine uG 0 ⟨some 151, .move (.tmp 15), 33, _, _, none⟩ (.int .i64 ce) rfl hHeld ?_
    refine uG 1 ⟨some 152, .binOp BinOp.eql 33 (.tmp 151) (.const (Value.int IntKind.i64 0)) 33, 4, _, _, none⟩ (.bool true) rfl hHeld ?_
    refine uG 2 ⟨some 153, .move (.tmp 152), 4, _, _, none⟩ (.bool true) rfl hHeld ?_
    refine uG 3 ⟨some 154, .move (.tmp 14), 4, _, _, some (2, true)⟩ (.bool false) rfl hHeld ?_
    refine uG 4 ⟨some 155, .pick (.tmp 153) (.tmp 154) (.const (Value.bool false)), 4, _, _, none⟩ (.bool false) rfl hHeld ?_
    refine uG 5 ⟨some 156, .move (.tmp 155), 4, _, _, none⟩ (.bool false) rfl hHeld ?_
    refine uS 6 ⟨some 157, .move (.tmp 19), 47, _, _, some (5, true)⟩ undef rfl yn hHeld ?_
    refine uS 7 ⟨some 158, .call { callee := .value (.func 17), args := #[.tmp 157], argTypes := #[47] }, 4, _, _, some (5, true)⟩ undef rfl yn hHeld ?_
    refine uS 8 ⟨some 159, .unOp UnOp.not 4 (.tmp 158), 4, _, _, some (5, true)⟩ undef rfl yn hHeld ?_
    refine uS 9 ⟨some 160, .move (.tmp 159), 4, _, _, some (5, true)⟩ undef rfl yn hHeld ?_
    refine uS 10 ⟨some 161, .load 44 (.tmp 16), 44, _, _, some (9, false)⟩ undef rfl yn hHeld ?_
    refine uS 11 ⟨some 162, .fieldAddr 25 (.tmp 10) 1, 0, _, _, some (9, false)⟩ undef rfl yn hHeld ?_
    refine uS 12 ⟨some 163, .load 23 (.tmp 162), 23, _, _, some (9, false)⟩ undef rfl yn hHeld ?_
    refine uS 13 ⟨some 164, .indexAddr 23 (.tmp 163) (.const (Value.int IntKind.i64 0)), 0, _, _, some (9, false)⟩ undef rfl yn hHeld ?_
    refine uS 14 ⟨some 165, .fieldAddr 54 (.tmp 164) 1, 0, _, _, some (9, false)⟩ undef rfl yn hHeld ?_
    refine uS 15 ⟨some 166, .load 44 (.tmp 165), 44, _, _, some (9, false)⟩ undef rfl yn hHeld ?_
    refine uS 16 ⟨some 167, .call { callee := .value (.func 18), args := #[.tmp 161, .tmp 166], argTypes := #[44, 44] }, 4, _, _, some (9, false)⟩ undef rfl yn hHeld ?_
    refine uS 17 ⟨some 168, .unOp UnOp.not 4 (.tmp 167), 4, _, _, some (9, false)⟩ undef rfl yn hHeld ?_
    refine uS 18 ⟨some 169, .pick (.tmp 160) (.const (Value.bool true)) (.tmp 168), 4, _, _, some (5, true)⟩ undef rfl yn hHeld ?_
    refine uG 19 ⟨some 170, .pick (.tmp 156) (.tmp 169) (.const (Value.bool false)), 4, _, _, none⟩ (.bool false) rfl hHeld ?_
    refine wpAnyH_done (by kernel_rfl) ?_ _
    refine hK23 _ _ (Cf (h:=wp_skip (?_)))
    exact rest23 _ _ _ _ _ _ _ _ _ _ _ _ _ _ _ _ _ _ _ _ _ ⟨HB.o, H1.o, H8.o, H10.o, O3.o, T8.o, T10.o⟩
   ·have hce1 : (ce == 0) = false := by simpa using hce0
    refine wp_region_held_drew (S := fun _ => True) (by kernel_rfl) (trivial) (fun hHeld => ?_)
    have BD : Keep (Below wX.heap.size wX wX.drew) := ⟨(Below.refl _ _).drew⟩
    generalize wX.drew = wd at *
    replace HB := tb HB BD.o
    replace H1 := kbx H1 BD.o
    replace O3 := kk (O3.o.below BD.o)
    replace T8 := kk (T8.o.grown (gF BD.o) fun _ _ e => e)
    replace H8 := kbx H8 BD.o
    replace T10 := kk (T10.o.grown (gF BD.o) fun _ _ e => e)
    replace H10 := kbx H10 BD.o
    refine uG 0 ⟨some 151, .move (.tmp 15), 33, _, _, none⟩ (.int .i64 ce) rfl hHeld ?_
    refine uG 1 ⟨some 152, .binOp BinOp.eql 33 (.tmp 151) (.const (Value.int IntKind.i64 0)) 33, 4, _, _, none⟩ (.bool false) rfl hHeld ?_
    refine uG 2 ⟨some 153, .move (.tmp 152), 4, _, _, none⟩ (.bool false) rfl hHeld ?_
    refine uS 3 ⟨some 154, .move (.tmp 14), 4, _, _, some (2, true)⟩ undef rfl yn hHeld ?_
    refine uG 4 ⟨some 155, .pick (.tmp 153) (.tmp 154) (.const (Value.bool false)), 4, _, _, none⟩ (.bool false) rfl hHeld ?_
    refine uG 5 ⟨some 156, .move (.tmp 155), 4, _, _, none⟩ (.bool false) rfl hHeld ?_
    refine uS 6 ⟨some 157, .move (.tmp 19), 47, _, _, some (5, true)⟩ undef rfl yn hHeld ?_
    refine uS 7 ⟨some 158, .call { callee := .value (.func 17), args := #[.tmp 157], argTypes := #[47] }, 4, _, _, some (5, true)⟩ undef rfl yn hHeld ?_
    refine uS 8 ⟨some 159, .unOp UnOp.not 4 (.tmp 158), 4, _, _, some (5, true)⟩ undef rfl yn hHeld ?_
    refine uS 9 ⟨some 160, .move (.tmp 159), 4, _, _, some (5, true)⟩ undef rfl yn hHeld ?_
    refine uS 10 ⟨some 161, .load 44 (.tmp 16), 44, _, _, some (9, false)⟩ undef rfl yn hHeld ?_
    refine uS 11 ⟨some 162, .fieldAddr 25 (.tmp 10) 1, 0, _, _, some (9, false)⟩ undef rfl yn hHeld ?_
    refine uS 12 ⟨some 163, .load 23 (.tmp 162), 23, _, _, some (9, false)⟩ undef rfl yn hHeld ?_
    refine uS 13 ⟨some 164, .indexAddr 23 (.tmp 163) (.const (Value.int IntKind.i64 0)), 0, _, _, some (9, false)⟩ undef rfl yn hHeld ?_
    refine uS 14 ⟨some 165, .fieldAddr 54 (.tmp 164) 1, 0, _, _, some (9, false)⟩ undef rfl yn hHeld ?_
    refine uS 15 ⟨some 166, .load 44 (.tmp 165), 44, _, _, some (9, false)⟩ undef rfl yn hHeld ?_
    refine uS 16 ⟨some 167, .call { callee := .value (.func 18), args := #[.tmp 161, .tmp 166], argTypes := #[44, 44] }, 4, _, _, some (9, false)⟩ undef rfl yn hHeld ?_
    refine uS 17 ⟨some 168, .unOp UnOp.not 4 (.tmp 167), 4, _, _, some (9, false)⟩ undef rfl yn hHeld ?_
    refine uS 18 ⟨some 169, .pick (.tmp 160) (.const (Value.bool true)) (.tmp 168), 4, _, _, some (5, true)⟩ undef rfl yn hHeld ?_
    refine uG 19 ⟨some 170, .pick (.tmp 156) (.tmp 169) (.const (Value.bool false)), 4, _, _, none⟩ (.bool false) rfl hHeld ?_
    refine wpAnyH_done (by kernel_rfl) ?_ _
    refine hK23 _ _ (Cf (h:=wp_skip (?_)))
    exact rest23 _ _ _ _ _ _ _ _ _ _ _ _ _ _ _ _ _ _ _ _ _ ⟨HB.o, H1.o, H8.o, H10.o, O3.o, T8.o, T10.o⟩
  ·rw [hcc] at rest23
   obtain ⟨hc0_, y0, hy0⟩ := Ko (hci.o.trans hcc)
   have hce0 : ce = 0 := hce.o.symm.trans hc0_
   obtain ⟨x', hx', he'⟩ := CE.o.2 0 y0 (by rw [hy0]; rfl)
   have HE' := kk he'
   have hl1 : ls10 = [x'] := by
    have h1 := CE.o.1
    rw [hy0] at h1
    match hq : ls10, h1, hx' with
    | [z], _, h => simp at h; rw [h]
   have Hx1 := kk hl1
   have E6_ := E16.o.2 y0 hcc hy0
   have HSa : Keep (jr c16 x'.c = true) := ⟨vQ (E6_.1.trans he'.k) (E6_.2.1.trans he'.s) (E6_.2.2.trans he'.l)⟩
   have hx10 := T10.o.lsv
   rw [Hx1.o] at hx10
   obtain ⟨gx, ox, cx, hvx, hcx, hax⟩ : ∃ b off cap, v10 = .slice (some ⟨b, off, none⟩) 1 cap ∧ 1 ≤ cap ∧ LsAt wX.heap.size wX b off [x'] := by
    rcases hx10 with ⟨a, c, _, h⟩ | ⟨b, off, cap, h1, h2, h3⟩
    ·cases h
    ·exact ⟨b, off, cap, h1, h2, h3⟩
   have Hvx := kk hvx
   have Hax := kk hax
   clear hx10 hvx hax E6_ he' hx' hl1 hy0
   have hS0 : Keep (∀ wx : World, Below wX.heap.size wX wx → (fun wx => wx.rangeAt b16 0 (cvA c16).toList ∧ wx.cell? ⟨b10, 1, none⟩ = some (.slice (some ⟨gx, ox, none⟩) 1 cx) ∧ wx.rangeAt gx (ox + 1) (cvA x'.c).toList) wx) := ⟨fun wx hg => by
    refine ⟨ql (H16.o.below hg H16.o.lt), by have h := (H10.o.below hg H10.o.lt).c 1 (by rfl : (wtA n10 v10)[1]? = some v10); rw [Hvx.o] at h; exact h, ?_⟩
    have h := (Hax.o.below hg).at_ 0 x' rfl
    rw [Nat.zero_mul, Nat.add_zero] at h
    exact zn h⟩
   refine wp_region_held_drew (S := fun wx => wx.rangeAt b16 0 (cvA c16).toList ∧ wx.cell? ⟨b10, 1, none⟩ = some (.slice (some ⟨gx, ox, none⟩) 1 cx) ∧ wx.rangeAt gx (ox + 1) (cvA x'.c).toList) (by kernel_rfl) (hS0.o _ (Below.refl _ _).drew) (fun hHeld => ?_)
   have BD : Keep (Below wX.heap.size wX wX.drew) := ⟨(Below.refl _ _).drew⟩
   generalize wX.drew = wd at *
   refine uK 0 ⟨some 151, .move (.tmp 15), 33, _, _, none⟩ (.int .i64 ce) rfl hHeld ?_
   refine uK 1 ⟨some 152, .binOp BinOp.eql 33 (.tmp 151) (.const (Value.int IntKind.i64 0)) 33, 4, _, _, none⟩ (.bool true) rfl hHeld ?_
   refine uK 2 ⟨some 153, .move (.tmp 152), 4, _, _, none⟩ (.bool true) rfl hHeld ?_
   refine uK 3 ⟨some 154, .move (.tmp 14), 4, _, _, some (2, true)⟩ (.bool true) rfl hHeld ?_
   refine uK 4 ⟨some 155, .pick (.tmp 153) (.tmp 154) (.const (Value.bool false)), 4, _, _, none⟩ (.bool true) rfl hHeld ?_
   refine uK 5 ⟨some 156, .move (.tmp 155), 4, _, _, none⟩ (.bool true) rfl hHeld ?_
   refine uK 6 ⟨some 157, .move (.tmp 19), 47, _, _, some (5, true)⟩ (.pointer (some ⟨kb, 0, none⟩)) rfl hHeld ?_
   refine rd1 7 ⟨some 158, .call { callee := .value (.func 17), args := #[.tmp 157], argTypes := #[47] }, 4, _, _, some (5, true)⟩ rfl fun K hK => ?_
   refine qz 17 _ _ rfl UF #[.pointer (some ⟨kb, 0, none⟩)] (by simp [Act.eval]) (fun vz wz => vz = .bool true ∧ wz = wd) ?_ ?_
   ·refine (kw (BK.o.grown (gF BD.o) (fun e => e) fun _ _ e => e)).mono ?_
    rintro e wz ⟨rfl, hb⟩
    exact ⟨_, rfl, rfl, hb⟩
   rintro vz wb ⟨rfl, hb⟩
   have hb := hb.symm
   subst hb
   refine hK _ _ (hS0.o _ BD.o) fun hHb => kNx ?_
   clear hK
   refine uK 8 ⟨some 159, .unOp UnOp.not 4 (.tmp 158), 4, _, _, some (5, true)⟩ (.bool false) rfl hHb ?_
   refine uK 9 ⟨some 160, .move (.tmp 159), 4, _, _, some (5, true)⟩ (.bool false) rfl hHb ?_
   refine uS 10 ⟨some 161, .load 44 (.tmp 16), 44, _, _, some (9, false)⟩ (.agg (cvA c16)) rfl (qv (by rfl) (.tmp 16) 44 rfl b16 0 rfl (cvA c16) _ Try.underlying44 rfl (qw _ _ _) fun w hS => hS.1) hHb ?_
   refine uK 11 ⟨some 162, .fieldAddr 25 (.tmp 10) 1, 0, _, _, some (9, false)⟩ (.pointer (some ⟨b10, 1, none⟩)) rfl hHb ?_
   refine uK 12 ⟨some 163, .load 23 (.tmp 162), 23, _, _, some (9, false)⟩ (.slice (some ⟨gx, ox, none⟩) 1 cx) rfl hHb ?_
   refine uK 13 ⟨some 164, .indexAddr 23 (.tmp 163) (.const (Value.int IntKind.i64 0)), 0, _, _, some (9, false)⟩ (.pointer (some ⟨gx, ox, none⟩)) rfl hHb ?_
   refine uK 14 ⟨some 165, .fieldAddr 54 (.tmp 164) 1, 0, _, _, some (9, false)⟩ (.pointer (some ⟨gx, ox + 1, none⟩)) rfl hHb ?_
   refine uS 15 ⟨some 166, .load 44 (.tmp 165), 44, _, _, some (9, false)⟩ (.agg (cvA x'.c)) rfl (qv (by rfl) (.tmp 165) 44 rfl gx (ox + 1) rfl (cvA x'.c) _ Try.underlying44 rfl (qw _ _ _) fun w hS => hS.2.2) hHb ?_
   refine rd1 16 ⟨some 167, .call { callee := .value (.func 18), args := #[.tmp 161, .tmp 166], argTypes := #[44, 44] }, 4, _, _, some (9, false)⟩ rfl fun K hK => ?_
   refine qz 18 _ _ rfl Qw #[.agg (cvA c16), .agg (cvA x'.c)] (by simp [Act.eval]) (fun vz wz => vz = .bool true ∧ Below wd.heap.size wd wz) ?_ ?_
   ·refine (xQ c16 x'.c wd (Q16.o.grown (gF BD.o) fun _ _ e => e).row ((Hax.o.below BD.o).lf x' (by simp)).row).mono ?_
    rintro e wz ⟨rfl, hb⟩
    exact ⟨_, rfl, by rw [HSa.o], hb⟩
   rintro vz wa ⟨rfl, hb⟩
   have BA := tb BD hb
   clear hb
   replace HB := tb HB BA.o
   replace H1 := kbx H1 BA.o
   replace O3 := kk (O3.o.below BA.o)
   replace T8 := kk (T8.o.grown (gF BA.o) fun _ _ e => e)
   replace H8 := kbx H8 BA.o
   replace T10 := kk (T10.o.grown (gF BA.o) fun _ _ e => e)
   replace H10 := kbx H10 BA.o
   refine hK _ _ (hS0.o _ BA.o) fun hHc => kNx ?_
   clear hK
   refine uK 17 ⟨some 168, .unOp UnOp.not 4 (.tmp 167), 4, _, _, some (9, false)⟩ (.bool false) rfl hHc ?_
   refine uK 18 ⟨some 169, .pick (.tmp 160) (.const (Value.bool true)) (.tmp 168), 4, _, _, some (5, true)⟩ (.bool false) rfl hHc ?_
   refine uK 19 ⟨some 170, .pick (.tmp 156) (.tmp 169) (.const (Value.bool false)), 4, _, _, none⟩ (.bool false) rfl hHc ?_
   refine wpAnyH_done (by kernel_rfl) ?_ _
   refine hK23 _ _ (Cf (h:=wp_skip (?_)))
   exact rest23 _ _ _ _ _ _ _ _ _ _ _ _ _ _ _ _ _ _ _ _ _ ⟨HB.o, H1.o, H8.o, H10.o, O3.o, T8.o, T10.o⟩
 refine rgn (Vv (.bool ci) (h:=WL.nil (hK21 _ _ (?_))))
 cases hcc : ci
 ·rw [hcc] at rest21
  refine Cf (h:=wp_skip (?_))
  exact rest21 _ _ _ _ _ _ _ _ _ _ _ _ _ _ _ ⟨HB.o, H1.o, H8.o, H10.o, H16.o, O3.o, T8.o, T10.o, Q16.o, BK.o⟩
 ·rw [hcc] at rest21
  refine wp_cond_true rfl ?_
  obtain ⟨_, y0, hy0⟩ := Ko (hci.o.trans hcc)
  have Hy0 := kk hy0
  have Hym : Keep (y0 ∈ OL) := ⟨by rw [hy0]; simp⟩
  clear hy0
  obtain ⟨g12, c12, hv12, _⟩ := C12.o.own
  rw [Hy0.o] at hv12
  have hv12 := kk hv12
  obtain ⟨vg, vc, hyv, _, _, _, _⟩ := (C12.o.val y0 Hym.o).1.cap
  have hyv := kk hyv
  have hS0 : Keep (∀ wx : World, Below w24.heap.size w24 wx → (fun wx => wx.cell? ⟨b12, 1, none⟩ = some (.slice (some ⟨g12, 0, none⟩) 1 c12) ∧ wx.cell? ⟨g12, 3, none⟩ = some (.slice (some ⟨vg, 0, none⟩) y0.c.l.length vc)) wx) := ⟨fun wx hg => by
   refine ⟨by have h := (H12.o.below hg H12.o.lt).c 1 (by rfl : (wtA n10 v12)[1]? = some v12); rw [hv12.o] at h; exact h, ?_⟩
   have hc := C12.o.below hg
   rw [hv12.o] at hc
   have h := hc.cells.2.2.2 0 y0 (by rw [Hy0.o]; rfl) 3 y0.c.v rfl
   rw [hyv.o] at h
   exact h⟩
  refine wp_region_held_drew (S := fun wx => wx.cell? ⟨b12, 1, none⟩ = some (.slice (some ⟨g12, 0, none⟩) 1 c12)) (by kernel_rfl) ((hS0.o _ (Below.refl _ _).drew).1) (fun hHeld => ?_)
  have BD : Keep (Below w24.heap.size w24 w24.drew) := ⟨(Below.refl _ _).drew⟩
  generalize w24.drew = wd at *
  refine uS 0 ⟨some 138, .fieldAddr 25 (.tmp 12) 1, 0, _, _, none⟩ (.pointer (some ⟨b12, 1, none⟩)) rfl (yi fun w hS => by have cS1 := hS; go_simp) hHeld ?_
  refine uS 2 ⟨some 140, .fieldAddr 25 (.tmp 12) 1, 0, _, _, none⟩ (.pointer (some ⟨b12, 1, none⟩)) rfl (yi fun w hS => by have cS1 := hS; go_simp) hHeld ?_
  refine uS 1 ⟨some 139, .load 23 (.tmp 138), 23, _, _, none⟩ (.slice (some ⟨g12, 0, none⟩) 1 c12) rfl (yi fun w hS => by have cS1 := hS; go_simp) hHeld ?_
  refine uS 3 ⟨some 141, .load 23 (.tmp 140), 23, _, _, none⟩ (.slice (some ⟨g12, 0, none⟩) 1 c12) rfl (yi fun w hS => by have cS1 := hS; go_simp) hHeld ?_
  refine uS 4 ⟨some 142, .indexAddr 23 (.tmp 141) (.const (Value.int IntKind.i64 0)), 0, _, _, none⟩ (.pointer (some ⟨g12, 0, none⟩)) rfl (yi fun w hS => by have cS1 := hS; go_simp) hHeld ?_
  refine uS 5 ⟨some 143, .fieldAddr 54 (.tmp 142) 1, 0, _, _, none⟩ (.pointer (some ⟨g12, 1, none⟩)) rfl (yi fun w hS => by have cS1 := hS; go_simp) hHeld ?_
  refine uS 6 ⟨some 144, .fieldAddr 44 (.tmp 143) 2, 0, _, _, none⟩ (.pointer (some ⟨g12, 3, none⟩)) rfl (yi fun w hS => by have cS1 := hS; go_simp) hHeld ?_
  refine wpAnyH_ready (rs := [7, 8]) (by kernel_rfl) (by simp) ?_
  refine AllReadyH.cons (o := ⟨some 145, .load 42 (.tmp 144), 42, _, _, none⟩) rfl (fun K hK => ?_) (AllReadyH.cons (o := ⟨some 146, .buildSlice 42 1 #[(0, .const (Value.int IntKind.u8 49))], 42, _, _, none⟩) rfl (fun K hK => ?_) AllReadyH.nil)
  all_goals rw [if_pos (by rfl)]
  ·have c_ : wd.cell? ⟨g12, 3, none⟩ = some (.slice (some ⟨vg, 0, none⟩) y0.c.l.length vc) := (hS0.o _ BD.o).2
   refine zq (.slice (some ⟨vg, 0, none⟩) y0.c.l.length vc) (by go_simp) ?_
   clear c_
   refine hK _ _ (hS0.o _ BD.o).1 fun hHl => kNx ?_
   clear hK
   refine rd1 8 ⟨some 146, .buildSlice 42 1 #[(0, .const (Value.int IntKind.u8 49))], 42, _, _, none⟩ rfl fun K hK => ?_
   refine zI 42 1 _ rfl #[(0, .int .u8 49)] (by simp [Act.eval]) _ _ (Ge wd) ?_
   have bb := qg wd (.cells #[.int .u8 49] 5)
   have Qa := kk (Blk.new wd 5 #[.int .u8 49])
   generalize wd.alloc (.cells #[.int .u8 49] 5) = wa at *
   obtain ⟨ga, hga⟩ := nn wd
   rw [← hga] at Qa ⊢
   have BA := tb BD bb
   clear bb hga
   refine hK _ _ (hS0.o _ BA.o).1 fun hHa => kNx ?_
   clear hK
   refine rd1 9 ⟨some 147, .call { callee := .builtin .append, args := #[.tmp 145, .tmp 146], argTypes := #[42, 42] }, 42, _, _, none⟩ rfl fun K hK => ?_
   have Oy : Keep (Own wa (.slice (some ⟨vg, 0, none⟩) y0.c.l.length vc) y0.c.l) := ⟨by rw [← hyv.o]; exact ((C12.o.val y0 Hym.o).1.grown (gF BA.o) fun _ _ e => e).own⟩
   refine Zj (.tmp 145) (.tmp 146) rfl (.slice (some ⟨vg, 0, none⟩) y0.c.l.length vc) (.slice (some ⟨ga, 0, none⟩) 1 1) y0.c.l [49] rfl rfl Oy.o (.inr (.inr ⟨ga, 0, 1, rfl, Nat.le_refl _, fun i hi => by
     have hi0 : i = 0 := by simp at hi; omega
     subst hi0; exact Qa.o.c 0 rfl⟩)) (by have h := (hm10.o.2); obtain ⟨x', hx', he⟩ := C12.o.each 0 y0 (by rw [Hy0.o]; rfl); have h2 := (hm10.o.2 x' (List.mem_of_getElem? hx')).1; rw [he.l]; simp; omega) ?_
   intro vb wb hp
   have Gb : Keep (Grown wa wb fun k => k = vg) := ⟨hp.grown.mono fun k _ e => by simp [Value.ownBlock] at e; exact e.symm⟩
   obtain ⟨ba_, bn_, bc_, hvb⟩ := hp.1.sl
   subst hvb
   clear hp
   have GB : Keep (Grown w24 wb fun k => k = vg) := ⟨(Grown.below BA.o).trans Gb.o⟩
   have cA : wb.cell? ⟨b12, 1, none⟩ = some (.slice (some ⟨g12, 0, none⟩) 1 c12) := by have h := (GB.o.blk H12.o fun e => by subst e; exact absurd (H12.o.typ.one ((C12.o.val y0 Hym.o).1.typ (by rw [hyv.o]; rfl))) (by decide)).c 1 (by rfl : (wtA n10 v12)[1]? = some v12); rw [hv12.o] at h; exact h
   obtain ⟨gq, cq, e2, hown⟩ := C12.o.own
   have e3 := hv12.o.symm.trans e2
   injection e3 with e4 e5 e6
   injection e4 with e4
   injection e4 with e4
   subst e4 e6
   have hne12 : ¬ g12 = vg := fun e => by
    subst e
    exact absurd ((qn hown (by rfl : (Value.slice (some ⟨g12, 0, none⟩) (OL.length + 1) c12).ownBlock = some g12)).one ((C12.o.val y0 Hym.o).1.typ (by rw [hyv.o]; rfl))) (by decide)
   have cB : wb.cell? ⟨g12, 3, none⟩ = some (.slice (some ⟨vg, 0, none⟩) y0.c.l.length vc) := GB.o.cell (hS0.o w24 (Below.refl _ _)).2 hne12
   obtain ⟨cur12, HL12⟩ : ∃ z, Keep (Blk wb g12 54 z) := by
    rcases hown.2 with ⟨h, _⟩ | ⟨g', cap', cur, e, _, hbl, _⟩
    ·cases h
    ·cases e
     exact ⟨cur, ⟨GB.o.blk (show Blk w24 g12 54 cur from hbl) hne12⟩⟩
   have hneb : Keep (¬ b12 = vg ∧ ¬ b12 = g12) := ⟨fun e => by subst e; exact absurd (H12.o.typ.one ((C12.o.val y0 Hym.o).1.typ (by rw [hyv.o]; rfl))) (by decide), fun e => by subst e; exact absurd (H12.o.typ.one (qn hown (by rfl : (Value.slice (some ⟨b12, 0, none⟩) (OL.length + 1) c12).ownBlock = some b12))) (by decide)⟩
   refine hK _ _ cA fun hHb => kNx ?_
   clear hK
   refine uS 10 ⟨some 148, .indexAddr 23 (.tmp 139) (.const (Value.int IntKind.i64 0)), 0, _, _, none⟩ (.pointer (some ⟨g12, 0, none⟩)) rfl (yi fun w hS => by have cS1 := hS; go_simp) hHb ?_
   refine uS 11 ⟨some 149, .fieldAddr 54 (.tmp 148) 1, 0, _, _, none⟩ (.pointer (some ⟨g12, 1, none⟩)) rfl (yi fun w hS => by have cS1 := hS; go_simp) hHb ?_
   refine uS 12 ⟨some 150, .fieldAddr 44 (.tmp 149) 2, 0, _, _, none⟩ (.pointer (some ⟨g12, 3, none⟩)) rfl (yi fun w hS => by have cS1 := hS; go_simp) hHb ?_
   refine rd1 13 ⟨none, .store 42 (.tmp 150) (.tmp 147), 0, _, _, none⟩ rfl fun K hK => ?_
   have f_o := HL12.o.frozen 3
   refine zm (wb.setCell ⟨g12, 3, none⟩ (.slice ba_ bn_ bc_)) (by go_simp) ?_
   have GC : Keep (Grown w24 (wb.setCell ⟨g12, 3, none⟩ (.slice ba_ bn_ bc_)) (fun k => k = vg ∨ k = g12)) := ⟨(GB.o.mono fun _ _ e => .inl e).trans ((Grown.setCell wb g12 3 (.slice ba_ bn_ bc_) (S := fun k => k = g12) fun _ => rfl).mono fun _ _ e => .inr e)⟩
   generalize wb.setCell ⟨g12, 3, none⟩ (.slice ba_ bn_ bc_) = wc at *
   have q12 : ∀ k, (k = vg ∨ k = g12) → w15.heap.size ≤ k ∧ k < w17.heap.size := fun k e => by
    have h : spS v12 OL k := by
     rcases e with e | e
     ·subst e; exact .inr ⟨y0, Hym.o, .inl (by rw [hyv.o]; rfl)⟩
     ·subst e; exact .inl (by rw [hv12.o]; rfl)
    exact ⟨(I12.o k h).1, D13.o.2.2.2 k h⟩
   have i12 : Keep (∀ k, (k = vg ∨ k = g12) → w15.heap.size ≤ k ∧ k < w17.heap.size) := ⟨q12⟩
   have cC : wc.cell? ⟨b12, 1, none⟩ = some (.slice (some ⟨g12, 0, none⟩) 1 c12) := GC.o.cell (hS0.o w24 (Below.refl _ _)).1 (fun e => e.elim (fun e => hneb.o.1 e) (fun e => hneb.o.2 e))
   clear q12 f_o cA cB hown
   replace HB : Keep (Below w.heap.size w wc) := ⟨zw HB.o GC.o (fun k hk e => by have := (i12.o k e).1; have := Y12.o; omega) (Nat.le_refl _)⟩
   replace H1 := kk (GC.o.blk H1.o fun e => by have := (i12.o _ e).1; have := X12.o.1; omega)
   replace H8 := kk (GC.o.blk H8.o fun e => by have := (i12.o _ e).1; have := X12.o.2.2.1; omega)
   replace H10 := kk (GC.o.blk H10.o fun e => by have := (i12.o _ e).1; have := X12.o.2.2.2; omega)
   replace H16 := kk (GC.o.blk H16.o fun e => by have := (i12.o _ e).2; have := ge16.o; have := Y18.o; omega)
   replace O3 := kk (O3.o.grown GC.o (fun k hk e => by have := (i12.o _ e).1; have := A12.o k (.inl hk); omega) fun c hc k hk e => by have := (i12.o _ e).1; have := A12.o k (.inr ⟨c, hc, hk⟩); omega)
   replace T8 := kk (T8.o.grown GC.o fun k hk e => by have := (i12.o _ e).1; have := D12.o.1 k hk; omega)
   replace T10 := kk (T10.o.grown GC.o fun k hk e => by have := (i12.o _ e).1; have := D12.o.2 k hk; omega)
   replace Q16 := kk (Q16.o.grown GC.o fun k hk e => by have := (i12.o _ e).2; have := N16.o k hk; have := Y16.o; have := Y18.o; omega)
   replace BK := kk (BK.o.grown GC.o (fun e => by have := (i12.o _ e).2; have := Zkb.o.1; omega) fun k hF e => by
    rcases hF with h | h | h
    ·exact h
    ·have := (i12.o _ e).2; have := N13.o k h; omega
    ·have := (i12.o _ e).2; have := B17.o; omega)
   refine hK _ _ cC fun hHc => kNx ?_
   clear hK
   refine wpAnyH_done (by kernel_rfl) ?_ _
   exact rest21 _ _ _ _ _ _ _ _ _ _ _ _ _ _ _ ⟨HB.o, H1.o, H8.o, H10.o, H16.o, O3.o, T8.o, T10.o, Q16.o, BK.o⟩
  ·refine zI 42 1 _ rfl #[(0, .int .u8 49)] (by simp [Act.eval]) _ _ (Ge wd) ?_
   have bb := qg wd (.cells #[.int .u8 49] 5)
   have Qa := kk (Blk.new wd 5 #[.int .u8 49])
   generalize wd.alloc (.cells #[.int .u8 49] 5) = wa at *
   obtain ⟨ga, hga⟩ := nn wd
   rw [← hga] at Qa ⊢
   have BA := tb BD bb
   clear bb hga
   refine hK _ _ (hS0.o _ BA.o).1 fun hHa => kNx ?_
   clear hK
   refine rd1 7 ⟨some 145, .load 42 (.tmp 144), 42, _, _, none⟩ rfl fun K hK => ?_
   have c_ : wa.cell? ⟨g12, 3, none⟩ = some (.slice (some ⟨vg, 0, none⟩) y0.c.l.length vc) := (hS0.o _ BA.o).2
   refine zq (.slice (some ⟨vg, 0, none⟩) y0.c.l.length vc) (by go_simp) ?_
   clear c_
   refine hK _ _ (hS0.o _ BA.o).1 fun hHl => kNx ?_
   clear hK
   refine rd1 9 ⟨some 147, .call { callee := .builtin .append, args := #[.tmp 145, .tmp 146], argTypes := #[42, 42] }, 42, _, _, none⟩ rfl fun K hK => ?_
   have Oy : Keep (Own wa (.slice (some ⟨vg, 0, none⟩) y0.c.l.length vc) y0.c.l) := ⟨by rw [← hyv.o]; exact ((C12.o.val y0 Hym.o).1.grown (gF BA.o) fun _ _ e => e).own⟩
   refine Zj (.tmp 145) (.tmp 146) rfl (.slice (some ⟨vg, 0, none⟩) y0.c.l.length vc) (.slice (some ⟨ga, 0, none⟩) 1 1) y0.c.l [49] rfl rfl Oy.o (.inr (.inr ⟨ga, 0, 1, rfl, Nat.le_refl _, fun i hi => by
     have hi0 : i = 0 := by simp at hi; omega
     subst hi0; exact Qa.o.c 0 rfl⟩)) (by have h := (hm10.o.2); obtain ⟨x', hx', he⟩ := C12.o.each 0 y0 (by rw [Hy0.o]; rfl); have h2 := (hm10.o.2 x' (List.mem_of_getElem? hx')).1; rw [he.l]; simp; omega) ?_
   intro vb wb hp
   have Gb : Keep (Grown wa wb fun k => k = vg) := ⟨hp.grown.mono fun k _ e => by simp [Value.ownBlock] at e; exact e.symm⟩
   obtain ⟨ba_, bn_, bc_, hvb⟩ := hp.1.sl
   subst hvb
   clear hp
   have GB : Keep (Grown w24 wb fun k => k = vg) := ⟨(Grown.below BA.o).trans Gb.o⟩
   have cA : wb.cell? ⟨b12, 1, none⟩ = some (.slice (some ⟨g12, 0, none⟩) 1 c12) := by have h := (GB.o.blk H12.o fun e => by subst e; exact absurd (H12.o.typ.one ((C12.o.val y0 Hym.o).1.typ (by rw [hyv.o]; rfl))) (by decide)).c 1 (by rfl : (wtA n10 v12)[1]? = some v12); rw [hv12.o] at h; exact h
   obtain ⟨gq, cq, e2, hown⟩ := C12.o.own
   have e3 := hv12.o.symm.trans e2
   injection e3 with e4 e5 e6
   injection e4 with e4
   injection e4 with e4
   subst e4 e6
   have hne12 : ¬ g12 = vg := fun e => by
    subst e
    exact absurd ((qn hown (by rfl : (Value.slice (some ⟨g12, 0, none⟩) (OL.length + 1) c12).ownBlock = some g12)).one ((C12.o.val y0 Hym.o).1.typ (by rw [hyv.o]; rfl))) (by decide)
   have cB : wb.cell? ⟨g12, 3, none⟩ = some (.slice (some ⟨vg, 0, none⟩) y0.c.l.length vc) := GB.o.cell (hS0.o w24 (Below.refl _ _)).2 hne12
   obtain ⟨cur12, HL12⟩ : ∃ z, Keep (Blk wb g12 54 z) := by
    rcases hown.2 with ⟨h, _⟩ | ⟨g', cap', cur, e, _, hbl, _⟩
    ·cases h
    ·cases e
     exact ⟨cur, ⟨GB.o.blk (show Blk w24 g12 54 cur from hbl) hne12⟩⟩
   have hneb : Keep (¬ b12 = vg ∧ ¬ b12 = g12) := ⟨fun e => by subst e; exact absurd (H12.o.typ.one ((C12.o.val y0 Hym.o).1.typ (by rw [hyv.o]; rfl))) (by decide), fun e => by subst e; exact absurd (H12.o.typ.one (qn hown (by rfl : (Value.slice (some ⟨b12, 0, none⟩) (OL.length + 1) c12).ownBlock = some b12))) (by decide)⟩
   refine hK _ _ cA fun hHb => kNx ?_
   clear hK
   refine uS 10 ⟨some 148, .indexAddr 23 (.tmp 139) (.const (Value.int IntKind.i64 0)), 0, _, _, none⟩ (.pointer (some ⟨g12, 0, none⟩)) rfl (yi fun w hS => by have cS1 := hS; go_simp) hHb ?_
   refine uS 11 ⟨some 149, .fieldAddr 54 (.tmp 148) 1, 0, _, _, none⟩ (.pointer (some ⟨g12, 1, none⟩)) rfl (yi fun w hS => by have cS1 := hS; go_simp) hHb ?_
   refine uS 12 ⟨some 150, .fieldAddr 44 (.tmp 149) 2, 0, _, _, none⟩ (.pointer (some ⟨g12, 3, none⟩)) rfl (yi fun w hS => by have cS1 := hS; go_simp) hHb ?_
   refine rd1 13 ⟨none, .store 42 (.tmp 150) (.tmp 147), 0, _, _, none⟩ rfl fun K hK => ?_
   have f_o := HL12.o.frozen 3
   refine zm (wb.setCell ⟨g12, 3, none⟩ (.slice ba_ bn_ bc_)) (by go_simp) ?_
   have GC : Keep (Grown w24 (wb.setCell ⟨g12, 3, none⟩ (.slice ba_ bn_ bc_)) (fun k => k = vg ∨ k = g12)) := ⟨(GB.o.mono fun _ _ e => .inl e).trans ((Grown.setCell wb g12 3 (.slice ba_ bn_ bc_) (S := fun k => k = g12) fun _ => rfl).mono fun _ _ e => .inr e)⟩
   generalize wb.setCell ⟨g12, 3, none⟩ (.slice ba_ bn_ bc_) = wc at *
   have q12 : ∀ k, (k = vg ∨ k = g12) → w15.heap.size ≤ k ∧ k < w17.heap.size := fun k e => by
    have h : spS v12 OL k := by
     rcases e with e | e
     ·subst e; exact .inr ⟨y0, Hym.o, .inl (by rw [hyv.o]; rfl)⟩
     ·subst e; exact .inl (by rw [hv12.o]; rfl)
    exact ⟨(I12.o k h).1, D13.o.2.2.2 k h⟩
   have i12 : Keep (∀ k, (k = vg ∨ k = g12) → w15.heap.size ≤ k ∧ k < w17.heap.size) := ⟨q12⟩
   have cC : wc.cell? ⟨b12, 1, none⟩ = some (.slice (some ⟨g12, 0, none⟩) 1 c12) := GC.o.cell (hS0.o w24 (Below.refl _ _)).1 (fun e => e.elim (fun e => hneb.o.1 e) (fun e => hneb.o.2 e))
   clear q12 f_o cA cB hown
   replace HB : Keep (Below w.heap.size w wc) := ⟨zw HB.o GC.o (fun k hk e => by have := (i12.o k e).1; have := Y12.o; omega) (Nat.le_refl _)⟩
   replace H1 := kk (GC.o.blk H1.o fun e => by have := (i12.o _ e).1; have := X12.o.1; omega)
   replace H8 := kk (GC.o.blk H8.o fun e => by have := (i12.o _ e).1; have := X12.o.2.2.1; omega)
   replace H10 := kk (GC.o.blk H10.o fun e => by have := (i12.o _ e).1; have := X12.o.2.2.2; omega)
   replace H16 := kk (GC.o.blk H16.o fun e => by have := (i12.o _ e).2; have := ge16.o; have := Y18.o; omega)
   replace O3 := kk (O3.o.grown GC.o (fun k hk e => by have := (i12.o _ e).1; have := A12.o k (.inl hk); omega) fun c hc k hk e => by have := (i12.o _ e).1; have := A12.o k (.inr ⟨c, hc, hk⟩); omega)
   replace T8 := kk (T8.o.grown GC.o fun k hk e => by have := (i12.o _ e).1; have := D12.o.1 k hk; omega)
   replace T10 := kk (T10.o.grown GC.o fun k hk e => by have := (i12.o _ e).1; have := D12.o.2 k hk; omega)
   replace Q16 := kk (Q16.o.grown GC.o fun k hk e => by have := (i12.o _ e).2; have := N16.o k hk; have := Y16.o; have := Y18.o; omega)
   replace BK := kk (BK.o.grown GC.o (fun e => by have := (i12.o _ e).2; have := Zkb.o.1; omega) fun k hF e => by
    rcases hF with h | h | h
    ·exact h
    ·have := (i12.o _ e).2; have := N13.o k h; omega
    ·have := (i12.o _ e).2; have := B17.o; omega)
   refine hK _ _ cC fun hHc => kNx ?_
   clear hK
   refine wpAnyH_done (by kernel_rfl) ?_ _
   exact rest21 _ _ _ _ _ _ _ _ _ _ _ _ _ _ _ ⟨HB.o, H1.o, H8.o, H10.o, H16.o, O3.o, T8.o, T10.o, Q16.o, BK.o⟩
end Go.Proofs.Ytdpcjfafbmhceaa
