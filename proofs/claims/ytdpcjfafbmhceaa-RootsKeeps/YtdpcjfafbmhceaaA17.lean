import Derived.Test.YtdpcjfafbmhceaaA16
import Derived.Test.YtdpcjfafbmhceaaA10
import Derived.Test.YtdpcjfafbmhceaaA07
import Derived.Deep.RegionHeld3
set_option maxRecDepth 8000
set_option maxHeartbeats 4000000
namespace Go.Proofs.Ytdpcjfafbmhceaa
open Go.RowKit
set_option linter.unusedSimpArgs false
set_option linter.unusedVariables false
theorem Xh (v : Value) (ls : List LV) (N : Int) (w : World) (hV : LsV w.heap.size w v ls) (h200 : ls.length ≤ 200) (hln : ∀ x ∈ ls, x.c.l.length ≤ 134217728 ∧ x.ps.length ≤ 10000000) : Calls Try.prog 13 #[.agg (wtA N v)] w fun e w' => ∃ v' OL, e = .returned (.agg (wtA N v')) ∧ CpAt w.heap.size ls w' v' OL ∧ Below w.heap.size w w' := by
 obtain ⟨n, hm⟩ : ∃ z, Keep (ls.length = z) := ⟨_, ⟨rfl⟩⟩
 obtain ⟨la, lc, hv, hpos⟩ := hV.form
 rw [hm.o] at hv hpos
 subst hv
 have HV := kk hpos
 have HLn := kk hln
 have hn200 : Keep (n ≤ 200) := ⟨by rw [← hm.o]; exact h200⟩
 clear hV h200 hln hpos
 go_enter Try.func13, Try.ntmps13
 refine wp_seq_k fun K1 hK1 => rgn (xM 25 (.tmp 0) (wtA N (.slice la n lc)) fun b1 w1 hb1 H1 B1 => ?_)
 refine zU 25 zb fun b2 w2 hb2 H2 b_ => ?_
 have n12 : Keep (b1 ≠ b2) := ⟨by have h1 := H1.o.lt; have h2 := hb2.o; omega⟩
 have H1 := kbx H1 b_
 have B2 := tb B1 b_
 clear b_
 have ge2 : Keep (w.heap.size ≤ b2) := ⟨by rw [hb2.o]; exact B1.o.size⟩
 have c10 : w2.cell? ⟨b1, 0, none⟩ = some (.int .i64 N) := H1.o.c 0 rfl
 refine WL.nil (hK1 _ _ (wp_seq_k fun K2 hK2 => rgn (Vv (.pointer (some ⟨b1, 0, none⟩)) (h:=Vv (.int .i64 N) (h:=?_)))))
 clear c10
 refine WL.bld (by kernel_rfl) 25 _ rfl [(0, .int .i64 N)] (by simp [Act.eval]) (wtA N (.slice none 0 0)) (Dn N) ?_
 simp only [Act.put, pqA, pqB, pqC]
 refine zU 25 zb fun b3 w3 hb3 H3 b_ => ?_
 have n13 : Keep (b1 ≠ b3 ∧ b2 ≠ b3) := ⟨by have h1 := H1.o.lt; have h2 := H2.o.lt; have h3 := hb3.o; omega⟩
 have H1 := kbx H1 b_
 have H2 := kbx H2 b_
 have B3 := tb B2 b_
 clear b_
 have ge3 : Keep (w.heap.size ≤ b3) := ⟨by rw [hb3.o]; exact B2.o.size⟩
 refine StR (wtA N (.slice none 0 0)) H3.o (qD _ _) rfl (by simp [wtA, Value.oneCell']) ?_
 have J1 := kk (H1.o.setRow_ne n13.o.1 (wtA N (.slice none 0 0)))
 have J2 := kk (H2.o.setRow_ne n13.o.2 (wtA N (.slice none 0 0)))
 have J3 := kk (H3.o.setRow (wtA N (.slice none 0 0)))
 have B4 : Keep (Below w.heap.size w (w3.setRow b3 (wtA N (.slice none 0 0)))) := ⟨qf B3.o ge3.o _⟩
 generalize w3.setRow b3 (wtA N (.slice none 0 0)) = w4 at *
 have JS0 := kk (VG (ls := ls) B4.o J3.o)
 clear H1 H2 H3 B1 B2 B3 J3 B4 hb1 hb2 hb3
 refine WL.nil (hK2 _ _ (wp_seq_k fun K3 hK3 => wp_seq_k fun K4 hK4 => rgn (Vv (.int .i64 0) (h:=WL.nil (hK4 _ _ (wp_block (?_)))))))
 refine wp_loop (fun ac wr => ∃ (t : Nat) (u5 u6 u11 u12 u13 u14 u15 u16 u17 u18 u19 u20 u21 u22 u23 u24 u25 u26 u27 u28 u29 u30 u31 u32 u33 u34 u35 u36 u37 u38 u39 u40 u41 u42 u43 u44 u45 u46 : Value) (vo : Value), ac = { tmps := #[.agg (wtA N (.slice la n lc)), .pointer (some ⟨b1, 0, none⟩), .pointer (some ⟨b2, 0, none⟩), .pointer (some ⟨b3, 0, none⟩), .int .i64 (t : Int), u5, u6, undef, .pointer (some ⟨b1, 0, none⟩), .int .i64 N, .agg (wtA N (.slice none 0 0)), u11, u12, u13, u14, u15, u16, u17, u18, u19, u20, u21, u22, u23, u24, u25, u26, u27, u28, u29, u30, u31, u32, u33, u34, u35, u36, u37, u38, u39, u40, u41, u42, u43, u44, u45, u46, undef, undef, undef, undef, undef, undef, undef, undef, undef, undef, undef, undef, undef], defers := [] } ∧ t ≤ n ∧ Blk wr b1 25 (wtA N (.slice la n lc)) ∧ Blk wr b2 25 #[.int .i64 0, .slice none 0 0] ∧ ∃ OL, OL.length = t ∧ CpS w.heap.size ls N b3 w wr vo OL) (fun a _ => n - (intOf (a.tmps.getD 4 undef)).toNat) ⟨0, undef, undef, undef, undef, undef, undef, undef, undef, undef, undef, undef, undef, undef, undef, undef, undef, undef, undef, undef, undef, undef, undef, undef, undef, undef, undef, undef, undef, undef, undef, undef, undef, undef, undef, undef, undef, undef, undef, .slice none 0 0, rfl, Nat.zero_le _, J1.o, J2.o, [], rfl, JS0.o⟩ ?_
 rintro ac wr ⟨t, u5, u6, u11, u12, u13, u14, u15, u16, u17, u18, u19, u20, u21, u22, u23, u24, u25, u26, u27, u28, u29, u30, u31, u32, u33, u34, u35, u36, u37, u38, u39, u40, u41, u42, u43, u44, u45, u46, vo, rfl, ht, h1, h2, hrel⟩
 obtain ⟨OL, hl, hs⟩ := hrel
 have K1 := kk h1
 have K2 := kk h2
 have JL := kk hl
 have JS := kk hs
 clear h1 h2 hl hs
 have c11 : wr.cell? ⟨b1, 1, none⟩ = some (.slice la n lc) := K1.o.c 1 rfl
 by_cases htl : t < n
 ·have htl' : (t : Int) < (n : Int) := by omega
  obtain ⟨b, off, hla, hat⟩ := HV.o (by omega)
  subst hla
  have HL := kk (hat.below JS.o.be)
  clear hat
  obtain ⟨x, Hx⟩ : ∃ z, Keep (ls[t]? = some z) := ⟨ls[t]'(by rw [hm.o]; exact htl), ⟨List.getElem?_eq_getElem _⟩⟩
  have XL := kk (HL.o.lf x (List.mem_of_getElem? Hx.o))
  have HLx := kk (HLn.o x (List.mem_of_getElem? Hx.o))
  obtain ⟨va, vc, hxv⟩ := qR XL.o.row
  have hxv := kk hxv
  obtain ⟨pa, pc, hxp⟩ := XL.o.pform
  have hxp := kk hxp
  have hzw : Keep (w.heap.size ≤ wr.heap.size) := ⟨JS.o.be.size⟩
  have hw3 : IntKind.i64.wrap ((t : Int) + 1) = ((t + 1 : Nat) : Int) := by rw [IntKind.wrap_i64]; have := hn200.o; omega
  refine wp_seq_k fun K5 hK5 => wp_seq_k fun K6 hK6 => rgn (Vv (.int .i64 (t : Int)) (h:=Vv (.pointer (some ⟨b1, 1, none⟩)) (h:=Vv (.slice (some ⟨b, off, none⟩) n lc) (h:=Vv (.int .i64 (n : Int)) (h:=Vt (h:=WL.nil (hK6 _ _ (Ct (h:=wp_skip (hK5 _ _ (wp_seq_k fun K7 hK7 => wp_block (wp_seq_k fun K8 hK8 => rgn (Vv (.pointer (some ⟨b1, 1, none⟩)) (h:=?_))))))))))))))
  refine Vv (.slice (some ⟨b, off, none⟩) n lc) (h:=Vv (.int .i64 (t : Int)) (h:=Vv (.pointer (some ⟨b, off + t * 5, none⟩)) (h:=?_)))
  refine WL.midA (by kernel_rfl) 54 (.tmp 21) rfl b (off + t * 5) rfl (lvA x) _ (HL.o.at_ t x Hx.o) Try.underlying54 rfl (qA x) ?_
  simp only [Act.put, pqA, pqB, pqC]
  refine zO 54 zd fun b5 w5 hb5 F5 BE5 => ?_
  have ge5 := lh hb5
  refine StR (lvA x) F5.o (qA x) rfl (zW XL.o) ?_
  have F6 := kk (F5.o.setRow (lvA x))
  have BE6 : Keep (Below wr.heap.size wr (w5.setRow b5 (lvA x))) := ⟨qf BE5.o ge5.o _⟩
  generalize w5.setRow b5 (lvA x) = w6 at *
  clear F5 BE5 c11
  have p4_ : w6.cell? ⟨b5, 4, none⟩ = some (.slice pa x.ps.length pc) := by rw [← hxp.o]; exact F6.o.c 4 rfl
  have PA6 : Keep (HPa w.heap.size w6 (.slice pa x.ps.length pc) x.ps) := ⟨by rw [← hxp.o]; exact XL.o.pa.below (BE6.o.mono hzw.o)⟩
  refine WL.nil (hK8 _ _ (wp_seq_k fun K9 hK9 => rgn (Vv (.pointer (some ⟨b5, 4, none⟩)) (h:=Vv (.slice pa x.ps.length pc) (h:=?_)))))
  clear p4_
  refine WL.app0 (by kernel_rfl) 52 (.const (.slice none 0 0)) (.tmp 24) rfl (.slice pa x.ps.length pc) rfl rfl (fun v' w' => w'.ownsRow w6.heap.size 32 32 v' x.ps.length (qF x.ps) ∧ Below w6.heap.size w6 w') (fun ty => KH 52 32 32 32 _ Try.underlying52 QW (by rfl) (by decide) Dy w6 ty _ x.ps.length (qF x.ps) (Vq PA6.o) (jy x.ps) (fun u hu => Jz x.ps u hu) (by have := HLx.o.2; omega) (by decide)) ?_
  rintro v7 w7 ⟨k1, k2⟩
  have O7 := kk k1
  have F7 := kbx F6 k2
  have BE7 := tb BE6 k2
  have z67 : Keep (w6.heap.size ≤ w7.heap.size ∧ b5 < w6.heap.size) := ⟨k2.size, F6.o.lt⟩
  clear k1 k2 F6
  simp only [Act.put, pqA, pqB, pqC]
  refine WL.bld (by kernel_rfl) 32 _ rfl [(3, .int .u8 3)] (by simp [Act.eval]) (qb 32 mk3) Dp ?_
  simp only [Act.put, pqA, pqB, pqC]
  refine WL.bs (by kernel_rfl) 52 1 _ rfl #[(0, .agg (qb 32 mk3))] (by simp [Act.eval]) _ _ (DH w7) ?_
  have bb := qg w7 (.cells (qb 32 mk3) 32)
  have Q8 := kk (Blk.new w7 32 (qb 32 mk3))
  generalize w7.alloc (.cells (qb 32 mk3) 32) = w8 at *
  obtain ⟨g8, hg8⟩ := nn w7
  rw [← hg8] at Q8 ⊢
  have O8 := kk (qj O7.o bb)
  have F8 := kbx F7 bb
  have BE8 := tb BE7 bb
  have z68 : Keep (w6.heap.size ≤ w8.heap.size) := ⟨Nat.le_trans z67.o.1 bb.size⟩
  clear bb hg8 F7
  simp only [Act.put, pqA, pqB, pqC]
  refine WL.appG (by kernel_rfl) 52 32 32 32 _ Try.underlying52 QW (by rfl) (by decide) (.tmp 25) (.tmp 27) rfl w6.heap.size v7 ⟨g8, 0, none⟩ x.ps.length 1 1 (qF x.ps) (qb 32 mk3).toList rfl rfl O8.o (by rw [Array.length_toList, qB]) (fun j v hv => by rw [Addr.add_mid, Nat.zero_add]; exact Q8.o.c j (by rw [← Array.getElem?_toList]; exact hv)) (fun u hu => by
   have h := qi 32 mk3
   rw [Array.all_eq_true_iff_forall_mem] at h
   exact h u (by simpa using hu)) (by have := HLx.o.2; omega) (by decide) z68.o ?_
  intro v9 w9 k1 k2
  have G9 : Keep (Grown w8 w9 fun k => v7.ownBlock = some k) := ⟨Grown.of k2 fun _ _ e => e⟩
  have F9 := kk (G9.o.blk F8.o fun e => by have := jK O8.o e; have := z67.o.2; omega)
  have BE9 : Keep (Below wr.heap.size wr w9) := ⟨zw BE8.o G9.o (fun k hk e => by have := jK O8.o e; have := BE6.o.size; omega) (Nat.le_refl _)⟩
  obtain ⟨g9, c9, hv9, _⟩ := xk k1 (by omega)
  subst hv9
  have O9 := kk k1
  have h9 := kk (jE k1)
  have n59 : Keep (b5 ≠ g9) := ⟨by have := h9.o.2.1; have := z67.o.2; omega⟩
  clear k1 k2 G9 F8 O8 O7 Q8
  have p4_ : w9.cell? ⟨b5, 4, none⟩ = some (.slice pa x.ps.length pc) := by rw [← hxp.o]; exact F9.o.c 4 rfl
  have f_o := F9.o.frozen 4
  simp only [Act.put, pqA, pqB, pqC]
  refine Vv (.slice (some ⟨g9, 0, none⟩) (x.ps.length + 1) c9) (h:=WL.nil (hK9 _ _ (wp_seq_k fun K10 hK10 => rgn (Vv (.slice (some ⟨g9, 0, none⟩) (x.ps.length + 1) c9) (h:=Vv (.pointer (some ⟨b5, 4, none⟩)) (h:=Vv (.slice pa x.ps.length pc) (h:=Vv (.int .i64 (x.ps.length : Int)) (h:=?_))))))))
  refine WL.slr (by kernel_rfl) 52 (.tmp 29) none (some (.tmp 32)) rfl (.slice (some ⟨g9, 0, none⟩) (x.ps.length + 1) c9) none (some (.int .i64 (x.ps.length : Int))) (.slice (some ⟨g9, 0, none⟩) x.ps.length c9) rfl rfl rfl (Xy _ _ _ _ (by have := h9.o.1; omega) w9) ?_
  simp only [Act.put, pqA, pqB, pqC]
  refine VlS (.pointer (some ⟨b5, 4, none⟩)) ?_
  refine WL.cell (by kernel_rfl) (w9.setCell ⟨b5, 4, none⟩ (.slice (some ⟨g9, 0, none⟩) x.ps.length c9)) (by go_simp) ?_
  clear p4_ f_o
  have F10 : Keep (Blk (w9.setCell ⟨b5, 4, none⟩ (.slice (some ⟨g9, 0, none⟩) x.ps.length c9)) b5 54 #[.int .i64 x.num, .int .i64 x.c.k, .string x.c.s, x.c.v, .slice (some ⟨g9, 0, none⟩) x.ps.length c9]) := ⟨by have h := F9.o.set 4 (.slice (some ⟨g9, 0, none⟩) x.ps.length c9); exact h⟩
  have G10 : Grown w9 (w9.setCell ⟨b5, 4, none⟩ (.slice (some ⟨g9, 0, none⟩) x.ps.length c9)) (fun k => k = b5) := Grown.setCell w9 b5 4 _ fun _ => rfl
  have PR10 : Keep (PathR w6.heap.size (w9.setCell ⟨b5, 4, none⟩ (.slice (some ⟨g9, 0, none⟩) x.ps.length c9)) (.slice (some ⟨g9, 0, none⟩) x.ps.length c9) x.ps) := ⟨⟨g9, c9, rfl, qo O9.o G10 fun k hk e => by
   subst e
   simp [Value.ownBlock] at hk
   exact n59.o hk.symm⟩⟩
  have BE10 : Keep (Below wr.heap.size wr (w9.setCell ⟨b5, 4, none⟩ (.slice (some ⟨g9, 0, none⟩) x.ps.length c9))) := ⟨zw BE9.o G10 (fun k hk e => by have := ge5.o; omega) (Nat.le_refl _)⟩
  generalize w9.setCell ⟨b5, 4, none⟩ (.slice (some ⟨g9, 0, none⟩) x.ps.length c9) = w10 at *
  clear G10 F9 O9
  have v3_ : w10.cell? ⟨b5, 3, none⟩ = some (.slice va x.c.l.length vc) := by rw [← hxv.o]; exact F10.o.c 3 rfl
  have R10 : Keep (RowAt w10 (.slice va x.c.l.length vc) x.c.l) := ⟨by rw [← hxv.o]; exact (XL.o.below (BE10.o.mono hzw.o)).row⟩
  simp only [Act.put]
  refine WL.nil (hK10 _ _ (wp_seq_k fun K11 hK11 => rgn (Vv (.pointer (some ⟨b5, 1, none⟩)) (h:=Vv (.pointer (some ⟨b5, 3, none⟩)) (h:=Vv (.slice va x.c.l.length vc) (h:=?_))))))
  clear v3_
  refine ClS (Kz (.slice va x.c.l.length vc) x.c.l w10 R10.o (by have := HLx.o.1; omega)) ?_
  rintro e w11 ⟨v11, rfl, k1, k2, k3⟩
  refine ⟨_, rfl, ?_⟩
  have V11 := kk k1
  have N11 := kk k2
  have F11 := kbx F10 k3
  have PR11 := kk (PR10.o.grown (gF k3) fun _ _ e => e)
  have BE11 := tb BE10 k3
  obtain ⟨xg, xc, hvo, _⟩ := k1
  subst hvo
  clear k2 k3 F10 PR10
  have v3_ : w11.cell? ⟨b5, 3, none⟩ = some x.c.v := F11.o.c 3 rfl
  have f_o := F11.o.frozen 3
  refine Vv (.pointer (some ⟨b5, 1, none⟩)) (h:=Vv (.pointer (some ⟨b5, 3, none⟩)) (h:=?_))
  refine WL.cell (by kernel_rfl) (w11.setCell ⟨b5, 3, none⟩ (.slice (some ⟨xg, 0, none⟩) x.c.l.length xc)) (by go_simp) ?_
  clear v3_ f_o
  have F12 : Keep (Blk (w11.setCell ⟨b5, 3, none⟩ (.slice (some ⟨xg, 0, none⟩) x.c.l.length xc)) b5 54 #[.int .i64 x.num, .int .i64 x.c.k, .string x.c.s, .slice (some ⟨xg, 0, none⟩) x.c.l.length xc, .slice (some ⟨g9, 0, none⟩) x.ps.length c9]) := ⟨by have h := F11.o.set 3 (.slice (some ⟨xg, 0, none⟩) x.c.l.length xc); exact h⟩
  have G12 : Grown w11 (w11.setCell ⟨b5, 3, none⟩ (.slice (some ⟨xg, 0, none⟩) x.c.l.length xc)) (fun k => k = b5) := Grown.setCell w11 b5 3 _ fun _ => rfl
  have PR12 := kk (PR11.o.grown G12 fun k hk e => by subst e; exact absurd ((PR11.o.typ hk).one F11.o.typ) (by decide))
  have V12 := kk (V11.o.grown G12 fun k hk e => by subst e; exact absurd ((V11.o.typ hk).one F11.o.typ) (by decide))
  have BE12 : Keep (Below wr.heap.size wr (w11.setCell ⟨b5, 3, none⟩ (.slice (some ⟨xg, 0, none⟩) x.c.l.length xc))) := ⟨zw BE11.o G12 (fun k hk e => by have := ge5.o; omega) (Nat.le_refl _)⟩
  generalize w11.setCell ⟨b5, 3, none⟩ (.slice (some ⟨xg, 0, none⟩) x.c.l.length xc) = w12 at *
  clear G12 F11 V11 PR11
  have JS12 := kk (JS.o.below BE12.o hzw.o)
  have o1_ : w12.cell? ⟨b3, 1, none⟩ = some vo := JS12.o.bx.c 1 rfl
  simp only [Act.put]
  refine WL.nil (hK11 _ _ (rgn (Vv (.pointer (some ⟨b3, 1, none⟩)) (h:=Vv (vo) (h:=?_)))))
  clear o1_
  refine RwS F12.o (qA (⟨x.num, ⟨x.c.k, x.c.s, .slice (some ⟨xg, 0, none⟩) x.c.l.length xc, x.c.l⟩, .slice (some ⟨g9, 0, none⟩) x.ps.length c9, x.ps⟩ : LV)) ?_
  refine WL.bs (by kernel_rfl) 23 1 _ rfl #[(0, .agg #[.int .i64 x.num, .int .i64 x.c.k, .string x.c.s, .slice (some ⟨xg, 0, none⟩) x.c.l.length xc, .slice (some ⟨g9, 0, none⟩) x.ps.length c9])] (by simp [Act.eval]) _ _ (DI x _ _ _ _ _ _ w12) ?_
  have bb := qg w12 (.cells #[.int .i64 x.num, .int .i64 x.c.k, .string x.c.s, .slice (some ⟨xg, 0, none⟩) x.c.l.length xc, .slice (some ⟨g9, 0, none⟩) x.ps.length c9] 54)
  have Q13 := kk (Blk.new w12 54 #[.int .i64 x.num, .int .i64 x.c.k, .string x.c.s, .slice (some ⟨xg, 0, none⟩) x.c.l.length xc, .slice (some ⟨g9, 0, none⟩) x.ps.length c9])
  generalize w12.alloc (.cells #[.int .i64 x.num, .int .i64 x.c.k, .string x.c.s, .slice (some ⟨xg, 0, none⟩) x.c.l.length xc, .slice (some ⟨g9, 0, none⟩) x.ps.length c9] 54) = w13 at *
  obtain ⟨g13, hg13⟩ := nn w12
  rw [← hg13] at Q13 ⊢
  have BE13 := tb BE12 bb
  have JS13 := kk (JS.o.below BE13.o hzw.o)
  have V13 := kk (V12.o.grown (gF bb) fun _ _ e => e)
  have PR13 := kk ((PR12.o.grown (gF bb) fun _ _ e => e).mono (Nat.le_trans hzw.o BE6.o.size))
  have hz13 : Keep (w.heap.size ≤ w13.heap.size) := ⟨Nat.le_trans hzw.o BE13.o.size⟩
  have K1a := kbx K1 BE13.o
  have K2a := kbx K2 BE13.o
  clear bb hg13 V12 PR12 JS12 F12
  simp only [Act.put, pqA, pqB, pqC]
  refine WL.appG (by kernel_rfl) 23 54 5 80 _ Try.underlying23 ko (by rfl) (by decide) (.tmp 42) (.tmp 44) rfl w.heap.size vo ⟨g13, 0, none⟩ t 1 1 (OL.flatMap fun x => (lvA x).toList) (lvA (⟨x.num, ⟨x.c.k, x.c.s, .slice (some ⟨xg, 0, none⟩) x.c.l.length xc, x.c.l⟩, .slice (some ⟨g9, 0, none⟩) x.ps.length c9, x.ps⟩ : LV)).toList rfl rfl (by have h := JS13.o.own; rw [JL.o] at h; exact h) rfl (fun j v hv => by rw [Addr.add_mid, Nat.zero_add]; exact Q13.o.c j (by rw [← Array.getElem?_toList]; exact hv)) (by simp [lvA, Value.oneCell']) (by have := hn200.o; omega) (by decide) hz13.o ?_
  intro v14 w14 k1 k2
  have G14 : Keep (Grown w13 w14 fun k => vo.ownBlock = some k) := ⟨Grown.of k2 fun _ _ e => e⟩
  obtain ⟨za, zc, hv14⟩ := qE k1
  subst hv14
  have O14 := kk k1
  have no : Keep (∀ k, vo.ownBlock = some k → Typ w13 k 54) := ⟨fun k hk => qn JS13.o.own hk⟩
  have X14 := kk (G14.o.blk JS13.o.bx fun e => absurd ((no.o _ e).one JS13.o.bx.typ) (by decide))
  have K1b := kk (G14.o.blk K1a.o fun e => absurd ((no.o _ e).one K1a.o.typ) (by decide))
  have K2b := kk (G14.o.blk K2a.o fun e => absurd ((no.o _ e).one K2a.o.typ) (by decide))
  clear k1 k2 K1a K2a Q13
  have f_o := X14.o.frozen 1
  have c_o := X14.o.c 1 (by rfl : (wtA N vo)[1]? = some vo)
  simp only [Act.put, pqA, pqB, pqC]
  refine VlS (.pointer (some ⟨b3, 1, none⟩)) ?_
  refine WL.cell (by kernel_rfl) (w14.setCell ⟨b3, 1, none⟩ (.slice za (t + 1) zc)) (by go_simp) ?_
  clear f_o c_o
  have X15 : Keep (Blk (w14.setCell ⟨b3, 1, none⟩ (.slice za (t + 1) zc)) b3 25 (wtA N (.slice za (t + 1) zc))) := ⟨by have h := X14.o.set 1 (.slice za (t + 1) zc); exact h⟩
  have G15 : Grown w14 (w14.setCell ⟨b3, 1, none⟩ (.slice za (t + 1) zc)) (fun k => k = b3) := Grown.setCell w14 b3 1 _ fun _ => rfl
  have K1c := kk (G15.blk K1b.o fun e => n13.o.1 e)
  have K2c := kk (G15.blk K2b.o fun e => n13.o.2 e)
  have JE := kk (JS13.o.add (x := x) (y := (⟨x.num, ⟨x.c.k, x.c.s, .slice (some ⟨xg, 0, none⟩) x.c.l.length xc, x.c.l⟩, .slice (some ⟨g9, 0, none⟩) x.ps.length c9, x.ps⟩ : LV)) hz13.o ge3.o (by rw [JL.o]; exact Hx.o) ⟨rfl, rfl, rfl, rfl, rfl⟩ ⟨V13.o, by obtain ⟨k, h1, h2⟩ := N11.o; exact ⟨k, h1, Nat.le_trans hzw.o (Nat.le_trans BE10.o.size h2)⟩⟩ PR13.o (by rw [JL.o]; exact O14.o) G14.o _ G15 X15.o)
  generalize w14.setCell ⟨b3, 1, none⟩ (.slice za (t + 1) zc) = w15 at *
  clear G15 X15 X14 G14 O14 K1b K2b V13 PR13 JS13
  simp only [Act.put]
  refine WL.nil (hK7 _ _ (rgn (Vv (.int .i64 (t : Int)) (h:=Vv (.int .i64 ((t + 1 : Nat) : Int)) (h:=Vv (.int .i64 ((t + 1 : Nat) : Int)) (h:=?_))))))
  refine WL.nil ?_
  refine ⟨⟨t + 1, .pointer (some ⟨b5, 0, none⟩), .slice (some ⟨g9, 0, none⟩) (x.ps.length + 1) c9, .int .i64 (t : Int), .pointer (some ⟨b1, 1, none⟩), .slice (some ⟨b, off, none⟩) n lc, .int .i64 (n : Int), .bool true, .int .i64 (t : Int), .int .i64 ((t + 1 : Nat) : Int), .pointer (some ⟨b1, 1, none⟩), .slice (some ⟨b, off, none⟩) n lc, .int .i64 (t : Int), .pointer (some ⟨b, off + t * 5, none⟩), .agg (lvA x), .pointer (some ⟨b5, 4, none⟩), .slice pa x.ps.length pc, v7, .agg (qb 32 mk3), .slice (some ⟨g8, 0, none⟩) 1 1, .slice (some ⟨g9, 0, none⟩) (x.ps.length + 1) c9, .slice (some ⟨g9, 0, none⟩) (x.ps.length + 1) c9, .pointer (some ⟨b5, 4, none⟩), .slice pa x.ps.length pc, .int .i64 (x.ps.length : Int), .slice (some ⟨g9, 0, none⟩) x.ps.length c9, .pointer (some ⟨b5, 4, none⟩), .pointer (some ⟨b5, 1, none⟩), .pointer (some ⟨b5, 3, none⟩), .slice va x.c.l.length vc, .slice (some ⟨xg, 0, none⟩) x.c.l.length xc, .pointer (some ⟨b5, 1, none⟩), .pointer (some ⟨b5, 3, none⟩), .pointer (some ⟨b3, 1, none⟩), vo, .agg #[.int .i64 x.num, .int .i64 x.c.k, .string x.c.s, .slice (some ⟨xg, 0, none⟩) x.c.l.length xc, .slice (some ⟨g9, 0, none⟩) x.ps.length c9], .slice (some ⟨g13, 0, none⟩) 1 1, .slice za (t + 1) zc, .pointer (some ⟨b3, 1, none⟩), _, rfl, by omega, K1c.o, K2c.o, _, by rw [List.length_append, JL.o]; rfl, JE.o⟩, by simp [intOf]; omega⟩
 ·have htl' : ¬ (t : Int) < (n : Int) := by omega
  have hte : n = t := by omega
  have o1_ : wr.cell? ⟨b3, 1, none⟩ = some vo := JS.o.bx.c 1 rfl
  have hzw : Keep (w.heap.size ≤ wr.heap.size) := ⟨JS.o.be.size⟩
  have JO : Keep (wr.ownsRow w.heap.size 54 5 vo n (OL.flatMap fun x => (lvA x).toList)) := ⟨by have h := JS.o.own; rw [JL.o, ← hte] at h; exact h⟩
  refine wp_seq_k fun K12 hK12 => wp_seq_k fun K13 hK13 => rgn (Vv (.int .i64 (t : Int)) (h:=Vv (.pointer (some ⟨b1, 1, none⟩)) (h:=Vv (.slice la n lc) (h:=Vv (.int .i64 (n : Int)) (h:=Vf (h:=WL.nil (hK13 _ _ (Cf (h:=wp_exit (hK3 _ _ (wp_seq_k fun K14 hK14 => rgn (Vv (.pointer (some ⟨b3, 1, none⟩)) (h:=Vv (vo) (h:=?_))))))))))))))
  clear o1_ c11
  refine WL.app0 (by kernel_rfl) 23 (.const (.slice none 0 0)) (.tmp 48) rfl vo rfl rfl (fun v' w' => w'.ownsRow wr.heap.size 54 5 v' n (OL.flatMap fun x => (lvA x).toList) ∧ Below wr.heap.size wr w') (fun ty => KH 23 54 5 80 _ Try.underlying23 ko (by rfl) (by decide) Dx wr ty _ n _ (Vh JO.o) JO.o.1 (Vl JS.o.val JS.o.pth) (by have := hn200.o; omega) (by decide)) ?_
  rintro v16 w16 ⟨k1, k2⟩
  have O16 := kk k1
  have BE16 := kk k2
  clear k1 k2
  simp only [Act.put, pqA, pqB, pqC]
  refine WL.bld (by kernel_rfl) 54 _ rfl [(0, .int .i64 (-6))] (by simp [Act.eval]) (lfN (-6)) (Up _) ?_
  simp only [Act.put, pqA, pqB, pqC]
  refine WL.bs (by kernel_rfl) 23 1 _ rfl #[(0, .agg (lfN (-6)))] (by simp [Act.eval]) _ _ (Dj (-6) w16) ?_
  have bb := qg w16 (.cells (lfN (-6)) 54)
  have Q17 := kk (Blk.new w16 54 (lfN (-6)))
  generalize w16.alloc (.cells (lfN (-6)) 54) = w17 at *
  obtain ⟨g17, hg17⟩ := nn w16
  rw [← hg17] at Q17 ⊢
  have O17 := kk (qj O16.o bb)
  have BE17 := tb BE16 bb
  clear bb hg17 O16 BE16
  simp only [Act.put, pqA, pqB, pqC]
  refine WL.appG (by kernel_rfl) 23 54 5 80 _ Try.underlying23 ko (by rfl) (by decide) (.tmp 49) (.tmp 51) rfl wr.heap.size v16 ⟨g17, 0, none⟩ n 1 1 (OL.flatMap fun x => (lvA x).toList) (lfN (-6)).toList rfl rfl O17.o rfl (fun j v hv => by rw [Addr.add_mid, Nat.zero_add]; exact Q17.o.c j (by rw [← Array.getElem?_toList]; exact hv)) (by simp [lfN, Value.oneCell']) (by have := hn200.o; omega) (by decide) BE17.o.size ?_
  intro v18 w18 k1 k2
  have BE18 : Keep (Below wr.heap.size wr w18) := ⟨zw BE17.o (Grown.of k2 fun _ _ e => e) (fun k hk e => by have := jK O17.o e; omega) (Nat.le_refl _)⟩
  obtain ⟨g18, c18, hv18, _⟩ := xk k1 (by omega)
  subst hv18
  have O18 := kk k1
  have h18 := kk (jE k1)
  clear k1 k2 O17 Q17
  have JS18 := kk (JS.o.below BE18.o hzw.o)
  have K1a := kbx K1 BE18.o
  have K2a := kbx K2 BE18.o
  have c11 : w18.cell? ⟨b1, 1, none⟩ = some (.slice la n lc) := K1a.o.c 1 rfl
  have f_o := JS18.o.bx.frozen 1
  have c_o := JS18.o.bx.c 1 (by rfl : (wtA N vo)[1]? = some vo)
  simp only [Act.put, pqA, pqB, pqC]
  refine Vv (.slice (some ⟨g18, 0, none⟩) (n + 1) c18) (h:=WL.nil (hK14 _ _ (wp_seq_k fun K15 hK15 => rgn (Vv (.slice (some ⟨g18, 0, none⟩) (n + 1) c18) (h:=Vv (.pointer (some ⟨b1, 1, none⟩)) (h:=Vv (.slice la n lc) (h:=Vv (.int .i64 (n : Int)) (h:=?_))))))))
  refine WL.slr (by kernel_rfl) 23 (.tmp 53) none (some (.tmp 56)) rfl (.slice (some ⟨g18, 0, none⟩) (n + 1) c18) none (some (.int .i64 (n : Int))) (.slice (some ⟨g18, 0, none⟩) n c18) rfl rfl rfl (VV _ _ _ _ (by have := h18.o.1; omega) w18) ?_
  simp only [Act.put, pqA, pqB, pqC]
  refine VlS (.pointer (some ⟨b3, 1, none⟩)) ?_
  refine WL.cell (by kernel_rfl) (w18.setCell ⟨b3, 1, none⟩ (.slice (some ⟨g18, 0, none⟩) n c18)) (by go_simp) ?_
  clear f_o c_o c11
  have X19 : Keep (Blk (w18.setCell ⟨b3, 1, none⟩ (.slice (some ⟨g18, 0, none⟩) n c18)) b3 25 (wtA N (.slice (some ⟨g18, 0, none⟩) n c18))) := ⟨by have h := JS18.o.bx.set 1 (.slice (some ⟨g18, 0, none⟩) n c18); exact h⟩
  have G19 : Grown w18 (w18.setCell ⟨b3, 1, none⟩ (.slice (some ⟨g18, 0, none⟩) n c18)) (fun k => k = b3) := Grown.setCell w18 b3 1 _ fun _ => rfl
  have K2c := kk (G19.blk K2a.o fun e => n13.o.2 e)
  have G20 : ∀ cs, Keep (Grown w18 ((w18.setCell ⟨b3, 1, none⟩ (.slice (some ⟨g18, 0, none⟩) n c18)).setRow b2 cs) (fun k => k = b3 ∨ k = b2)) := fun cs => ⟨(G19.mono fun _ _ e => .inl e).trans ((Grown.setRow _ b2 cs (S := fun k => k = b2) fun _ => rfl).mono fun _ _ e => .inr e)⟩
  generalize w18.setCell ⟨b3, 1, none⟩ (.slice (some ⟨g18, 0, none⟩) n c18) = w19 at *
  clear G19
  simp only [Act.put]
  refine WL.nil (hK15 _ _ (wp_seq_k fun K16 hK16 => rgn (Vr X19.o (qD _ _) (h:=?_))))
  refine StR (wtA N (.slice (some ⟨g18, 0, none⟩) n c18)) K2c.o (qD _ _) rfl (by simp [wtA, Value.oneCell']) ?_
  have X20 := kk (K2c.o.setRow (wtA N (.slice (some ⟨g18, 0, none⟩) n c18)))
  have G21 := G20 (wtA N (.slice (some ⟨g18, 0, none⟩) n c18))
  generalize w19.setRow b2 (wtA N (.slice (some ⟨g18, 0, none⟩) n c18)) = w20 at *
  clear G20 K2c X19
  refine WL.nil (hK16 _ _ (wp_ret ?_))
  try simp only [Exit.inBlock, Exit.then]
  refine bodyPost_ret (v := .agg (wtA N (.slice (some ⟨g18, 0, none⟩) n c18))) (results_cell_row Try.results13 _ _ b2 25 _ (0, 0) _ rfl X20.o Try.underlying25 rfl (qD _ _)) rfl ?_
  have up : ∀ {T : Nat} {k : Nat}, Typ w18 k T → T ≠ 25 → ¬ (k = b3 ∨ k = b2) := fun ht h1 e => by
   rcases e with rfl | rfl
   ·exact h1 (ht.one JS18.o.bx.typ)
   ·exact h1 (ht.one K2a.o.typ)
  have hlen : OL.length = n := by rw [JL.o, hte]
  refine ⟨_, OL, rfl, ⟨by rw [hlen, hm.o], ⟨g18, c18, by rw [hlen], by rw [hlen]; exact zo (qo O18.o G21.o fun k hk => up (qn O18.o hk) (by decide)) hzw.o⟩, JS18.o.each, fun y hy => ⟨(JS18.o.val y hy).1.grown G21.o fun k hk => up ((JS18.o.val y hy).1.typ hk) (by decide), (JS18.o.val y hy).2⟩, fun y hy => (JS18.o.pth y hy).grown G21.o fun k hk => up ((JS18.o.pth y hy).typ hk) (by decide)⟩, zw JS18.o.be G21.o (fun k hk e => ?_) (Nat.le_refl _)⟩
  rcases e with rfl | rfl
  ·have := ge3.o; omega
  ·have := ge2.o; omega
theorem UU (pa qa : Option Addr) (n pc m qc : Nat) (ps qs : List Hs) (w : World) (hd : Keep (decide (ps = qs) = false)) (hne : ¬ n = m) : Calls Try.prog 33 #[.slice pa n pc, .slice qa m qc] w fun e w' => e = .returned (.bool (decide (ps = qs))) ∧ Below w.heap.size w w' := by
 have hne' : ((n : Int) == (m : Int)) = false := by simp; omega
 have hne2 : ¬ (n : Int) = (m : Int) := by omega
 go_enter Try.func33, Try.ntmps33
 refine wp_seq_k fun K1 hK1 => rgn (Vf (h:=WL.nil (hK1 _ _ (wp_seq_k fun K2 hK2 => wp_seq_k fun K3 hK3 => rgn (Vv (.slice pa n pc) (h:=Vv (.int .i64 (n : Int)) (h:=Vv (.slice qa m qc) (h:=Vv (.int .i64 (m : Int)) (h:=Vt (h:=WL.nil (hK3 _ _ (Ct (h:=wp_seq_k fun K4 hK4 => rgn (Vf (h:=WL.nil (hK4 _ _ (?_)))))))))))))))))
 refine wp_ret ?_
 go_ret
 rw [hd.o]
 exact ⟨rfl, Below.refl _ _⟩
theorem Gj (pa qa : Option Addr) (n pc qc : Nat) (ps qs : List Hs) (w : World) (hn : Keep (ps.length = n)) (hm : Keep (qs.length = n)) (HN : Keep (n ≤ 4398046511104)) (HP : Keep (0 < n → ∃ b o, pa = some ⟨b, o, none⟩ ∧ b < w.heap.size ∧ w.rangeAt b o (qF ps))) (HQ : Keep (0 < n → ∃ b o, qa = some ⟨b, o, none⟩ ∧ b < w.heap.size ∧ w.rangeAt b o (qF qs))) : Calls Try.prog 33 #[.slice pa n pc, .slice qa n qc] w fun e w' => e = .returned (.bool (decide (ps = qs))) ∧ Below w.heap.size w w' := by
 go_enter Try.func33, Try.ntmps33
 refine wp_seq_k fun K1 hK1 => rgn (Vf (h:=WL.nil (hK1 _ _ (wp_seq_k fun K2 hK2 => wp_seq_k fun K3 hK3 => rgn (Vv (.slice pa n pc) (h:=Vv (.int .i64 (n : Int)) (h:=Vv (.slice qa n qc) (h:=Vv (.int .i64 (n : Int)) (h:=Vf (h:=WL.nil (hK3 _ _ (Cf (h:=wp_skip (hK2 _ _ (wp_seq_k fun K4 hK4 => wp_seq_k fun K5 hK5 => rgn (?_))))))))))))))))
 refine Vv (.int .i64 0) (h:=WL.nil (hK5 _ _ (wp_block (?_))))
 refine wp_loop (fun ac wr => ∃ (t : Nat), ac = apF (fun f => { tmps := #[.slice pa n pc, .slice qa n qc, undef, undef, f 4, .int .i64 (t : Int), .slice pa n pc, .int .i64 (n : Int), .slice qa n qc, .int .i64 (n : Int), .bool false, f 11, f 12, f 13, f 14, f 15, f 16, f 17, f 18, f 19, f 20, f 21, f 22, f 23, f 24, f 25], defers := [] }) ac ∧ t ≤ n ∧ Below w.heap.size w wr ∧ (∀ i, i < t → ps[i]? = qs[i]?)) (fun a _ => n - (intOf (a.tmps.getD 5 undef)).toNat) ⟨0, rfl, by omega, Below.refl _ _, fun i hi => by omega⟩ ?_
 rintro ac wr ⟨t, hac, ht, hb, hI⟩
 obtain ⟨f, rfl⟩ := unF hac
 have B1 := kk hb
 have HI := kk hI
 clear hb hI
 by_cases htl : t < n
 ·have htl' : (t : Int) < (n : Int) := by omega
  obtain ⟨b, o, hpa, hb1, hr1⟩ := HP.o (by omega)
  obtain ⟨d, o2, hqa, hb2, hr2⟩ := HQ.o (by omega)
  subst hpa hqa
  obtain ⟨x, Hx⟩ : ∃ z, Keep (ps[t]? = some z) := ⟨ps[t]'(by rw [hn.o]; exact htl), ⟨List.getElem?_eq_getElem _⟩⟩
  obtain ⟨y, Hy⟩ : ∃ z, Keep (qs[t]? = some z) := ⟨qs[t]'(by rw [hm.o]; exact htl), ⟨List.getElem?_eq_getElem _⟩⟩
  obtain ⟨h1, h1e⟩ : ∃ z : Array Value, Keep (z = qb 32 x.f) := ⟨_, ⟨rfl⟩⟩
  obtain ⟨h2, h2e⟩ : ∃ z : Array Value, Keep (z = qb 32 y.f) := ⟨_, ⟨rfl⟩⟩
  have S0 : Keep (wr.drew.rangeAt b (o + t * 32) h1.toList ∧ wr.drew.rangeAt d (o2 + t * 32) h2.toList) := ⟨by
   have hx := (List.getElem?_eq_some_iff.mp Hx.o)
   have hy := (List.getElem?_eq_some_iff.mp Hy.o)
   obtain ⟨lx, ex⟩ := hx
   obtain ⟨ly, ey⟩ := hy
   constructor
   ·have h := zj (jt hr1 t lx) (B1.o.drew) hb1
    rw [ex] at h
    rw [h1e.o, ← zT]
    simpa using h
   ·have h := zj (jt hr2 t ly) (B1.o.drew) hb2
    rw [ey] at h
    rw [h2e.o, ← zT]
    simpa using h⟩
  have Bd : Keep (Below w.heap.size w wr.drew) := ⟨B1.o.drew⟩
  cases hxy : decide (x = y)
  ·have HE := kk hxy
   clear hxy
   have hw9 : IntKind.i64.wrap ((t : Int) + 1) = ((t + 1 : Nat) : Int) := by rw [IntKind.wrap_i64]; have := HN.o; omega
   refine wp_seq_k fun K6 hK6 => wp_seq_k fun K7 hK7 => rgn (Vv (.int .i64 (t : Int)) (h:=Vv (.slice (some ⟨b, o, none⟩) n pc) (h:=Vv (.int .i64 (n : Int)) (h:=Vt (h:=WL.nil (hK7 _ _ (Ct (h:=wp_skip (hK6 _ _ (wp_seq_k fun K8 hK8 => wp_block (wp_seq_k fun K9 hK9 => ?_)))))))))))
   refine wp_region_held_drew (S := fun wx => wx.rangeAt b (o + t * 32) h1.toList ∧ wx.rangeAt d (o2 + t * 32) h2.toList) (by kernel_rfl) (S0.o) (fun hHeld => ?_)
   refine uC 0 ⟨some 17, .move (.tmp 0), 52, _, _, none⟩ (.slice (some ⟨b, o, none⟩) n pc) rfl hHeld ?_
   refine uC 1 ⟨some 18, .move (.tmp 5), 3, _, _, none⟩ (.int .i64 (t : Int)) rfl hHeld ?_
   refine uC 4 ⟨some 21, .move (.tmp 1), 52, _, _, none⟩ (.slice (some ⟨d, o2, none⟩) n qc) rfl hHeld ?_
   refine uC 5 ⟨some 22, .move (.tmp 5), 3, _, _, none⟩ (.int .i64 (t : Int)) rfl hHeld ?_
   refine uC 2 ⟨some 19, .indexAddr 52 (.tmp 17) (.tmp 18), 0, _, _, none⟩ (.pointer (some ⟨b, o + t * 32, none⟩)) rfl hHeld ?_
   refine uC 6 ⟨some 23, .indexAddr 52 (.tmp 21) (.tmp 22), 0, _, _, none⟩ (.pointer (some ⟨d, o2 + t * 32, none⟩)) rfl hHeld ?_
   refine uS 3 ⟨some 20, .load 32 (.tmp 19), 32, _, _, none⟩ (.agg h1) rfl (qv (by rfl) (.tmp 19) 32 rfl b (o + t * 32) rfl h1 _ Try.underlying32 rfl (by rw [h1e.o]; exact qd _) fun w hS => hS.1) hHeld ?_
   refine uS 7 ⟨some 24, .load 32 (.tmp 23), 32, _, _, none⟩ (.agg h2) rfl (qv (by rfl) (.tmp 23) 32 rfl d (o2 + t * 32) rfl h2 _ Try.underlying32 rfl (by rw [h2e.o]; exact qd _) fun w hS => hS.2) hHeld ?_
   refine uS 8 ⟨some 25, .binOp BinOp.neq 32 (.tmp 20) (.tmp 24) 32, 4, _, _, none⟩ (.bool true) rfl (yi fun w hS => by have hq_ := eqB h1e.o h2e.o HE.o w; clear hS; go_simp) hHeld ?_
   refine wpAnyH_done (by kernel_rfl) ?_ _
   refine hK9 _ _ (Ct (h:=wp_seq_k fun K10 hK10 => rgn (Vf (h:=WL.nil (hK10 _ _ (wp_ret ?_))))))
   go_ret
   have hf : decide (ps = qs) = false := decide_eq_false fun e => of_decide_eq_false HE.o (Option.some.inj (Hx.o.symm.trans ((congrArg (·[t]?) e).trans Hy.o)))
   rw [hf]
   exact ⟨rfl, Bd.o⟩
  ·have HE := kk hxy
   clear hxy
   have hw9 : IntKind.i64.wrap ((t : Int) + 1) = ((t + 1 : Nat) : Int) := by rw [IntKind.wrap_i64]; have := HN.o; omega
   refine wp_seq_k fun K11 hK11 => wp_seq_k fun K12 hK12 => rgn (Vv (.int .i64 (t : Int)) (h:=Vv (.slice (some ⟨b, o, none⟩) n pc) (h:=Vv (.int .i64 (n : Int)) (h:=Vt (h:=WL.nil (hK12 _ _ (Ct (h:=wp_skip (hK11 _ _ (wp_seq_k fun K13 hK13 => wp_block (wp_seq_k fun K14 hK14 => ?_)))))))))))
   refine wp_region_held_drew (S := fun wx => wx.rangeAt b (o + t * 32) h1.toList ∧ wx.rangeAt d (o2 + t * 32) h2.toList) (by kernel_rfl) (S0.o) (fun hHeld => ?_)
   refine uC 0 ⟨some 17, .move (.tmp 0), 52, _, _, none⟩ (.slice (some ⟨b, o, none⟩) n pc) rfl hHeld ?_
   refine uC 1 ⟨some 18, .move (.tmp 5), 3, _, _, none⟩ (.int .i64 (t : Int)) rfl hHeld ?_
   refine uC 4 ⟨some 21, .move (.tmp 1), 52, _, _, none⟩ (.slice (some ⟨d, o2, none⟩) n qc) rfl hHeld ?_
   refine uC 5 ⟨some 22, .move (.tmp 5), 3, _, _, none⟩ (.int .i64 (t : Int)) rfl hHeld ?_
   refine uC 2 ⟨some 19, .indexAddr 52 (.tmp 17) (.tmp 18), 0, _, _, none⟩ (.pointer (some ⟨b, o + t * 32, none⟩)) rfl hHeld ?_
   refine uC 6 ⟨some 23, .indexAddr 52 (.tmp 21) (.tmp 22), 0, _, _, none⟩ (.pointer (some ⟨d, o2 + t * 32, none⟩)) rfl hHeld ?_
   refine uS 3 ⟨some 20, .load 32 (.tmp 19), 32, _, _, none⟩ (.agg h1) rfl (qv (by rfl) (.tmp 19) 32 rfl b (o + t * 32) rfl h1 _ Try.underlying32 rfl (by rw [h1e.o]; exact qd _) fun w hS => hS.1) hHeld ?_
   refine uS 7 ⟨some 24, .load 32 (.tmp 23), 32, _, _, none⟩ (.agg h2) rfl (qv (by rfl) (.tmp 23) 32 rfl d (o2 + t * 32) rfl h2 _ Try.underlying32 rfl (by rw [h2e.o]; exact qd _) fun w hS => hS.2) hHeld ?_
   refine uS 8 ⟨some 25, .binOp BinOp.neq 32 (.tmp 20) (.tmp 24) 32, 4, _, _, none⟩ (.bool false) rfl (yi fun w hS => by have hq_ := eqB h1e.o h2e.o HE.o w; clear hS; go_simp) hHeld ?_
   refine wpAnyH_done (by kernel_rfl) ?_ _
   refine hK14 _ _ (Cf (h:=wp_skip (hK13 _ _ (rgn (Vv (.int .i64 (t : Int)) (h:=Vv (.int .i64 ((t + 1 : Nat) : Int)) (h:=Vv (.int .i64 ((t + 1 : Nat) : Int)) (h:=?_))))))))
   refine WL.nil ?_
   refine ⟨⟨t + 1, rfl, by omega, Bd.o, fun i hi => ?_⟩, ?_⟩
   ·by_cases e : i = t
    ·subst e; rw [Hx.o, Hy.o, of_decide_eq_true HE.o]
    ·exact HI.o i (by omega)
   ·simp only [intOf]; show n - (((t + 1 : Nat) : Int)).toNat < n - ((t : Int)).toNat; omega
 ·have htl' : ¬ (t : Int) < (n : Int) := by omega
  have hf : Keep (decide (ps = qs) = true) := ⟨decide_eq_true (List.ext_getElem? fun i => by
   by_cases hi : i < t
   ·exact HI.o i hi
   ·rw [List.getElem?_eq_none (by rw [hn.o]; omega), List.getElem?_eq_none (by rw [hm.o]; omega)])⟩
  refine wp_seq_k fun K15 hK15 => wp_seq_k fun K16 hK16 => rgn (Vv (.int .i64 (t : Int)) (h:=Vv (.slice pa n pc) (h:=Vv (.int .i64 (n : Int)) (h:=Vf (h:=WL.nil (hK16 _ _ (Cf (h:=wp_exit (hK4 _ _ (wp_seq_k fun K17 hK17 => rgn (Vt (h:=WL.nil (hK17 _ _ (wp_ret ?_))))))))))))))
  go_ret
  rw [hf.o]
  exact ⟨rfl, B1.o⟩
theorem Xx (v u : Value) (ps qs : List Hs) (w : World) (hv : HPa w.heap.size w v ps) (hu : HPa w.heap.size w u qs) (hN : ps.length ≤ 4398046511104) : Calls Try.prog 33 #[v, u] w fun e w' => e = .returned (.bool (decide (ps = qs))) ∧ Below w.heap.size w w' := by
 have form : ∀ (v : Value) (ps : List Hs), HPa w.heap.size w v ps → ∃ pa pc, v = .slice pa ps.length pc ∧ (0 < ps.length → ∃ b o, pa = some ⟨b, o, none⟩ ∧ b < w.heap.size ∧ w.rangeAt b o (qF ps)) := fun v ps h => by
  rcases h with ⟨a, c, rfl, rfl⟩ | ⟨b, off, cap, rfl, h2, h3, h4⟩
  ·exact ⟨a, c, rfl, fun h => by simp at h⟩
  ·exact ⟨_, cap, rfl, fun _ => ⟨b, off, rfl, h3, h4⟩⟩
 obtain ⟨pa, pc, rfl, h1⟩ := form v ps hv
 obtain ⟨qa, qc, rfl, h2⟩ := form u qs hu
 by_cases hl : ps.length = qs.length
 ·rw [← hl] at h2 ⊢
  exact Gj pa qa _ pc qc ps qs w ⟨rfl⟩ ⟨hl.symm⟩ ⟨hN⟩ ⟨h1⟩ ⟨h2⟩
 ·exact UU pa qa _ pc _ qc ps qs w ⟨decide_eq_false fun e => hl (by rw [e])⟩ hl
theorem UH (w : World) (vs : Array Value) : (callFunc 10 vs).run Try.prog w = .ok (.enter 10 vs) w := by kernel_rfl
theorem HPa.mono {B B' : Nat} {w : World} {v : Value} {ps : List Hs} (h : HPa B w v ps) (hB : B ≤ B') : HPa B' w v ps := by
 rcases h with h | ⟨b, off, cap, h1, h2, h3, h4⟩
 ·exact .inl h
 ·exact .inr ⟨b, off, cap, h1, h2, Nat.lt_of_lt_of_le h3 hB, h4⟩
def jR (x y : LV) : Bool := decide (x.num = y.num) && (jr x.c y.c && decide (x.ps = y.ps))
def QD (n : Int) (ls : List LV) (m : Int) (ms : List LV) : Prop := n = m ∧ ls.length = ms.length ∧ ∀ (i : Nat) (x y : LV), ls[i]? = some x → ms[i]? = some y → jR x y = true
def SwP (n : Int) (ls : List LV) (m : Int) (ms : List LV) (w : World) (e : Ending) (w' : World) : Prop := ∃ b : Bool, e = .returned (.bool b) ∧ (b = true ↔ QD n ls m ms) ∧ Below w.heap.size w w'
theorem Gh (la lb : Option Addr) (k ca j cb : Nat) (n : Int) (ls ms : List LV) (w : World) (m : Int) (hne : ¬ n = m) (hno : Keep (¬ QD n ls m ms)) : Calls Try.prog 10 #[.agg #[.int .i64 n, .slice la k ca], .agg #[.int .i64 m, .slice lb j cb]] w (SwP n ls m ms w) := by
 have hne' : (n == m) = false := by simpa using hne
 go_enter Try.func10, Try.ntmps10
 refine wp_seq_k fun K1 hK1 => rgn (zH 25 (.tmp 0) #[.int .i64 n, .slice la k ca] fun p w1 hp0 P1 b_ => ?_)
 have B1 : Keep (Below w.heap.size w w1) := ⟨b_⟩
 have gp := lh hp0
 clear b_
 refine zH 25 (.tmp 1) #[.int .i64 m, .slice lb j cb] fun q w2 hq0 Q2 b_ => ?_
 have P2 := kbx P1 b_
 have B2 := tb B1 b_
 have gq : Keep (w.heap.size ≤ q) := ⟨by rw [hq0.o]; exact B1.o.size⟩
 clear b_
 have p0_ := P2.o.c 0 (by rfl)
 have p1_ := P2.o.c 1 (by rfl)
 have q0_ := Q2.o.c 0 (by rfl)
 have q1_ := Q2.o.c 1 (by rfl)
 refine Vf (h:=WL.nil (hK1 _ _ (wp_seq_k fun K2 hK2 => wp_seq_k fun K3 hK3 => rgn (Vv (.pointer (some ⟨p, 0, none⟩)) (h:=Vv (.int .i64 n) (h:=Vv (.pointer (some ⟨q, 0, none⟩)) (h:=Vv (.int .i64 m) (h:=Vt (h:=Vt (h:=Vs (h:=Vs (h:=Vs (h:=Vs (h:=Vs (h:=?_)))))))))))))))
 refine Vs (h:=Vs (h:=Vt (h:=WL.nil (hK3 _ _ (Ct (h:=wp_seq_k fun K4 hK4 => rgn (Vf (h:=WL.nil (hK4 _ _ (wp_ret ?_))))))))))
 go_ret
 exact ⟨false, rfl, ⟨fun h => (by cases h), fun h => absurd h hno.o⟩, B2.o⟩
theorem Gi (la lb : Option Addr) (k ca j cb : Nat) (n : Int) (ls ms : List LV) (w : World) (hne : ¬ k = j) (hno : Keep (¬ QD n ls n ms)) : Calls Try.prog 10 #[.agg #[.int .i64 n, .slice la k ca], .agg #[.int .i64 n, .slice lb j cb]] w (SwP n ls n ms w) := by
 have hne' : ((k : Int) == (j : Int)) = false := by simp; omega
 have hne2 : ¬ (k : Int) = (j : Int) := by omega
 go_enter Try.func10, Try.ntmps10
 refine wp_seq_k fun K1 hK1 => rgn (zH 25 (.tmp 0) #[.int .i64 n, .slice la k ca] fun p w1 hp0 P1 b_ => ?_)
 have B1 : Keep (Below w.heap.size w w1) := ⟨b_⟩
 have gp := lh hp0
 clear b_
 refine zH 25 (.tmp 1) #[.int .i64 n, .slice lb j cb] fun q w2 hq0 Q2 b_ => ?_
 have P2 := kbx P1 b_
 have B2 := tb B1 b_
 have gq : Keep (w.heap.size ≤ q) := ⟨by rw [hq0.o]; exact B1.o.size⟩
 clear b_
 have p0_ := P2.o.c 0 (by rfl)
 have p1_ := P2.o.c 1 (by rfl)
 have q0_ := Q2.o.c 0 (by rfl)
 have q1_ := Q2.o.c 1 (by rfl)
 refine Vf (h:=WL.nil (hK1 _ _ (wp_seq_k fun K2 hK2 => wp_seq_k fun K3 hK3 => rgn (Vv (.pointer (some ⟨p, 0, none⟩)) (h:=Vv (.int .i64 n) (h:=Vv (.pointer (some ⟨q, 0, none⟩)) (h:=Vv (.int .i64 n) (h:=Vf (h:=Vf (h:=Vv (.pointer (some ⟨p, 1, none⟩)) (h:=Vv (.slice la k ca) (h:=Vv (.int .i64 (k : Int)) (h:=Vv (.pointer (some ⟨q, 1, none⟩)) (h:=Vv (.slice lb j cb) (h:=?_)))))))))))))))
 refine Vv (.int .i64 (j : Int)) (h:=Vt (h:=Vt (h:=WL.nil (hK3 _ _ (Ct (h:=wp_seq_k fun K4 hK4 => rgn (Vf (h:=WL.nil (hK4 _ _ (wp_ret ?_))))))))))
 go_ret
 exact ⟨false, rfl, ⟨fun h => (by cases h), fun h => absurd h hno.o⟩, B2.o⟩
theorem US (la lb : Option Addr) (k ca cb : Nat) (n : Int) (ls ms : List LV) (w : World) (hn : Keep (ls.length = k)) (hm : Keep (ms.length = k)) (HN : Keep (k ≤ 4398046511104)) (HL : Keep (0 < k → ∃ b o, la = some ⟨b, o, none⟩ ∧ LsAt w.heap.size w b o ls)) (HM : Keep (0 < k → ∃ b o, lb = some ⟨b, o, none⟩ ∧ LsAt w.heap.size w b o ms)) (HSz : Keep (∀ x ∈ ls, x.ps.length ≤ 4398046511104)) : Calls Try.prog 10 #[.agg #[.int .i64 n, .slice la k ca], .agg #[.int .i64 n, .slice lb k cb]] w (SwP n ls n ms w) := by
 have hnn0 : (n == n) = true := by simp
 have hkk0 : ((k : Int) == (k : Int)) = true := by simp
 go_enter Try.func10, Try.ntmps10
 refine wp_seq_k fun K1 hK1 => rgn (zH 25 (.tmp 0) #[.int .i64 n, .slice la k ca] fun p w1 hp0 P1 b_ => ?_)
 have B1 : Keep (Below w.heap.size w w1) := ⟨b_⟩
 have gp := lh hp0
 clear b_
 refine zH 25 (.tmp 1) #[.int .i64 n, .slice lb k cb] fun q w2 hq0 Q2 b_ => ?_
 have P2 := kbx P1 b_
 have B2 := tb B1 b_
 have gq : Keep (w.heap.size ≤ q) := ⟨by rw [hq0.o]; exact B1.o.size⟩
 clear b_
 have p0_ := P2.o.c 0 (by rfl)
 have p1_ := P2.o.c 1 (by rfl)
 have q0_ := Q2.o.c 0 (by rfl)
 have q1_ := Q2.o.c 1 (by rfl)
 refine Vf (h:=WL.nil (hK1 _ _ (wp_seq_k fun K2 hK2 => wp_seq_k fun K3 hK3 => rgn (Vv (.pointer (some ⟨p, 0, none⟩)) (h:=Vv (.int .i64 n) (h:=Vv (.pointer (some ⟨q, 0, none⟩)) (h:=Vv (.int .i64 n) (h:=Vf (h:=Vf (h:=Vv (.pointer (some ⟨p, 1, none⟩)) (h:=Vv (.slice la k ca) (h:=Vv (.int .i64 (k : Int)) (h:=Vv (.pointer (some ⟨q, 1, none⟩)) (h:=Vv (.slice lb k cb) (h:=?_)))))))))))))))
 refine Vv (.int .i64 (k : Int)) (h:=Vf (h:=Vf (h:=WL.nil (hK3 _ _ (Cf (h:=wp_skip (hK2 _ _ (wp_seq_k fun K4 hK4 => wp_seq_k fun K5 hK5 => rgn (Vv (.int .i64 0) (h:=WL.nil (hK5 _ _ (wp_block (?_)))))))))))))
 refine wp_loop (fun ac wr => ∃ (t : Nat), ac = apF (fun f => { tmps := #[.agg #[.int .i64 n, .slice la k ca], .agg #[.int .i64 n, .slice lb k cb], .pointer (some ⟨p, 0, none⟩), .pointer (some ⟨q, 0, none⟩), f 4, .int .i64 (t : Int), f 6, f 7, f 8, f 9, .pointer (some ⟨p, 0, none⟩), .int .i64 n, .pointer (some ⟨q, 0, none⟩), .int .i64 n, .bool false, .bool false, .pointer (some ⟨p, 1, none⟩), .slice la k ca, .int .i64 (k : Int), .pointer (some ⟨q, 1, none⟩), .slice lb k cb, .int .i64 (k : Int), .bool false, .bool false, f 24, f 25, f 26, f 27, f 28, f 29, f 30, f 31, f 32, f 33, f 34, f 35, f 36, f 37, f 38, f 39, f 40, f 41, f 42, f 43, f 44, f 45, f 46, f 47, f 48, f 49, f 50, f 51, f 52, f 53, f 54, f 55, f 56, f 57, f 58, f 59, f 60, f 61, f 62, f 63], defers := [] }) ac ∧ t ≤ k ∧ Below w2.heap.size w2 wr ∧ (∀ (i : Nat) (x y : LV), i < t → ls[i]? = some x → ms[i]? = some y → jR x y = true)) (fun a _ => k - (intOf (a.tmps.getD 5 undef)).toNat) ⟨0, rfl, by omega, Below.refl _ _, fun i x y hi => by omega⟩ ?_
 rintro ac wr ⟨t, hac, ht, hb, hI⟩
 obtain ⟨f, rfl⟩ := unF hac
 have b1 := kk hb
 have HI := kk hI
 clear hb hI
 have Pr := kbx P2 b1.o
 have Qr := kbx Q2 b1.o
 have Br := tb B2 b1.o
 have p1_ := Pr.o.c 1 (by rfl)
 by_cases htl : t < k
 ·have htl' : (t : Int) < (k : Int) := by omega
  have hw9 : IntKind.i64.wrap ((t : Int) + 1) = ((t + 1 : Nat) : Int) := by rw [IntKind.wrap_i64]; have := HN.o; omega
  obtain ⟨b, of1, hla, hL1⟩ := HL.o (by omega)
  obtain ⟨d, of2, hlb, hM1⟩ := HM.o (by omega)
  subst hla hlb
  obtain ⟨x, Hx⟩ : ∃ z, Keep (ls[t]? = some z) := ⟨ls[t]'(by rw [hn.o]; exact htl), ⟨List.getElem?_eq_getElem _⟩⟩
  obtain ⟨y, Hy⟩ : ∃ z, Keep (ms[t]? = some z) := ⟨ms[t]'(by rw [hm.o]; exact htl), ⟨List.getElem?_eq_getElem _⟩⟩
  have HLx : Keep (∀ wx, Below w.heap.size w wx → LfAt w.heap.size wx x) := ⟨fun wx hb => (hL1.below hb).lf x (List.mem_of_getElem? Hx.o)⟩
  have HLy : Keep (∀ wx, Below w.heap.size w wx → LfAt w.heap.size wx y) := ⟨fun wx hb => (hM1.below hb).lf y (List.mem_of_getElem? Hy.o)⟩
  have hPx : Keep (x.ps.length ≤ 4398046511104) := ⟨HSz.o x (List.mem_of_getElem? Hx.o)⟩
  have hS0 : Keep (∀ wx, Below w2.heap.size w2 wx → wx.cell? ⟨p, 1, none⟩ = some (.slice (some ⟨b, of1, none⟩) k ca) ∧ wx.cell? ⟨q, 1, none⟩ = some (.slice (some ⟨d, of2, none⟩) k cb) ∧ wx.rangeAt b (of1 + t * 5) (lvA x).toList ∧ wx.rangeAt d (of2 + t * 5) (lvA y).toList) := ⟨fun wx hb =>
   have hb' : Below w.heap.size w wx := B2.o.trans (hb.mono B2.o.size)
   ⟨(P2.o.below hb P2.o.lt).c 1 (by rfl), (Q2.o.below hb Q2.o.lt).c 1 (by rfl), (hL1.below hb').at_ t x Hx.o, (hM1.below hb').at_ t y Hy.o⟩⟩
  
  refine wp_seq_k fun K6 hK6 => wp_seq_k fun K7 hK7 => rgn (Vv (.int .i64 (t : Int)) (h:=Vv (.pointer (some ⟨p, 1, none⟩)) (h:=Vv (.slice (some ⟨b, of1, none⟩) k ca) (h:=Vv (.int .i64 (k : Int)) (h:=Vt (h:=WL.nil (hK7 _ _ (Ct (h:=wp_skip (hK6 _ _ (wp_seq_k fun K8 hK8 => wp_block (wp_seq_k fun K9 hK9 => ?_))))))))))))
  have bd : Keep (Below w2.heap.size w2 wr.drew) := ⟨b1.o.drew⟩
  refine wp_region_held_drew (S := fun wx => wx.cell? ⟨p, 1, none⟩ = some (.slice (some ⟨b, of1, none⟩) k ca) ∧ wx.cell? ⟨q, 1, none⟩ = some (.slice (some ⟨d, of2, none⟩) k cb) ∧ wx.rangeAt b (of1 + t * 5) (lvA x).toList ∧ wx.rangeAt d (of2 + t * 5) (lvA y).toList) (by kernel_rfl) (hS0.o _ bd.o) (fun hHeld => ?_)
  refine uS 0 ⟨some 31, .fieldAddr 25 (.tmp 2) 1, 0, _, _, none⟩ (.pointer (some ⟨p, 1, none⟩)) rfl (yi (by rintro w ⟨hS1, hS2, hS3, hS4⟩; clear hS3 hS4; go_simp)) hHeld ?_
  refine uS 2 ⟨some 33, .move (.tmp 5), 3, _, _, none⟩ (.int .i64 (t : Int)) rfl (yi (by rintro w ⟨hS1, hS2, hS3, hS4⟩; clear hS3 hS4; go_simp)) hHeld ?_
  refine uS 5 ⟨some 36, .fieldAddr 25 (.tmp 3) 1, 0, _, _, none⟩ (.pointer (some ⟨q, 1, none⟩)) rfl (yi (by rintro w ⟨hS1, hS2, hS3, hS4⟩; clear hS3 hS4; go_simp)) hHeld ?_
  refine uS 7 ⟨some 38, .move (.tmp 5), 3, _, _, none⟩ (.int .i64 (t : Int)) rfl (yi (by rintro w ⟨hS1, hS2, hS3, hS4⟩; clear hS3 hS4; go_simp)) hHeld ?_
  refine uS 1 ⟨some 32, .load 23 (.tmp 31), 23, _, _, none⟩ (.slice (some ⟨b, of1, none⟩) k ca) rfl (yi (by rintro w ⟨hS1, hS2, hS3, hS4⟩; clear hS3 hS4; go_simp)) hHeld ?_
  refine uS 6 ⟨some 37, .load 23 (.tmp 36), 23, _, _, none⟩ (.slice (some ⟨d, of2, none⟩) k cb) rfl (yi (by rintro w ⟨hS1, hS2, hS3, hS4⟩; clear hS3 hS4; go_simp)) hHeld ?_
  refine uS 3 ⟨some 34, .indexAddr 23 (.tmp 32) (.tmp 33), 0, _, _, none⟩ (.pointer (some ⟨b, of1 + t * 5, none⟩)) rfl (yi (by rintro w ⟨hS1, hS2, hS3, hS4⟩; clear hS3 hS4; go_simp)) hHeld ?_
  refine uS 8 ⟨some 39, .indexAddr 23 (.tmp 37) (.tmp 38), 0, _, _, none⟩ (.pointer (some ⟨d, of2 + t * 5, none⟩)) rfl (yi (by rintro w ⟨hS1, hS2, hS3, hS4⟩; clear hS3 hS4; go_simp)) hHeld ?_
  refine uS 4 ⟨some 35, .load 54 (.tmp 34), 54, _, _, none⟩ (.agg (lvA x)) rfl (qv (by rfl) (.tmp 34) 54 rfl b (of1 + t * 5) rfl (lvA x) _ Try.underlying54 rfl (qA x) fun w hS => hS.2.2.1) hHeld ?_
  refine uS 9 ⟨some 40, .load 54 (.tmp 39), 54, _, _, none⟩ (.agg (lvA y)) rfl (qv (by rfl) (.tmp 39) 54 rfl d (of2 + t * 5) rfl (lvA y) _ Try.underlying54 rfl (qA y) fun w hS => hS.2.2.2) hHeld ?_
  refine wpAnyH_ready (rs := [10, 11]) (by kernel_rfl) (by simp) ?_
  refine AllReadyH.cons (o := ⟨some 6, .alloc 54, 0, _, _, none⟩) rfl (fun K hK => ?_) (AllReadyH.cons (o := ⟨some 7, .alloc 54, 0, _, _, none⟩) rfl (fun K hK => ?_) AllReadyH.nil)
  all_goals rw [if_pos (by rfl)]
  ·refine qK 54 rfl _ zd ?_
   have Xa := kk (Blk.new wr.drew 54 zLf)
   have b_ := qg wr.drew (.cells zLf 54)
   generalize wr.drew.alloc (.cells zLf 54) = wa at *
   obtain ⟨xg, hxg⟩ := nm wr.drew
   rw [← hxg.o] at Xa ⊢
   have gxg : Keep (w2.heap.size ≤ xg) := ⟨by rw [hxg.o]; exact bd.o.size⟩
   have ba := tb bd b_
   clear b_
   refine hK _ _ (hS0.o _ ba.o) fun hHa => kNx ?_
   clear hK
   refine rd1 11 ⟨some 7, .alloc 54, 0, _, _, none⟩ rfl fun K hK => ?_
   refine qK 54 rfl _ zd ?_
   have Yb := kk (Blk.new wa 54 zLf)
   have b_ := qg wa (.cells zLf 54)
   generalize wa.alloc (.cells zLf 54) = wb at *
   obtain ⟨yg, hyg⟩ := nm wa
   rw [← hyg.o] at Yb ⊢
   have gyg : Keep (w2.heap.size ≤ yg) := ⟨by rw [hyg.o]; exact ba.o.size⟩
   have bb := tb ba b_
   have Xb := kbx Xa b_
   have hxy : Keep (xg ≠ yg) := ⟨by have := Xa.o.lt; have := hyg.o; omega⟩
   clear b_
   refine hK _ _ (hS0.o _ bb.o) fun hHb => kNx ?_
   clear hK
   refine rd1 12 ⟨none, .store 54 (.tmp 6) (.tmp 35), 0, _, _, none⟩ rfl fun K hK => ?_
   refine wp_store_row 54 (.tmp 6) (.tmp 35) rfl xg (lvA x) rfl rfl 54 zLf Xb.o (qA x) rfl (zW (HLx.o w (Below.refl _ _))) ?_
   have Xc := kk (Xb.o.setRow (lvA x))
   have Yc := kk (Yb.o.setRow_ne (fun e => hxy.o e.symm) (lvA x))
   have bc : Keep (Below w2.heap.size w2 (wb.setRow xg (lvA x))) := ⟨qf bb.o gxg.o _⟩
   generalize wb.setRow xg (lvA x) = wc at *
   refine hK _ _ (hS0.o _ bc.o) fun hHc => kNx ?_
   clear hK
   refine rd1 13 ⟨none, .store 54 (.tmp 7) (.tmp 40), 0, _, _, none⟩ rfl fun K hK => ?_
   refine wp_store_row 54 (.tmp 7) (.tmp 40) rfl yg (lvA y) rfl rfl 54 zLf Yc.o (qA y) rfl (zW (HLy.o w (Below.refl _ _))) ?_
   have Yd := kk (Yc.o.setRow (lvA y))
   have Xd := kk (Xc.o.setRow_ne hxy.o (lvA y))
   have be : Keep (Below w2.heap.size w2 (wc.setRow yg (lvA y))) := ⟨qf bc.o gyg.o _⟩
   generalize wc.setRow yg (lvA y) = wd at *
   have Bd := tb B2 be.o
   refine hK _ _ (hS0.o _ be.o) fun hHd => ?_
   clear hK
   have x0_ : wd.cell? ⟨xg, 0, none⟩ = some (.int .i64 x.num) := Xd.o.c 0 rfl
   have x4_ : wd.cell? ⟨xg, 4, none⟩ = some x.pv := Xd.o.c 4 rfl
   have y0_ : wd.cell? ⟨yg, 0, none⟩ = some (.int .i64 y.num) := Yd.o.c 0 rfl
   have y4_ : wd.cell? ⟨yg, 4, none⟩ = some y.pv := Yd.o.c 4 rfl
   simp only [Act.put, pqA, pqB, pqC]
   refine wpAnyH_done (by kernel_rfl) ?_ _
   refine hK9 _ _ (wp_seq_k fun K10 hK10 => rgn (Vv (.pointer (some ⟨xg, 1, none⟩)) (h:=?_)))
   refine WL.midA (by kernel_rfl) 44 (.tmp 41) rfl xg 1 rfl (cvA x.c) _ (by have h := zn (ql Xd.o); rw [Nat.zero_add] at h; exact h) Try.underlying44 rfl (qw _ _ _) ?_
   simp only [Act.put, pqA, pqB, pqC]
   refine VlS (.pointer (some ⟨yg, 1, none⟩)) ?_
   refine WL.midA (by kernel_rfl) 44 (.tmp 43) rfl yg 1 rfl (cvA y.c) _ (by have h := zn (ql Yd.o); rw [Nat.zero_add] at h; exact h) Try.underlying44 rfl (qw _ _ _) ?_
   simp only [Act.put, pqA, pqB, pqC]
   refine ClS (vs := #[.agg (cvA x.c), .agg (cvA y.c)]) (xQ x.c y.c wd (HLx.o wd Bd.o).row (HLy.o wd Bd.o).row) ?_
   rintro e w5 ⟨rfl, k1⟩
   refine ⟨_, rfl, ?_⟩
   have Xn5 := kbx Xd k1
   have Yn5 := kbx Yd k1
   have Bn5 := tb Bd k1
   have be5 := tb be k1
   clear k1 x0_ x4_ y0_ y4_
   have x0_ : w5.cell? ⟨xg, 0, none⟩ = some (.int .i64 x.num) := Xn5.o.c 0 rfl
   have x4_ : w5.cell? ⟨xg, 4, none⟩ = some x.pv := Xn5.o.c 4 rfl
   have y0_ : w5.cell? ⟨yg, 0, none⟩ = some (.int .i64 y.num) := Yn5.o.c 0 rfl
   have y4_ : w5.cell? ⟨yg, 4, none⟩ = some y.pv := Yn5.o.c 4 rfl
   refine Vv (.bool (jr x.c y.c)) (h:=WL.nil (hK10 _ _ (wp_seq_k fun K11 hK11 => rgn (Vv (.pointer (some ⟨xg, 4, none⟩)) (h:=Vv (x.pv) (h:=Vv (.pointer (some ⟨yg, 4, none⟩)) (h:=Vv (y.pv) (h:=ClS (Xx x.pv y.pv x.ps y.ps w5 ((HLx.o w5 Bn5.o).pa.mono Bn5.o.size) ((HLy.o w5 Bn5.o).pa.mono Bn5.o.size) hPx.o) ?_))))))))
   rintro e w6 ⟨rfl, k1⟩
   refine ⟨_, rfl, ?_⟩
   have Xn6 := kbx Xn5 k1
   have Yn6 := kbx Yn5 k1
   have Bn6 := tb Bn5 k1
   have be6 := tb be5 k1
   clear k1 x0_ x4_ y0_ y4_
   have x0_ : w6.cell? ⟨xg, 0, none⟩ = some (.int .i64 x.num) := Xn6.o.c 0 rfl
   have x4_ : w6.cell? ⟨xg, 4, none⟩ = some x.pv := Xn6.o.c 4 rfl
   have y0_ : w6.cell? ⟨yg, 0, none⟩ = some (.int .i64 y.num) := Yn6.o.c 0 rfl
   have y4_ : w6.cell? ⟨yg, 4, none⟩ = some y.pv := Yn6.o.c 4 rfl
   refine Vv (.bool (decide (x.ps = y.ps))) (h:=WL.nil (hK11 _ _ (wp_seq_k fun K12 hK12 => ?_)))
   cases hnu : decide (x.num = y.num)
   ·have hnq : (x.num == y.num) = false := hnu
    have hnn : ¬ x.num = y.num := of_decide_eq_false hnu
    refine rgn (Vv (.pointer (some ⟨xg, 0, none⟩)) (h:=Vv (.int .i64 x.num) (h:=Vv (.pointer (some ⟨yg, 0, none⟩)) (h:=Vv (.int .i64 y.num) (h:=Vt (h:=Vt (h:=Vs (h:=Vs (h:=Vt (h:=Vt (h:=Vs (h:=Vs (h:=Vt (h:=?_))))))))))))))
    refine WL.nil (hK12 _ _ (Ct (h:=wp_seq_k fun K13 hK13 => rgn (Vf (h:=WL.nil (hK13 _ _ (wp_ret ?_)))))))
    go_ret
    exact ⟨false, rfl, ⟨fun h => (by cases h), fun h => (by have h2 := h.2.2 t x y Hx.o Hy.o; simp [jR, hnn] at h2)⟩, Bn6.o⟩
   ·have hnq : (x.num == y.num) = true := hnu
    have hnn : x.num = y.num := of_decide_eq_true hnu
    cases hsc : jr x.c y.c
    ·refine rgn (Vv (.pointer (some ⟨xg, 0, none⟩)) (h:=Vv (.int .i64 x.num) (h:=Vv (.pointer (some ⟨yg, 0, none⟩)) (h:=Vv (.int .i64 y.num) (h:=Vf (h:=Vf (h:=Vf (h:=Vt (h:=Vt (h:=Vt (h:=Vs (h:=Vs (h:=Vt (h:=?_))))))))))))))
     refine WL.nil (hK12 _ _ (Ct (h:=wp_seq_k fun K14 hK14 => rgn (Vf (h:=WL.nil (hK14 _ _ (wp_ret ?_)))))))
     go_ret
     exact ⟨false, rfl, ⟨fun h => (by cases h), fun h => (by have h2 := h.2.2 t x y Hx.o Hy.o; simp [jR, hsc] at h2)⟩, Bn6.o⟩
    ·cases hph : decide (x.ps = y.ps)
     ·have hpn : ¬ x.ps = y.ps := of_decide_eq_false hph
      refine rgn (Vv (.pointer (some ⟨xg, 0, none⟩)) (h:=Vv (.int .i64 x.num) (h:=Vv (.pointer (some ⟨yg, 0, none⟩)) (h:=Vv (.int .i64 y.num) (h:=Vf (h:=Vf (h:=Vt (h:=Vf (h:=Vf (h:=Vf (h:=Vf (h:=Vt (h:=Vt (h:=?_))))))))))))))
      refine WL.nil (hK12 _ _ (Ct (h:=wp_seq_k fun K15 hK15 => rgn (Vf (h:=WL.nil (hK15 _ _ (wp_ret ?_)))))))
      go_ret
      exact ⟨false, rfl, ⟨fun h => (by cases h), fun h => (by have h2 := h.2.2 t x y Hx.o Hy.o; simp [jR, hpn] at h2)⟩, Bn6.o⟩
     ·refine rgn (Vv (.pointer (some ⟨xg, 0, none⟩)) (h:=Vv (.int .i64 x.num) (h:=Vv (.pointer (some ⟨yg, 0, none⟩)) (h:=Vv (.int .i64 y.num) (h:=Vf (h:=Vf (h:=Vt (h:=Vf (h:=Vf (h:=Vf (h:=Vt (h:=Vf (h:=Vf (h:=?_))))))))))))))
      refine WL.nil (hK12 _ _ (Cf (h:=wp_skip (hK8 _ _ (rgn (Vv (.int .i64 (t : Int)) (h:=Vv (.int .i64 ((t + 1 : Nat) : Int)) (h:=Vv (.int .i64 ((t + 1 : Nat) : Int)) (h:=?_)))))))))
      refine WL.nil ?_
      refine ⟨⟨t + 1, rfl, by omega, be6.o, fun i x' y' hi hx' hy' => ?_⟩, ?_⟩
      ·by_cases e : i = t
       ·subst e
        rw [Hx.o] at hx'
        rw [Hy.o] at hy'
        injection hx' with hx'
        injection hy' with hy'
        subst hx' hy'
        unfold jR
        rw [hnu, hsc, hph]
        rfl
       ·exact HI.o i x' y' (by omega) hx' hy'
      ·simp only [intOf]; show k - (((t + 1 : Nat) : Int)).toNat < k - ((t : Int)).toNat; omega
  ·refine qK 54 rfl _ zd ?_
   have Ya := kk (Blk.new wr.drew 54 zLf)
   have b_ := qg wr.drew (.cells zLf 54)
   generalize wr.drew.alloc (.cells zLf 54) = wa at *
   obtain ⟨yg, hyg⟩ := nm wr.drew
   rw [← hyg.o] at Ya ⊢
   have gyg : Keep (w2.heap.size ≤ yg) := ⟨by rw [hyg.o]; exact bd.o.size⟩
   have ba := tb bd b_
   clear b_
   refine hK _ _ (hS0.o _ ba.o) fun hHa => kNx ?_
   clear hK
   refine rd1 10 ⟨some 6, .alloc 54, 0, _, _, none⟩ rfl fun K hK => ?_
   refine qK 54 rfl _ zd ?_
   have Xb := kk (Blk.new wa 54 zLf)
   have b_ := qg wa (.cells zLf 54)
   generalize wa.alloc (.cells zLf 54) = wb at *
   obtain ⟨xg, hxg⟩ := nm wa
   rw [← hxg.o] at Xb ⊢
   have gxg : Keep (w2.heap.size ≤ xg) := ⟨by rw [hxg.o]; exact ba.o.size⟩
   have bb := tb ba b_
   have Yb := kbx Ya b_
   have hxy : Keep (xg ≠ yg) := ⟨by have := Ya.o.lt; have := hxg.o; omega⟩
   clear b_
   refine hK _ _ (hS0.o _ bb.o) fun hHb => kNx ?_
   clear hK
   refine rd1 12 ⟨none, .store 54 (.tmp 6) (.tmp 35), 0, _, _, none⟩ rfl fun K hK => ?_
   refine wp_store_row 54 (.tmp 6) (.tmp 35) rfl xg (lvA x) rfl rfl 54 zLf Xb.o (qA x) rfl (zW (HLx.o w (Below.refl _ _))) ?_
   have Xc := kk (Xb.o.setRow (lvA x))
   have Yc := kk (Yb.o.setRow_ne (fun e => hxy.o e.symm) (lvA x))
   have bc : Keep (Below w2.heap.size w2 (wb.setRow xg (lvA x))) := ⟨qf bb.o gxg.o _⟩
   generalize wb.setRow xg (lvA x) = wc at *
   refine hK _ _ (hS0.o _ bc.o) fun hHc => kNx ?_
   clear hK
   refine rd1 13 ⟨none, .store 54 (.tmp 7) (.tmp 40), 0, _, _, none⟩ rfl fun K hK => ?_
   refine wp_store_row 54 (.tmp 7) (.tmp 40) rfl yg (lvA y) rfl rfl 54 zLf Yc.o (qA y) rfl (zW (HLy.o w (Below.refl _ _))) ?_
   have Yd := kk (Yc.o.setRow (lvA y))
   have Xd := kk (Xc.o.setRow_ne hxy.o (lvA y))
   have be : Keep (Below w2.heap.size w2 (wc.setRow yg (lvA y))) := ⟨qf bc.o gyg.o _⟩
   generalize wc.setRow yg (lvA y) = wd at *
   have Bd := tb B2 be.o
   refine hK _ _ (hS0.o _ be.o) fun hHd => ?_
   clear hK
   have x0_ : wd.cell? ⟨xg, 0, none⟩ = some (.int .i64 x.num) := Xd.o.c 0 rfl
   have x4_ : wd.cell? ⟨xg, 4, none⟩ = some x.pv := Xd.o.c 4 rfl
   have y0_ : wd.cell? ⟨yg, 0, none⟩ = some (.int .i64 y.num) := Yd.o.c 0 rfl
   have y4_ : wd.cell? ⟨yg, 4, none⟩ = some y.pv := Yd.o.c 4 rfl
   simp only [Act.put, pqA, pqB, pqC]
   refine wpAnyH_done (by kernel_rfl) ?_ _
   refine hK9 _ _ (wp_seq_k fun K16 hK16 => rgn (Vv (.pointer (some ⟨xg, 1, none⟩)) (h:=?_)))
   refine WL.midA (by kernel_rfl) 44 (.tmp 41) rfl xg 1 rfl (cvA x.c) _ (by have h := zn (ql Xd.o); rw [Nat.zero_add] at h; exact h) Try.underlying44 rfl (qw _ _ _) ?_
   simp only [Act.put, pqA, pqB, pqC]
   refine VlS (.pointer (some ⟨yg, 1, none⟩)) ?_
   refine WL.midA (by kernel_rfl) 44 (.tmp 43) rfl yg 1 rfl (cvA y.c) _ (by have h := zn (ql Yd.o); rw [Nat.zero_add] at h; exact h) Try.underlying44 rfl (qw _ _ _) ?_
   simp only [Act.put, pqA, pqB, pqC]
   refine ClS (vs := #[.agg (cvA x.c), .agg (cvA y.c)]) (xQ x.c y.c wd (HLx.o wd Bd.o).row (HLy.o wd Bd.o).row) ?_
   rintro e w5 ⟨rfl, k1⟩
   refine ⟨_, rfl, ?_⟩
   have Xn5 := kbx Xd k1
   have Yn5 := kbx Yd k1
   have Bn5 := tb Bd k1
   have be5 := tb be k1
   clear k1 x0_ x4_ y0_ y4_
   have x0_ : w5.cell? ⟨xg, 0, none⟩ = some (.int .i64 x.num) := Xn5.o.c 0 rfl
   have x4_ : w5.cell? ⟨xg, 4, none⟩ = some x.pv := Xn5.o.c 4 rfl
   have y0_ : w5.cell? ⟨yg, 0, none⟩ = some (.int .i64 y.num) := Yn5.o.c 0 rfl
   have y4_ : w5.cell? ⟨yg, 4, none⟩ = some y.pv := Yn5.o.c 4 rfl
   refine Vv (.bool (jr x.c y.c)) (h:=WL.nil (hK16 _ _ (wp_seq_k fun K17 hK17 => rgn (Vv (.pointer (some ⟨xg, 4, none⟩)) (h:=Vv (x.pv) (h:=Vv (.pointer (some ⟨yg, 4, none⟩)) (h:=Vv (y.pv) (h:=ClS (Xx x.pv y.pv x.ps y.ps w5 ((HLx.o w5 Bn5.o).pa.mono Bn5.o.size) ((HLy.o w5 Bn5.o).pa.mono Bn5.o.size) hPx.o) ?_))))))))
   rintro e w6 ⟨rfl, k1⟩
   refine ⟨_, rfl, ?_⟩
   have Xn6 := kbx Xn5 k1
   have Yn6 := kbx Yn5 k1
   have Bn6 := tb Bn5 k1
   have be6 := tb be5 k1
   clear k1 x0_ x4_ y0_ y4_
   have x0_ : w6.cell? ⟨xg, 0, none⟩ = some (.int .i64 x.num) := Xn6.o.c 0 rfl
   have x4_ : w6.cell? ⟨xg, 4, none⟩ = some x.pv := Xn6.o.c 4 rfl
   have y0_ : w6.cell? ⟨yg, 0, none⟩ = some (.int .i64 y.num) := Yn6.o.c 0 rfl
   have y4_ : w6.cell? ⟨yg, 4, none⟩ = some y.pv := Yn6.o.c 4 rfl
   refine Vv (.bool (decide (x.ps = y.ps))) (h:=WL.nil (hK17 _ _ (wp_seq_k fun K18 hK18 => ?_)))
   cases hnu : decide (x.num = y.num)
   ·have hnq : (x.num == y.num) = false := hnu
    have hnn : ¬ x.num = y.num := of_decide_eq_false hnu
    refine rgn (Vv (.pointer (some ⟨xg, 0, none⟩)) (h:=Vv (.int .i64 x.num) (h:=Vv (.pointer (some ⟨yg, 0, none⟩)) (h:=Vv (.int .i64 y.num) (h:=Vt (h:=Vt (h:=Vs (h:=Vs (h:=Vt (h:=Vt (h:=Vs (h:=Vs (h:=Vt (h:=?_))))))))))))))
    refine WL.nil (hK18 _ _ (Ct (h:=wp_seq_k fun K19 hK19 => rgn (Vf (h:=WL.nil (hK19 _ _ (wp_ret ?_)))))))
    go_ret
    exact ⟨false, rfl, ⟨fun h => (by cases h), fun h => (by have h2 := h.2.2 t x y Hx.o Hy.o; simp [jR, hnn] at h2)⟩, Bn6.o⟩
   ·have hnq : (x.num == y.num) = true := hnu
    have hnn : x.num = y.num := of_decide_eq_true hnu
    cases hsc : jr x.c y.c
    ·refine rgn (Vv (.pointer (some ⟨xg, 0, none⟩)) (h:=Vv (.int .i64 x.num) (h:=Vv (.pointer (some ⟨yg, 0, none⟩)) (h:=Vv (.int .i64 y.num) (h:=Vf (h:=Vf (h:=Vf (h:=Vt (h:=Vt (h:=Vt (h:=Vs (h:=Vs (h:=Vt (h:=?_))))))))))))))
     refine WL.nil (hK18 _ _ (Ct (h:=wp_seq_k fun K20 hK20 => rgn (Vf (h:=WL.nil (hK20 _ _ (wp_ret ?_)))))))
     go_ret
     exact ⟨false, rfl, ⟨fun h => (by cases h), fun h => (by have h2 := h.2.2 t x y Hx.o Hy.o; simp [jR, hsc] at h2)⟩, Bn6.o⟩
    ·cases hph : decide (x.ps = y.ps)
     ·have hpn : ¬ x.ps = y.ps := of_decide_eq_false hph
      refine rgn (Vv (.pointer (some ⟨xg, 0, none⟩)) (h:=Vv (.int .i64 x.num) (h:=Vv (.pointer (some ⟨yg, 0, none⟩)) (h:=Vv (.int .i64 y.num) (h:=Vf (h:=Vf (h:=Vt (h:=Vf (h:=Vf (h:=Vf (h:=Vf (h:=Vt (h:=Vt (h:=?_))))))))))))))
      refine WL.nil (hK18 _ _ (Ct (h:=wp_seq_k fun K21 hK21 => rgn (Vf (h:=WL.nil (hK21 _ _ (wp_ret ?_)))))))
      go_ret
      exact ⟨false, rfl, ⟨fun h => (by cases h), fun h => (by have h2 := h.2.2 t x y Hx.o Hy.o; simp [jR, hpn] at h2)⟩, Bn6.o⟩
     ·refine rgn (Vv (.pointer (some ⟨xg, 0, none⟩)) (h:=Vv (.int .i64 x.num) (h:=Vv (.pointer (some ⟨yg, 0, none⟩)) (h:=Vv (.int .i64 y.num) (h:=Vf (h:=Vf (h:=Vt (h:=Vf (h:=Vf (h:=Vf (h:=Vt (h:=Vf (h:=Vf (h:=?_))))))))))))))
      refine WL.nil (hK18 _ _ (Cf (h:=wp_skip (hK8 _ _ (rgn (Vv (.int .i64 (t : Int)) (h:=Vv (.int .i64 ((t + 1 : Nat) : Int)) (h:=Vv (.int .i64 ((t + 1 : Nat) : Int)) (h:=?_)))))))))
      refine WL.nil ?_
      refine ⟨⟨t + 1, rfl, by omega, be6.o, fun i x' y' hi hx' hy' => ?_⟩, ?_⟩
      ·by_cases e : i = t
       ·subst e
        rw [Hx.o] at hx'
        rw [Hy.o] at hy'
        injection hx' with hx'
        injection hy' with hy'
        subst hx' hy'
        unfold jR
        rw [hnu, hsc, hph]
        rfl
       ·exact HI.o i x' y' (by omega) hx' hy'
      ·simp only [intOf]; show k - (((t + 1 : Nat) : Int)).toNat < k - ((t : Int)).toNat; omega
 ·have htl' : ¬ (t : Int) < (k : Int) := by omega
  refine wp_seq_k fun K22 hK22 => wp_seq_k fun K23 hK23 => rgn (Vv (.int .i64 (t : Int)) (h:=Vv (.pointer (some ⟨p, 1, none⟩)) (h:=Vv (.slice la k ca) (h:=Vv (.int .i64 (k : Int)) (h:=Vf (h:=WL.nil (hK23 _ _ (Cf (h:=wp_exit (hK4 _ _ (wp_seq_k fun K24 hK24 => rgn (Vt (h:=WL.nil (hK24 _ _ (wp_ret ?_)))))))))))))))
  go_ret
  exact ⟨true, rfl, ⟨fun _ => ⟨rfl, by rw [hn.o, hm.o], fun i x y hx hy => HI.o i x y (by have := (List.getElem?_eq_some_iff.mp hx).1; rw [hn.o] at this; omega) hx hy⟩, fun _ => rfl⟩, Br.o⟩
theorem vM (v u : Value) (n m : Int) (ls ms : List LV) (w : World) (hv : LsV w.heap.size w v ls) (hu : LsV w.heap.size w u ms) (hN : ls.length ≤ 4398046511104) (hS : ∀ x ∈ ls, x.ps.length ≤ 4398046511104) : Calls Try.prog 10 #[.agg (wtA n v), .agg (wtA m u)] w (SwP n ls m ms w) := by
 obtain ⟨la, ca, rfl, h1⟩ := hv.form
 obtain ⟨lb, cb, rfl, h2⟩ := hu.form
 by_cases e : n = m
 ·subst e
  by_cases hl : ls.length = ms.length
  ·rw [← hl] at h2 ⊢
   exact US la lb _ ca cb n ls ms w ⟨rfl⟩ ⟨hl.symm⟩ ⟨hN⟩ ⟨h1⟩ ⟨h2⟩ ⟨hS⟩
  ·exact Gi la lb _ ca _ cb n ls ms w hl ⟨fun h => hl h.2.1⟩
 ·exact Gh la lb _ ca _ cb n ls ms w m e ⟨fun h => e h.1⟩
end Go.Proofs.Ytdpcjfafbmhceaa
