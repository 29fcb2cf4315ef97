import Derived.Test.YtdpcjfafbmhceaaA17
import Derived.Test.YtdpcjfafbmhceaaA10
import Derived.Test.YtdpcjfafbmhceaaA15
import Derived.Test.YtdpcjfafbmhceaaA16
set_option maxRecDepth 8000
set_option maxHeartbeats 4000000
namespace Go.Proofs.Ytdpcjfafbmhceaa
open Go.RowKit
set_option linter.unusedSimpArgs false
set_option linter.unusedVariables false
theorem UG (w : World) (vs : Array Value) : (callFunc 15 vs).run Try.prog w = .ok (.enter 15 vs) w := by kernel_rfl
theorem PathR.hpa {B : Nat} {w : World} {v : Value} {ps : List Hs} (h : PathR B w v ps) : HPa w.heap.size w v ps := by
 obtain ⟨g, cap, rfl, ho⟩ := h.ex
 have hc := jE ho
 refine .inr ⟨g, 0, cap, rfl, by omega, hc.2.2, fun j u hu => ?_⟩
 have hl := (List.getElem?_eq_some_iff.mp hu).1
 have h1 := World.ownsRow.cells (g := g) ho rfl j u (by rw [List.getElem?_append_left hl]; exact hu)
 rw [Addr.add_mid] at h1
 exact h1
theorem PathR.mark {B : Nat} {w : World} {g n cap : Nat} {ps : List Hs} (h : PathR B w (.slice (some ⟨g, 0, none⟩) n cap) ps) : ps.length + 1 ≤ cap ∧ w.rangeAt g (ps.length * 32) (qb 32 mk3).toList := by
 obtain ⟨g', cap', e, ho⟩ := h.ex
 cases e
 refine ⟨(jE ho).1, fun j u hu => ?_⟩
 have h1 := World.ownsRow.cells (g := g) ho rfl (ps.length * 32 + j) u (by rw [List.getElem?_append_right (by rw [jy]; omega), jy, Nat.add_sub_cancel_left]; exact hu)
 rw [Addr.add_mid, Nat.zero_add] at h1
 exact h1
theorem CpAt.cells {B : Nat} {ls : List LV} {w : World} {g n cap : Nat} {OL : List LV} (h : CpAt B ls w (.slice (some ⟨g, 0, none⟩) n cap) OL) : OL.length + 1 ≤ cap ∧ g < w.heap.size ∧ w.cell? ⟨g, OL.length * 5, none⟩ = some (.int .i64 (-6)) ∧ ∀ (i : Nat) (y : LV), OL[i]? = some y → w.rangeAt g (i * 5) (lvA y).toList := by
 obtain ⟨g', cap', e, ho⟩ := h.own
 cases e
 have hfl : (OL.flatMap fun x => (lvA x).toList).length = OL.length * 5 := by
  have h1 := ho.1
  rw [List.length_append, show (lfN (-6)).toList.length = 5 from rfl] at h1
  omega
 refine ⟨(jE ho).1, (jE ho).2.2, ?_, fun i y hy j u hu => ?_⟩
 ·have h1 := World.ownsRow.cells (g := g) ho rfl (OL.length * 5) (.int .i64 (-6)) (by rw [List.getElem?_append_right (by omega), hfl, Nat.sub_self]; rfl)
  rw [Addr.add_mid, Nat.zero_add] at h1
  exact h1
 ·have hj := (List.getElem?_eq_some_iff.mp (KX OL i y hy j u hu)).1
  have h1 := World.ownsRow.cells (g := g) ho rfl (i * 5 + j) u (by rw [List.getElem?_append_left hj]; exact KX OL i y hy j u hu)
  rw [Addr.add_mid, Nat.zero_add] at h1
  exact h1
theorem CpAt.lf {B : Nat} {ls : List LV} {w : World} {v : Value} {OL : List LV} (h : CpAt B ls w v OL) (y : LV) (hy : y ∈ OL) : LfAt w.heap.size w y :=
 ⟨(h.val y hy).1.row, fun _ k hk => ((h.val y hy).1.typ hk).lt, (h.pth y hy).hpa⟩
theorem CpAt.lsv {B : Nat} {ls : List LV} {w : World} {v : Value} {OL : List LV} (h : CpAt B ls w v OL) : LsV w.heap.size w v OL := by
 have h' := h
 obtain ⟨g, cap, rfl, ho⟩ := h.own
 have hc := h'.cells
 exact .inr ⟨g, 0, cap, rfl, by omega, hc.2.1, fun i y hy => by rw [Nat.zero_add]; exact hc.2.2.2 i y hy, fun y hy => h'.lf y hy⟩
theorem LEq.same {y x : LV} (h : LEq y x) : jR y x = true := by
 have h1 := vQ h.k h.s h.l
 unfold jR
 simp [h1, h.n, h.p]
theorem CpAt.same {B : Nat} {ls : List LV} {w : World} {v : Value} {OL : List LV} (h : CpAt B ls w v OL) (N : Int) : QD N OL N ls :=
 ⟨rfl, h.len, fun i y x hy hx => by
  obtain ⟨x', hx', he⟩ := h.each i y hy
  rw [hx] at hx'
  cases hx'
  exact he.same⟩
theorem DF (w : World) : (Op.equalIn 10000 32 (.agg (qb 32 mk3)) (.agg (qb 32 mk3))).run Try.prog w = .ok true w := by kernel_rfl
theorem Ye (B : Nat) (v u : Value) (OL ls : List LV) (N : Int) (w : World) (hC : CpAt B ls w v OL) (hL : LsV w.heap.size w u ls) (h200 : ls.length ≤ 200) (hln : ∀ x ∈ ls, x.c.l.length ≤ 134217728 ∧ x.ps.length ≤ 10000000) : Calls Try.prog 15 #[.agg (wtA N v), .agg (wtA N u)] w fun e w' => e = .returned (.bool true) ∧ Below w.heap.size w w' := by
 obtain ⟨n, hm⟩ : ∃ z, Keep (ls.length = z) := ⟨_, ⟨rfl⟩⟩
 have hlen : Keep (OL.length = n) := ⟨by rw [hC.len, hm.o]⟩
 obtain ⟨g, gc, hgv, _⟩ := hC.own
 rw [hlen.o] at hgv
 subst hgv
 obtain ⟨la, lc, hlv, _⟩ := hL.form
 rw [hm.o] at hlv
 subst hlv
 have HSp : Keep (∀ y ∈ OL, y.ps.length ≤ 4398046511104) := ⟨fun y hy => by
  obtain ⟨i, hi⟩ := List.getElem?_of_mem hy
  obtain ⟨x, hx, he⟩ := hC.each i y hi
  rw [he.p]
  have := (hln x (List.mem_of_getElem? hx)).2
  omega⟩
 have HSv0 : Keep (∀ y ∈ OL, y.c.l.length ≤ 134217728) := ⟨fun y hy => by
  obtain ⟨i, hi⟩ := List.getElem?_of_mem hy
  obtain ⟨x, hx, he⟩ := hC.each i y hi
  rw [he.l]
  exact (hln x (List.mem_of_getElem? hx)).1⟩
 have HC := kk hC
 have HL := kk hL
 have hn200 : Keep (n ≤ 200) := ⟨by rw [← hm.o]; exact h200⟩
 clear hC hL h200 hln
 go_enter Try.func15, Try.ntmps15
 refine wp_seq_k fun K1 hK1 => rgn (GS 25 (.tmp 0) (wtA N (.slice (some ⟨g, 0, none⟩) n gc)) fun b2 w1 hb2 H2 B1 => ?_)
 clear hb2
 refine DT 25 (.tmp 1) (wtA N (.slice la n lc)) fun b3 w2 hb3 H3 b_ => ?_
 have H2 := kbx H2 b_
 have B2 := tb B1 b_
 have HC2 := kk (HC.o.below B2.o)
 have HL2 := kk ((HL.o.below B2.o).mono B2.o.size)
 clear b_ hb3 B1
 refine Vf (h:=WL.nil (hK1 _ _ (wp_seq_k fun K2 hK2 => wp_seq_k fun K3 hK3 => rgn (Vr H2.o (qD _ _) (h:=Vr H3.o (qD _ _) (h:=?_))))))
 refine WL.callF (by kernel_rfl) 10 _ _ rfl UH #[.agg (wtA N (.slice (some ⟨g, 0, none⟩) n gc)), .agg (wtA N (.slice la n lc))] (by simp [Act.eval]) ?_
 refine (vM (.slice (some ⟨g, 0, none⟩) n gc) (.slice la n lc) N N OL ls w2 HC2.o.lsv HL2.o (by rw [HC.o.len, hm.o]; have := hn200.o; omega) (fun y hy => HSp.o y hy)).mono ?_
 rintro e w3 ⟨b_, rfl, k1, k2⟩
 refine ⟨_, rfl, ?_⟩
 have hb_ : b_ = true := k1.mpr (HC.o.same N)
 subst hb_
 have C2 := kbx H2 k2
 have C3 := kbx H3 k2
 have B3 := tb B2 k2
 have HC3 := kk (HC2.o.below k2)
 have HL3 : Keep (0 < n → ∃ b off, la = some ⟨b, off, none⟩ ∧ LsAt w3.heap.size w3 b off ls) := ⟨fun h => by
  obtain ⟨la', c', e, h2⟩ := ((HL2.o.below k2).mono k2.size).form
  rw [hm.o] at e h2
  injection e with e1
  subst e1
  exact h2 h⟩
 clear k1 k2 H2 H3 HC2 HL2 B2
 simp only [Act.put, pqA, pqB, pqC]
 refine Vf (h:=WL.nil (hK3 _ _ (Cf (h:=wp_skip (hK2 _ _ (wp_seq_k fun K4 hK4 => wp_seq_k fun K5 hK5 => rgn (Vv (.int .i64 0) (h:=WL.nil (hK5 _ _ (wp_block (?_)))))))))))
 refine wp_loop (fun ac wr => ∃ (t : Nat) (u4 u6 u7 u13 u14 u15 u16 u17 u18 u19 u20 u21 u22 u23 u24 u25 u26 u27 u28 u29 u30 u31 u32 u33 u34 u35 u36 u37 u38 u39 u40 u41 u42 u43 u44 u45 u46 u47 u48 u49 u50 u51 u52 u53 : Value), ac = { tmps := #[.agg (wtA N (.slice (some ⟨g, 0, none⟩) n gc)), .agg (wtA N (.slice la n lc)), .pointer (some ⟨b2, 0, none⟩), .pointer (some ⟨b3, 0, none⟩), u4, .int .i64 (t : Int), u6, u7, undef, .agg (wtA N (.slice (some ⟨g, 0, none⟩) n gc)), .agg (wtA N (.slice la n lc)), .bool true, .bool false, u13, u14, u15, u16, u17, u18, u19, u20, u21, u22, u23, u24, u25, u26, u27, u28, u29, u30, u31, u32, u33, u34, u35, u36, u37, u38, u39, u40, u41, u42, u43, u44, u45, u46, u47, u48, u49, u50, u51, u52, u53, undef, undef, undef, undef, undef, undef, undef, undef, undef, undef, undef, undef, undef, undef, undef], defers := [] } ∧ t ≤ n ∧ Below w3.heap.size w3 wr) (fun a _ => n - (intOf (a.tmps.getD 5 undef)).toNat) ⟨0, .bool false, undef, undef, undef, undef, undef, undef, undef, undef, undef, undef, undef, undef, undef, undef, undef, undef, undef, undef, undef, undef, undef, undef, undef, undef, undef, undef, undef, undef, undef, undef, undef, undef, undef, undef, undef, undef, undef, undef, undef, undef, undef, undef, undef, rfl, Nat.zero_le _, Below.refl _ _⟩ ?_
 rintro ac wr ⟨t, u4, u6, u7, u13, u14, u15, u16, u17, u18, u19, u20, u21, u22, u23, u24, u25, u26, u27, u28, u29, u30, u31, u32, u33, u34, u35, u36, u37, u38, u39, u40, u41, u42, u43, u44, u45, u46, u47, u48, u49, u50, u51, u52, u53, rfl, ht, hb⟩
 have JB := kk hb
 clear hb
 have D2 := kbx C2 JB.o
 have D3 := kbx C3 JB.o
 have c3_ : wr.cell? ⟨b3, 1, none⟩ = some (.slice la n lc) := D3.o.c 1 rfl
 have c2_ : wr.cell? ⟨b2, 1, none⟩ = some (.slice (some ⟨g, 0, none⟩) n gc) := D2.o.c 1 rfl
 by_cases htl : t < n
 ·have htl' : (t : Int) < (n : Int) := by omega
  obtain ⟨b, off, hla, hcx⟩ := HL3.o (by omega)
  subst hla
  have HX := kk (hcx.below JB.o)
  clear hcx
  have HCr := kk (HC3.o.below JB.o)
  obtain ⟨y, Hy⟩ : ∃ z, Keep (OL[t]? = some z) := ⟨OL[t]'(by rw [hlen.o]; exact htl), ⟨List.getElem?_eq_getElem _⟩⟩
  have hym := kk (List.mem_of_getElem? Hy.o)
  obtain ⟨x, hx0, he0⟩ := HC.o.each t y Hy.o
  have Hx := kk hx0
  have HE := kk he0
  have hxm := kk (List.mem_of_getElem? hx0)
  clear hx0 he0
  obtain ⟨pg, pc, hyp, _⟩ := (HC.o.pth y hym.o).ex
  have hyp := kk hyp
  have HSy := kk (HSp.o y hym.o)
  have HSv := kk (HSv0.o y hym.o)
  have PRr := kk (HCr.o.pth y hym.o)
  rw [hyp.o] at PRr
  have hmk := kk PRr.o.mark.1
  have hw3 : IntKind.i64.wrap ((t : Int) + 1) = ((t + 1 : Nat) : Int) := by rw [IntKind.wrap_i64]; have := hn200.o; omega
  have hw4 : IntKind.i64.wrap ((y.ps.length : Int) + 1) = ((y.ps.length + 1 : Nat) : Int) := by rw [IntKind.wrap_i64]; have := HSy.o; omega
  have hnn : ¬ (y.ps.length : Int) + 1 ≤ (y.ps.length : Int) := by omega
  refine wp_seq_k fun K6 hK6 => wp_seq_k fun K7 hK7 => rgn (Vv (.int .i64 (t : Int)) (h:=Vv (.pointer (some ⟨b3, 1, none⟩)) (h:=Vv (.slice (some ⟨b, off, none⟩) n lc) (h:=Vv (.int .i64 (n : Int)) (h:=Vt (h:=WL.nil (hK7 _ _ (Ct (h:=wp_skip (hK6 _ _ (wp_seq_k fun K8 hK8 => wp_block (wp_seq_k fun K9 hK9 => rgn (Vv (.pointer (some ⟨b2, 1, none⟩)) (h:=?_))))))))))))))
  refine Vv (.slice (some ⟨g, 0, none⟩) n gc) (h:=Vv (.int .i64 (t : Int)) (h:=Vv (.pointer (some ⟨g, t * 5, none⟩)) (h:=?_)))
  refine WL.midA (by kernel_rfl) 54 (.tmp 23) rfl g (t * 5) rfl (lvA y) _ (HCr.o.cells.2.2.2 t y Hy.o) Try.underlying54 rfl (qA y) ?_
  simp only [Act.put, pqA, pqB, pqC]
  refine zO 54 zd fun b6 w5 hb6 F5 BE5 => ?_
  have ge6 := lh hb6
  refine StR (lvA y) F5.o (qA y) rfl (zW (HCr.o.lf y hym.o)) ?_
  have F6 := kk (F5.o.setRow (lvA y))
  have BE6 : Keep (Below wr.heap.size wr (w5.setRow b6 (lvA y))) := ⟨qf BE5.o ge6.o _⟩
  generalize w5.setRow b6 (lvA y) = w6 at *
  clear F5 BE5 c3_ c2_
  have c4_ : w6.cell? ⟨b6, 4, none⟩ = some (.slice (some ⟨pg, 0, none⟩) y.ps.length pc) := by rw [← hyp.o]; exact F6.o.c 4 rfl
  refine WL.nil (hK9 _ _ (wp_seq_k fun K10 hK10 => rgn (Vv (.pointer (some ⟨b6, 4, none⟩)) (h:=Vv (.slice (some ⟨pg, 0, none⟩) y.ps.length pc) (h:=Vv (.pointer (some ⟨b6, 4, none⟩)) (h:=Vv (.slice (some ⟨pg, 0, none⟩) y.ps.length pc) (h:=Vv (.int .i64 (y.ps.length : Int)) (h:=Vv (.int .i64 ((y.ps.length + 1 : Nat) : Int)) (h:=?_)))))))))
  refine WL.slr (by kernel_rfl) 52 (.tmp 26) none (some (.tmp 30)) rfl (.slice (some ⟨pg, 0, none⟩) y.ps.length pc) none (some (.int .i64 ((y.ps.length + 1 : Nat) : Int))) (.slice (some ⟨pg, 0, none⟩) (y.ps.length + 1) pc) rfl rfl rfl (Xy _ _ _ _ hmk.o w6) ?_
  clear c4_
  simp only [Act.put, pqA, pqB, pqC]
  refine Vv (.slice (some ⟨pg, 0, none⟩) (y.ps.length + 1) pc) (h:=WL.nil (hK10 _ _ (wp_seq_k fun K11 hK11 => ?_)))
  have hS0 : Keep (∀ wx : World, Below w6.heap.size w6 wx → (fun wx => wx.rangeAt pg (y.ps.length * 32) (qb 32 mk3).toList ∧ wx.cell? ⟨b6, 4, none⟩ = some (.slice (some ⟨pg, 0, none⟩) y.ps.length pc) ∧ wx.cell? ⟨b6, 3, none⟩ = some y.c.v ∧ wx.cell? ⟨b3, 1, none⟩ = some (.slice (some ⟨b, off, none⟩) n lc) ∧ wx.cell? ⟨b, off + t * 5 + 3, none⟩ = some x.c.v) wx) := ⟨fun wx hg => by
   have hwr : Below wr.heap.size wr wx := BE6.o.trans (hg.mono BE6.o.size)
   refine ⟨(PRr.o.grown (gF hwr) fun _ _ e => e).mark.2, by rw [← hyp.o]; exact (F6.o.below hg F6.o.lt).c 4 rfl, (F6.o.below hg F6.o.lt).c 3 rfl, (D3.o.below hwr D3.o.lt).c 1 rfl, ?_⟩
   have h5 := (HX.o.below (hwr.mono JB.o.size)).at_ t x Hx.o 3 _ rfl
   exact h5⟩
  have HW : Keep (∀ wx : World, Below w6.heap.size w6 wx → WideAt wx y.c.v x.c.l ∧ RowAt wx x.c.v x.c.l) := ⟨fun wx hg => by
   have hwr : Below wr.heap.size wr wx := BE6.o.trans (hg.mono BE6.o.size)
   exact ⟨by rw [← HE.o.l]; exact (HCr.o.val y hym.o).1.grown (gF hwr) fun _ _ e => e, ((HX.o.below (hwr.mono JB.o.size)).lf x hxm.o).row⟩⟩
  refine wp_region_held_drew (S := fun wx => wx.rangeAt pg (y.ps.length * 32) (qb 32 mk3).toList ∧ wx.cell? ⟨b6, 4, none⟩ = some (.slice (some ⟨pg, 0, none⟩) y.ps.length pc) ∧ wx.cell? ⟨b6, 3, none⟩ = some y.c.v ∧ wx.cell? ⟨b3, 1, none⟩ = some (.slice (some ⟨b, off, none⟩) n lc) ∧ wx.cell? ⟨b, off + t * 5 + 3, none⟩ = some x.c.v) (by kernel_rfl) (hS0.o _ (Below.refl _ _).drew) (fun hHeld => ?_)
  have BD : Keep (Below w6.heap.size w6 w6.drew) := ⟨(Below.refl _ _).drew⟩
  generalize w6.drew = wd at *
  refine uM 0 ⟨some 32, .move (.tmp 7), 52, _, _, none⟩ (.slice (some ⟨pg, 0, none⟩) (y.ps.length + 1) pc) rfl hHeld ?_
  refine uM 1 ⟨some 33, .fieldAddr 54 (.tmp 6) 2, 0, _, _, none⟩ (.pointer (some ⟨b6, 4, none⟩)) rfl hHeld ?_
  refine uS 6 ⟨some 38, .build 32 #[(3, .const (Value.int IntKind.u8 3))], 32, _, _, none⟩ (.agg (qb 32 mk3)) rfl (yi fun w hS => by clear hS; go_simp; rfl) hHeld ?_
  refine uM 2 ⟨some 34, .load 52 (.tmp 33), 52, _, _, none⟩ (.slice (some ⟨pg, 0, none⟩) y.ps.length pc) rfl hHeld ?_
  refine uM 3 ⟨some 35, .call { callee := .builtin .len, args := #[.tmp 34], argTypes := #[52] }, 3, _, _, none⟩ (.int .i64 (y.ps.length : Int)) rfl hHeld ?_
  refine uM 4 ⟨some 36, .indexAddr 52 (.tmp 32) (.tmp 35), 0, _, _, none⟩ (.pointer (some ⟨pg, y.ps.length * 32, none⟩)) rfl hHeld ?_
  refine uS 5 ⟨some 37, .load 32 (.tmp 36), 32, _, _, none⟩ (.agg (qb 32 mk3)) rfl (qv (by rfl) (.tmp 36) 32 rfl pg (y.ps.length * 32) rfl (qb 32 mk3) _ Try.underlying32 rfl (QI _) fun w hS => hS.1) hHeld ?_
  refine uS 7 ⟨some 39, .binOp BinOp.neq 32 (.tmp 37) (.tmp 38) 32, 4, _, _, none⟩ (.bool false) rfl (yi fun w hS => by have hq_ := DF w; clear hS; go_simp) hHeld ?_
  refine uM 8 ⟨some 40, .move (.tmp 39), 4, _, _, none⟩ (.bool false) rfl hHeld ?_
  refine uM 9 ⟨some 41, .fieldAddr 54 (.tmp 6) 1, 0, _, _, some (8, false)⟩ (.pointer (some ⟨b6, 1, none⟩)) rfl hHeld ?_
  refine uM 12 ⟨some 44, .fieldAddr 25 (.tmp 3) 1, 0, _, _, some (8, false)⟩ (.pointer (some ⟨b3, 1, none⟩)) rfl hHeld ?_
  refine uM 14 ⟨some 46, .move (.tmp 5), 3, _, _, some (8, false)⟩ (.int .i64 (t : Int)) rfl hHeld ?_
  refine uM 10 ⟨some 42, .fieldAddr 44 (.tmp 41) 2, 0, _, _, some (8, false)⟩ (.pointer (some ⟨b6, 3, none⟩)) rfl hHeld ?_
  refine uM 13 ⟨some 45, .load 23 (.tmp 44), 23, _, _, some (8, false)⟩ (.slice (some ⟨b, off, none⟩) n lc) rfl hHeld ?_
  refine uM 11 ⟨some 43, .load 42 (.tmp 42), 42, _, _, some (8, false)⟩ y.c.v rfl hHeld ?_
  refine uM 15 ⟨some 47, .indexAddr 23 (.tmp 45) (.tmp 46), 0, _, _, some (8, false)⟩ (.pointer (some ⟨b, off + t * 5, none⟩)) rfl hHeld ?_
  refine uM 16 ⟨some 48, .fieldAddr 54 (.tmp 47) 1, 0, _, _, some (8, false)⟩ (.pointer (some ⟨b, off + t * 5 + 1, none⟩)) rfl hHeld ?_
  refine uM 17 ⟨some 49, .fieldAddr 44 (.tmp 48) 2, 0, _, _, some (8, false)⟩ (.pointer (some ⟨b, off + t * 5 + 3, none⟩)) rfl hHeld ?_
  refine uM 18 ⟨some 50, .load 42 (.tmp 49), 42, _, _, some (8, false)⟩ x.c.v rfl hHeld ?_
  refine rd1 19 ⟨some 51, .call { callee := .value (.func 34), args := #[.tmp 43, .tmp 50], argTypes := #[42, 42] }, 4, _, _, some (8, false)⟩ rfl fun K hK => ?_
  refine qz 34 _ _ rfl Qu #[y.c.v, x.c.v] (by simp [Act.eval]) (fun vz wz => vz = .bool true ∧ wz = wd) ?_ ?_
  ·refine (KV y.c.v x.c.v x.c.l wd (HW.o wd BD.o).1 (HW.o wd BD.o).2 (by have := HSv.o; rw [HE.o.l] at this; omega)).mono ?_
   rintro e wz ⟨rfl, hb⟩
   exact ⟨_, rfl, rfl, hb⟩
  rintro vz wb ⟨rfl, hb⟩
  subst hb
  refine hK _ _ (hS0.o _ BD.o) fun hHb => kNx ?_
  clear hK
  refine uM 20 ⟨some 52, .unOp UnOp.not 4 (.tmp 51), 4, _, _, some (8, false)⟩ (.bool false) rfl hHb ?_
  refine uM 21 ⟨some 53, .pick (.tmp 40) (.const (Value.bool true)) (.tmp 52), 4, _, _, none⟩ (.bool false) rfl hHb ?_
  refine wpAnyH_done (by kernel_rfl) ?_ _
  refine hK11 _ _ (Cf (h:=wp_skip (hK8 _ _ (rgn (Vv (.int .i64 (t : Int)) (h:=Vv (.int .i64 ((t + 1 : Nat) : Int)) (h:=Vv (.int .i64 ((t + 1 : Nat) : Int)) (h:=?_))))))))
  refine WL.nil ?_
  refine ⟨⟨t + 1, u4, .pointer (some ⟨b6, 0, none⟩), .slice (some ⟨pg, 0, none⟩) (y.ps.length + 1) pc, .int .i64 (t : Int), .pointer (some ⟨b3, 1, none⟩), .slice (some ⟨b, off, none⟩) n lc, .int .i64 (n : Int), .bool true, .int .i64 (t : Int), .int .i64 ((t + 1 : Nat) : Int), .pointer (some ⟨b2, 1, none⟩), .slice (some ⟨g, 0, none⟩) n gc, .int .i64 (t : Int), .pointer (some ⟨g, t * 5, none⟩), .agg (lvA y), .pointer (some ⟨b6, 4, none⟩), .slice (some ⟨pg, 0, none⟩) y.ps.length pc, .pointer (some ⟨b6, 4, none⟩), .slice (some ⟨pg, 0, none⟩) y.ps.length pc, .int .i64 (y.ps.length : Int), .int .i64 ((y.ps.length + 1 : Nat) : Int), .slice (some ⟨pg, 0, none⟩) (y.ps.length + 1) pc, .slice (some ⟨pg, 0, none⟩) (y.ps.length + 1) pc, .pointer (some ⟨b6, 4, none⟩), .slice (some ⟨pg, 0, none⟩) y.ps.length pc, .int .i64 (y.ps.length : Int), .pointer (some ⟨pg, y.ps.length * 32, none⟩), .agg (qb 32 mk3), .agg (qb 32 mk3), .bool false, .bool false, .pointer (some ⟨b6, 1, none⟩), .pointer (some ⟨b6, 3, none⟩), y.c.v, .pointer (some ⟨b3, 1, none⟩), .slice (some ⟨b, off, none⟩) n lc, .int .i64 (t : Int), .pointer (some ⟨b, off + t * 5, none⟩), .pointer (some ⟨b, off + t * 5 + 1, none⟩), .pointer (some ⟨b, off + t * 5 + 3, none⟩), x.c.v, .bool true, .bool false, .bool false, rfl, by omega, JB.o.trans ((BE6.o.trans (BD.o.mono BE6.o.size)).mono JB.o.size)⟩, by simp [intOf]; omega⟩
 ·have htl' : ¬ (t : Int) < (n : Int) := by omega
  have hwn : IntKind.i64.wrap ((n : Int) + 1) = ((n + 1 : Nat) : Int) := by rw [IntKind.wrap_i64]; have := hn200.o; omega
  have hnn : ¬ (n : Int) + 1 ≤ (n : Int) := by omega
  have HCr := kk (HC3.o.below JB.o).cells
  have hcap : Keep (n + 1 ≤ gc) := ⟨by have h := HCr.o.1; rw [hlen.o] at h; exact h⟩
  have c6_ : wr.cell? ⟨g, n * 5, none⟩ = some (.int .i64 (-6)) := by have h := HCr.o.2.2.1; rw [hlen.o] at h; exact h
  refine wp_seq_k fun K12 hK12 => wp_seq_k fun K13 hK13 => rgn (Vv (.int .i64 (t : Int)) (h:=Vv (.pointer (some ⟨b3, 1, none⟩)) (h:=Vv (.slice la n lc) (h:=Vv (.int .i64 (n : Int)) (h:=Vf (h:=WL.nil (hK13 _ _ (Cf (h:=wp_exit (hK4 _ _ (wp_seq_k fun K14 hK14 => rgn (Vv (.pointer (some ⟨b2, 1, none⟩)) (h:=Vv (.slice (some ⟨g, 0, none⟩) n gc) (h:=Vv (.pointer (some ⟨b3, 1, none⟩)) (h:=?_)))))))))))))))
  refine Vv (.slice la n lc) (h:=Vv (.int .i64 (n : Int)) (h:=Vv (.int .i64 ((n + 1 : Nat) : Int)) (h:=?_)))
  refine WL.slr (by kernel_rfl) 23 (.tmp 55) none (some (.tmp 59)) rfl (.slice (some ⟨g, 0, none⟩) n gc) none (some (.int .i64 ((n + 1 : Nat) : Int))) (.slice (some ⟨g, 0, none⟩) (n + 1) gc) rfl rfl rfl (VV _ _ _ _ hcap.o _) ?_
  simp only [Act.put, pqA, pqB, pqC]
  refine Vv (.slice (some ⟨g, 0, none⟩) (n + 1) gc) (h:=WL.nil (hK14 _ _ (wp_seq_k fun K15 hK15 => rgn (Vv (.slice (some ⟨g, 0, none⟩) (n + 1) gc) (h:=Vv (.pointer (some ⟨b3, 1, none⟩)) (h:=Vv (.slice la n lc) (h:=Vv (.int .i64 (n : Int)) (h:=Vv (.pointer (some ⟨g, n * 5, none⟩)) (h:=Vv (.pointer (some ⟨g, n * 5, none⟩)) (h:=Vv (.int .i64 (-6)) (h:=Vt (h:=Vt (h:=WL.nil (hK15 _ _ (wp_ret ?_)))))))))))))))
  go_ret
  exact ⟨rfl, B3.o.trans (JB.o.mono B3.o.size)⟩
theorem Do (n : Int) (a : Option Addr) (k c : Nat) : Try.prog.built 25 [(0, .int .i64 n), (1, .slice a k c)] = some #[.int .i64 n, .slice a k c] := by kernel_rfl
theorem Xj (x : LV) (w : World) (h1 : ∃ a n c, x.c.v = .slice a n c) (h2 : ∃ a n c, x.pv = .slice a n c) : (Instr.buildSlice 23 1 #[(0, .agg (lvA x))]).run Try.prog w = .ok (.slice (some ⟨w.heap.size, 0, none⟩) 1 1) (w.alloc (.cells (lvA x) 54)) := by
 obtain ⟨num, ⟨k, s, v, l⟩, pv, ps⟩ := x
 obtain ⟨a, n, c, rfl⟩ := h1
 obtain ⟨a', n', c', rfl⟩ := h2
 exact Um num k s a n c a' n' c' w
theorem yV (x : LV) (h1 : ∃ a n c, x.c.v = .slice a n c) (h2 : ∃ a n c, x.pv = .slice a n c) : (lvA x).all (·.oneCell') = true := by
 obtain ⟨num, ⟨k, s, v, l⟩, pv, ps⟩ := x
 obtain ⟨a, n, c, rfl⟩ := h1
 obtain ⟨a', n', c', rfl⟩ := h2
 simp [lvA, Value.oneCell']
theorem FI.lay {B : Nat} {w0 wr : World} {d n : Nat} {vl : Value} {L : List CV} {ns : List Nat} {u : Nat} {ls : List LV} (h : FI B w0 wr d n vl L ns u ls) (x : LV) (k : Nat) (c : CV) (wb wc : World) (v9 : Value)
  (hb : Below wr.heap.size wr wb) (hOx : Own wb x.c.v x.c.l) (hPx : wb.ownsRow B 32 32 x.pv x.ps.length (qF x.ps))
  (hOc : wc.ownsRow w0.heap.size 54 5 v9 (u + 1) ((ls.flatMap fun x => (lvA x).toList) ++ (lvA x).toList)) (hGc : Grown wb wc (fun k => vl.ownBlock = some k))
  (hk : ns[u]? = some k) (hc : L[k]? = some c) (e1 : x.num = (k : Int)) (e2 : x.c.k = c.k) (e3 : x.c.s = c.s) (e4 : x.c.l = c.l) (e5 : x.ps.map hsL = zG L.length L k) :
  FI B w0 (wc.setCell ⟨d, 1, none⟩ v9) d n v9 L ns (u + 1) (ls ++ [x]) := by
 have hvb : ∀ k, vl.ownBlock = some k → w0.heap.size ≤ k ∧ Typ wb k 54 := fun k hk => ⟨(zV h.own k hk).1, qn (qj h.own hb) hk⟩
 have hDb : Blk wb d 25 #[.int .i64 (n : Int), vl] := h.bd.below hb h.bd.lt
 have hDc : Blk wc d 25 #[.int .i64 (n : Int), vl] := hGc.blk hDb fun e => absurd ((hvb _ e).2.one hDb.typ) (by decide)
 have g_ : Grown wc (wc.setCell ⟨d, 1, none⟩ v9) (fun k => k = d) := Grown.setCell wc d 1 _ fun _ => rfl
 have hall : ∀ {B T s n' : Nat} {v : Value} {xs : List Value}, wb.ownsRow B T s v n' xs → T ≠ 54 → T ≠ 25 → (wc.setCell ⟨d, 1, none⟩ v9).ownsRow B T s v n' xs := fun ho h1 h2 =>
  qo (qo ho hGc fun k hk e => h1 ((qn ho hk).one (hvb k e).2)) g_ fun k hk e => h2 (Typ.one (e ▸ qn ho hk) hDb.typ)
 have hGb : Grown wr wc (fun k => k ≠ d ∧ w0.heap.size ≤ k) := (Grown.below (S := fun k => k ≠ d ∧ w0.heap.size ≤ k) hb).next hGc fun i _ e => ⟨fun ed => by subst ed; exact absurd ((hvb _ e).2.one hDb.typ) (by decide), (hvb i e).1⟩
 refine ⟨(h.gr.next hGb fun i hi e => by have := e.2; omega).trans g_, hDc.set 1 v9, ?_, by rw [List.length_append, h.len]; rfl, fun y hy => ?_, fun j k' y hj hy => ?_⟩
 ·rw [List.flatMap_append, show List.flatMap (fun x => (lvA x).toList) [x] = (lvA x).toList from by simp]
  exact qo hOc g_ fun k hk e => by
   subst e
   exact absurd ((qn hOc hk).one hDc.typ) (by decide)
 ·rcases List.mem_append.mp hy with hy | hy
  ·exact ⟨hall (qj (h.rows y hy).1 hb) (by decide) (by decide), hall (qj (h.rows y hy).2 hb) (by decide) (by decide)⟩
  ·rw [List.mem_singleton.mp hy]
   exact ⟨hall hOx (by decide) (by decide), hall hPx (by decide) (by decide)⟩
 ·by_cases hjt : j < u
  ·exact h.is j k' y hj (by rw [List.getElem?_append_left (by rw [h.len]; exact hjt)] at hy; exact hy)
  ·rw [List.getElem?_append_right (by rw [h.len]; omega), h.len] at hy
   obtain rfl : j = u := by
    have := (List.getElem?_eq_some_iff.mp hy).1
    simp at this; omega
   rw [Nat.sub_self] at hy
   simp at hy
   subst hy
   obtain rfl : k = k' := Option.some.inj (hk.symm.trans hj)
   exact ⟨e1, ⟨c, hc, e2, e3, e4⟩, e5⟩
theorem FI.drew {B : Nat} {w0 w : World} {d n : Nat} {vl : Value} {L : List CV} {ns : List Nat} {u : Nat} {ls : List LV} (h : FI B w0 w d n vl L ns u ls) : FI B w0 w.drew d n vl L ns u ls :=
 ⟨h.gr.drew, h.bd, qj h.own (Below.refl _ _).drew, h.len, fun x hx => ⟨qj (h.rows x hx).1 (Below.refl _ _).drew, qj (h.rows x hx).2 (Below.refl _ _).drew⟩, h.is⟩
structure WtF (w : World) (B : Nat) (v : Value) (ls : List LV) : Prop where
 own : w.ownsRow B 54 5 v ls.length (ls.flatMap fun x => (lvA x).toList)
 rows : ∀ x ∈ ls, Own w x.c.v x.c.l ∧ w.ownsRow B 32 32 x.pv x.ps.length (qF x.ps)
 vB : ∀ x ∈ ls, ∀ k, x.c.v.ownBlock = some k → B ≤ k
theorem JJ (w : World) (B : Nat) : WtF w B (.slice none 0 0) [] :=
 ⟨⟨rfl, .inl ⟨rfl, rfl⟩⟩, fun x hx => by simp at hx, fun x hx => by simp at hx⟩
def FdR (L : List CV) (kind : Int) (at_ : Nat) (key : ByteArray) (w : World) (e : Ending) (w' : World) : Prop :=
 ∃ (n : Int) (v : Value) (ls : List LV) (er : Int), e = .returned (.tuple #[.agg (wtA n v), .int .i64 er]) ∧ WtF w' w.heap.size v ls ∧ Below w.heap.size w w' ∧
  (zi kind = false → n = 0 ∧ ls = [] ∧ er = 40) ∧ (zi kind = true → qt L ≠ 0 → n = 0 ∧ ls = [] ∧ er = qt L) ∧
  (zi kind = true → qt L = 0 → n = (L.length : Int) ∧ er = 0 ∧ (L = [] → ls = []) ∧ (L ≠ [] → ls.length = (fnd L.length at_ (fndB L at_ kind key)).length ∧ LIs L (fnd L.length at_ (fndB L at_ kind key)) ls))
structure FJ (B : Nat) (w0 w : World) (d n : Nat) (vl : Value) (L : List CV) (ns : List Nat) (u : Nat) (ls : List LV) : Prop extends FI B w0 w d n vl L ns u ls where
 vB : ∀ x ∈ ls, ∀ k, x.c.v.ownBlock = some k → B ≤ k
theorem FJ.drew {B : Nat} {w0 w : World} {d n : Nat} {vl : Value} {L : List CV} {ns : List Nat} {u : Nat} {ls : List LV} (h : FJ B w0 w d n vl L ns u ls) : FJ B w0 w.drew d n vl L ns u ls := ⟨h.toFI.drew, h.vB⟩
theorem FJ.lay {B : Nat} {w0 wr : World} {d n : Nat} {vl : Value} {L : List CV} {ns : List Nat} {u : Nat} {ls : List LV} (h : FJ B w0 wr d n vl L ns u ls) (x : LV) (k : Nat) (c : CV) (wb wc : World) (v9 : Value)
  (hb : Below wr.heap.size wr wb) (hOx : Own wb x.c.v x.c.l) (hPx : wb.ownsRow B 32 32 x.pv x.ps.length (qF x.ps))
  (hOc : wc.ownsRow w0.heap.size 54 5 v9 (u + 1) ((ls.flatMap fun x => (lvA x).toList) ++ (lvA x).toList)) (hGc : Grown wb wc (fun k => vl.ownBlock = some k))
  (hk : ns[u]? = some k) (hc : L[k]? = some c) (e1 : x.num = (k : Int)) (e2 : x.c.k = c.k) (e3 : x.c.s = c.s) (e4 : x.c.l = c.l) (e5 : x.ps.map hsL = zG L.length L k) (hN : ∀ k, x.c.v.ownBlock = some k → B ≤ k) :
  FJ B w0 (wc.setCell ⟨d, 1, none⟩ v9) d n v9 L ns (u + 1) (ls ++ [x]) :=
 ⟨h.toFI.lay x k c wb wc v9 hb hOx hPx hOc hGc hk hc e1 e2 e3 e4 e5, fun y hy => by
  rcases List.mem_append.mp hy with hy | hy
  ·exact h.vB y hy
  ·rw [List.mem_singleton.mp hy]; exact hN⟩
def yp (a : Nat) (is : Bool) (t : Nat) : Nat := if t = a ∧ 0 < t ∧ is = false then 1 else 0
theorem XB {c : CV} {kind : Int} {key : ByteArray} (h : ¬ stI c.k c.s kind key = 0) : ¬ (c.k = kind ∧ c.s = key) := fun e => h ((vP _ _ _ _).mpr e)
theorem XD {L : List CV} {i : Nat} {c : CV} {kind : Int} {key : ByteArray} (h : L[i]? = some c) : fndB L i kind key = decide (stI c.k c.s kind key = 0) := by unfold fndB; rw [h]
theorem Ul (la : Option Addr) (n cap at_ : Nat) (L : List CV) (kind : Int) (key : ByteArray) (w : World) (hkm : zi kind = false) : Calls Try.prog 9 #[.slice la n cap, .int .i64 kind, .string key] w (FdR L kind at_ key w) := by
 go_enter Try.func9, Try.ntmps9
 refine wp_seq_k fun K1 hK1 => rgn (zU 25 zb fun r w1 hr0 R1 b_ => ?_)
 have B1 : Keep (Below w.heap.size w w1) := ⟨b_⟩
 have gr := lh hr0
 clear b_
 refine Vv (.int .i64 0) (h:=WL.nil (hK1 _ _ (wp_seq_k fun K2 hK2 => rgn (Vv (.int .i64 kind) (h:=ClS (vs := #[.int .i64 kind]) (xD kind _) ?_)))))
 rintro e w1_z ⟨rfl, hw_⟩
 refine ⟨_, rfl, ?_⟩
 have hw_ := hw_.symm
 subst hw_
 rw [hkm]
 refine Vf (h:=WL.nil (hK2 _ _ (wp_seq_k fun K3 hK3 => wp_seq_k fun K4 hK4 => rgn (Vf (h:=Vt (h:=WL.nil (hK4 _ _ (Ct (h:=wp_seq_k fun K5 hK5 => rgn (?_))))))))))
 refine WL.bld (by kernel_rfl) 25 #[] rfl [] (by simp) #[.int .i64 0, .slice none 0 0] VK ?_
 simp only [Act.put, pqA, pqB, pqC]
 refine WL.storeR (by kernel_rfl) 25 (.tmp 6) (.tmp 19) rfl r #[.int .i64 0, .slice none 0 0] rfl rfl 25 #[.int .i64 0, .slice none 0 0] R1.o (by rfl) rfl (by simp [Value.oneCell']) ?_
 have R9 := kk (R1.o.setRow #[.int .i64 0, .slice none 0 0])
 have B9 : Keep (Below w.heap.size w (w1.setRow r #[.int .i64 0, .slice none 0 0])) := ⟨qf B1.o gr.o _⟩
 generalize w1.setRow r #[.int .i64 0, .slice none 0 0] = w9 at *
 simp only [Act.put]
 refine Vv (.int .i64 40) (h:=WL.nil (hK5 _ _ (wp_ret ?_)))
 try simp only [Exit.inBlock, Exit.then]
 refine bodyPost_ret (v := .tuple #[.agg #[.int .i64 0, .slice none 0 0], .int .i64 40]) (qp Try.results9 _ _ r 25 _ (0, 0) _ _ rfl rfl R9.o Try.underlying25 rfl (by rfl)) rfl ⟨0, .slice none 0 0, [], 40, rfl, JJ _ _, B9.o, fun _ => ⟨rfl, rfl, rfl⟩, (fun h => by rw [hkm] at h; cases h), (fun h => by rw [hkm] at h; cases h)⟩
theorem YR (la : Option Addr) (n cap at_ : Nat) (L : List CV) (kind : Int) (key : ByteArray) (w : World) (er : Int) (hkm : zi kind = true) (hwi : Keep (qt L = er)) (her : ¬ er = 0) (HC : Keep (CsV w.heap.size w (.slice la n cap) L)) (HN : Keep (L.length ≤ 4398046511104)) : Calls Try.prog 9 #[.slice la n cap, .int .i64 kind, .string key] w (FdR L kind at_ key w) := by
 have her' : (er == 0) = false := by simpa using her
 go_enter Try.func9, Try.ntmps9
 refine wp_seq_k fun K1 hK1 => rgn (zU 25 zb fun r w1 hr0 R1 b_ => ?_)
 have B1 : Keep (Below w.heap.size w w1) := ⟨b_⟩
 have gr := lh hr0
 clear b_
 refine Vv (.int .i64 0) (h:=WL.nil (hK1 _ _ (wp_seq_k fun K2 hK2 => rgn (Vv (.int .i64 kind) (h:=ClS (vs := #[.int .i64 kind]) (xD kind _) ?_)))))
 rintro e w1_z ⟨rfl, hw_⟩
 refine ⟨_, rfl, ?_⟩
 have hw_ := hw_.symm
 subst hw_
 rw [hkm]
 refine Vt (h:=WL.nil (hK2 _ _ (wp_seq_k fun K3 hK3 => wp_seq_k fun K4 hK4 => rgn (Vt (h:=Vf (h:=WL.nil (hK4 _ _ (Cf (h:=wp_skip (hK3 _ _ (wp_seq_k fun K5 hK5 => rgn (Vv (.slice la n cap) (h:=ClS (vs := #[.slice la n cap]) (jQ w.heap.size _ L w1 (HC.o.below B1.o) B1.o.size HN.o) ?_)))))))))))))
 rintro e w2 ⟨rfl, k1⟩
 refine ⟨_, rfl, ?_⟩
 rw [hwi.o]
 have R2 := kbx R1 k1
 have B2 := tb B1 k1
 clear k1
 refine Vv (.int .i64 er) (h:=WL.nil (hK5 _ _ (wp_seq_k fun K6 hK6 => wp_seq_k fun K7 hK7 => rgn (Vv (.int .i64 er) (h:=Vt (h:=WL.nil (hK7 _ _ (Ct (h:=wp_seq_k fun K8 hK8 => rgn (?_))))))))))
 refine WL.bld (by kernel_rfl) 25 #[] rfl [] (by simp) #[.int .i64 0, .slice none 0 0] VK ?_
 simp only [Act.put, pqA, pqB, pqC]
 refine VlS (.int .i64 er) ?_
 refine WL.storeR (by kernel_rfl) 25 (.tmp 6) (.tmp 24) rfl r #[.int .i64 0, .slice none 0 0] rfl rfl 25 #[.int .i64 0, .slice none 0 0] R2.o (by rfl) rfl (by simp [Value.oneCell']) ?_
 have R9 := kk (R2.o.setRow #[.int .i64 0, .slice none 0 0])
 have B9 : Keep (Below w.heap.size w (w2.setRow r #[.int .i64 0, .slice none 0 0])) := ⟨qf B2.o gr.o _⟩
 generalize w2.setRow r #[.int .i64 0, .slice none 0 0] = w9 at *
 simp only [Act.put]
 refine Vv (.int .i64 er) (h:=WL.nil (hK8 _ _ (wp_ret ?_)))
 try simp only [Exit.inBlock, Exit.then]
 refine bodyPost_ret (v := .tuple #[.agg #[.int .i64 0, .slice none 0 0], .int .i64 er]) (qp Try.results9 _ _ r 25 _ (0, 0) _ _ rfl rfl R9.o Try.underlying25 rfl (by rfl)) rfl ⟨0, .slice none 0 0, [], er, rfl, JJ _ _, B9.o, (fun h => by rw [hkm] at h; cases h), (fun _ _ => ⟨rfl, rfl, hwi.o.symm⟩), (fun _ h => absurd (hwi.o.symm.trans h) her)⟩
theorem Uk (la : Option Addr) (cap at_ : Nat) (kind : Int) (key : ByteArray) (w : World) (hkm : zi kind = true) (HC : Keep (CsV w.heap.size w (.slice la 0 cap) [])) : Calls Try.prog 9 #[.slice la 0 cap, .int .i64 kind, .string key] w (FdR [] kind at_ key w) := by
 go_enter Try.func9, Try.ntmps9
 refine wp_seq_k fun K1 hK1 => rgn (zU 25 zb fun r w1 hr0 R1 b_ => ?_)
 have B1 : Keep (Below w.heap.size w w1) := ⟨b_⟩
 have gr := lh hr0
 clear b_
 refine Vv (.int .i64 0) (h:=WL.nil (hK1 _ _ (wp_seq_k fun K2 hK2 => rgn (Vv (.int .i64 kind) (h:=ClS (vs := #[.int .i64 kind]) (xD kind _) ?_)))))
 rintro e w1_z ⟨rfl, hw_⟩
 refine ⟨_, rfl, ?_⟩
 have hw_ := hw_.symm
 subst hw_
 rw [hkm]
 refine Vt (h:=WL.nil (hK2 _ _ (wp_seq_k fun K3 hK3 => wp_seq_k fun K4 hK4 => rgn (Vt (h:=Vf (h:=WL.nil (hK4 _ _ (Cf (h:=wp_skip (hK3 _ _ (wp_seq_k fun K5 hK5 => rgn (Vv (.slice la 0 cap) (h:=?_)))))))))))))
 refine WL.callF (by kernel_rfl) 30 _ _ rfl DW #[.slice la 0 cap] (by simp [Act.eval]) ?_
 refine (jQ w.heap.size _ [] w1 (HC.o.below B1.o) B1.o.size (by simp)).mono ?_
 rintro e w2 ⟨rfl, k1⟩
 refine ⟨_, rfl, ?_⟩
 change WL _ _ _ _ (Act.put _ _ (.int .i64 0)) w2
 have R2 := kbx R1 k1
 have B2 := tb B1 k1
 clear k1
 simp only [Act.put, pqA, pqB, pqC]
 refine Vv (.int .i64 0) (h:=WL.nil (hK5 _ _ (wp_seq_k fun K6 hK6 => wp_seq_k fun K7 hK7 => rgn (Vv (.int .i64 0) (h:=Vf (h:=WL.nil (hK7 _ _ (Cf (h:=wp_skip (hK6 _ _ (wp_seq_k fun K8 hK8 => rgn (Vv (.slice la 0 cap) (h:=Vv (.int .i64 0) (h:=?_))))))))))))))
 refine WL.bld (by kernel_rfl) 25 #[(0, .tmp 27)] rfl [(0, .int .i64 0)] (by simp [Act.eval]) #[.int .i64 0, .slice none 0 0] (XN 0) ?_
 simp only [Act.put, pqA, pqB, pqC]
 refine zU 25 zb fun d w3 hd0 D3 b_ => ?_
 have R3 := kbx R2 b_
 have B3 := tb B2 b_
 have gd : Keep (w.heap.size ≤ d) := ⟨by rw [hd0.o]; exact B2.o.size⟩
 clear b_
 have hrd : Keep (r ≠ d) := ⟨by have := R2.o.lt; have := hd0.o; omega⟩
 refine WL.storeR (by kernel_rfl) 25 (.tmp 10) (.tmp 28) rfl d #[.int .i64 0, .slice none 0 0] rfl rfl 25 #[.int .i64 0, .slice none 0 0] D3.o (by rfl) rfl (by simp [Value.oneCell']) ?_
 have D4 := kk (D3.o.setRow #[.int .i64 0, .slice none 0 0])
 have B4 : Keep (Below w.heap.size w (w3.setRow d #[.int .i64 0, .slice none 0 0])) := ⟨qf B3.o gd.o _⟩
 have R4 := kk (R3.o.setRow_ne hrd.o #[.int .i64 0, .slice none 0 0])
 generalize w3.setRow d #[.int .i64 0, .slice none 0 0] = w4 at *
 simp only [Act.put]
 refine WL.nil (hK8 _ _ (wp_seq_k fun K9 hK9 => wp_seq_k fun K10 hK10 => rgn (Vv (.int .i64 0) (h:=WL.nil (hK10 _ _ (wp_block (?_)))))))
 refine wp_loop (fun ac wr => ∃ (t : Nat), ac = apF (fun f => { tmps := #[.slice la 0 cap, .int .i64 kind, .string key, undef, undef, undef, .pointer (some ⟨r, 0, none⟩), f 7, .bool true, .int .i64 0, .pointer (some ⟨d, 0, none⟩), .int .i64 0, f 12, f 13, f 14, .int .i64 kind, .bool true, .bool true, .bool false, undef, .slice la 0 cap, .int .i64 0, .int .i64 0, .bool false, undef, undef, .slice la 0 cap, .int .i64 0, .agg #[.int .i64 0, .slice none 0 0], f 29, f 30, f 31, f 32, f 33, f 34, f 35, f 36, f 37, f 38, f 39, f 40, f 41, f 42, f 43, f 44, f 45, f 46, f 47, f 48, f 49, f 50, f 51, f 52, f 53, f 54, f 55, f 56, f 57, f 58, f 59, f 60, f 61, f 62, f 63, f 64, f 65, f 66, f 67, f 68, f 69, f 70, f 71, f 72, f 73, f 74, f 75, f 76, f 77, f 78, f 79, f 80, f 81, f 82, f 83, f 84, f 85, f 86, f 87, f 88, f 89, f 90, f 91, f 92, f 93, f 94, f 95, f 96, f 97, f 98, f 99, f 100, f 101, f 102, f 103, f 104, f 105, f 106, f 107, f 108, f 109, f 110, f 111, f 112, f 113, f 114, f 115, f 116, f 117, f 118, f 119, f 120, f 121, f 122, f 123, f 124, f 125, f 126, f 127, f 128, f 129, f 130, f 131, f 132, f 133, f 134, f 135, f 136, f 137, f 138, f 139, f 140, undef], defers := [] }) ac ∧ wr = w4) (fun a _ => (0 : Nat)) ⟨0, rfl, rfl⟩ ?_
 rintro ac wr ⟨t, hac, hw⟩
 obtain ⟨f, rfl⟩ := unF hac
 have hw := hw.symm
 subst hw
 have hz_ : ¬ (0 : Int) < 0 := by omega
 refine wp_seq_k fun K11 hK11 => wp_seq_k fun K12 hK12 => rgn (Vv (.int .i64 0) (h:=Vv (.slice la 0 cap) (h:=Vv (.int .i64 0) (h:=Vf (h:=WL.nil (hK12 _ _ (Cf (h:=wp_exit (hK9 _ _ (wp_seq_k fun K13 hK13 => rgn (?_)))))))))))
 refine WL.row (by kernel_rfl) 25 (.tmp 10) rfl d rfl 25 #[.int .i64 0, .slice none 0 0] _ D4.o Try.underlying25 rfl (by rfl) ?_
 simp only [Act.put, pqA, pqB, pqC]
 refine WL.storeR (by kernel_rfl) 25 (.tmp 6) (.tmp 141) rfl r #[.int .i64 0, .slice none 0 0] rfl rfl 25 #[.int .i64 0, .slice none 0 0] R4.o (by rfl) rfl (by simp [Value.oneCell']) ?_
 have R9 := kk (R4.o.setRow #[.int .i64 0, .slice none 0 0])
 have B9 : Keep (Below w.heap.size w (w4.setRow r #[.int .i64 0, .slice none 0 0])) := ⟨qf B4.o gr.o _⟩
 generalize w4.setRow r #[.int .i64 0, .slice none 0 0] = w9 at *
 simp only [Act.put]
 refine Vv (.int .i64 0) (h:=WL.nil (hK13 _ _ (wp_ret ?_)))
 try simp only [Exit.inBlock, Exit.then]
 refine bodyPost_ret (v := .tuple #[.agg #[.int .i64 0, .slice none 0 0], .int .i64 0]) (qp Try.results9 _ _ r 25 _ (0, 0) _ _ rfl rfl R9.o Try.underlying25 rfl (by rfl)) rfl ⟨0, .slice none 0 0, [], 0, rfl, JJ _ _, B9.o, (fun h => by rw [hkm] at h; cases h), (fun _ h => absurd rfl h), (fun _ _ => ⟨rfl, rfl, fun _ => rfl, fun h => absurd rfl h⟩)⟩
end Go.Proofs.Ytdpcjfafbmhceaa
