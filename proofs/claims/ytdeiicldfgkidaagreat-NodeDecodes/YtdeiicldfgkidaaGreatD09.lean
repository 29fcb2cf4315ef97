import Derived.Test.YtdeiicldfgkidaaGreatD08
import Derived.Test.YtdeiicldfgkidaaGreatD06
import Derived.Deep.RegionHeld3
namespace Go.Proofs.YtdeiicldfgkidaaGreat
open Go.RowKit
set_option linter.unusedSimpArgs false
set_option linter.unusedVariables false

theorem OS.done {w : World} {x g4 g5 g6 g9 : Nat} {vB : Value} {y : OpV} {ew eb : Int} {p : Nat} {rw' rb : Int} {w1 : World} (h : OS w x g4 g5 g6 g9 vB y ew eb p rw' rb w1) (G : Int × Nat × OpV) (h1 : G.1 = rw') (h2 : G.2.1 = p) (h3 : ew = rw') (h4 : eb = rb) (hE : ErrB rw' p rb) (hok : rw' = 0 → y = G.2.2 ∧ OpOk y) :
  ROne x vB G w (.returned (.tuple #[.agg (opA y), .agg (erA ew eb)])) ((w1.drew.setRow g4 (opA y)).setRow g5 (erA ew eb)) := by
 have n4 : x ≠ g4 := blk_ne h.rf h.r4 (by decide)
 have n5 : x ≠ g5 := blk_ne h.rf h.r5 (by decide)
 refine ⟨y, rb, by rw [h1, h3, h4], by rw [h1, h2]; exact hE, ?_, ?_, by rw [h1]; exact hok⟩
 ·rw [h1, h2]
  exact Blk.setRow_ne (Blk.setRow_ne (Blk.drew h.rf) n4 _) n5 _
 ·exact (h.gr.drew.next (Grown.setRow w1.drew g4 (opA y) (S := fun k => k = g4) fun _ => rfl) (fun k hk e => by have := h.lo.1; omega)).next (Grown.setRow _ g5 (erA ew eb) (S := fun k => k = g5) fun _ => rfl) (fun k hk e => by have := h.lo.2.1; omega)
set_option maxRecDepth 8000 in
set_option maxHeartbeats 1000000 in
theorem hash_step {u2 u3 u7 u8 u10 u11 u12 u13 u14 u15 u16 u17 u18 u19 u20 u21 u22 u23 u24 u25 u26 u27 u28 u29 u30 u31 u32 u33 u34 u35 u36 u37 u38 u39 u40 u41 u42 u43 u44 u45 u46 u47 u48 u49 u50 u51 u52 u53 u54 u55 u56 u57 u58 u59 u60 u61 u62 u63 u64 u65 u66 u67 u68 u69 u70 u71 u72 u73 u74 u75 u76 u77 u78 u79 u80 u81 u82 u83 u84 u85 u86 u87 u88 u89 u90 u91 u92 u93 u94 u95 u96 u97 u98 u99 u100 u101 u102 u103 u104 u105 u106 u107 u108 u109 u110 u111 u112 u113 u114 u115 u116 u117 u118 u119 u120 u121 u122 u123 u124 u125 u126 : Value} {Q : Exit → Act → World → Prop} (x g4 g5 g6 g9 : Nat) (vB : Value) (L : List Int) (vl : Value) (l : List OpV) (w w1 : World) (G : Int × Nat × OpV) (hR : ∀ wx, (Grown w wx fun k => k = x) → RowAt wx vB L) (hb : L.length ≤ 140737488355328) (hby : Byts L) (y : OpV) (p : Nat) (hS : OS w x g4 g5 g6 g9 vB y 0 0 p 0 0 w1) (hp : p ≤ L.length) (D2 : List Int) (hD2 : Keep (D2 = L.drop p)) (W2 : Int) (hW2 : Keep (W2 = nextW D2 32)) (N2 : Nat) (hN2 : Keep (N2 = nextN D2 32))
  (hQ : ∀ (v99 v100 v101 v102 v103 v104 v105 : Value) (y2 : OpV) (b2 : Int) (w2 : World), OS w x g4 g5 g6 g9 vB y2 W2 b2 (p + N2) W2 b2 w2 → ErrB W2 (p + N2) b2 → (W2 = 0 → y2 = { y with node := D2.take 32 }) → Q .normal { tmps := #[.pointer (some ⟨x, 0, none⟩), vl, u2, u3, .pointer (some ⟨g4, 0, none⟩), .pointer (some ⟨g5, 0, none⟩), .pointer (some ⟨g6, 0, none⟩), u7, u8, .pointer (some ⟨g9, 0, none⟩), u10, u11, u12, u13, u14, u15, u16, u17, u18, u19, u20, u21, u22, u23, u24, u25, u26, u27, u28, u29, u30, u31, u32, u33, u34, u35, u36, u37, u38, u39, u40, u41, u42, u43, u44, u45, u46, u47, u48, u49, u50, u51, u52, u53, u54, u55, u56, u57, u58, u59, u60, u61, u62, u63, u64, u65, u66, u67, u68, u69, u70, u71, u72, u73, u74, u75, u76, u77, u78, u79, u80, u81, u82, u83, u84, u85, u86, u87, u88, u89, u90, u91, u92, u93, u94, u95, u96, u97, u98, v99, v100, v101, v102, v103, v104, v105, u106, u107, u108, u109, u110, u111, u112, u113, u114, u115, u116, u117, u118, u119, u120, u121, u122, u123, u124, u125, u126], defers := [] } w2) : Code.wp Tryz.prog (cT (cS (cF (cS (cS (cS (cS (cS (cS (cS (cS (cS (cS (cS (cS (cS (cS (cS (cS (Tryz.f61.body.getD Code.skip)))))))))))))))))))) Q { tmps := #[.pointer (some ⟨x, 0, none⟩), vl, u2, u3, .pointer (some ⟨g4, 0, none⟩), .pointer (some ⟨g5, 0, none⟩), .pointer (some ⟨g6, 0, none⟩), u7, u8, .pointer (some ⟨g9, 0, none⟩), u10, u11, u12, u13, u14, u15, u16, u17, u18, u19, u20, u21, u22, u23, u24, u25, u26, u27, u28, u29, u30, u31, u32, u33, u34, u35, u36, u37, u38, u39, u40, u41, u42, u43, u44, u45, u46, u47, u48, u49, u50, u51, u52, u53, u54, u55, u56, u57, u58, u59, u60, u61, u62, u63, u64, u65, u66, u67, u68, u69, u70, u71, u72, u73, u74, u75, u76, u77, u78, u79, u80, u81, u82, u83, u84, u85, u86, u87, u88, u89, u90, u91, u92, u93, u94, u95, u96, u97, u98, u99, u100, u101, u102, u103, u104, u105, u106, u107, u108, u109, u110, u111, u112, u113, u114, u115, u116, u117, u118, u119, u120, u121, u122, u123, u124, u125, u126], defers := [] } w1 := by
 have HRow := Keep.mk hR
 have Hb := Keep.mk hb
 have HBy := Keep.mk hby
 clear hR hb hby
 have HS := Keep.mk hS
 have Hp := Keep.mk hp
 clear hS hp
 have HY : Keep (W2 = 0 → { y with node := hl 32 (hrd D2 W2) } = { y with node := D2.take 32 }) := ⟨fun h => by rw [hash_take D2 W2 h (by have h := (nextN_0 D2 32 (by rw [← hW2.out]; exact h)).2.2; rw [List.length_take]; omega)]⟩
 refine rgn ?_
 refine VlS (.pointer (some ⟨x, 0, none⟩)) ?_
 refine WL.callF (by kernel_rfl) 59 _ _ rfl Tryz.in59 #[ptr x] (by simp [Act.eval]) ?_
 refine (xhash_good x vB L p w1 HS.out.rf (fun wx hx => HRow.out wx (HS.out.gr.trans hx)) Hp.out Hb.out D2 hD2.out W2 hW2.out N2 hN2.out).mono ?_
 rintro e w2 ⟨b2, hE, rfl, h1, h2⟩
 refine ⟨.tuple #[.agg (bytesA 32 (hrd D2 W2)), .agg (erA W2 b2)], rfl, ?_⟩
 have hEb := Keep.mk hE
 have H2 := Keep.mk (HS.out.call h1 h2)
 clear h1 h2 hE HS
 obtain ⟨A, hA⟩ : ∃ A, bytesA 32 (hrd D2 W2) = A := ⟨_, rfl⟩
 have HA1 : Keep ((Tryz.prog.info? 41).map (·.size) = some A.size) := ⟨by rw [← hA]; exact Tryz.size41B _⟩
 have HA2 : Keep (4 + A.size ≤ (opA y).size) := ⟨by rw [← hA, bytesA_size, opA_size]; decide⟩
 have HA3 : Keep (A.all (·.oneCell') = true) := ⟨by rw [← hA]; exact bytesA_one _ _⟩
 have HA4 : Keep (((opA y).toList.take 4 ++ A.toList ++ (opA y).toList.drop (4 + A.size)).toArray = opA { y with node := hl 32 (hrd D2 W2) }) := ⟨by rw [← hA]; exact put_node y (hrd D2 W2)⟩
 rw [hA]
 clear hA
 simp only [Act.put, pqA, pqB, pqC]
 refine VlS (.tuple #[.agg A, .agg (erA W2 b2)]) ?_
 refine VlS (.agg A) ?_
 refine VlS (.agg (erA W2 b2)) ?_
 refine VlS (.pointer (some ⟨g6, 4, none⟩)) ?_
 refine VlS (.pointer (some ⟨g6, 4, none⟩)) ?_
 refine WL.part (by kernel_rfl) 41 (.tmp 105) (.tmp 102) rfl g6 4 A rfl rfl 88 (opA y) H2.out.o HA1.out HA2.out HA3.out _ HA4.out ?_
 obtain ⟨yn, hyn⟩ : ∃ y' : OpV, y' = { y with node := hl 32 (hrd D2 W2) } := ⟨_, rfl⟩
 have Eyn := Keep.mk hyn
 rw [← hyn] at HY ⊢
 clear hyn
 have H3 : Keep (OS w x g4 g5 g6 g9 vB yn 0 0 (p + N2) W2 b2 (w2.setRow g6 (opA yn))) := ⟨H2.out.setO yn (H2.out.o.setRow _) (Grown.setRow w2 g6 _ fun _ => rfl)⟩
 generalize w2.setRow g6 (opA yn) = w3 at *
 clear H2
 simp only [Act.put]
 refine WL.storeR (by kernel_rfl) 34 (.tmp 9) (.tmp 103) rfl g9 (erA W2 b2) rfl rfl 34 (erA 0 0) H3.out.e (Tryz.size34B _ _) (erA_sizes _ _ _ _) (erA_one _ _) ?_
 have H4 := Keep.mk (H3.out.setE W2 b2)
 generalize w3.setRow g9 (erA W2 b2) = w4 at *
 clear H3
 simp only [Act.put]
 refine WL.nil ?_
 exact hQ (.tuple #[.agg A, .agg (erA W2 b2)]) (.pointer (some ⟨x, 0, none⟩)) (.tuple #[.agg A, .agg (erA W2 b2)]) (.agg A) (.agg (erA W2 b2)) (.pointer (some ⟨g6, 4, none⟩)) (.pointer (some ⟨g6, 4, none⟩)) yn b2 w4 H4.out hEb.out HY.out
set_option maxRecDepth 8000 in
set_option maxHeartbeats 1000000 in
theorem all_step {u2 u3 u7 u8 u10 u11 u12 u13 u14 u15 u16 u17 u18 u19 u20 u21 u22 u23 u24 u25 u26 u27 u28 u29 u30 u31 u32 u33 u34 u35 u36 u37 u38 u39 u40 u41 u42 u43 u44 u45 u46 u47 u48 u49 u50 u51 u52 u53 u54 u55 u56 u57 u58 u59 u60 u61 u62 u63 u64 u65 u66 u67 u68 u69 u70 u71 u72 u73 u74 u75 u76 u77 u78 u79 u80 u81 u82 u83 u84 u85 u86 u87 u88 u89 u90 u91 u92 u93 u94 u95 u96 u97 u98 u99 u100 u101 u102 u103 u104 u105 u106 u107 u108 u109 u110 u111 u112 u113 u114 u115 u116 u117 u118 u119 u120 u121 u122 u123 u124 u125 u126 : Value} {Q : Exit → Act → World → Prop} (hP : ∀ e (a : Act) d (v : Value) (w : World), Q (.panic e) (a.put d v) w → Q (.panic e) a w) (x g4 g5 g6 g9 : Nat) (vB : Value) (vl : Value) (l : List OpV) (w w1 : World) (y : OpV) (p : Nat) (hS : OS w x g4 g5 g6 g9 vB y 0 0 p 0 0 w1) (hv : ∀ wx, (Grown w wx fun k => k = x) → OwnO wx vl l) (hln : l.length ≤ 1024)
  (hQ : ∀ (v13 v111 v112 v113 v114 v115 : Value) (w2 : World), OwnO w2 v13 (l ++ [y]) → OS w x g4 g5 g6 g9 vB y 0 0 p 0 0 w2 → Q .normal { tmps := #[.pointer (some ⟨x, 0, none⟩), vl, u2, u3, .pointer (some ⟨g4, 0, none⟩), .pointer (some ⟨g5, 0, none⟩), .pointer (some ⟨g6, 0, none⟩), u7, u8, .pointer (some ⟨g9, 0, none⟩), u10, u11, u12, v13, u14, u15, u16, u17, u18, u19, u20, u21, u22, u23, u24, u25, u26, u27, u28, u29, u30, u31, u32, u33, u34, u35, u36, u37, u38, u39, u40, u41, u42, u43, u44, u45, u46, u47, u48, u49, u50, u51, u52, u53, u54, u55, u56, u57, u58, u59, u60, u61, u62, u63, u64, u65, u66, u67, u68, u69, u70, u71, u72, u73, u74, u75, u76, u77, u78, u79, u80, u81, u82, u83, u84, u85, u86, u87, u88, u89, u90, u91, u92, u93, u94, u95, u96, u97, u98, u99, u100, u101, u102, u103, u104, u105, u106, u107, u108, u109, u110, v111, v112, v113, v114, v115, u116, u117, u118, u119, u120, u121, u122, u123, u124, u125, u126], defers := [] } w2) : Code.wp Tryz.prog (cF (cS (cS (cS (cS (cS (cS (cS (cS (cS (cS (cS (cS (cS (cS (cS (cS (cS (cS (Tryz.f61.body.getD Code.skip)))))))))))))))))))) Q { tmps := #[.pointer (some ⟨x, 0, none⟩), vl, u2, u3, .pointer (some ⟨g4, 0, none⟩), .pointer (some ⟨g5, 0, none⟩), .pointer (some ⟨g6, 0, none⟩), u7, u8, .pointer (some ⟨g9, 0, none⟩), u10, u11, u12, u13, u14, u15, u16, u17, u18, u19, u20, u21, u22, u23, u24, u25, u26, u27, u28, u29, u30, u31, u32, u33, u34, u35, u36, u37, u38, u39, u40, u41, u42, u43, u44, u45, u46, u47, u48, u49, u50, u51, u52, u53, u54, u55, u56, u57, u58, u59, u60, u61, u62, u63, u64, u65, u66, u67, u68, u69, u70, u71, u72, u73, u74, u75, u76, u77, u78, u79, u80, u81, u82, u83, u84, u85, u86, u87, u88, u89, u90, u91, u92, u93, u94, u95, u96, u97, u98, u99, u100, u101, u102, u103, u104, u105, u106, u107, u108, u109, u110, u111, u112, u113, u114, u115, u116, u117, u118, u119, u120, u121, u122, u123, u124, u125, u126], defers := [] } w1 := by
 have HS := Keep.mk hS
 have HVl := Keep.mk hv
 have Hln := Keep.mk hln
 clear hS hv hln
 have hD0 : Below w1.heap.size w1 w1.drew := (Below.refl _ _).drew
 have HS0 : Keep (∀ wx, Below w1.heap.size w1 wx → wx.rangeAt g6 0 (opL y)) := ⟨fun wx hx => blk_range (HS.out.o.below hx HS.out.o.lt)⟩
 refine wp_region_held_drew (S := fun wx => wx.rangeAt g6 0 (opL y)) (by kernel_rfl) (HS0.out _ hD0) (fun hHeld => ?_)
 refine wpAnyH_take (i := 0) (oi := ⟨some 111, Op.move (Operand.tmp 1), 26, _, _, none⟩) (v := vl) rfl (by kernel_rfl) (by kernel_rfl) (by kernel_rfl) (fun _ _ _ h => hP _ _ _ _ _ h) (Or.inl ⟨by rfl, fun w hS => by go_simp⟩) hHeld ?_
 simp only [Act.put, pqA, pqB, pqC]
 refine wpAnyH_take (i := 2) (oi := ⟨some 113, Op.load 88 (Operand.tmp 6), 88, _, _, none⟩) (v := .agg (opL y).toArray) rfl (by kernel_rfl) (by kernel_rfl) (by kernel_rfl) (fun _ _ _ h => hP _ _ _ _ _ h) (yieldsIf_load_mid (by rfl) 88 (Operand.tmp 6) rfl g6 0 rfl (opL y) _ (fun w hS => hS) Tryz.underlying88 rfl (Tryz.size88L y)) hHeld ?_
 simp only [Act.put, pqA, pqB, pqC]
 refine wpAnyH_ready (rs := [1, 3]) (by kernel_rfl) (by simp) ?_
 refine AllReadyH.cons (o := ⟨some 112, Op.call { callee := Callee.builtin Builtin.append, args := #[Operand.const (Value.slice none 0 0), Operand.tmp 111], argTypes := #[26, 26] }, 26, _, _, none⟩) rfl (fun K hK => ?_) (AllReadyH.cons (o := ⟨some 114, Op.buildSlice 26 1 #[(0, Operand.tmp 113)], 26, _, _, none⟩) rfl (fun K hK => ?_) AllReadyH.nil)
 all_goals rw [if_pos (by rfl)]
 ·refine wp_appL _ (.tmp 111) rfl vl l rfl rfl (HVl.out w1.drew (HS.out.gr.trans (Grown.below hD0))) (by have := Hln.out; omega) ?_
  intro v2 wA ho2 hb2 hn2
  have B_wA : Below w1.heap.size w1 wA := (hD0).trans (hb2.mono (hD0).size)
  refine hK.out _ _ (HS0.out _ B_wA) fun hH_wA => ?_
  clear hK
  simp only [Act.put, pqA, pqB, pqC]
  refine wpAnyH_ready (rs := [3]) (by kernel_rfl) (by simp) ?_
  refine AllReadyH.cons (o := ⟨some 114, Op.buildSlice 26 1 #[(0, Operand.tmp 113)], 26, _, _, none⟩) rfl (fun K hK => ?_) AllReadyH.nil
  rw [if_pos (by rfl)]
  refine wp_bsO 26 1 _ rfl #[(0, .agg (opA y))] (by simp [Act.eval, rng_load]) _ _ (bsO y wA) ?_
  have hbs := Blk.new wA 88 (opA y)
  have hbb := below_new wA (.cells (opA y) 88)
  obtain ⟨wB, hw_wB⟩ : ∃ w', Keep ((wA).alloc (.cells (opA y) 88) = w') := ⟨_, ⟨rfl⟩⟩
  rw [hw_wB.out] at hbs hbb ⊢
  have B_wB : Below w1.heap.size w1 wB := (B_wA).trans (hbb.mono (B_wA).size)
  refine hK.out _ _ (HS0.out _ B_wB) fun hH_wB => ?_
  clear hK
  simp only [Act.put, pqA, pqB, pqC]
  refine wpAnyH_ready (rs := [4]) (by kernel_rfl) (by simp) ?_
  refine AllReadyH.cons (o := ⟨some 115, Op.call { callee := Callee.builtin Builtin.append, args := #[Operand.tmp 112, Operand.tmp 114], argTypes := #[26, 26] }, 26, _, _, none⟩) rfl (fun K hK => ?_) AllReadyH.nil
  rw [if_pos (by rfl)]
  refine wp_appO1 (.tmp 112) (.tmp 114) rfl v2 l (wA.heap.size) y rfl rfl (ho2.below hbb) (hbs) (by have := Hln.out; omega) ?_
  intro v5 w5 ho5 hg5' hm5
  have hS5 : OS w x g4 g5 g6 g9 vB y 0 0 p 0 0 w5 := by
   have h0 := HS.out.below B_wB
   have nn : ∀ k, k < w1.heap.size → v2.ownBlock ≠ some k := fun k hk e => by have h1 : w1.heap.size ≤ k := hn2 k e; omega
   exact ⟨hg5'.blk h0.o (nn _ HS.out.o.lt), hg5'.blk h0.e (nn _ HS.out.e.lt), hg5'.blk h0.r4 (nn _ HS.out.r4.lt), hg5'.blk h0.r5 (nn _ HS.out.r5.lt), hg5'.blk h0.rf (nn _ (Blk.lt HS.out.rf)), h0.gr.next hg5' (fun k hk e => absurd e (nn k (Nat.lt_of_lt_of_le hk HS.out.gr.size))), h0.n46, h0.n59, h0.lo⟩
  refine hK.out _ _ (blk_range hS5.o) fun hH5 => ?_
  clear hK
  simp only [Act.put, pqA, pqB, pqC]
  refine wpAnyH_take (i := 5) (oi := ⟨some 13, Op.assign (Operand.tmp 115), 26, _, _, none⟩) (v := v5) rfl (by kernel_rfl) (by kernel_rfl) (by kernel_rfl) (fun _ _ _ h => hP _ _ _ _ _ h) (Or.inl ⟨by rfl, fun w hS => by go_simp⟩) hH5 ?_
  simp only [Act.put, pqA, pqB, pqC]
  refine wpAnyH_done (by kernel_rfl) ?_ _
  exact hQ _ _ _ _ _ _ w5 ho5 hS5
 ·refine wp_bsO 26 1 _ rfl #[(0, .agg (opA y))] (by simp [Act.eval, rng_load]) _ _ (bsO y w1.drew) ?_
  have hbs := Blk.new w1.drew 88 (opA y)
  have hbb := below_new w1.drew (.cells (opA y) 88)
  obtain ⟨wA, hw_wA⟩ : ∃ w', Keep ((w1.drew).alloc (.cells (opA y) 88) = w') := ⟨_, ⟨rfl⟩⟩
  rw [hw_wA.out] at hbs hbb ⊢
  have B_wA : Below w1.heap.size w1 wA := (hD0).trans (hbb.mono (hD0).size)
  refine hK.out _ _ (HS0.out _ B_wA) fun hH_wA => ?_
  clear hK
  simp only [Act.put, pqA, pqB, pqC]
  refine wpAnyH_ready (rs := [1]) (by kernel_rfl) (by simp) ?_
  refine AllReadyH.cons (o := ⟨some 112, Op.call { callee := Callee.builtin Builtin.append, args := #[Operand.const (Value.slice none 0 0), Operand.tmp 111], argTypes := #[26, 26] }, 26, _, _, none⟩) rfl (fun K hK => ?_) AllReadyH.nil
  rw [if_pos (by rfl)]
  refine wp_appL _ (.tmp 111) rfl vl l rfl rfl (HVl.out wA (HS.out.gr.trans (Grown.below B_wA))) (by have := Hln.out; omega) ?_
  intro v2 wB ho2 hb2 hn2
  have B_wB : Below w1.heap.size w1 wB := (B_wA).trans (hb2.mono (B_wA).size)
  refine hK.out _ _ (HS0.out _ B_wB) fun hH_wB => ?_
  clear hK
  simp only [Act.put, pqA, pqB, pqC]
  have hn2' : ∀ k, v2.ownBlock = some k → w1.heap.size ≤ k := fun k hk => Nat.le_trans B_wA.size (hn2 k hk)
  refine wpAnyH_ready (rs := [4]) (by kernel_rfl) (by simp) ?_
  refine AllReadyH.cons (o := ⟨some 115, Op.call { callee := Callee.builtin Builtin.append, args := #[Operand.tmp 112, Operand.tmp 114], argTypes := #[26, 26] }, 26, _, _, none⟩) rfl (fun K hK => ?_) AllReadyH.nil
  rw [if_pos (by rfl)]
  refine wp_appO1 (.tmp 112) (.tmp 114) rfl v2 l (w1.drew.heap.size) y rfl rfl (ho2) (hbs.below hb2 hbs.lt) (by have := Hln.out; omega) ?_
  intro v5 w5 ho5 hg5' hm5
  have hS5 : OS w x g4 g5 g6 g9 vB y 0 0 p 0 0 w5 := by
   have h0 := HS.out.below B_wB
   have nn : ∀ k, k < w1.heap.size → v2.ownBlock ≠ some k := fun k hk e => by have h1 : w1.heap.size ≤ k := hn2' k e; omega
   exact ⟨hg5'.blk h0.o (nn _ HS.out.o.lt), hg5'.blk h0.e (nn _ HS.out.e.lt), hg5'.blk h0.r4 (nn _ HS.out.r4.lt), hg5'.blk h0.r5 (nn _ HS.out.r5.lt), hg5'.blk h0.rf (nn _ (Blk.lt HS.out.rf)), h0.gr.next hg5' (fun k hk e => absurd e (nn k (Nat.lt_of_lt_of_le hk HS.out.gr.size))), h0.n46, h0.n59, h0.lo⟩
  refine hK.out _ _ (blk_range hS5.o) fun hH5 => ?_
  clear hK
  simp only [Act.put, pqA, pqB, pqC]
  refine wpAnyH_take (i := 5) (oi := ⟨some 13, Op.assign (Operand.tmp 115), 26, _, _, none⟩) (v := v5) rfl (by kernel_rfl) (by kernel_rfl) (by kernel_rfl) (fun _ _ _ h => hP _ _ _ _ _ h) (Or.inl ⟨by rfl, fun w hS => by go_simp⟩) hH5 ?_
  simp only [Act.put, pqA, pqB, pqC]
  refine wpAnyH_done (by kernel_rfl) ?_ _
  exact hQ _ _ _ _ _ _ w5 ho5 hS5
set_option maxRecDepth 8000 in
set_option maxHeartbeats 1000000 in
theorem ret_step7 {u2 u3 u7 u8 u10 u11 u12 u13 u14 u15 u16 u17 u18 u19 u20 u21 u22 u23 u24 u25 u26 u27 u28 u29 u30 u31 u32 u33 u34 u35 u36 u37 u38 u39 u40 u41 u42 u43 u44 u45 u46 u47 u48 u49 u50 u51 u52 u53 u54 u55 u56 u57 u58 u59 u60 u61 u62 u63 u64 u65 u66 u67 u68 u69 u70 u71 u72 u73 u74 u75 u76 u77 u78 u79 u80 u81 u82 u83 u84 u85 u86 u87 u88 u89 u90 u91 u92 u93 u94 u95 u96 u97 u98 u99 u100 u101 u102 u103 u104 u105 u106 u107 u108 u109 u110 u111 u112 u113 u114 u115 u116 u117 u118 u119 u120 u121 u122 u123 u124 u125 u126 : Value} {Q : Exit → Act → World → Prop} (hP : ∀ e (a : Act) d (v : Value) (w : World), Q (.panic e) (a.put d v) w → Q (.panic e) a w) (x g4 g5 g6 g9 : Nat) (vB vl : Value) (w w1 : World) (y : OpV) (ew eb : Int) (p : Nat) (hS : OS w x g4 g5 g6 g9 vB y ew eb p ew eb w1)
  (hQ : ∀ (v42 v43 : Value) (w2 : World), Blk w2 g4 88 (opA y) → Blk w2 g5 34 (erA ew eb) → (∀ G : Int × Nat × OpV, G.1 = ew → G.2.1 = p → ErrB ew p eb → (ew = 0 → y = G.2.2 ∧ OpOk y) → ROne x vB G w (.returned (.tuple #[.agg (opA y), .agg (erA ew eb)])) w2) → Q .normal { tmps := #[.pointer (some ⟨x, 0, none⟩), vl, u2, u3, .pointer (some ⟨g4, 0, none⟩), .pointer (some ⟨g5, 0, none⟩), .pointer (some ⟨g6, 0, none⟩), u7, u8, .pointer (some ⟨g9, 0, none⟩), u10, u11, u12, u13, u14, u15, u16, u17, u18, u19, u20, u21, u22, u23, u24, u25, u26, u27, u28, u29, u30, u31, u32, u33, u34, u35, u36, u37, u38, u39, u40, u41, v42, v43, u44, u45, u46, u47, u48, u49, u50, u51, u52, u53, u54, u55, u56, u57, u58, u59, u60, u61, u62, u63, u64, u65, u66, u67, u68, u69, u70, u71, u72, u73, u74, u75, u76, u77, u78, u79, u80, u81, u82, u83, u84, u85, u86, u87, u88, u89, u90, u91, u92, u93, u94, u95, u96, u97, u98, u99, u100, u101, u102, u103, u104, u105, u106, u107, u108, u109, u110, u111, u112, u113, u114, u115, u116, u117, u118, u119, u120, u121, u122, u123, u124, u125, u126], defers := [] } w2) : Code.wp Tryz.prog (cF (cT (cS (cF (cS (cS (cS (cS (cS (Tryz.f61.body.getD Code.skip)))))))))) Q { tmps := #[.pointer (some ⟨x, 0, none⟩), vl, u2, u3, .pointer (some ⟨g4, 0, none⟩), .pointer (some ⟨g5, 0, none⟩), .pointer (some ⟨g6, 0, none⟩), u7, u8, .pointer (some ⟨g9, 0, none⟩), u10, u11, u12, u13, u14, u15, u16, u17, u18, u19, u20, u21, u22, u23, u24, u25, u26, u27, u28, u29, u30, u31, u32, u33, u34, u35, u36, u37, u38, u39, u40, u41, u42, u43, u44, u45, u46, u47, u48, u49, u50, u51, u52, u53, u54, u55, u56, u57, u58, u59, u60, u61, u62, u63, u64, u65, u66, u67, u68, u69, u70, u71, u72, u73, u74, u75, u76, u77, u78, u79, u80, u81, u82, u83, u84, u85, u86, u87, u88, u89, u90, u91, u92, u93, u94, u95, u96, u97, u98, u99, u100, u101, u102, u103, u104, u105, u106, u107, u108, u109, u110, u111, u112, u113, u114, u115, u116, u117, u118, u119, u120, u121, u122, u123, u124, u125, u126], defers := [] } w1 := by
 have HS := Keep.mk hS
 clear hS
 have k4 := HS.out.r4.drew
 have k5 := HS.out.r5.drew
 have k6 := HS.out.o.drew
 have k9 := HS.out.e.drew
 have n64 : g6 ≠ g4 := fun e => HS.out.n46 e.symm
 have n94 : g9 ≠ g4 := blk_ne k9 k4 (by decide)
 have n65 : g6 ≠ g5 := blk_ne k6 k5 (by decide)
 have n95 : g9 ≠ g5 := fun e => HS.out.n59 e.symm
 refine wp_region_held_drew (S := fun wx => wx.rangeAt g6 0 (opL y) ∧ wx.rangeAt g9 0 (erA ew eb).toList) (by kernel_rfl) (⟨blk_range k6, blk_range k9⟩) (fun hHeld => ?_)
 refine wpAnyH_take (i := 0) (oi := ⟨some 42, Op.load 88 (Operand.tmp 6), 88, _, _, none⟩) (v := .agg (opL y).toArray) rfl (by kernel_rfl) (by kernel_rfl) (by kernel_rfl) (fun _ _ _ h => hP _ _ _ _ _ h) (yieldsIf_load_mid (by rfl) 88 (Operand.tmp 6) rfl g6 0 rfl (opL y) _ (fun w hS => hS.1) Tryz.underlying88 rfl (Tryz.size88L y)) hHeld ?_
 simp only [Act.put, pqA, pqB, pqC]
 refine wpAnyH_take (i := 1) (oi := ⟨some 43, Op.load 34 (Operand.tmp 9), 34, _, _, none⟩) (v := .agg (erA ew eb).toList.toArray) rfl (by kernel_rfl) (by kernel_rfl) (by kernel_rfl) (fun _ _ _ h => hP _ _ _ _ _ h) (yieldsIf_load_mid (by rfl) 34 (Operand.tmp 9) rfl g9 0 rfl (erA ew eb).toList _ (fun w hS => hS.2) Tryz.underlying34 rfl (Tryz.size34B ew eb)) hHeld ?_
 simp only [Act.put, pqA, pqB, pqC]
 refine wpAnyH_ready (rs := [2]) (by kernel_rfl) (by simp) ?_
 refine AllReadyH.cons (o := ⟨none, Op.store 88 (Operand.tmp 4) (Operand.tmp 42), 0, _, _, none⟩) rfl (fun K hK => ?_) AllReadyH.nil
 rw [if_pos (by rfl)]
 refine wp_store_row 88 (.tmp 4) (.tmp 42) rfl g4 (opA y) rfl rfl 88 (opA zeroOp) k4 (Tryz.size88B _) (opA_sizes _ _) (opA_one _) ?_
 refine hK.out _ _ ⟨blk_range (k6.setRow_ne n64 _), blk_range (k9.setRow_ne n94 _)⟩ fun hH2 => ?_
 clear hK
 simp only [Act.put, pqA, pqB, pqC]
 refine wpAnyH_ready (rs := [3]) (by kernel_rfl) (by simp) ?_
 refine AllReadyH.cons (o := ⟨none, Op.store 34 (Operand.tmp 5) (Operand.tmp 43), 0, _, _, none⟩) rfl (fun K hK => ?_) AllReadyH.nil
 rw [if_pos (by rfl)]
 refine wp_store_row 34 (.tmp 5) (.tmp 43) rfl g5 (erA ew eb) rfl rfl 34 (erA 0 0) (k5.setRow_ne (blk_ne k5 k4 (by decide)) _) (Tryz.size34B _ _) (erA_sizes _ _ _ _) (erA_one _ _) ?_
 refine hK.out _ _ ⟨blk_range ((k6.setRow_ne n64 _).setRow_ne n65 _), blk_range ((k9.setRow_ne n94 _).setRow_ne n95 _)⟩ fun hH3 => ?_
 clear hK
 simp only [Act.put, pqA, pqB, pqC]
 refine wpAnyH_done (by kernel_rfl) ?_ _
 exact hQ (.agg (opL y).toArray) (.agg (erA ew eb).toList.toArray) _ ((k4.setRow _).setRow_ne (blk_ne k4 k5 (by decide)) _) ((k5.setRow_ne (blk_ne k5 k4 (by decide)) _).setRow _) (fun G h1 h2 hE hok => OS.done HS.out G h1 h2 rfl rfl hE hok)
set_option maxRecDepth 8000 in
set_option maxHeartbeats 1000000 in
theorem ret_step17 {u2 u3 u7 u8 u10 u11 u12 u13 u14 u15 u16 u17 u18 u19 u20 u21 u22 u23 u24 u25 u26 u27 u28 u29 u30 u31 u32 u33 u34 u35 u36 u37 u38 u39 u40 u41 u42 u43 u44 u45 u46 u47 u48 u49 u50 u51 u52 u53 u54 u55 u56 u57 u58 u59 u60 u61 u62 u63 u64 u65 u66 u67 u68 u69 u70 u71 u72 u73 u74 u75 u76 u77 u78 u79 u80 u81 u82 u83 u84 u85 u86 u87 u88 u89 u90 u91 u92 u93 u94 u95 u96 u97 u98 u99 u100 u101 u102 u103 u104 u105 u106 u107 u108 u109 u110 u111 u112 u113 u114 u115 u116 u117 u118 u119 u120 u121 u122 u123 u124 u125 u126 : Value} {Q : Exit → Act → World → Prop} (hP : ∀ e (a : Act) d (v : Value) (w : World), Q (.panic e) (a.put d v) w → Q (.panic e) a w) (x g4 g5 g6 g9 : Nat) (vB vl : Value) (w w1 : World) (y : OpV) (ew eb : Int) (p : Nat) (hS : OS w x g4 g5 g6 g9 vB y ew eb p ew eb w1)
  (hQ : ∀ (v82 v83 : Value) (w2 : World), Blk w2 g4 88 (opA y) → Blk w2 g5 34 (erA ew eb) → (∀ G : Int × Nat × OpV, G.1 = ew → G.2.1 = p → ErrB ew p eb → (ew = 0 → y = G.2.2 ∧ OpOk y) → ROne x vB G w (.returned (.tuple #[.agg (opA y), .agg (erA ew eb)])) w2) → Q .normal { tmps := #[.pointer (some ⟨x, 0, none⟩), vl, u2, u3, .pointer (some ⟨g4, 0, none⟩), .pointer (some ⟨g5, 0, none⟩), .pointer (some ⟨g6, 0, none⟩), u7, u8, .pointer (some ⟨g9, 0, none⟩), u10, u11, u12, u13, u14, u15, u16, u17, u18, u19, u20, u21, u22, u23, u24, u25, u26, u27, u28, u29, u30, u31, u32, u33, u34, u35, u36, u37, u38, u39, u40, u41, u42, u43, u44, u45, u46, u47, u48, u49, u50, u51, u52, u53, u54, u55, u56, u57, u58, u59, u60, u61, u62, u63, u64, u65, u66, u67, u68, u69, u70, u71, u72, u73, u74, u75, u76, u77, u78, u79, u80, u81, v82, v83, u84, u85, u86, u87, u88, u89, u90, u91, u92, u93, u94, u95, u96, u97, u98, u99, u100, u101, u102, u103, u104, u105, u106, u107, u108, u109, u110, u111, u112, u113, u114, u115, u116, u117, u118, u119, u120, u121, u122, u123, u124, u125, u126], defers := [] } w2) : Code.wp Tryz.prog (cF (cT (cS (cF (cS (cS (cS (cS (cS (cS (cS (cS (cS (cS (cS (cS (Tryz.f61.body.getD Code.skip))))))))))))))))) Q { tmps := #[.pointer (some ⟨x, 0, none⟩), vl, u2, u3, .pointer (some ⟨g4, 0, none⟩), .pointer (some ⟨g5, 0, none⟩), .pointer (some ⟨g6, 0, none⟩), u7, u8, .pointer (some ⟨g9, 0, none⟩), u10, u11, u12, u13, u14, u15, u16, u17, u18, u19, u20, u21, u22, u23, u24, u25, u26, u27, u28, u29, u30, u31, u32, u33, u34, u35, u36, u37, u38, u39, u40, u41, u42, u43, u44, u45, u46, u47, u48, u49, u50, u51, u52, u53, u54, u55, u56, u57, u58, u59, u60, u61, u62, u63, u64, u65, u66, u67, u68, u69, u70, u71, u72, u73, u74, u75, u76, u77, u78, u79, u80, u81, u82, u83, u84, u85, u86, u87, u88, u89, u90, u91, u92, u93, u94, u95, u96, u97, u98, u99, u100, u101, u102, u103, u104, u105, u106, u107, u108, u109, u110, u111, u112, u113, u114, u115, u116, u117, u118, u119, u120, u121, u122, u123, u124, u125, u126], defers := [] } w1 := by
 have HS := Keep.mk hS
 clear hS
 have k4 := HS.out.r4.drew
 have k5 := HS.out.r5.drew
 have k6 := HS.out.o.drew
 have k9 := HS.out.e.drew
 have n64 : g6 ≠ g4 := fun e => HS.out.n46 e.symm
 have n94 : g9 ≠ g4 := blk_ne k9 k4 (by decide)
 have n65 : g6 ≠ g5 := blk_ne k6 k5 (by decide)
 have n95 : g9 ≠ g5 := fun e => HS.out.n59 e.symm
 refine wp_region_held_drew (S := fun wx => wx.rangeAt g6 0 (opL y) ∧ wx.rangeAt g9 0 (erA ew eb).toList) (by kernel_rfl) (⟨blk_range k6, blk_range k9⟩) (fun hHeld => ?_)
 refine wpAnyH_take (i := 0) (oi := ⟨some 82, Op.load 88 (Operand.tmp 6), 88, _, _, none⟩) (v := .agg (opL y).toArray) rfl (by kernel_rfl) (by kernel_rfl) (by kernel_rfl) (fun _ _ _ h => hP _ _ _ _ _ h) (yieldsIf_load_mid (by rfl) 88 (Operand.tmp 6) rfl g6 0 rfl (opL y) _ (fun w hS => hS.1) Tryz.underlying88 rfl (Tryz.size88L y)) hHeld ?_
 simp only [Act.put, pqA, pqB, pqC]
 refine wpAnyH_take (i := 1) (oi := ⟨some 83, Op.load 34 (Operand.tmp 9), 34, _, _, none⟩) (v := .agg (erA ew eb).toList.toArray) rfl (by kernel_rfl) (by kernel_rfl) (by kernel_rfl) (fun _ _ _ h => hP _ _ _ _ _ h) (yieldsIf_load_mid (by rfl) 34 (Operand.tmp 9) rfl g9 0 rfl (erA ew eb).toList _ (fun w hS => hS.2) Tryz.underlying34 rfl (Tryz.size34B ew eb)) hHeld ?_
 simp only [Act.put, pqA, pqB, pqC]
 refine wpAnyH_ready (rs := [2]) (by kernel_rfl) (by simp) ?_
 refine AllReadyH.cons (o := ⟨none, Op.store 88 (Operand.tmp 4) (Operand.tmp 82), 0, _, _, none⟩) rfl (fun K hK => ?_) AllReadyH.nil
 rw [if_pos (by rfl)]
 refine wp_store_row 88 (.tmp 4) (.tmp 82) rfl g4 (opA y) rfl rfl 88 (opA zeroOp) k4 (Tryz.size88B _) (opA_sizes _ _) (opA_one _) ?_
 refine hK.out _ _ ⟨blk_range (k6.setRow_ne n64 _), blk_range (k9.setRow_ne n94 _)⟩ fun hH2 => ?_
 clear hK
 simp only [Act.put, pqA, pqB, pqC]
 refine wpAnyH_ready (rs := [3]) (by kernel_rfl) (by simp) ?_
 refine AllReadyH.cons (o := ⟨none, Op.store 34 (Operand.tmp 5) (Operand.tmp 83), 0, _, _, none⟩) rfl (fun K hK => ?_) AllReadyH.nil
 rw [if_pos (by rfl)]
 refine wp_store_row 34 (.tmp 5) (.tmp 83) rfl g5 (erA ew eb) rfl rfl 34 (erA 0 0) (k5.setRow_ne (blk_ne k5 k4 (by decide)) _) (Tryz.size34B _ _) (erA_sizes _ _ _ _) (erA_one _ _) ?_
 refine hK.out _ _ ⟨blk_range ((k6.setRow_ne n64 _).setRow_ne n65 _), blk_range ((k9.setRow_ne n94 _).setRow_ne n95 _)⟩ fun hH3 => ?_
 clear hK
 simp only [Act.put, pqA, pqB, pqC]
 refine wpAnyH_done (by kernel_rfl) ?_ _
 exact hQ (.agg (opL y).toArray) (.agg (erA ew eb).toList.toArray) _ ((k4.setRow _).setRow_ne (blk_ne k4 k5 (by decide)) _) ((k5.setRow_ne (blk_ne k5 k4 (by decide)) _).setRow _) (fun G h1 h2 hE hok => OS.done HS.out G h1 h2 rfl rfl hE hok)
set_option maxRecDepth 8000 in
set_option maxHeartbeats 1000000 in
theorem ret_step24 {u2 u3 u7 u8 u10 u11 u12 u13 u14 u15 u16 u17 u18 u19 u20 u21 u22 u23 u24 u25 u26 u27 u28 u29 u30 u31 u32 u33 u34 u35 u36 u37 u38 u39 u40 u41 u42 u43 u44 u45 u46 u47 u48 u49 u50 u51 u52 u53 u54 u55 u56 u57 u58 u59 u60 u61 u62 u63 u64 u65 u66 u67 u68 u69 u70 u71 u72 u73 u74 u75 u76 u77 u78 u79 u80 u81 u82 u83 u84 u85 u86 u87 u88 u89 u90 u91 u92 u93 u94 u95 u96 u97 u98 u99 u100 u101 u102 u103 u104 u105 u106 u107 u108 u109 u110 u111 u112 u113 u114 u115 u116 u117 u118 u119 u120 u121 u122 u123 u124 u125 u126 : Value} {Q : Exit → Act → World → Prop} (hP : ∀ e (a : Act) d (v : Value) (w : World), Q (.panic e) (a.put d v) w → Q (.panic e) a w) (x g4 g5 g6 g9 : Nat) (vB vl : Value) (w w1 : World) (y : OpV) (ew eb : Int) (p : Nat) (hS : OS w x g4 g5 g6 g9 vB y ew eb p ew eb w1)
  (hQ : ∀ (v109 v110 : Value) (w2 : World), Blk w2 g4 88 (opA y) → Blk w2 g5 34 (erA ew eb) → (∀ G : Int × Nat × OpV, G.1 = ew → G.2.1 = p → ErrB ew p eb → (ew = 0 → y = G.2.2 ∧ OpOk y) → ROne x vB G w (.returned (.tuple #[.agg (opA y), .agg (erA ew eb)])) w2) → Q .normal { tmps := #[.pointer (some ⟨x, 0, none⟩), vl, u2, u3, .pointer (some ⟨g4, 0, none⟩), .pointer (some ⟨g5, 0, none⟩), .pointer (some ⟨g6, 0, none⟩), u7, u8, .pointer (some ⟨g9, 0, none⟩), u10, u11, u12, u13, u14, u15, u16, u17, u18, u19, u20, u21, u22, u23, u24, u25, u26, u27, u28, u29, u30, u31, u32, u33, u34, u35, u36, u37, u38, u39, u40, u41, u42, u43, u44, u45, u46, u47, u48, u49, u50, u51, u52, u53, u54, u55, u56, u57, u58, u59, u60, u61, u62, u63, u64, u65, u66, u67, u68, u69, u70, u71, u72, u73, u74, u75, u76, u77, u78, u79, u80, u81, u82, u83, u84, u85, u86, u87, u88, u89, u90, u91, u92, u93, u94, u95, u96, u97, u98, u99, u100, u101, u102, u103, u104, u105, u106, u107, u108, v109, v110, u111, u112, u113, u114, u115, u116, u117, u118, u119, u120, u121, u122, u123, u124, u125, u126], defers := [] } w2) : Code.wp Tryz.prog (cF (cT (cS (cF (cS (cS (cS (cS (cS (cS (cS (cS (cS (cS (cS (cS (cS (cS (cS (cS (cS (Tryz.f61.body.getD Code.skip)))))))))))))))))))))) Q { tmps := #[.pointer (some ⟨x, 0, none⟩), vl, u2, u3, .pointer (some ⟨g4, 0, none⟩), .pointer (some ⟨g5, 0, none⟩), .pointer (some ⟨g6, 0, none⟩), u7, u8, .pointer (some ⟨g9, 0, none⟩), u10, u11, u12, u13, u14, u15, u16, u17, u18, u19, u20, u21, u22, u23, u24, u25, u26, u27, u28, u29, u30, u31, u32, u33, u34, u35, u36, u37, u38, u39, u40, u41, u42, u43, u44, u45, u46, u47, u48, u49, u50, u51, u52, u53, u54, u55, u56, u57, u58, u59, u60, u61, u62, u63, u64, u65, u66, u67, u68, u69, u70, u71, u72, u73, u74, u75, u76, u77, u78, u79, u80, u81, u82, u83, u84, u85, u86, u87, u88, u89, u90, u91, u92, u93, u94, u95, u96, u97, u98, u99, u100, u101, u102, u103, u104, u105, u106, u107, u108, u109, u110, u111, u112, u113, u114, u115, u116, u117, u118, u119, u120, u121, u122, u123, u124, u125, u126], defers := [] } w1 := by
 have HS := Keep.mk hS
 clear hS
 have k4 := HS.out.r4.drew
 have k5 := HS.out.r5.drew
 have k6 := HS.out.o.drew
 have k9 := HS.out.e.drew
 have n64 : g6 ≠ g4 := fun e => HS.out.n46 e.symm
 have n94 : g9 ≠ g4 := blk_ne k9 k4 (by decide)
 have n65 : g6 ≠ g5 := blk_ne k6 k5 (by decide)
 have n95 : g9 ≠ g5 := fun e => HS.out.n59 e.symm
 refine wp_region_held_drew (S := fun wx => wx.rangeAt g6 0 (opL y) ∧ wx.rangeAt g9 0 (erA ew eb).toList) (by kernel_rfl) (⟨blk_range k6, blk_range k9⟩) (fun hHeld => ?_)
 refine wpAnyH_take (i := 0) (oi := ⟨some 109, Op.load 88 (Operand.tmp 6), 88, _, _, none⟩) (v := .agg (opL y).toArray) rfl (by kernel_rfl) (by kernel_rfl) (by kernel_rfl) (fun _ _ _ h => hP _ _ _ _ _ h) (yieldsIf_load_mid (by rfl) 88 (Operand.tmp 6) rfl g6 0 rfl (opL y) _ (fun w hS => hS.1) Tryz.underlying88 rfl (Tryz.size88L y)) hHeld ?_
 simp only [Act.put, pqA, pqB, pqC]
 refine wpAnyH_take (i := 1) (oi := ⟨some 110, Op.load 34 (Operand.tmp 9), 34, _, _, none⟩) (v := .agg (erA ew eb).toList.toArray) rfl (by kernel_rfl) (by kernel_rfl) (by kernel_rfl) (fun _ _ _ h => hP _ _ _ _ _ h) (yieldsIf_load_mid (by rfl) 34 (Operand.tmp 9) rfl g9 0 rfl (erA ew eb).toList _ (fun w hS => hS.2) Tryz.underlying34 rfl (Tryz.size34B ew eb)) hHeld ?_
 simp only [Act.put, pqA, pqB, pqC]
 refine wpAnyH_ready (rs := [2]) (by kernel_rfl) (by simp) ?_
 refine AllReadyH.cons (o := ⟨none, Op.store 88 (Operand.tmp 4) (Operand.tmp 109), 0, _, _, none⟩) rfl (fun K hK => ?_) AllReadyH.nil
 rw [if_pos (by rfl)]
 refine wp_store_row 88 (.tmp 4) (.tmp 109) rfl g4 (opA y) rfl rfl 88 (opA zeroOp) k4 (Tryz.size88B _) (opA_sizes _ _) (opA_one _) ?_
 refine hK.out _ _ ⟨blk_range (k6.setRow_ne n64 _), blk_range (k9.setRow_ne n94 _)⟩ fun hH2 => ?_
 clear hK
 simp only [Act.put, pqA, pqB, pqC]
 refine wpAnyH_ready (rs := [3]) (by kernel_rfl) (by simp) ?_
 refine AllReadyH.cons (o := ⟨none, Op.store 34 (Operand.tmp 5) (Operand.tmp 110), 0, _, _, none⟩) rfl (fun K hK => ?_) AllReadyH.nil
 rw [if_pos (by rfl)]
 refine wp_store_row 34 (.tmp 5) (.tmp 110) rfl g5 (erA ew eb) rfl rfl 34 (erA 0 0) (k5.setRow_ne (blk_ne k5 k4 (by decide)) _) (Tryz.size34B _ _) (erA_sizes _ _ _ _) (erA_one _ _) ?_
 refine hK.out _ _ ⟨blk_range ((k6.setRow_ne n64 _).setRow_ne n65 _), blk_range ((k9.setRow_ne n94 _).setRow_ne n95 _)⟩ fun hH3 => ?_
 clear hK
 simp only [Act.put, pqA, pqB, pqC]
 refine wpAnyH_done (by kernel_rfl) ?_ _
 exact hQ (.agg (opL y).toArray) (.agg (erA ew eb).toList.toArray) _ ((k4.setRow _).setRow_ne (blk_ne k4 k5 (by decide)) _) ((k5.setRow_ne (blk_ne k5 k4 (by decide)) _).setRow _) (fun G h1 h2 hE hok => OS.done HS.out G h1 h2 rfl rfl hE hok)
set_option maxRecDepth 8000 in
set_option maxHeartbeats 1000000 in
theorem ret_step29 {u2 u3 u7 u8 u10 u11 u12 u13 u14 u15 u16 u17 u18 u19 u20 u21 u22 u23 u24 u25 u26 u27 u28 u29 u30 u31 u32 u33 u34 u35 u36 u37 u38 u39 u40 u41 u42 u43 u44 u45 u46 u47 u48 u49 u50 u51 u52 u53 u54 u55 u56 u57 u58 u59 u60 u61 u62 u63 u64 u65 u66 u67 u68 u69 u70 u71 u72 u73 u74 u75 u76 u77 u78 u79 u80 u81 u82 u83 u84 u85 u86 u87 u88 u89 u90 u91 u92 u93 u94 u95 u96 u97 u98 u99 u100 u101 u102 u103 u104 u105 u106 u107 u108 u109 u110 u111 u112 u113 u114 u115 u116 u117 u118 u119 u120 u121 u122 u123 u124 u125 u126 : Value} {Q : Exit → Act → World → Prop} (hP : ∀ e (a : Act) d (v : Value) (w : World), Q (.panic e) (a.put d v) w → Q (.panic e) a w) (x g4 g5 g6 g9 : Nat) (vB vl : Value) (w w1 : World) (y : OpV) (ew eb : Int) (p : Nat) (hS : OS w x g4 g5 g6 g9 vB y ew eb p ew eb w1)
  (hQ : ∀ (v125 v126 : Value) (w2 : World), Blk w2 g4 88 (opA y) → Blk w2 g5 34 (erA ew eb) → (∀ G : Int × Nat × OpV, G.1 = ew → G.2.1 = p → ErrB ew p eb → (ew = 0 → y = G.2.2 ∧ OpOk y) → ROne x vB G w (.returned (.tuple #[.agg (opA y), .agg (erA ew eb)])) w2) → Q .normal { tmps := #[.pointer (some ⟨x, 0, none⟩), vl, u2, u3, .pointer (some ⟨g4, 0, none⟩), .pointer (some ⟨g5, 0, none⟩), .pointer (some ⟨g6, 0, none⟩), u7, u8, .pointer (some ⟨g9, 0, none⟩), u10, u11, u12, u13, u14, u15, u16, u17, u18, u19, u20, u21, u22, u23, u24, u25, u26, u27, u28, u29, u30, u31, u32, u33, u34, u35, u36, u37, u38, u39, u40, u41, u42, u43, u44, u45, u46, u47, u48, u49, u50, u51, u52, u53, u54, u55, u56, u57, u58, u59, u60, u61, u62, u63, u64, u65, u66, u67, u68, u69, u70, u71, u72, u73, u74, u75, u76, u77, u78, u79, u80, u81, u82, u83, u84, u85, u86, u87, u88, u89, u90, u91, u92, u93, u94, u95, u96, u97, u98, u99, u100, u101, u102, u103, u104, u105, u106, u107, u108, u109, u110, u111, u112, u113, u114, u115, u116, u117, u118, u119, u120, u121, u122, u123, u124, v125, v126], defers := [] } w2) : Code.wp Tryz.prog (cF (cS (cS (cS (cS (cS (cS (cS (cS (cS (cS (cS (cS (cS (cS (cS (cS (cS (cS (cS (cS (cS (Tryz.f61.body.getD Code.skip))))))))))))))))))))))) Q { tmps := #[.pointer (some ⟨x, 0, none⟩), vl, u2, u3, .pointer (some ⟨g4, 0, none⟩), .pointer (some ⟨g5, 0, none⟩), .pointer (some ⟨g6, 0, none⟩), u7, u8, .pointer (some ⟨g9, 0, none⟩), u10, u11, u12, u13, u14, u15, u16, u17, u18, u19, u20, u21, u22, u23, u24, u25, u26, u27, u28, u29, u30, u31, u32, u33, u34, u35, u36, u37, u38, u39, u40, u41, u42, u43, u44, u45, u46, u47, u48, u49, u50, u51, u52, u53, u54, u55, u56, u57, u58, u59, u60, u61, u62, u63, u64, u65, u66, u67, u68, u69, u70, u71, u72, u73, u74, u75, u76, u77, u78, u79, u80, u81, u82, u83, u84, u85, u86, u87, u88, u89, u90, u91, u92, u93, u94, u95, u96, u97, u98, u99, u100, u101, u102, u103, u104, u105, u106, u107, u108, u109, u110, u111, u112, u113, u114, u115, u116, u117, u118, u119, u120, u121, u122, u123, u124, u125, u126], defers := [] } w1 := by
 have HS := Keep.mk hS
 clear hS
 have k4 := HS.out.r4.drew
 have k5 := HS.out.r5.drew
 have k6 := HS.out.o.drew
 have k9 := HS.out.e.drew
 have n64 : g6 ≠ g4 := fun e => HS.out.n46 e.symm
 have n94 : g9 ≠ g4 := blk_ne k9 k4 (by decide)
 have n65 : g6 ≠ g5 := blk_ne k6 k5 (by decide)
 have n95 : g9 ≠ g5 := fun e => HS.out.n59 e.symm
 refine wp_region_held_drew (S := fun wx => wx.rangeAt g6 0 (opL y) ∧ wx.rangeAt g9 0 (erA ew eb).toList) (by kernel_rfl) (⟨blk_range k6, blk_range k9⟩) (fun hHeld => ?_)
 refine wpAnyH_take (i := 0) (oi := ⟨some 125, Op.load 88 (Operand.tmp 6), 88, _, _, none⟩) (v := .agg (opL y).toArray) rfl (by kernel_rfl) (by kernel_rfl) (by kernel_rfl) (fun _ _ _ h => hP _ _ _ _ _ h) (yieldsIf_load_mid (by rfl) 88 (Operand.tmp 6) rfl g6 0 rfl (opL y) _ (fun w hS => hS.1) Tryz.underlying88 rfl (Tryz.size88L y)) hHeld ?_
 simp only [Act.put, pqA, pqB, pqC]
 refine wpAnyH_take (i := 1) (oi := ⟨some 126, Op.load 34 (Operand.tmp 9), 34, _, _, none⟩) (v := .agg (erA ew eb).toList.toArray) rfl (by kernel_rfl) (by kernel_rfl) (by kernel_rfl) (fun _ _ _ h => hP _ _ _ _ _ h) (yieldsIf_load_mid (by rfl) 34 (Operand.tmp 9) rfl g9 0 rfl (erA ew eb).toList _ (fun w hS => hS.2) Tryz.underlying34 rfl (Tryz.size34B ew eb)) hHeld ?_
 simp only [Act.put, pqA, pqB, pqC]
 refine wpAnyH_ready (rs := [2]) (by kernel_rfl) (by simp) ?_
 refine AllReadyH.cons (o := ⟨none, Op.store 88 (Operand.tmp 4) (Operand.tmp 125), 0, _, _, none⟩) rfl (fun K hK => ?_) AllReadyH.nil
 rw [if_pos (by rfl)]
 refine wp_store_row 88 (.tmp 4) (.tmp 125) rfl g4 (opA y) rfl rfl 88 (opA zeroOp) k4 (Tryz.size88B _) (opA_sizes _ _) (opA_one _) ?_
 refine hK.out _ _ ⟨blk_range (k6.setRow_ne n64 _), blk_range (k9.setRow_ne n94 _)⟩ fun hH2 => ?_
 clear hK
 simp only [Act.put, pqA, pqB, pqC]
 refine wpAnyH_ready (rs := [3]) (by kernel_rfl) (by simp) ?_
 refine AllReadyH.cons (o := ⟨none, Op.store 34 (Operand.tmp 5) (Operand.tmp 126), 0, _, _, none⟩) rfl (fun K hK => ?_) AllReadyH.nil
 rw [if_pos (by rfl)]
 refine wp_store_row 34 (.tmp 5) (.tmp 126) rfl g5 (erA ew eb) rfl rfl 34 (erA 0 0) (k5.setRow_ne (blk_ne k5 k4 (by decide)) _) (Tryz.size34B _ _) (erA_sizes _ _ _ _) (erA_one _ _) ?_
 refine hK.out _ _ ⟨blk_range ((k6.setRow_ne n64 _).setRow_ne n65 _), blk_range ((k9.setRow_ne n94 _).setRow_ne n95 _)⟩ fun hH3 => ?_
 clear hK
 simp only [Act.put, pqA, pqB, pqC]
 refine wpAnyH_done (by kernel_rfl) ?_ _
 exact hQ (.agg (opL y).toArray) (.agg (erA ew eb).toList.toArray) _ ((k4.setRow _).setRow_ne (blk_ne k4 k5 (by decide)) _) ((k5.setRow_ne (blk_ne k5 k4 (by decide)) _).setRow _) (fun G h1 h2 hE hok => OS.done HS.out G h1 h2 rfl rfl hE hok)
end Go.Proofs.YtdeiicldfgkidaaGreat
namespace Go.Proofs.YtdeiicldfgkidaaGreat
open Go.RowKit
set_option linter.unusedSimpArgs false

theorem Tryz.new86 (w : World) : (Instr.alloc 86 true (.tuple #[])).run Tryz.prog w = .ok (.pointer (some ⟨w.heap.size, 0, none⟩)) (w.alloc (.cells (idA z32 0) 86)) := by kernel_rfl
theorem idA_sizes (c e : List Int) (o p : Int) : (idA c o).size = (idA e p).size := by rw [idA_size, idA_size]
theorem idA_32 (c : List Int) (o : Int) : (idA c o)[32]? = some (.int .i64 o) := by unfold idA; rw [List.getElem?_toArray]; exact idL_op c o
theorem opL_range {w : World} {g of : Nat} {x : OpV} (h : w.rangeAt g of (opL x)) : w.rangeAt g (of + 4) (idA x.node x.op).toList := fun j v hv => by
 have := h (4 + j) v (by rw [← List.getElem?_drop, opL_at]; exact hv)
 rw [← Nat.add_assoc] at this; exact this
set_option maxRecDepth 8000 in
set_option maxHeartbeats 2000000 in
theorem rmay_any (v : Value) (l : List OpV) (i : Nat) (w : World) (hl : OpsAt w v l) (hi : i < l.length) (hb : l.length ≤ 4398046511104) (hok : OpOk (l.getD i zeroOp)) :
  Calls Tryz.prog 95 #[v, .int .i64 (i : Int)] w fun e w' => e = .returned (.bool (mayAt (l.take i) (l.getD i zeroOp))) ∧ Below w.heap.size w w' := by
 obtain ⟨va, vc, rfl⟩ := hl.form
 obtain ⟨gL, ofL, hva, hr⟩ := hl.at hi
 obtain ⟨R, hR⟩ : ∃ R, R = mayAt (l.take i) (l.getD i zeroOp) := ⟨_, rfl⟩
 rw [← hR]
 generalize l.getD i zeroOp = x at *
 unfold mayAt at hR
 have HM := Keep.mk hR
 have HRx := Keep.mk hr
 have HRi := Keep.mk (opL_range hr)
 have Hi := Keep.mk hi
 have Hlt : Keep ((l.take i).length = i) := ⟨by rw [List.length_take]; omega⟩
 have hi' : (i : Int) < (l.length : Int) := by omega
 have hb' : (l.length : Int) ≤ 4398046511104 := by omega
 have he := run_eqlH x.node z32
 have ho1 := hok.o1
 have ho2 := hok.o2
 have HA := Keep.mk ((Blk.new w 86 (idA z32 0)).setRow (idA x.node x.op))
 have HW1 : Keep (Below w.heap.size w ((w.alloc (.cells (idA z32 0) 86)).setRow w.heap.size (idA x.node x.op))) := ⟨below_setRow (below_new w _) (Nat.le_refl _) _⟩
 have hL1 := hl.below HW1.out
 obtain ⟨w1, hw1⟩ : ∃ w1, Keep ((w.alloc (.cells (idA z32 0) 86)).setRow w.heap.size (idA x.node x.op) = w1) := ⟨_, ⟨rfl⟩⟩
 rw [hw1.out] at HA HW1 hL1
 have HL1 := Keep.mk hL1
 have c32 := HA.out.c 32 (idA_32 _ _)
 have hrx1 := range_grown hr (Grown.below (S := fun _ => False) HW1.out) (fun h => h)
 have ck : w1.cell? ⟨gL, ofL + i * 37, none⟩ = some (.int .i64 x.kind) := hrx1 0 _ (by simp [opL])
 clear hl hi hb hok hr hR hL1 hrx1
 go_enter Tryz.func95, Tryz.ntmps95
 refine wp_seq_k fun K1 hK1 => rgn ?_
 refine VlS (.bool false) ?_
 refine WL.nil (hK1 _ _ ?_)
 refine wp_seq_k fun K2 hK2 => rgn ?_
 refine VlS (.slice va l.length vc) ?_
 refine VlS (.int .i64 (i : Int)) ?_
 refine VlS (.pointer (some ⟨gL, ofL + i * 37, none⟩)) ?_
 refine VlS (.pointer (some ⟨gL, ofL + i * 37 + 4, none⟩)) ?_
 refine WL.midA (by kernel_rfl) 86 (.tmp 11) rfl gL (ofL + i * 37 + 4) rfl (idA x.node x.op) _ HRi.out Tryz.underlying86 rfl (Tryz.size86B _ _) ?_
 simp only [Act.put, pqA, pqB, pqC]
 refine WL.new (by kernel_rfl) 86 rfl _ Tryz.new86 ?_
 simp only [Act.put, pqA, pqB, pqC]
 refine WL.storeR (by kernel_rfl) 86 (.tmp 5) (.tmp 12) rfl w.heap.size (idA x.node x.op) rfl rfl 86 (idA z32 0) (Blk.new w 86 _) (Tryz.size86B _ _) (idA_sizes _ _ _ _) (idA_one _ _) ?_
 rw [hw1.out]
 simp only [Act.put]
 refine WL.nil (hK2 _ _ ?_)
 refine wp_seq_k fun K3 hK3 => rgn ?_
 refine VlS (.pointer (some ⟨w.heap.size, 0, none⟩)) ?_
 refine WL.midA (by kernel_rfl) 41 (.tmp 13) rfl w.heap.size 0 rfl (bytesA 32 (hof x.node)) _ (idA_range HA.out) Tryz.underlying41 rfl (Tryz.size41B _) ?_
 simp only [Act.put, pqA, pqB, pqC]
 refine WL.bld (by kernel_rfl) 41 _ rfl [] (by simp) (bytesA 32 (hof z32)) Tryz.built41 ?_
 simp only [Act.put, pqA, pqB, pqC]
 rcases Bool.eq_false_or_eq_true (nd x.node z32) with h2_3 | h2_3
 ·rw [h2_3] at he HM
  refine VlS (.bool true) ?_
  refine VlS (.bool true) ?_
  refine WL.nil (hK3 _ _ ?_)
  refine wp_seq_k fun K4 hK4 => ?_
  refine wp_block ?_
  refine wp_seq_k fun K5 hK5 => rgn ?_
  refine VlS (.bool true) ?_
  refine VlS (.bool true) ?_
  refine VlS (.pointer (some ⟨w.heap.size, 32, none⟩)) ?_
  refine VlS (.int .i64 x.op) ?_
  by_cases h3_4 : x.op = 0
  ·skip
   refine VlS (.bool true) ?_
   refine VlS (.bool true) ?_
   refine VlS (.bool true) ?_
   refine WL.nil (hK5 _ _ ?_)
   refine wp_cond_true rfl ?_
   refine wp_seq_k fun K6 hK6 => rgn ?_
   refine VlS (.slice va l.length vc) ?_
   refine VlS (.int .i64 (i : Int)) ?_
   refine VlS (.pointer (some ⟨gL, ofL + i * 37, none⟩)) ?_
   refine VlS (.pointer (some ⟨gL, ofL + i * 37, none⟩)) ?_
   refine VlS (.int .i64 x.kind) ?_
   refine VlS (.bool (x.kind == 8)) ?_
   refine VlS (.bool (x.kind == 8)) ?_
   refine WL.nil (hK6 _ _ ?_)
   refine wp_ret ?_
   go_ret
   exact ⟨by rw [HM.out, if_pos (by simp; omega)]; rfl, HW1.out⟩
  ·skip
   refine VlS (.bool false) ?_
   refine VlS (.bool false) ?_
   refine VlS (.bool false) ?_
   refine WL.nil (hK5 _ _ ?_)
   refine wp_cond_false rfl ?_
   refine wp_seq_k fun K7 hK7 => rgn ?_
   refine VlS (.bool true) ?_
   refine VlS (.bool true) ?_
   refine VlS (.pointer (some ⟨w.heap.size, 32, none⟩)) ?_
   refine VlS (.int .i64 x.op) ?_
   by_cases h5_4 : 1 ≤ x.op
   ·skip
    refine VlS (.bool true) ?_
    refine VlS (.bool true) ?_
    refine VlS (.bool true) ?_
    refine VlS (.pointer (some ⟨w.heap.size, 32, none⟩)) ?_
    refine VlS (.int .i64 x.op) ?_
    refine VlS (.int .i64 (i : Int)) ?_
    by_cases h5_10 : x.op ≤ (i : Int)
    ·skip
     refine VlS (.bool true) ?_
     refine VlS (.bool true) ?_
     refine VlS (.bool true) ?_
     refine WL.nil (hK7 _ _ ?_)
     refine wp_cond_true rfl ?_
     refine wp_seq_k fun K8 hK8 => rgn ?_
     refine VlS (.slice va l.length vc) ?_
     refine VlS (.pointer (some ⟨w.heap.size, 32, none⟩)) ?_
     refine VlS (.int .i64 x.op) ?_
     have hws : IntKind.i64.wrap (x.op - 1) = x.op - 1 := by rw [IntKind.wrap_i64]; omega
     refine VlS (.int .i64 (x.op - 1)) ?_
     obtain ⟨t, ht⟩ : ∃ t : Nat, x.op = (t : Int) + 1 := ⟨(x.op - 1).toNat, by omega⟩
     have hti : t < i := by omega
     obtain ⟨g2, of2, hva2, hr2⟩ := HL1.out.at (show t < l.length by have := Hi.out; omega)
     obtain ⟨e1, e2⟩ : g2 = gL ∧ of2 = ofL := by rw [hva] at hva2; simp at hva2; exact ⟨hva2.1.symm, hva2.2.symm⟩
     subst e1 e2
     have htn : (x.op - 1) = (t : Int) := by omega
     rw [show x.op - 1 = (t : Int) from htn]
     have HR2 := Keep.mk hr2
     obtain ⟨it, hit⟩ : ∃ it, Keep (it = l.getD t zeroOp) := ⟨_, ⟨rfl⟩⟩
     rw [← hit.out] at HR2
     have hlt : t < l.length := by have := Hi.out; omega
     have hlt' : (t : Int) < (l.length : Int) := by omega
     clear hr2 hva2 htn
     refine VlS (.pointer (some ⟨g2, of2 + t * 37, none⟩)) ?_
     refine WL.mid (by kernel_rfl) 88 (.tmp 47) rfl g2 (of2 + t * 37) rfl (opL it) _ HR2.out Tryz.underlying88 rfl (Tryz.size88L it) ?_
     rw [rng_load]
     simp only [Act.put, pqA, pqB, pqC]
     refine WL.new (by kernel_rfl) 88 rfl _ Tryz.new88 ?_
     simp only [Act.put, pqA, pqB, pqC]
     refine WL.storeR (by kernel_rfl) 88 (.tmp 7) (.tmp 48) rfl w1.heap.size (opA it) rfl rfl 88 (opA zeroOp) (Blk.new w1 88 _) (Tryz.size88B it) (opA_sizes _ _) (opA_one it) ?_
     have HX := Keep.mk ((Blk.new w1 88 (opA zeroOp)).setRow (opA it))
     have HG : Keep (Below w1.heap.size w1 ((w1.alloc (.cells (opA zeroOp) 88)).setRow w1.heap.size (opA it))) := ⟨below_setRow (below_new w1 _) (Nat.le_refl _) _⟩
     generalize (w1.alloc (.cells (opA zeroOp) 88)).setRow w1.heap.size (opA it) = w2 at *
     have HS2 : Keep (w2.drew.cell? ⟨w1.heap.size, 0, none⟩ = some (.int .i64 it.kind) ∧ w2.drew.cell? ⟨w1.heap.size, 1, none⟩ = some (.string it.key) ∧ w2.drew.cell? ⟨g2, of2 + i * 37 + 1, none⟩ = some (.string x.key)) := ⟨HX.out.drew.c 0 (opA_0 it), HX.out.drew.c 1 (opA_1 it), by
      have h := range_grown HRx.out (Grown.below (S := fun _ => False) ((HW1.out.trans (HG.out.mono HW1.out.size)))) (fun h => h)
      exact h 1 _ (by simp [opL])⟩
     simp only [Act.put]
     refine WL.nil (hK8 _ _ ?_)
     refine wp_seq_k fun K9 hK9 => ?_
     by_cases hk8 : it.kind = 8
     ·skip
      refine wp_region_held_drew (S := fun wx => wx.cell? ⟨w1.heap.size, 0, none⟩ = some (.int .i64 it.kind) ∧ wx.cell? ⟨w1.heap.size, 1, none⟩ = some (.string it.key) ∧ wx.cell? ⟨g2, of2 + i * 37 + 1, none⟩ = some (.string x.key)) (by kernel_rfl) (HS2.out) (fun hHeld => ?_)
      refine tkS (i := 0) (oi := ⟨some 49, Op.fieldAddr 88 (Operand.tmp 7) 0, 0, _, _, none⟩) (v := .pointer (some ⟨w1.heap.size, 0, none⟩)) rfl (Or.inl ⟨by rfl, fun w hS => by obtain ⟨hs1, hs2, hs3⟩ := hS; go_simp⟩) hHeld ?_
      refine tkS (i := 1) (oi := ⟨some 50, Op.load 3 (Operand.tmp 49), 3, _, _, none⟩) (v := .int .i64 it.kind) rfl (Or.inl ⟨by rfl, fun w hS => by obtain ⟨hs1, hs2, hs3⟩ := hS; go_simp⟩) hHeld ?_
      refine tkS (i := 2) (oi := ⟨some 51, Op.binOp BinOp.eql 3 (Operand.tmp 50) (Operand.const (Value.int IntKind.i64 8)) 3, 4, _, _, none⟩) (v := .bool true) rfl (Or.inl ⟨by rfl, fun w hS => by obtain ⟨hs1, hs2, hs3⟩ := hS; go_simp⟩) hHeld ?_
      refine tkS (i := 3) (oi := ⟨some 52, Op.move (Operand.tmp 51), 4, _, _, none⟩) (v := .bool true) rfl (Or.inl ⟨by rfl, fun w hS => by obtain ⟨hs1, hs2, hs3⟩ := hS; go_simp⟩) hHeld ?_
      refine tkS (i := 4) (oi := ⟨some 53, Op.fieldAddr 88 (Operand.tmp 7) 1, 0, _, _, some (3, true)⟩) (v := .pointer (some ⟨w1.heap.size, 1, none⟩)) rfl (Or.inl ⟨by rfl, fun w hS => by obtain ⟨hs1, hs2, hs3⟩ := hS; go_simp⟩) hHeld ?_
      refine tkS (i := 5) (oi := ⟨some 54, Op.load 9 (Operand.tmp 53), 9, _, _, some (3, true)⟩) (v := .string it.key) rfl (Or.inl ⟨by rfl, fun w hS => by obtain ⟨hs1, hs2, hs3⟩ := hS; go_simp⟩) hHeld ?_
      refine tkS (i := 6) (oi := ⟨some 55, Op.move (Operand.tmp 0), 26, _, _, some (3, true)⟩) (v := .slice va l.length vc) rfl (Or.inl ⟨by rfl, fun w hS => by obtain ⟨hs1, hs2, hs3⟩ := hS; go_simp⟩) hHeld ?_
      refine tkS (i := 7) (oi := ⟨some 56, Op.move (Operand.tmp 1), 3, _, _, some (3, true)⟩) (v := .int .i64 (i : Int)) rfl (Or.inl ⟨by rfl, fun w hS => by obtain ⟨hs1, hs2, hs3⟩ := hS; go_simp⟩) hHeld ?_
      refine tkS (i := 8) (oi := ⟨some 57, Op.indexAddr 26 (Operand.tmp 55) (Operand.tmp 56), 0, _, _, some (3, true)⟩) (v := .pointer (some ⟨g2, of2 + i * 37, none⟩)) rfl (Or.inl ⟨by rfl, fun w hS => by obtain ⟨hs1, hs2, hs3⟩ := hS; go_simp⟩) hHeld ?_
      refine tkS (i := 9) (oi := ⟨some 58, Op.fieldAddr 88 (Operand.tmp 57) 1, 0, _, _, some (3, true)⟩) (v := .pointer (some ⟨g2, of2 + i * 37 + 1, none⟩)) rfl (Or.inl ⟨by rfl, fun w hS => by obtain ⟨hs1, hs2, hs3⟩ := hS; go_simp⟩) hHeld ?_
      refine tkS (i := 10) (oi := ⟨some 59, Op.load 9 (Operand.tmp 58), 9, _, _, some (3, true)⟩) (v := .string x.key) rfl (Or.inl ⟨by rfl, fun w hS => by obtain ⟨hs1, hs2, hs3⟩ := hS; go_simp⟩) hHeld ?_
      refine tkS (i := 11) (oi := ⟨some 60, Op.binOp BinOp.eql 9 (Operand.tmp 54) (Operand.tmp 59) 9, 4, _, _, some (3, true)⟩) (v := .bool (it.key.toList == x.key.toList)) rfl (Or.inl ⟨by rfl, fun w hS => by obtain ⟨hs1, hs2, hs3⟩ := hS; go_simp⟩) hHeld ?_
      refine tkS (i := 12) (oi := ⟨some 61, Op.pick (Operand.tmp 52) (Operand.tmp 60) (Operand.const (Value.bool false)), 4, _, _, none⟩) (v := .bool (it.key.toList == x.key.toList)) rfl (Or.inl ⟨by rfl, fun w hS => by obtain ⟨hs1, hs2, hs3⟩ := hS; go_simp⟩) hHeld ?_
      refine tkS (i := 13) (oi := ⟨some 4, Op.assign (Operand.tmp 61), 4, _, _, none⟩) (v := .bool (it.key.toList == x.key.toList)) rfl (Or.inl ⟨by rfl, fun w hS => by obtain ⟨hs1, hs2, hs3⟩ := hS; go_simp⟩) hHeld ?_
      refine wpAnyH_done (by kernel_rfl) ?_ _
      refine hK9 _ _ ?_
      refine wp_ret ?_
      go_ret
      have e : (x.op - 1).toNat = t := by omega
      have hgt : (l.take i).getD t zeroOp = it := by rw [hit.out]; simp [List.getD_eq_getElem?_getD, hti, List.getElem?_take]
      exact ⟨by rw [HM.out, if_neg (by simp; omega), if_neg (by simp), if_neg (by have := Hlt.out; omega), e, hgt, hk8, beq_toListBytes]; rfl, HW1.out.trans ((HG.out.drew).mono HW1.out.size)⟩
     ·skip
      refine wp_region_held_drew (S := fun wx => wx.cell? ⟨w1.heap.size, 0, none⟩ = some (.int .i64 it.kind) ∧ wx.cell? ⟨w1.heap.size, 1, none⟩ = some (.string it.key) ∧ wx.cell? ⟨g2, of2 + i * 37 + 1, none⟩ = some (.string x.key)) (by kernel_rfl) (HS2.out) (fun hHeld => ?_)
      refine tkS (i := 0) (oi := ⟨some 49, Op.fieldAddr 88 (Operand.tmp 7) 0, 0, _, _, none⟩) (v := .pointer (some ⟨w1.heap.size, 0, none⟩)) rfl (Or.inl ⟨by rfl, fun w hS => by obtain ⟨hs1, hs2, hs3⟩ := hS; go_simp⟩) hHeld ?_
      refine tkS (i := 1) (oi := ⟨some 50, Op.load 3 (Operand.tmp 49), 3, _, _, none⟩) (v := .int .i64 it.kind) rfl (Or.inl ⟨by rfl, fun w hS => by obtain ⟨hs1, hs2, hs3⟩ := hS; go_simp⟩) hHeld ?_
      refine tkS (i := 2) (oi := ⟨some 51, Op.binOp BinOp.eql 3 (Operand.tmp 50) (Operand.const (Value.int IntKind.i64 8)) 3, 4, _, _, none⟩) (v := .bool false) rfl (Or.inl ⟨by rfl, fun w hS => by obtain ⟨hs1, hs2, hs3⟩ := hS; go_simp⟩) hHeld ?_
      refine tkS (i := 3) (oi := ⟨some 52, Op.move (Operand.tmp 51), 4, _, _, none⟩) (v := .bool false) rfl (Or.inl ⟨by rfl, fun w hS => by obtain ⟨hs1, hs2, hs3⟩ := hS; go_simp⟩) hHeld ?_
      refine tkS (i := 4) (oi := ⟨some 53, Op.fieldAddr 88 (Operand.tmp 7) 1, 0, _, _, some (3, true)⟩) (v := undef) rfl (Or.inr ⟨by rfl, rfl⟩) hHeld ?_
      refine tkS (i := 5) (oi := ⟨some 54, Op.load 9 (Operand.tmp 53), 9, _, _, some (3, true)⟩) (v := undef) rfl (Or.inr ⟨by rfl, rfl⟩) hHeld ?_
      refine tkS (i := 6) (oi := ⟨some 55, Op.move (Operand.tmp 0), 26, _, _, some (3, true)⟩) (v := undef) rfl (Or.inr ⟨by rfl, rfl⟩) hHeld ?_
      refine tkS (i := 7) (oi := ⟨some 56, Op.move (Operand.tmp 1), 3, _, _, some (3, true)⟩) (v := undef) rfl (Or.inr ⟨by rfl, rfl⟩) hHeld ?_
      refine tkS (i := 8) (oi := ⟨some 57, Op.indexAddr 26 (Operand.tmp 55) (Operand.tmp 56), 0, _, _, some (3, true)⟩) (v := undef) rfl (Or.inr ⟨by rfl, rfl⟩) hHeld ?_
      refine tkS (i := 9) (oi := ⟨some 58, Op.fieldAddr 88 (Operand.tmp 57) 1, 0, _, _, some (3, true)⟩) (v := undef) rfl (Or.inr ⟨by rfl, rfl⟩) hHeld ?_
      refine tkS (i := 10) (oi := ⟨some 59, Op.load 9 (Operand.tmp 58), 9, _, _, some (3, true)⟩) (v := undef) rfl (Or.inr ⟨by rfl, rfl⟩) hHeld ?_
      refine tkS (i := 11) (oi := ⟨some 60, Op.binOp BinOp.eql 9 (Operand.tmp 54) (Operand.tmp 59) 9, 4, _, _, some (3, true)⟩) (v := undef) rfl (Or.inr ⟨by rfl, rfl⟩) hHeld ?_
      refine tkS (i := 12) (oi := ⟨some 61, Op.pick (Operand.tmp 52) (Operand.tmp 60) (Operand.const (Value.bool false)), 4, _, _, none⟩) (v := .bool false) rfl (Or.inl ⟨by rfl, fun w hS => by obtain ⟨hs1, hs2, hs3⟩ := hS; go_simp⟩) hHeld ?_
      refine tkS (i := 13) (oi := ⟨some 4, Op.assign (Operand.tmp 61), 4, _, _, none⟩) (v := .bool false) rfl (Or.inl ⟨by rfl, fun w hS => by obtain ⟨hs1, hs2, hs3⟩ := hS; go_simp⟩) hHeld ?_
      refine wpAnyH_done (by kernel_rfl) ?_ _
      refine hK9 _ _ ?_
      refine wp_ret ?_
      go_ret
      have e : (x.op - 1).toNat = t := by omega
      have hgt : (l.take i).getD t zeroOp = it := by rw [hit.out]; simp [List.getD_eq_getElem?_getD, hti, List.getElem?_take]
      exact ⟨by rw [HM.out, if_neg (by simp; omega), if_neg (by simp), if_neg (by have := Hlt.out; omega), e, hgt, show (it.kind == 8) = false by simpa using hk8]; rfl, HW1.out.trans ((HG.out.drew).mono HW1.out.size)⟩
    ·skip
     refine VlS (.bool false) ?_
     refine VlS (.bool false) ?_
     refine VlS (.bool false) ?_
     refine WL.nil (hK7 _ _ ?_)
     refine wp_cond_false rfl ?_
     refine wp_seq_k fun K10 hK10 => rgn ?_
     refine VlS (.bool true) ?_
     refine VlS (.bool true) ?_
     refine WL.nil (hK10 _ _ ?_)
     refine wp_cond_true rfl ?_
     refine wp_seq_k fun K11 hK11 => rgn ?_
     refine VlS (.bool false) ?_
     refine WL.nil (hK11 _ _ ?_)
     refine wp_ret ?_
     go_ret
     exact ⟨by rw [HM.out, if_neg (by simp; omega), if_neg (by simp), if_pos (by have := Hlt.out; omega)]; rfl, HW1.out⟩
   ·skip
    refine VlS (.bool false) ?_
    refine VlS (.bool false) ?_
    refine VlS (.bool false) ?_
    refine SkS ?_
    refine SkS ?_
    refine SkS ?_
    refine SkS ?_
    refine VlS (.bool false) ?_
    refine VlS (.bool false) ?_
    refine WL.nil (hK7 _ _ ?_)
    refine wp_cond_false rfl ?_
    refine wp_seq_k fun K12 hK12 => rgn ?_
    refine VlS (.bool true) ?_
    refine VlS (.bool true) ?_
    refine WL.nil (hK12 _ _ ?_)
    refine wp_cond_true rfl ?_
    refine wp_seq_k fun K13 hK13 => rgn ?_
    refine VlS (.bool false) ?_
    refine WL.nil (hK13 _ _ ?_)
    refine wp_ret ?_
    go_ret
    exact ⟨by rw [HM.out, if_neg (by simp; omega), if_neg (by simp), if_pos (by have := Hlt.out; omega)]; rfl, HW1.out⟩
 ·rw [h2_3] at he HM
  refine VlS (.bool false) ?_
  refine VlS (.bool false) ?_
  refine WL.nil (hK3 _ _ ?_)
  refine wp_seq_k fun K14 hK14 => ?_
  refine wp_block ?_
  refine wp_seq_k fun K15 hK15 => rgn ?_
  refine VlS (.bool false) ?_
  refine VlS (.bool false) ?_
  refine SkS ?_
  refine SkS ?_
  refine SkS ?_
  refine VlS (.bool false) ?_
  refine VlS (.bool false) ?_
  refine WL.nil (hK15 _ _ ?_)
  refine wp_cond_false rfl ?_
  refine wp_seq_k fun K16 hK16 => rgn ?_
  refine VlS (.bool false) ?_
  refine VlS (.bool false) ?_
  refine SkS ?_
  refine SkS ?_
  refine SkS ?_
  refine VlS (.bool false) ?_
  refine VlS (.bool false) ?_
  refine SkS ?_
  refine SkS ?_
  refine SkS ?_
  refine SkS ?_
  refine VlS (.bool false) ?_
  refine VlS (.bool false) ?_
  refine WL.nil (hK16 _ _ ?_)
  refine wp_cond_false rfl ?_
  refine wp_seq_k fun K17 hK17 => rgn ?_
  refine VlS (.bool false) ?_
  refine VlS (.bool false) ?_
  refine WL.nil (hK17 _ _ ?_)
  refine wp_cond_false rfl ?_
  refine wp_skip ?_
  refine hK14 _ _ ?_
  refine wp_seq_k fun K18 hK18 => rgn ?_
  refine VlS (.pointer (some ⟨w.heap.size, 32, none⟩)) ?_
  refine VlS (.int .i64 x.op) ?_
  by_cases h10_2 : 1 ≤ x.op
  ·skip
   refine VlS (.bool true) ?_
   refine VlS (.bool true) ?_
   refine VlS (.pointer (some ⟨w.heap.size, 32, none⟩)) ?_
   refine VlS (.int .i64 x.op) ?_
   by_cases h10_6 : x.op ≤ 1024
   ·skip
    refine VlS (.bool true) ?_
    refine VlS (.bool true) ?_
    refine VlS (.bool true) ?_
    refine WL.nil (hK18 _ _ ?_)
    refine wp_ret ?_
    go_ret
    exact ⟨by rw [HM.out, if_neg (by simp), if_pos rfl, decide_eq_true (show 1 ≤ x.op by omega), decide_eq_true (show x.op ≤ 1024 by omega)]; rfl, HW1.out⟩
   ·skip
    refine VlS (.bool false) ?_
    refine VlS (.bool false) ?_
    refine VlS (.bool false) ?_
    refine WL.nil (hK18 _ _ ?_)
    refine wp_ret ?_
    go_ret
    exact ⟨by rw [HM.out, if_neg (by simp), if_pos rfl, decide_eq_true (show 1 ≤ x.op by omega), decide_eq_false (show ¬ x.op ≤ 1024 by omega)]; rfl, HW1.out⟩
  ·skip
   refine VlS (.bool false) ?_
   refine VlS (.bool false) ?_
   refine SkS ?_
   refine SkS ?_
   refine SkS ?_
   refine VlS (.bool false) ?_
   refine VlS (.bool false) ?_
   refine WL.nil (hK18 _ _ ?_)
   refine wp_ret ?_
   go_ret
   exact ⟨by rw [HM.out, if_neg (by simp), if_pos rfl, decide_eq_false (show ¬ 1 ≤ x.op by omega)]; rfl, HW1.out⟩

end Go.Proofs.YtdeiicldfgkidaaGreat
namespace Go.Proofs.YtdeiicldfgkidaaGreat
open Go.RowKit
set_option linter.unusedSimpArgs false
set_option linter.unusedVariables false

theorem Tryz.results61 : Tryz.f61.results = #[.cell 4 88, .cell 5 34] := by kernel_rfl
set_option maxRecDepth 8000 in
set_option maxHeartbeats 1000000 in
theorem may_end {u2 u3 u8 u10 u11 u12 u13 u14 u15 u16 u17 u18 u19 u20 u21 u22 u23 u24 u25 u26 u27 u28 u29 u30 u31 u32 u33 u34 u35 u36 u37 u38 u39 u40 u41 u42 u43 u44 u45 u46 u47 u48 u49 u50 u51 u52 u53 u54 u55 u56 u57 u58 u59 u60 u61 u62 u63 u64 u65 u66 u67 u68 u69 u70 u71 u72 u73 u74 u75 u76 u77 u78 u79 u80 u81 u82 u83 u84 u85 u86 u87 u88 u89 u90 u91 u92 u93 u94 u95 u96 u97 u98 u99 u100 u101 u102 u103 u104 u105 u106 u107 u108 u109 u110 u111 u112 u113 u114 u115 u116 u117 u118 u119 u120 u121 u122 u123 u124 u125 u126 : Value} (x g4 g5 g6 g9 : Nat) (vB : Value) (L : List Int) (vl : Value) (l : List OpV) (w w1 : World) (G : Int × Nat × OpV) (hR : ∀ wx, (Grown w wx fun k => k = x) → RowAt wx vB L) (hb : L.length ≤ 140737488355328) (hby : Byts L) (hv : ∀ wx, (Grown w wx fun k => k = x) → OwnO wx vl l) (hln : l.length ≤ 1024) (y : OpV) (p pA : Nat) (hS : OS w x g4 g5 g6 g9 vB y 0 0 p 0 0 w1) (hok : OpOk y) (hGy : mayAt l y = true → G = (0, p, y)) (hGn : mayAt l y = false → G.1 = 42 ∧ G.2.1 = pA) :
  Code.wp Tryz.prog (cS (cS (cS (cS (cS (cS (cS (cS (cS (cS (cS (cS (cS (cS (cS (cS (cS (cS (Tryz.f61.body.getD Code.skip))))))))))))))))))) (bodyPost Tryz.prog Tryz.f61 (ROne x vB G w)) { tmps := #[.pointer (some ⟨x, 0, none⟩), vl, u2, u3, .pointer (some ⟨g4, 0, none⟩), .pointer (some ⟨g5, 0, none⟩), .pointer (some ⟨g6, 0, none⟩), .int .i64 (pA : Int), u8, .pointer (some ⟨g9, 0, none⟩), u10, u11, u12, u13, u14, u15, u16, u17, u18, u19, u20, u21, u22, u23, u24, u25, u26, u27, u28, u29, u30, u31, u32, u33, u34, u35, u36, u37, u38, u39, u40, u41, u42, u43, u44, u45, u46, u47, u48, u49, u50, u51, u52, u53, u54, u55, u56, u57, u58, u59, u60, u61, u62, u63, u64, u65, u66, u67, u68, u69, u70, u71, u72, u73, u74, u75, u76, u77, u78, u79, u80, u81, u82, u83, u84, u85, u86, u87, u88, u89, u90, u91, u92, u93, u94, u95, u96, u97, u98, u99, u100, u101, u102, u103, u104, u105, u106, u107, u108, u109, u110, u111, u112, u113, u114, u115, u116, u117, u118, u119, u120, u121, u122, u123, u124, u125, u126], defers := [] } w1 := by
 obtain ⟨la, lc, rfl⟩ := (hv w1 hS.gr).sl
 have HVl := Keep.mk hv
 have Hln := Keep.mk hln
 have hl' : (l.length : Int) ≤ 9223372036854775807 := by omega
 have HS := Keep.mk hS
 have Hok := Keep.mk hok
 have HGy := Keep.mk hGy
 have HGn := Keep.mk hGn
 clear hR hb hby hv hln hS hok hGy hGn
 refine wp_seq_k fun K1 hK1 => ?_
 refine all_step (fun _ _ d _ _ h => by cases d <;> exact h) x g4 g5 g6 g9 vB _ l w w1 y p HS.out HVl.out Hln.out ?_
 rintro v13 v111 v112 v113 v114 v115 w2 hO hS2
 have HO := Keep.mk hO
 have H2 := Keep.mk hS2
 clear hO hS2
 obtain ⟨va5, vc5, rfl⟩ := HO.out.sl
 refine hK1 _ _ ?_
 refine wp_seq_k fun K2 hK2 => rgn ?_
 refine VlS (.slice va5 (l ++ [y]).length vc5) ?_
 refine VlS (.slice la l.length lc) ?_
 refine VlS (.int .i64 (l.length : Int)) ?_
 have hgd : (l ++ [y]).getD l.length zeroOp = y := by simp [List.getD_eq_getElem?_getD]
 have htk : (l ++ [y]).take l.length = l := by simp
 have hrm := rmay_any (.slice va5 (l ++ [y]).length vc5) (l ++ [y]) l.length w2 HO.out.ops (by simp) (by have := Hln.out; simp; omega) (by rw [hgd]; exact Hok.out)
 rw [hgd, htk] at hrm
 refine WL.callF (by kernel_rfl) 95 _ _ rfl Tryz.in95 #[.slice va5 (l ++ [y]).length vc5, .int .i64 (l.length : Int)] (by simp [Act.eval]) ?_
 refine (hrm).mono ?_
 rintro e w3 ⟨rfl, hbl⟩
 refine ⟨_, rfl, ?_⟩
 have H3 := Keep.mk (H2.out.below hbl)
 clear hbl hrm hgd htk H2
 simp only [Act.put, pqA, pqB, pqC]
 refine VlS (.bool (mayAt l y)) ?_
 refine WL.nil (hK2 _ _ ?_)
 refine wp_seq_k fun K3 hK3 => ?_
 refine wp_seq_k fun K4 hK4 => ?_
 rcases Bool.eq_false_or_eq_true (mayAt l y) with hmy | hmy
 ·rw [hmy]
  refine rgn ?_
  refine VlS (.bool true) ?_
  refine VlS (.bool false) ?_
  refine WL.nil (hK4 _ _ ?_)
  refine wp_cond_false rfl ?_
  refine wp_skip ?_
  refine hK3 _ _ ?_
  refine wp_seq_k fun K5 hK5 => ?_
  refine ret_step29 (fun _ _ d _ _ h => by cases d <;> exact h) x g4 g5 g6 g9 vB _ w w3 y 0 0 p H3.out ?_
  rintro v125 v126 wz hk4 hk5 hR
  refine hK5 _ _ ?_
  refine wp_ret ?_
  try simp only [Exit.then]
  refine bodyPost_ret (v := .tuple #[.agg (opA y), .agg (erA 0 0)]) (results_cell_cell_row Tryz.results61 _ _ g4 g5 88 34 _ _ (0, 0) (0, 0) _ _ rfl rfl hk4 hk5 Tryz.underlying88 rfl (Tryz.size88B _) Tryz.underlying34 rfl (Tryz.size34B _ _)) rfl ?_
  exact hR G (by rw [HGy.out hmy]) (by rw [HGy.out hmy]) (Or.inl ⟨rfl, rfl⟩) (fun _ => ⟨by rw [HGy.out hmy], Hok.out⟩)
 ·rw [hmy]
  refine rgn ?_
  refine VlS (.bool false) ?_
  refine VlS (.bool true) ?_
  refine WL.nil (hK4 _ _ ?_)
  refine wp_cond_true rfl ?_
  refine rgn ?_
  refine VlS (.pointer (some ⟨x, 0, none⟩)) ?_
  refine VlS (.int .i64 (pA : Int)) ?_
  refine WL.callF (by kernel_rfl) 57 _ _ rfl Tryz.in57 #[ptr x, .int .i64 42, .int .i64 (pA : Int)] (by simp [Act.eval]) ?_
  refine (xwrongG x vB _ pA 42 w3 H3.out.rf).mono ?_
  rintro e w4 ⟨rfl, h1, h2⟩
  refine ⟨_, rfl, ?_⟩
  have H4 := Keep.mk (H3.out.call h1 h2)
  clear h1 h2 H3
  simp only [Act.put, pqA, pqB, pqC]
  refine WL.storeR (by kernel_rfl) 34 (.tmp 9) (.tmp 124) rfl g9 (erA 42 (pA : Int)) rfl rfl 34 (erA 0 0) H4.out.e (Tryz.size34B _ _) (erA_sizes _ _ _ _) (erA_one _ _) ?_
  have H5 := Keep.mk (H4.out.setE 42 (pA : Int))
  generalize w4.setRow g9 (erA 42 (pA : Int)) = w5 at *
  clear H4
  simp only [Act.put]
  refine WL.nil (hK3 _ _ ?_)
  refine wp_seq_k fun K6 hK6 => ?_
  refine ret_step29 (fun _ _ d _ _ h => by cases d <;> exact h) x g4 g5 g6 g9 vB _ w w5 y 42 (pA : Int) pA H5.out ?_
  rintro v125 v126 wz hk4 hk5 hR
  refine hK6 _ _ ?_
  refine wp_ret ?_
  try simp only [Exit.then]
  refine bodyPost_ret (v := .tuple #[.agg (opA y), .agg (erA 42 (pA : Int))]) (results_cell_cell_row Tryz.results61 _ _ g4 g5 88 34 _ _ (0, 0) (0, 0) _ _ rfl rfl hk4 hk5 Tryz.underlying88 rfl (Tryz.size88B _) Tryz.underlying34 rfl (Tryz.size34B _ _)) rfl ?_
  exact hR G (HGn.out hmy).1 (HGn.out hmy).2 (Or.inr ⟨by decide, rfl⟩) (fun h => absurd h (by decide))
set_option maxRecDepth 8000 in
set_option maxHeartbeats 2000000 in
theorem at_end {u2 u3 u7 u8 u10 u11 u12 u13 u14 u15 u16 u17 u18 u19 u20 u21 u22 u23 u24 u25 u26 u27 u28 u29 u30 u31 u32 u33 u34 u35 u36 u37 u38 u39 u40 u41 u42 u43 u44 u45 u46 u47 u48 u49 u50 u51 u52 u53 u54 u55 u56 u57 u58 u59 u60 u61 u62 u63 u64 u65 u66 u67 u68 u69 u70 u71 u72 u73 u74 u75 u76 u77 u78 u79 u80 u81 u82 u83 u84 u85 u86 u87 u88 u89 u90 u91 u92 u93 u94 u95 u96 u97 u98 u99 u100 u101 u102 u103 u104 u105 u106 u107 u108 u109 u110 u111 u112 u113 u114 u115 u116 u117 u118 u119 u120 u121 u122 u123 u124 u125 u126 : Value} (x g4 g5 g6 g9 : Nat) (vB : Value) (L : List Int) (vl : Value) (l : List OpV) (w w1 : World) (G : Int × Nat × OpV) (hR : ∀ wx, (Grown w wx fun k => k = x) → RowAt wx vB L) (hb : L.length ≤ 140737488355328) (hby : Byts L) (hv : ∀ wx, (Grown w wx fun k => k = x) → OwnO wx vl l) (hln : l.length ≤ 1024) (y : OpV) (p : Nat) (hS : OS w x g4 g5 g6 g9 vB y 0 0 p 0 0 w1) (hok : OpOk y) (hp : p ≤ L.length) (hG : G = getF L l 3 y p) :
  Code.wp Tryz.prog (cS (cS (cS (cS (cS (cS (cS (cS (cS (cS (cS (cS (cS (Tryz.f61.body.getD Code.skip)))))))))))))) (bodyPost Tryz.prog Tryz.f61 (ROne x vB G w)) { tmps := #[.pointer (some ⟨x, 0, none⟩), vl, u2, u3, .pointer (some ⟨g4, 0, none⟩), .pointer (some ⟨g5, 0, none⟩), .pointer (some ⟨g6, 0, none⟩), u7, u8, .pointer (some ⟨g9, 0, none⟩), u10, u11, u12, u13, u14, u15, u16, u17, u18, u19, u20, u21, u22, u23, u24, u25, u26, u27, u28, u29, u30, u31, u32, u33, u34, u35, u36, u37, u38, u39, u40, u41, u42, u43, u44, u45, u46, u47, u48, u49, u50, u51, u52, u53, u54, u55, u56, u57, u58, u59, u60, u61, u62, u63, u64, u65, u66, u67, u68, u69, u70, u71, u72, u73, u74, u75, u76, u77, u78, u79, u80, u81, u82, u83, u84, u85, u86, u87, u88, u89, u90, u91, u92, u93, u94, u95, u96, u97, u98, u99, u100, u101, u102, u103, u104, u105, u106, u107, u108, u109, u110, u111, u112, u113, u114, u115, u116, u117, u118, u119, u120, u121, u122, u123, u124, u125, u126], defers := [] } w1 := by
 have HRow := Keep.mk hR
 have Hb := Keep.mk hb
 have HBy := Keep.mk hby
 clear hR hb hby
 have HVl := Keep.mk hv
 have Hln := Keep.mk hln
 have HS := Keep.mk hS
 have Hok := Keep.mk hok
 have Hp := Keep.mk hp
 have HG := Keep.mk hG
 have cx := hS.rf.c1
 clear hv hln hS hok hp hG
 obtain ⟨D5, hD5⟩ : ∃ z, Keep (z = L.drop p) := ⟨_, ⟨rfl⟩⟩
 obtain ⟨X5, N5, W5, hM5', hN5'⟩ := fst_tri D5 1024
 have hM5 := Keep.mk hM5'
 have hN5 := Keep.mk hN5'
 have hrg5 : Keep (0 ≤ X5 ∧ X5 ≤ 1024) := ⟨by have h := fst_rng D5 (by rw [hD5.out]; exact HBy.out.drop _) 1024 (by decide); rw [hM5'] at h; exact h⟩
 have hx50 : Keep (¬ W5 = 0 → X5 = 0) := ⟨fun h => by have h2 := (fstM_shape D5 1024).1; rw [hM5'] at h2; exact (h2 h).1⟩
 have hwx5 : IntKind.i64.wrap X5 = X5 := by rw [IntKind.wrap_i64]; have := hrg5.out; omega
 clear hM5' hN5'
 refine wp_seq_k fun K1 hK1 => rgn ?_
 refine VlS (.pointer (some ⟨x, 0, none⟩)) ?_
 refine VlS (.pointer (some ⟨x, 0, none⟩)) ?_
 refine VlS (.pointer (some ⟨x, 1, none⟩)) ?_
 refine VlS (.int .i64 (p : Int)) ?_
 refine VlS (.int .i64 (p : Int)) ?_
 refine WL.nil (hK1 _ _ ?_)
 refine wp_seq_k fun K2 hK2 => rgn ?_
 refine VlS (.pointer (some ⟨x, 0, none⟩)) ?_
 refine WL.callF (by kernel_rfl) 58 _ _ rfl Tryz.in58 #[ptr x, .int .u64 1024] (by simp [Act.eval]) ?_
 refine (xnum_good x vB L p 1024 w1 HS.out.rf (fun wx hx => HRow.out wx (HS.out.gr.trans hx)) Hp.out Hb.out HBy.out D5 hD5.out W5 X5 N5 hM5.out).mono ?_
 rintro e w2 ⟨b5, hE, rfl, h1, h2⟩
 refine ⟨.tuple #[.int .u64 X5, .agg (erA W5 b5)], rfl, ?_⟩
 have hEb := Keep.mk hE
 have H2 := Keep.mk (HS.out.call h1 h2)
 clear h1 h2 hE HS cx
 simp only [Act.put, pqA, pqB, pqC]
 refine VlS (.tuple #[.int .u64 X5, .agg (erA W5 b5)]) ?_
 refine VlS (.int .u64 X5) ?_
 refine VlS (.agg (erA W5 b5)) ?_
 refine VlS (.int .u64 X5) ?_
 refine WL.storeR (by kernel_rfl) 34 (.tmp 9) (.tmp 92) rfl g9 (erA W5 b5) rfl rfl 34 (erA 0 0) H2.out.e (Tryz.size34B _ _) (erA_sizes _ _ _ _) (erA_one _ _) ?_
 have H3 := Keep.mk (H2.out.setE W5 b5)
 generalize w2.setRow g9 (erA W5 b5) = w3 at *
 clear H2
 simp only [Act.put]
 refine WL.nil (hK2 _ _ ?_)
 refine wp_seq_k fun K3 hK3 => rgn ?_
 refine VlS (.int .u64 X5) ?_
 refine VlS (.int .i64 X5) ?_
 refine VlS (.pointer (some ⟨g6, 4, none⟩)) ?_
 refine VlS (.pointer (some ⟨g6, 36, none⟩)) ?_
 have c_o := H3.out.o.c 36 (opA_36 _)
 have f_o := H3.out.o.frozen 36
 refine WL.cell (by kernel_rfl) (w3.setCell ⟨g6, 36, none⟩ (.int .i64 X5)) (by go_simp) ?_
 clear c_o f_o
 obtain ⟨y1, hy1⟩ : ∃ y' : OpV, y' = { y with op := X5 } := ⟨_, rfl⟩
 have Ey1 := Keep.mk hy1
 clear hy1
 have H4 : Keep (OS w x g4 g5 g6 g9 vB y1 W5 b5 (p + N5) W5 b5 (w3.setCell ⟨g6, 36, none⟩ (.int .i64 X5))) := ⟨H3.out.setO y1 (by rw [Ey1.out]; have h := H3.out.o.set 36 (.int .i64 X5); rw [set_36] at h; exact h) (Grown.setCell w3 g6 36 _ fun _ => rfl)⟩
 generalize w3.setCell ⟨g6, 36, none⟩ (.int .i64 X5) = w4 at *
 clear H3
 simp only [Act.put]
 refine WL.nil (hK3 _ _ ?_)
 refine wp_seq_k fun K4 hK4 => ?_
 refine wp_seq_k fun K5 hK5 => ?_
 have e0 := H4.out.e.c 0 (erA_0 _ _)
 have Hp5 : Keep (p + N5 ≤ L.length) := ⟨adv Hp.out (by rw [hD5.out] at hN5; exact hN5.out)⟩
 have hGA := HG.out
 rw [show getF L l 3 y p = getA L l y p from rfl] at hGA
 unfold getA at hGA
 rw [← hD5.out, hM5.out] at hGA
 simp only [Int.toNat_natCast] at hGA
 have HGA := Keep.mk hGA
 clear hGA
 by_cases hW5 : W5 = 0
 ·have hb5 : b5 = 0 := by rcases hEb.out with ⟨_, h⟩ | ⟨h, _⟩; exact h; exact absurd hW5 h
  rw [hW5, hb5] at H4
  rw [hW5] at e0
  have HGB := Keep.mk HGA.out
  rw [if_neg (by simp [hW5])] at HGB
  have E5 := Keep.mk hW5
  try rw [hW5, hb5]
  clear hW5 hb5
  have Hok1 : Keep (OpOk y1) := ⟨by rw [Ey1.out]; exact ok_op Hok.out hrg5.out.1 hrg5.out.2⟩
  by_cases hX5 : X5 = 0
  ·have HGC := Keep.mk HGB.out
   rw [if_pos hX5] at HGC
   have e9 : Keep (y1 = { y with op := 0 }) := ⟨by rw [Ey1.out, hX5]⟩
   refine rgn ?_
   refine VlS (.int .u64 X5) ?_
   refine VlS (.bool false) ?_
   refine WL.nil (hK5 _ _ ?_)
   refine wp_cond_false rfl ?_
   refine wp_skip ?_
   refine hK4 _ _ ?_
   refine wp_seq_k fun K6 hK6 => ?_
   refine wp_seq_k fun K7 hK7 => rgn ?_
   refine VlS (.pointer (some ⟨g9, 0, none⟩)) ?_
   refine VlS (.int .i64 0) ?_
   refine VlS (.bool false) ?_
   refine WL.nil (hK7 _ _ ?_)
   refine wp_cond_false rfl ?_
   refine wp_skip ?_
   refine hK6 _ _ ?_
   refine may_end x g4 g5 g6 g9 vB L vl l w w4 G HRow.out Hb.out HBy.out HVl.out Hln.out y1 (p + N5) p H4.out Hok1.out (fun h => by rw [HGC.out, ← e9.out, if_pos h]) (fun h => by rw [HGC.out, ← e9.out, if_neg (by rw [h]; decide)]; exact ⟨rfl, rfl⟩)
  ·have HGC := Keep.mk HGB.out
   rw [if_neg hX5] at HGC
   obtain ⟨D6, hD6⟩ : ∃ z, Keep (z = L.drop (p + N5)) := ⟨_, ⟨rfl⟩⟩
   obtain ⟨W6, hW6⟩ : ∃ z, Keep (z = nextW D6 32) := ⟨_, ⟨rfl⟩⟩
   obtain ⟨N6, hN6⟩ : ∃ z, Keep (z = nextN D6 32) := ⟨_, ⟨rfl⟩⟩
   rw [← hD6.out, ← hW6.out, ← hN6.out] at HGC
   refine rgn ?_
   refine VlS (.int .u64 X5) ?_
   refine VlS (.bool true) ?_
   refine WL.nil (hK5 _ _ ?_)
   refine wp_cond_true rfl ?_
   refine hash_step x g4 g5 g6 g9 vB L _ l w w4 G HRow.out Hb.out HBy.out y1 (p + N5) H4.out Hp5.out D6 hD6 W6 hW6 N6 hN6 ?_
   rintro v99 v100 v101 v102 v103 v104 v105 y2 b6 w5 hS5 hE6 hy2
   have H5 := Keep.mk hS5
   have HE6 := Keep.mk hE6
   have HY2 := Keep.mk hy2
   clear hS5 hE6 hy2 e0
   have e0 := H5.out.e.c 0 (erA_0 _ _)
   by_cases hW6' : W6 = 0
   ·have hb6 : b6 = 0 := by rcases HE6.out with ⟨_, h⟩ | ⟨h, _⟩; exact h; exact absurd hW6' h
    have HGD := Keep.mk HGC.out
    rw [if_neg (by simp [hW6'])] at HGD
    have hN32 : N6 = 32 := by rw [hN6.out, (nextN_0 D6 32 (by rw [← hW6.out]; exact hW6')).1]; rfl
    have hl6 : (D6.take 32).length = 32 := by have h := (nextN_0 D6 32 (by rw [← hW6.out]; exact hW6')).2.2; rw [List.length_take]; omega
    have e9 : Keep (y2 = { y with op := X5, node := D6.take 32 }) := ⟨by rw [HY2.out hW6', Ey1.out]⟩
    have Hok2 : Keep (OpOk y2) := ⟨by rw [HY2.out hW6']; exact ok_node Hok1.out hl6 (by rw [hD6.out]; exact (HBy.out.drop _).take 32)⟩
    have HN6 := Keep.mk hN32
    clear hN32 hl6
    rw [hW6', hb6] at H5
    rw [hW6'] at e0
    clear hW6' hb6
    refine hK4 _ _ ?_
    refine wp_seq_k fun K8 hK8 => ?_
    refine wp_seq_k fun K9 hK9 => rgn ?_
    refine VlS (.pointer (some ⟨g9, 0, none⟩)) ?_
    refine VlS (.int .i64 0) ?_
    refine VlS (.bool false) ?_
    refine WL.nil (hK9 _ _ ?_)
    refine wp_cond_false rfl ?_
    refine wp_skip ?_
    refine hK8 _ _ ?_
    refine may_end x g4 g5 g6 g9 vB L vl l w w5 G HRow.out Hb.out HBy.out HVl.out Hln.out y2 (p + N5 + N6) p H5.out Hok2.out (fun h => by rw [HGD.out, ← e9.out, if_pos h, HN6.out]) (fun h => by rw [HGD.out, ← e9.out, if_neg (by rw [h]; decide)]; exact ⟨rfl, rfl⟩)
   ·have HGD := Keep.mk HGC.out
    rw [if_pos hW6'] at HGD
    refine hK4 _ _ ?_
    refine wp_seq_k fun K10 hK10 => ?_
    refine wp_seq_k fun K11 hK11 => rgn ?_
    refine VlS (.pointer (some ⟨g9, 0, none⟩)) ?_
    refine VlS (.int .i64 W6) ?_
    refine VlS (.bool true) ?_
    refine WL.nil (hK11 _ _ ?_)
    refine wp_cond_true rfl ?_
    refine wp_seq_k fun K12 hK12 => ?_
    refine ret_step24 (fun _ _ d _ _ h => by cases d <;> exact h) x g4 g5 g6 g9 vB _ w w5 y2 W6 b6 (p + N5 + N6) H5.out ?_
    rintro v109 v110 wz hk4 hk5 hR
    refine hK12 _ _ ?_
    refine wp_ret ?_
    try simp only [Exit.then]
    refine bodyPost_ret (v := .tuple #[.agg (opA y2), .agg (erA W6 b6)]) (results_cell_cell_row Tryz.results61 _ _ g4 g5 88 34 _ _ (0, 0) (0, 0) _ _ rfl rfl hk4 hk5 Tryz.underlying88 rfl (Tryz.size88B _) Tryz.underlying34 rfl (Tryz.size34B _ _)) rfl ?_
    exact hR G (by rw [HGD.out]) (by rw [HGD.out]) HE6.out (fun h => absurd h hW6')
 ·have HGB := Keep.mk HGA.out
  rw [if_pos hW5] at HGB
  have hX5 := hx50.out hW5
  refine rgn ?_
  refine VlS (.int .u64 X5) ?_
  refine VlS (.bool false) ?_
  refine WL.nil (hK5 _ _ ?_)
  refine wp_cond_false rfl ?_
  refine wp_skip ?_
  refine hK4 _ _ ?_
  refine wp_seq_k fun K13 hK13 => ?_
  refine wp_seq_k fun K14 hK14 => rgn ?_
  refine VlS (.pointer (some ⟨g9, 0, none⟩)) ?_
  refine VlS (.int .i64 W5) ?_
  refine VlS (.bool true) ?_
  refine WL.nil (hK14 _ _ ?_)
  refine wp_cond_true rfl ?_
  refine wp_seq_k fun K15 hK15 => ?_
  refine ret_step24 (fun _ _ d _ _ h => by cases d <;> exact h) x g4 g5 g6 g9 vB _ w w4 y1 W5 b5 (p + N5) H4.out ?_
  rintro v109 v110 wz hk4 hk5 hR
  refine hK15 _ _ ?_
  refine wp_ret ?_
  try simp only [Exit.then]
  refine bodyPost_ret (v := .tuple #[.agg (opA y1), .agg (erA W5 b5)]) (results_cell_cell_row Tryz.results61 _ _ g4 g5 88 34 _ _ (0, 0) (0, 0) _ _ rfl rfl hk4 hk5 Tryz.underlying88 rfl (Tryz.size88B _) Tryz.underlying34 rfl (Tryz.size34B _ _)) rfl ?_
  exact hR G (by rw [HGB.out]) (by rw [HGB.out]) hEb.out (fun h => absurd h hW5)
end Go.Proofs.YtdeiicldfgkidaaGreat
