import Derived.Test.YtdeiicldfgkidaaGreatD09
import Derived.Deep.RegionHeld3
namespace Go.Proofs.YtdeiicldfgkidaaGreat
open Go.RowKit
set_option linter.unusedSimpArgs false
set_option linter.unusedVariables false

theorem getFs_1 (L : List Int) (l : List OpV) (i : Nat) (y : OpV) (p : Nat) : getFs L l [i] y p = getF L l i y p := by
 show (if (getF L l i y p).1 = 0 then getFs L l [] (getF L l i y p).2.2 (getF L l i y p).2.1 else getF L l i y p) = _
 generalize getF L l i y p = R
 obtain ⟨a, b, c⟩ := R
 show (if a = 0 then (0, b, c) else (a, b, c)) = (a, b, c)
 split
 ·rename_i h
  rw [h]
 ·rfl
theorem OI.kind {w : World} {x g4 g5 g6 g9 : Nat} {vB : Value} {L : List Int} {l : List OpV} {c : Int} {G : Int × Nat × OpV} {is : List Nat} {w1 : World} (h : OI w x g4 g5 g6 g9 vB L l c G is w1) : w1.cell? ⟨g6, 0, none⟩ = some (.int .i64 c) := by
 obtain ⟨y, ew, eb, p, hS, hp, hk, hc⟩ := h
 rw [← hk]
 exact hS.o.c 0 (opA_0 _)
set_option maxRecDepth 8000 in
set_option maxHeartbeats 4000000 in
theorem one_any (x : Nat) (vB : Value) (L : List Int) (a : Nat) (vl : Value) (l : List OpV) (w : World) (hF : RfAt w x vB a 0 0) (hR : ∀ wx, (Grown w wx fun k => k = x) → RowAt wx vB L) (ha : a ≤ L.length) (hb : L.length ≤ 140737488355328) (hby : Byts L) (hv : ∀ wx, (Grown w wx fun k => k = x) → OwnO wx vl l) (hln : l.length ≤ 1024) :
  Calls Tryz.prog 61 #[ptr x, vl] w (ROne x vB (getO L l a) w) := by
 obtain ⟨D1, hD1⟩ : ∃ z, Keep (z = L.drop a) := ⟨_, ⟨rfl⟩⟩
 obtain ⟨W1, hW1⟩ : ∃ z, Keep (z = nextW D1 1) := ⟨_, ⟨rfl⟩⟩
 obtain ⟨N1, hN1⟩ : ∃ z, Keep (z = nextN D1 1) := ⟨_, ⟨rfl⟩⟩
 obtain ⟨c, hc⟩ : ∃ z, Keep (z = if W1 = 0 then D1.getD 0 0 else 0) := ⟨_, ⟨rfl⟩⟩
 obtain ⟨G, hG⟩ : ∃ G, Keep (G = getO L l a) := ⟨_, ⟨rfl⟩⟩
 rw [← hG.out]
 have hG' := hG.out
 unfold getO at hG'
 rw [← hD1.out, ← hW1.out, ← hN1.out] at hG'
 have HG := Keep.mk hG'
 have HF := Keep.mk hF
 have Ha := Keep.mk ha
 have HVl := Keep.mk hv
 have Hln := Keep.mk hln
 have HRow := Keep.mk hR
 have Hb := Keep.mk hb
 have HBy := Keep.mk hby
 clear hR hb hby
 clear hG hG' hF ha hv hln
 go_enter Tryz.func61, Tryz.ntmps61
 refine wp_seq_k fun K1 hK1 => rgn ?_
 refine WL.new (by kernel_rfl) 88 rfl _ Tryz.new88 ?_
 have b4 := Blk.new w 88 (opA zeroOp)
 have bl0 := below_new w (.cells (opA zeroOp) 88)
 obtain ⟨g4, hg4⟩ : ∃ g4, Keep (g4 = w.heap.size) := ⟨_, ⟨rfl⟩⟩
 generalize w.alloc (.cells (opA zeroOp) 88) = wa at *
 rw [← hg4.out] at b4 ⊢
 simp only [Act.put, pqA, pqB, pqC]
 refine WL.new (by kernel_rfl) 34 rfl _ Tryz.new34E ?_
 have b5 := Blk.new wa 34 (erA 0 0)
 have b4' := b4.alloc (.cells (erA 0 0) 34)
 have bl1 := bl0.trans ((below_new wa (.cells (erA 0 0) 34)).mono bl0.size)
 obtain ⟨g5, hg5⟩ : ∃ g5, Keep (g5 = wa.heap.size) := ⟨_, ⟨rfl⟩⟩
 have hz5 : w.heap.size ≤ wa.heap.size := bl0.size
 generalize wa.alloc (.cells (erA 0 0) 34) = wb at *
 rw [← hg5.out] at b5 ⊢
 simp only [Act.put, pqA, pqB, pqC]
 refine WL.nil (hK1 _ _ ?_)
 refine wp_seq_k fun K2 hK2 => rgn ?_
 refine WL.bld (by kernel_rfl) 88 _ rfl [] (by simp) (opA zeroOp) Tryz.built88 ?_
 simp only [Act.put, pqA, pqB, pqC]
 refine WL.new (by kernel_rfl) 88 rfl _ Tryz.new88 ?_
 have b6 := Blk.new wb 88 (opA zeroOp)
 have b4'' := b4'.alloc (.cells (opA zeroOp) 88)
 have b5' := b5.alloc (.cells (opA zeroOp) 88)
 have h46 : g4 ≠ wb.heap.size := fun e => by have := b4'.lt; omega
 have bl2 := bl1.trans ((below_new wb (.cells (opA zeroOp) 88)).mono bl1.size)
 have hz6 : w.heap.size ≤ wb.heap.size := bl1.size
 obtain ⟨g6, hg6⟩ : ∃ g6, Keep (g6 = wb.heap.size) := ⟨_, ⟨rfl⟩⟩
 generalize wb.alloc (.cells (opA zeroOp) 88) = wc at *
 rw [← hg6.out] at b6 h46 ⊢
 simp only [Act.put, pqA, pqB, pqC]
 refine WL.storeR (by kernel_rfl) 88 (.tmp 6) (.tmp 15) rfl g6 (opA zeroOp) rfl rfl 88 (opA zeroOp) b6 (Tryz.size88B _) rfl (opA_one _) ?_
 have b6' := b6.setRow (opA zeroOp)
 have b4s := b4''.setRow_ne (b' := g6) h46 (opA zeroOp)
 have b5s := b5'.setRow_ne (b' := g6) (blk_ne b5' b6 (by decide)) (opA zeroOp)
 have bl3 := below_setRow bl2 (b := g6) (by rw [hg6.out]; exact hz6) (opA zeroOp)
 generalize wc.setRow g6 (opA zeroOp) = wd at *
 have HRf : Keep (RfAt wd x vB a 0 0) := ⟨Blk.below HF.out bl3 (Blk.lt HF.out)⟩
 have kx := HRf.out.c1
 simp only [Act.put]
 refine WL.nil (hK2 _ _ ?_)
 refine wp_seq_k fun K3 hK3 => rgn ?_
 refine VlS (.pointer (some ⟨x, 0, none⟩)) ?_
 refine VlS (.pointer (some ⟨x, 0, none⟩)) ?_
 refine VlS (.pointer (some ⟨x, 1, none⟩)) ?_
 refine VlS (.int .i64 (a : Int)) ?_
 refine VlS (.int .i64 (a : Int)) ?_
 refine WL.nil (hK3 _ _ ?_)
 refine wp_seq_k fun K4 hK4 => rgn ?_
 refine VlS (.pointer (some ⟨x, 0, none⟩)) ?_
 refine WL.callF (by kernel_rfl) 56 _ _ rfl Tryz.in56 #[ptr x] (by simp [Act.eval]) ?_
 refine (xbyte_good x vB L a wd HRf.out (fun wx hx => HRow.out wx ((Grown.below bl3).trans hx)) Ha.out Hb.out D1 hD1.out W1 hW1.out N1 hN1.out c hc.out).mono ?_
 rintro e we ⟨b1, hE1b, rfl, h1, h2⟩
 refine ⟨.tuple #[.int .u8 c, .agg (erA W1 b1)], rfl, ?_⟩
 have b6e := h2.blk b6' (blk_ne b6' HRf.out (by decide))
 have b4e := h2.blk b4s (blk_ne b4s HRf.out (by decide))
 have b5e := h2.blk b5s (blk_ne b5s HRf.out (by decide))
 have gre : Grown w we fun k => k = x := (Grown.below bl3).trans h2
 have HEb := Keep.mk hE1b
 clear kx hE1b
 simp only [Act.put, pqA, pqB, pqC]
 refine VlS (.tuple #[.int .u8 c, .agg (erA W1 b1)]) ?_
 refine VlS (.int .u8 c) ?_
 refine VlS (.agg (erA W1 b1)) ?_
 refine WL.new (by kernel_rfl) 34 rfl _ Tryz.new34E ?_
 simp only [Act.put, pqA, pqB, pqC]
 refine VlS (.int .u8 c) ?_
 refine WL.storeR (by kernel_rfl) 34 (.tmp 9) (.tmp 24) rfl we.heap.size (erA W1 b1) rfl rfl 34 (erA 0 0) (Blk.new we 34 _) (Tryz.size34B _ _) (erA_sizes _ _ _ _) (erA_one _ _) ?_
 obtain ⟨g9, hg9⟩ : ∃ g9, Keep (g9 = we.heap.size) := ⟨_, ⟨rfl⟩⟩
 rw [← hg9.out]
 have H0 : Keep (OS w x g4 g5 g6 g9 vB zeroOp W1 b1 (a + N1) W1 b1 ((we.alloc (.cells (erA 0 0) 34)).setRow g9 (erA W1 b1))) := ⟨by
  rw [hg9.out]
  have bq := below_setRow (below_new we (.cells (erA 0 0) 34)) (Nat.le_refl we.heap.size) (erA W1 b1)
  exact ⟨b6e.below bq b6e.lt, (Blk.new we 34 _).setRow _, b4e.below bq b4e.lt, b5e.below bq b5e.lt, Blk.below h1 bq (Blk.lt h1), gre.trans (Grown.below bq), h46, fun e => by have := b5e.lt; omega, ⟨by rw [hg4.out]; exact Nat.le_refl _, by rw [hg5.out]; exact hz5, by rw [hg6.out]; exact hz6, gre.size⟩⟩⟩
 generalize (we.alloc (.cells (erA 0 0) 34)).setRow g9 (erA W1 b1) = w1 at *
 clear b4 b4' b4'' b4s b4e b5 b5' b5s b5e b6 b6' b6e bl0 bl1 bl2 bl3 gre h1 h2 h46 hz5 hz6
 skip
 simp only [Act.put]
 refine WL.nil (hK4 _ _ ?_)
 refine wp_seq_k fun K5 hK5 => ?_
 refine wp_seq_k fun K6 hK6 => ?_
 have e0 := H0.out.e.c 0 (erA_0 _ _)
 by_cases hE1 : W1 = 0
 ·have hb1 : b1 = 0 := by rcases HEb.out with ⟨_, h⟩ | ⟨h, _⟩; exact h; exact absurd hE1 h
  have hN1' : N1 = 1 := by rw [hN1.out, (nextN_0 D1 1 (by rw [← hW1.out]; exact hE1)).1]; rfl
  have hcr : Keep (0 ≤ c ∧ c < 256) := ⟨by rw [hc.out, if_pos hE1]; exact Byts.getD (by rw [hD1.out]; exact HBy.out.drop a) 0⟩
  have hp1 : Keep (a + 1 ≤ L.length) := ⟨by have := next_n D1 1; rw [← hN1.out, hN1', hD1.out, List.length_drop] at this; have := Ha.out; omega⟩
  have HGB := Keep.mk HG.out
  rw [if_neg (by simp [hE1]), show D1.getD 0 0 = c by rw [hc.out, if_pos hE1]] at HGB
  rw [hE1] at e0
  rw [hE1, hb1, hN1'] at H0
  rw [hE1, hb1]
  clear hb1 hN1' hE1
  by_cases hc1 : c < 1
  ·skip
   have HN : Keep (hasI c = []) := ⟨hasI_none c (by simp only [List.mem_cons, List.not_mem_nil, or_false]; omega)⟩
   rw [if_pos HN.out] at HGB
   refine rgn ?_
   refine VlS (.pointer (some ⟨g9, 0, none⟩)) ?_
   refine VlS (.int .i64 0) ?_
   refine VlS (.bool true) ?_
   refine VlS (.bool true) ?_
   refine VlS (.int .u8 c) ?_
   refine VlS (.bool true) ?_
   refine VlS (.bool true) ?_
   refine SkS ?_
   refine SkS ?_
   refine VlS (.bool true) ?_
   refine VlS (.bool true) ?_
   refine WL.nil (hK6 _ _ ?_)
   refine wp_cond_true rfl ?_
   refine rgn ?_
   refine VlS (.pointer (some ⟨x, 0, none⟩)) ?_
   refine VlS (.int .i64 (a : Int)) ?_
   refine WL.callF (by kernel_rfl) 57 _ _ rfl Tryz.in57 #[ptr x, .int .i64 40, .int .i64 (a : Int)] (by simp [Act.eval]) ?_
   refine (xwrongG x vB _ a 40 w1 H0.out.rf).mono ?_
   rintro e w2 ⟨rfl, h1, h2⟩
   refine ⟨_, rfl, ?_⟩
   have H2 := Keep.mk (H0.out.call h1 h2)
   clear h1 h2 H0 e0
   simp only [Act.put, pqA, pqB, pqC]
   refine WL.storeR (by kernel_rfl) 34 (.tmp 9) (.tmp 38) rfl g9 (erA 40 (a : Int)) rfl rfl 34 (erA 0 0) H2.out.e (Tryz.size34B _ _) (erA_sizes _ _ _ _) (erA_one _ _) ?_
   have H3 := Keep.mk (H2.out.setE 40 (a : Int))
   generalize w2.setRow g9 (erA 40 (a : Int)) = w3 at *
   clear H2
   have e0 := H3.out.e.c 0 (erA_0 _ _)
   simp only [Act.put]
   refine WL.nil (hK5 _ _ ?_)
   refine wp_seq_k fun K7 hK7 => ?_
   refine wp_seq_k fun K8 hK8 => rgn ?_
   refine VlS (.pointer (some ⟨g9, 0, none⟩)) ?_
   refine VlS (.int .i64 40) ?_
   refine VlS (.bool true) ?_
   refine WL.nil (hK8 _ _ ?_)
   refine wp_cond_true rfl ?_
   refine wp_seq_k fun K9 hK9 => ?_
   refine ret_step7 (fun _ _ d _ _ h => by cases d <;> exact h) x g4 g5 g6 g9 vB _ w w3 zeroOp 40 (a : Int) a H3.out ?_
   rintro v42 v43 wz hk4 hk5 hR
   refine hK9 _ _ ?_
   refine wp_ret ?_
   try simp only [Exit.then]
   refine bodyPost_ret (v := .tuple #[.agg (opA zeroOp), .agg (erA 40 (a : Int))]) (results_cell_cell_row Tryz.results61 _ _ g4 g5 88 34 _ _ (0, 0) (0, 0) _ _ rfl rfl hk4 hk5 Tryz.underlying88 rfl (Tryz.size88B _) Tryz.underlying34 rfl (Tryz.size34B _ _)) rfl ?_
   exact hR G (by rw [HGB.out]) (by rw [HGB.out]) (Or.inr ⟨by decide, rfl⟩) (fun h => absurd h (by decide))
  ·by_cases hc9 : 9 < c
   ·skip
    have HN : Keep (hasI c = []) := ⟨hasI_none c (by simp only [List.mem_cons, List.not_mem_nil, or_false]; omega)⟩
    rw [if_pos HN.out] at HGB
    refine rgn ?_
    refine VlS (.pointer (some ⟨g9, 0, none⟩)) ?_
    refine VlS (.int .i64 0) ?_
    refine VlS (.bool true) ?_
    refine VlS (.bool true) ?_
    refine VlS (.int .u8 c) ?_
    refine VlS (.bool false) ?_
    refine VlS (.bool false) ?_
    refine VlS (.int .u8 c) ?_
    refine VlS (.bool true) ?_
    refine VlS (.bool true) ?_
    refine VlS (.bool true) ?_
    refine WL.nil (hK6 _ _ ?_)
    refine wp_cond_true rfl ?_
    refine rgn ?_
    refine VlS (.pointer (some ⟨x, 0, none⟩)) ?_
    refine VlS (.int .i64 (a : Int)) ?_
    refine WL.callF (by kernel_rfl) 57 _ _ rfl Tryz.in57 #[ptr x, .int .i64 40, .int .i64 (a : Int)] (by simp [Act.eval]) ?_
    refine (xwrongG x vB _ a 40 w1 H0.out.rf).mono ?_
    rintro e w2 ⟨rfl, h1, h2⟩
    refine ⟨_, rfl, ?_⟩
    have H2 := Keep.mk (H0.out.call h1 h2)
    clear h1 h2 H0 e0
    simp only [Act.put, pqA, pqB, pqC]
    refine WL.storeR (by kernel_rfl) 34 (.tmp 9) (.tmp 38) rfl g9 (erA 40 (a : Int)) rfl rfl 34 (erA 0 0) H2.out.e (Tryz.size34B _ _) (erA_sizes _ _ _ _) (erA_one _ _) ?_
    have H3 := Keep.mk (H2.out.setE 40 (a : Int))
    generalize w2.setRow g9 (erA 40 (a : Int)) = w3 at *
    clear H2
    have e0 := H3.out.e.c 0 (erA_0 _ _)
    simp only [Act.put]
    refine WL.nil (hK5 _ _ ?_)
    refine wp_seq_k fun K10 hK10 => ?_
    refine wp_seq_k fun K11 hK11 => rgn ?_
    refine VlS (.pointer (some ⟨g9, 0, none⟩)) ?_
    refine VlS (.int .i64 40) ?_
    refine VlS (.bool true) ?_
    refine WL.nil (hK11 _ _ ?_)
    refine wp_cond_true rfl ?_
    refine wp_seq_k fun K12 hK12 => ?_
    refine ret_step7 (fun _ _ d _ _ h => by cases d <;> exact h) x g4 g5 g6 g9 vB _ w w3 zeroOp 40 (a : Int) a H3.out ?_
    rintro v42 v43 wz hk4 hk5 hR
    refine hK12 _ _ ?_
    refine wp_ret ?_
    try simp only [Exit.then]
    refine bodyPost_ret (v := .tuple #[.agg (opA zeroOp), .agg (erA 40 (a : Int))]) (results_cell_cell_row Tryz.results61 _ _ g4 g5 88 34 _ _ (0, 0) (0, 0) _ _ rfl rfl hk4 hk5 Tryz.underlying88 rfl (Tryz.size88B _) Tryz.underlying34 rfl (Tryz.size34B _ _)) rfl ?_
    exact hR G (by rw [HGB.out]) (by rw [HGB.out]) (Or.inr ⟨by decide, rfl⟩) (fun h => absurd h (by decide))
   ·have HI : Keep (hasI c ≠ []) := ⟨hasI_of c (by omega) (by omega)⟩
    rw [if_neg HI.out, hasI_flags c HI.out] at HGB
    refine rgn ?_
    refine VlS (.pointer (some ⟨g9, 0, none⟩)) ?_
    refine VlS (.int .i64 0) ?_
    refine VlS (.bool true) ?_
    refine VlS (.bool true) ?_
    refine VlS (.int .u8 c) ?_
    refine VlS (.bool false) ?_
    refine VlS (.bool false) ?_
    refine VlS (.int .u8 c) ?_
    refine VlS (.bool false) ?_
    refine VlS (.bool false) ?_
    refine VlS (.bool false) ?_
    refine WL.nil (hK6 _ _ ?_)
    refine wp_cond_false rfl ?_
    refine wp_skip ?_
    refine hK5 _ _ ?_
    refine wp_seq_k fun K13 hK13 => ?_
    refine wp_seq_k fun K14 hK14 => rgn ?_
    refine VlS (.pointer (some ⟨g9, 0, none⟩)) ?_
    refine VlS (.int .i64 0) ?_
    refine VlS (.bool false) ?_
    refine WL.nil (hK14 _ _ ?_)
    refine wp_cond_false rfl ?_
    refine wp_skip ?_
    refine hK13 _ _ ?_
    refine wp_seq_k fun K15 hK15 => rgn ?_
    refine VlS (.int .u8 c) ?_
    have hwc : IntKind.i64.wrap c = c := by rw [IntKind.wrap_i64]; have := hcr.out; omega
    refine WL.val (by kernel_rfl) (.int .i64 c) (by go_simp) ?_
    clear hwc
    simp only [Act.put, pqA, pqB, pqC]
    refine VlS (.pointer (some ⟨g6, 0, none⟩)) ?_
    have c_o := H0.out.o.c 0 (opA_0 _)
    have f_o := H0.out.o.frozen 0
    refine WL.cell (by kernel_rfl) (w1.setCell ⟨g6, 0, none⟩ (.int .i64 c)) (by go_simp) ?_
    clear c_o f_o
    obtain ⟨y1, hy1⟩ : ∃ y' : OpV, y' = { zeroOp with kind := c } := ⟨_, rfl⟩
    have Ey1 := Keep.mk hy1
    clear hy1
    have H2 : Keep (OS w x g4 g5 g6 g9 vB y1 0 0 (a + 1) 0 0 (w1.setCell ⟨g6, 0, none⟩ (.int .i64 c))) := ⟨H0.out.setO y1 (by rw [Ey1.out]; have h := H0.out.o.set 0 (.int .i64 c); rw [set_0] at h; exact h) (Grown.setCell w1 g6 0 _ fun _ => rfl)⟩
    generalize w1.setCell ⟨g6, 0, none⟩ (.int .i64 c) = w2 at *
    clear H0
    have HI2 : Keep (OI w x g4 g5 g6 g9 vB L l c G (0 :: ((if txt c = true then [1] else []) ++ ((if c = 6 then [2] else []) ++ (if hat c = true then [3] else [])))) w2) := ⟨⟨y1, 0, 0, a + 1, H2.out, hp1.out, by rw [Ey1.out], .inl ⟨rfl, rfl, by rw [Ey1.out]; exact ok_kind zero_ok hcr.out.1 hcr.out.2, by rw [HGB.out, Ey1.out]⟩⟩⟩
    clear H2 e0
    simp only [Act.put]
    refine WL.nil (hK15 _ _ ?_)
    refine wp_seq_k fun K16 hK16 => ?_
    refine key_step x g4 g5 g6 g9 vB L vl l w w2 G HRow.out Hb.out HBy.out HI2.out ?_
    rintro v47 v48 v49 v50 v51 v52 w3 hI
    have HI3 := Keep.mk hI
    clear hI
    have k_w3 := HI3.out.kind
    refine hK16 _ _ ?_
    refine wp_seq_k fun K17 hK17 => rgn ?_
    refine VlS (.pointer (some ⟨g6, 0, none⟩)) ?_
    refine VlS (.int .i64 c) ?_
    refine WL.callF (by kernel_rfl) 92 _ _ rfl Tryz.in92 #[.int .i64 c] (by simp [Act.eval]) ?_
    refine (hasText_any c w3).mono ?_
    rintro e w_y ⟨rfl, hwy⟩
    rw [hwy]
    clear hwy w_y
    refine ⟨_, rfl, ?_⟩
    simp only [Act.put, pqA, pqB, pqC]
    refine VlS (.bool (txt c)) ?_
    refine WL.nil (hK17 _ _ ?_)
    refine wp_seq_k fun K18 hK18 => ?_
    refine wp_seq_k fun K19 hK19 => ?_
    rcases Bool.eq_false_or_eq_true (txt c) with hq11 | hq11
    ·rw [hq11]
     have hJ11 := HI3.out
     rw [if_pos (hq11)] at hJ11
     have HJ11 := Keep.mk hJ11
     clear hJ11
     refine rgn ?_
     refine VlS (.bool true) ?_
     refine WL.nil (hK19 _ _ ?_)
     refine wp_cond_true rfl ?_
     refine text_step x g4 g5 g6 g9 vB L vl l w w3 G HRow.out Hb.out HBy.out HJ11.out ?_
     rintro v57 v58 v59 v60 v61 v62 w4 hI
     have HI4 := Keep.mk hI
     clear hI
     have k_w4 := HI4.out.kind
     refine hK18 _ _ ?_
     refine wp_seq_k fun K20 hK20 => ?_
     refine wp_seq_k fun K21 hK21 => ?_
     by_cases hq13 : c = 6
     ·have hJ13 := HI4.out
      rw [if_pos (hq13)] at hJ13
      have HJ13 := Keep.mk hJ13
      clear hJ13
      refine rgn ?_
      refine VlS (.pointer (some ⟨g6, 0, none⟩)) ?_
      refine VlS (.int .i64 c) ?_
      refine VlS (.bool true) ?_
      refine WL.nil (hK21 _ _ ?_)
      refine wp_cond_true rfl ?_
      refine n_step x g4 g5 g6 g9 vB L vl l w w4 G HRow.out Hb.out HBy.out HJ13.out ?_
      rintro v66 v67 v68 v69 v70 v71 w5 hI
      have HI5 := Keep.mk hI
      clear hI
      have k_w5 := HI5.out.kind
      refine hK20 _ _ ?_
      refine wp_seq_k fun K22 hK22 => rgn ?_
      refine VlS (.pointer (some ⟨g6, 0, none⟩)) ?_
      refine VlS (.int .i64 c) ?_
      refine WL.callF (by kernel_rfl) 94 _ _ rfl Tryz.in94 #[.int .i64 c] (by simp [Act.eval]) ?_
      refine (hasAt_any c w5).mono ?_
      rintro e w_y ⟨rfl, hwy⟩
      rw [hwy]
      clear hwy w_y
      refine ⟨_, rfl, ?_⟩
      simp only [Act.put, pqA, pqB, pqC]
      refine VlS (.bool (hat c)) ?_
      refine WL.nil (hK22 _ _ ?_)
      refine wp_seq_k fun K23 hK23 => ?_
      refine wp_seq_k fun K24 hK24 => ?_
      rcases Bool.eq_false_or_eq_true (hat c) with hq16 | hq16
      ·rw [hq16]
       have hJ := HI5.out
       rw [if_pos hq16] at hJ
       obtain ⟨y, ew, eb, p, hS, hp, hk, hcc⟩ := hJ
       have HS := Keep.mk hS
       have Hp := Keep.mk hp
       have e0 := hS.e.c 0 (erA_0 _ _)
       clear hS hp hk
       rcases hcc with ⟨rfl, rfl, hok, hGx⟩ | ⟨hne, hE, hG1, hG2⟩
       ·have Hok := Keep.mk hok
        have HGx := Keep.mk hGx
        clear hok hGx
        refine rgn ?_
        refine VlS (.bool true) ?_
        refine VlS (.bool false) ?_
        refine VlS (.bool false) ?_
        refine VlS (.pointer (some ⟨g9, 0, none⟩)) ?_
        refine VlS (.int .i64 0) ?_
        refine VlS (.bool false) ?_
        refine VlS (.bool false) ?_
        refine WL.nil (hK24 _ _ ?_)
        refine wp_cond_false rfl ?_
        refine wp_skip ?_
        refine hK23 _ _ ?_
        refine at_end x g4 g5 g6 g9 vB L vl l w w5 G HRow.out Hb.out HBy.out HVl.out Hln.out y p HS.out Hok.out Hp.out ?_
        rw [HGx.out]
        exact getFs_1 L l 3 y p
       ·skip
        refine rgn ?_
        refine VlS (.bool true) ?_
        refine VlS (.bool false) ?_
        refine VlS (.bool false) ?_
        refine VlS (.pointer (some ⟨g9, 0, none⟩)) ?_
        refine VlS (.int .i64 ew) ?_
        refine VlS (.bool true) ?_
        refine VlS (.bool true) ?_
        refine WL.nil (hK24 _ _ ?_)
        refine wp_cond_true rfl ?_
        refine wp_seq_k fun K25 hK25 => ?_
        refine ret_step17 (fun _ _ d _ _ h => by cases d <;> exact h) x g4 g5 g6 g9 vB _ w w5 y ew eb p HS.out ?_
        rintro v82 v83 wz hk4 hk5 hR
        refine hK25 _ _ ?_
        refine wp_ret ?_
        try simp only [Exit.then]
        refine bodyPost_ret (v := .tuple #[.agg (opA y), .agg (erA ew eb)]) (results_cell_cell_row Tryz.results61 _ _ g4 g5 88 34 _ _ (0, 0) (0, 0) _ _ rfl rfl hk4 hk5 Tryz.underlying88 rfl (Tryz.size88B _) Tryz.underlying34 rfl (Tryz.size34B _ _)) rfl ?_
        exact hR G hG1 hG2 hE (fun h => absurd h hne)
      ·rw [hq16]
       have hJ := HI5.out
       rw [if_neg (by rw [hq16]; decide)] at hJ
       obtain ⟨y, ew, eb, p, hS, hp, hk, hcc⟩ := hJ
       have HS := Keep.mk hS
       have Hp := Keep.mk hp
       have e0 := hS.e.c 0 (erA_0 _ _)
       clear hS hp hk
       rcases hcc with ⟨rfl, rfl, hok, hGx⟩ | ⟨hne, hE, hG1, hG2⟩
       ·have Hok := Keep.mk hok
        have HGx := Keep.mk hGx
        clear hok hGx
        refine rgn ?_
        refine VlS (.bool false) ?_
        refine VlS (.bool true) ?_
        refine VlS (.bool true) ?_
        refine SkS ?_
        refine SkS ?_
        refine SkS ?_
        refine VlS (.bool true) ?_
        refine WL.nil (hK24 _ _ ?_)
        refine wp_cond_true rfl ?_
        refine wp_seq_k fun K26 hK26 => ?_
        refine ret_step17 (fun _ _ d _ _ h => by cases d <;> exact h) x g4 g5 g6 g9 vB _ w w5 y 0 0 p HS.out ?_
        rintro v82 v83 wz hk4 hk5 hR
        refine hK26 _ _ ?_
        refine wp_ret ?_
        try simp only [Exit.then]
        refine bodyPost_ret (v := .tuple #[.agg (opA y), .agg (erA 0 0)]) (results_cell_cell_row Tryz.results61 _ _ g4 g5 88 34 _ _ (0, 0) (0, 0) _ _ rfl rfl hk4 hk5 Tryz.underlying88 rfl (Tryz.size88B _) Tryz.underlying34 rfl (Tryz.size34B _ _)) rfl ?_
        exact hR G (by rw [HGx.out]; rfl) (by rw [HGx.out]; rfl) (Or.inl ⟨rfl, rfl⟩) (fun _ => ⟨by rw [HGx.out]; rfl, Hok.out⟩)
       ·skip
        refine rgn ?_
        refine VlS (.bool false) ?_
        refine VlS (.bool true) ?_
        refine VlS (.bool true) ?_
        refine SkS ?_
        refine SkS ?_
        refine SkS ?_
        refine VlS (.bool true) ?_
        refine WL.nil (hK24 _ _ ?_)
        refine wp_cond_true rfl ?_
        refine wp_seq_k fun K27 hK27 => ?_
        refine ret_step17 (fun _ _ d _ _ h => by cases d <;> exact h) x g4 g5 g6 g9 vB _ w w5 y ew eb p HS.out ?_
        rintro v82 v83 wz hk4 hk5 hR
        refine hK27 _ _ ?_
        refine wp_ret ?_
        try simp only [Exit.then]
        refine bodyPost_ret (v := .tuple #[.agg (opA y), .agg (erA ew eb)]) (results_cell_cell_row Tryz.results61 _ _ g4 g5 88 34 _ _ (0, 0) (0, 0) _ _ rfl rfl hk4 hk5 Tryz.underlying88 rfl (Tryz.size88B _) Tryz.underlying34 rfl (Tryz.size34B _ _)) rfl ?_
        exact hR G hG1 hG2 hE (fun h => absurd h hne)
     ·have hJ13 := HI4.out
      rw [if_neg (hq13)] at hJ13
      have HJ13 := Keep.mk hJ13
      clear hJ13
      refine rgn ?_
      refine VlS (.pointer (some ⟨g6, 0, none⟩)) ?_
      refine VlS (.int .i64 c) ?_
      refine VlS (.bool false) ?_
      refine WL.nil (hK21 _ _ ?_)
      refine wp_cond_false rfl ?_
      refine wp_skip ?_
      refine hK20 _ _ ?_
      refine wp_seq_k fun K28 hK28 => rgn ?_
      refine VlS (.pointer (some ⟨g6, 0, none⟩)) ?_
      refine VlS (.int .i64 c) ?_
      refine WL.callF (by kernel_rfl) 94 _ _ rfl Tryz.in94 #[.int .i64 c] (by simp [Act.eval]) ?_
      refine (hasAt_any c w4).mono ?_
      rintro e w_y ⟨rfl, hwy⟩
      rw [hwy]
      clear hwy w_y
      refine ⟨_, rfl, ?_⟩
      simp only [Act.put, pqA, pqB, pqC]
      refine VlS (.bool (hat c)) ?_
      refine WL.nil (hK28 _ _ ?_)
      refine wp_seq_k fun K29 hK29 => ?_
      refine wp_seq_k fun K30 hK30 => ?_
      rcases Bool.eq_false_or_eq_true (hat c) with hq16 | hq16
      ·rw [hq16]
       have hJ := HJ13.out
       rw [if_pos hq16] at hJ
       obtain ⟨y, ew, eb, p, hS, hp, hk, hcc⟩ := hJ
       have HS := Keep.mk hS
       have Hp := Keep.mk hp
       have e0 := hS.e.c 0 (erA_0 _ _)
       clear hS hp hk
       rcases hcc with ⟨rfl, rfl, hok, hGx⟩ | ⟨hne, hE, hG1, hG2⟩
       ·have Hok := Keep.mk hok
        have HGx := Keep.mk hGx
        clear hok hGx
        refine rgn ?_
        refine VlS (.bool true) ?_
        refine VlS (.bool false) ?_
        refine VlS (.bool false) ?_
        refine VlS (.pointer (some ⟨g9, 0, none⟩)) ?_
        refine VlS (.int .i64 0) ?_
        refine VlS (.bool false) ?_
        refine VlS (.bool false) ?_
        refine WL.nil (hK30 _ _ ?_)
        refine wp_cond_false rfl ?_
        refine wp_skip ?_
        refine hK29 _ _ ?_
        refine at_end x g4 g5 g6 g9 vB L vl l w w4 G HRow.out Hb.out HBy.out HVl.out Hln.out y p HS.out Hok.out Hp.out ?_
        rw [HGx.out]
        exact getFs_1 L l 3 y p
       ·skip
        refine rgn ?_
        refine VlS (.bool true) ?_
        refine VlS (.bool false) ?_
        refine VlS (.bool false) ?_
        refine VlS (.pointer (some ⟨g9, 0, none⟩)) ?_
        refine VlS (.int .i64 ew) ?_
        refine VlS (.bool true) ?_
        refine VlS (.bool true) ?_
        refine WL.nil (hK30 _ _ ?_)
        refine wp_cond_true rfl ?_
        refine wp_seq_k fun K31 hK31 => ?_
        refine ret_step17 (fun _ _ d _ _ h => by cases d <;> exact h) x g4 g5 g6 g9 vB _ w w4 y ew eb p HS.out ?_
        rintro v82 v83 wz hk4 hk5 hR
        refine hK31 _ _ ?_
        refine wp_ret ?_
        try simp only [Exit.then]
        refine bodyPost_ret (v := .tuple #[.agg (opA y), .agg (erA ew eb)]) (results_cell_cell_row Tryz.results61 _ _ g4 g5 88 34 _ _ (0, 0) (0, 0) _ _ rfl rfl hk4 hk5 Tryz.underlying88 rfl (Tryz.size88B _) Tryz.underlying34 rfl (Tryz.size34B _ _)) rfl ?_
        exact hR G hG1 hG2 hE (fun h => absurd h hne)
      ·rw [hq16]
       have hJ := HJ13.out
       rw [if_neg (by rw [hq16]; decide)] at hJ
       obtain ⟨y, ew, eb, p, hS, hp, hk, hcc⟩ := hJ
       have HS := Keep.mk hS
       have Hp := Keep.mk hp
       have e0 := hS.e.c 0 (erA_0 _ _)
       clear hS hp hk
       rcases hcc with ⟨rfl, rfl, hok, hGx⟩ | ⟨hne, hE, hG1, hG2⟩
       ·have Hok := Keep.mk hok
        have HGx := Keep.mk hGx
        clear hok hGx
        refine rgn ?_
        refine VlS (.bool false) ?_
        refine VlS (.bool true) ?_
        refine VlS (.bool true) ?_
        refine SkS ?_
        refine SkS ?_
        refine SkS ?_
        refine VlS (.bool true) ?_
        refine WL.nil (hK30 _ _ ?_)
        refine wp_cond_true rfl ?_
        refine wp_seq_k fun K32 hK32 => ?_
        refine ret_step17 (fun _ _ d _ _ h => by cases d <;> exact h) x g4 g5 g6 g9 vB _ w w4 y 0 0 p HS.out ?_
        rintro v82 v83 wz hk4 hk5 hR
        refine hK32 _ _ ?_
        refine wp_ret ?_
        try simp only [Exit.then]
        refine bodyPost_ret (v := .tuple #[.agg (opA y), .agg (erA 0 0)]) (results_cell_cell_row Tryz.results61 _ _ g4 g5 88 34 _ _ (0, 0) (0, 0) _ _ rfl rfl hk4 hk5 Tryz.underlying88 rfl (Tryz.size88B _) Tryz.underlying34 rfl (Tryz.size34B _ _)) rfl ?_
        exact hR G (by rw [HGx.out]; rfl) (by rw [HGx.out]; rfl) (Or.inl ⟨rfl, rfl⟩) (fun _ => ⟨by rw [HGx.out]; rfl, Hok.out⟩)
       ·skip
        refine rgn ?_
        refine VlS (.bool false) ?_
        refine VlS (.bool true) ?_
        refine VlS (.bool true) ?_
        refine SkS ?_
        refine SkS ?_
        refine SkS ?_
        refine VlS (.bool true) ?_
        refine WL.nil (hK30 _ _ ?_)
        refine wp_cond_true rfl ?_
        refine wp_seq_k fun K33 hK33 => ?_
        refine ret_step17 (fun _ _ d _ _ h => by cases d <;> exact h) x g4 g5 g6 g9 vB _ w w4 y ew eb p HS.out ?_
        rintro v82 v83 wz hk4 hk5 hR
        refine hK33 _ _ ?_
        refine wp_ret ?_
        try simp only [Exit.then]
        refine bodyPost_ret (v := .tuple #[.agg (opA y), .agg (erA ew eb)]) (results_cell_cell_row Tryz.results61 _ _ g4 g5 88 34 _ _ (0, 0) (0, 0) _ _ rfl rfl hk4 hk5 Tryz.underlying88 rfl (Tryz.size88B _) Tryz.underlying34 rfl (Tryz.size34B _ _)) rfl ?_
        exact hR G hG1 hG2 hE (fun h => absurd h hne)
    ·rw [hq11]
     have hJ11 := HI3.out
     rw [if_neg ((by rw [hq11]; decide))] at hJ11
     have HJ11 := Keep.mk hJ11
     clear hJ11
     refine rgn ?_
     refine VlS (.bool false) ?_
     refine WL.nil (hK19 _ _ ?_)
     refine wp_cond_false rfl ?_
     refine wp_skip ?_
     refine hK18 _ _ ?_
     refine wp_seq_k fun K34 hK34 => ?_
     refine wp_seq_k fun K35 hK35 => ?_
     by_cases hq13 : c = 6
     ·have hJ13 := HJ11.out
      rw [if_pos (hq13)] at hJ13
      have HJ13 := Keep.mk hJ13
      clear hJ13
      refine rgn ?_
      refine VlS (.pointer (some ⟨g6, 0, none⟩)) ?_
      refine VlS (.int .i64 c) ?_
      refine VlS (.bool true) ?_
      refine WL.nil (hK35 _ _ ?_)
      refine wp_cond_true rfl ?_
      refine n_step x g4 g5 g6 g9 vB L vl l w w3 G HRow.out Hb.out HBy.out HJ13.out ?_
      rintro v66 v67 v68 v69 v70 v71 w5 hI
      have HI5 := Keep.mk hI
      clear hI
      have k_w5 := HI5.out.kind
      refine hK34 _ _ ?_
      refine wp_seq_k fun K36 hK36 => rgn ?_
      refine VlS (.pointer (some ⟨g6, 0, none⟩)) ?_
      refine VlS (.int .i64 c) ?_
      refine WL.callF (by kernel_rfl) 94 _ _ rfl Tryz.in94 #[.int .i64 c] (by simp [Act.eval]) ?_
      refine (hasAt_any c w5).mono ?_
      rintro e w_y ⟨rfl, hwy⟩
      rw [hwy]
      clear hwy w_y
      refine ⟨_, rfl, ?_⟩
      simp only [Act.put, pqA, pqB, pqC]
      refine VlS (.bool (hat c)) ?_
      refine WL.nil (hK36 _ _ ?_)
      refine wp_seq_k fun K37 hK37 => ?_
      refine wp_seq_k fun K38 hK38 => ?_
      rcases Bool.eq_false_or_eq_true (hat c) with hq16 | hq16
      ·rw [hq16]
       have hJ := HI5.out
       rw [if_pos hq16] at hJ
       obtain ⟨y, ew, eb, p, hS, hp, hk, hcc⟩ := hJ
       have HS := Keep.mk hS
       have Hp := Keep.mk hp
       have e0 := hS.e.c 0 (erA_0 _ _)
       clear hS hp hk
       rcases hcc with ⟨rfl, rfl, hok, hGx⟩ | ⟨hne, hE, hG1, hG2⟩
       ·have Hok := Keep.mk hok
        have HGx := Keep.mk hGx
        clear hok hGx
        refine rgn ?_
        refine VlS (.bool true) ?_
        refine VlS (.bool false) ?_
        refine VlS (.bool false) ?_
        refine VlS (.pointer (some ⟨g9, 0, none⟩)) ?_
        refine VlS (.int .i64 0) ?_
        refine VlS (.bool false) ?_
        refine VlS (.bool false) ?_
        refine WL.nil (hK38 _ _ ?_)
        refine wp_cond_false rfl ?_
        refine wp_skip ?_
        refine hK37 _ _ ?_
        refine at_end x g4 g5 g6 g9 vB L vl l w w5 G HRow.out Hb.out HBy.out HVl.out Hln.out y p HS.out Hok.out Hp.out ?_
        rw [HGx.out]
        exact getFs_1 L l 3 y p
       ·skip
        refine rgn ?_
        refine VlS (.bool true) ?_
        refine VlS (.bool false) ?_
        refine VlS (.bool false) ?_
        refine VlS (.pointer (some ⟨g9, 0, none⟩)) ?_
        refine VlS (.int .i64 ew) ?_
        refine VlS (.bool true) ?_
        refine VlS (.bool true) ?_
        refine WL.nil (hK38 _ _ ?_)
        refine wp_cond_true rfl ?_
        refine wp_seq_k fun K39 hK39 => ?_
        refine ret_step17 (fun _ _ d _ _ h => by cases d <;> exact h) x g4 g5 g6 g9 vB _ w w5 y ew eb p HS.out ?_
        rintro v82 v83 wz hk4 hk5 hR
        refine hK39 _ _ ?_
        refine wp_ret ?_
        try simp only [Exit.then]
        refine bodyPost_ret (v := .tuple #[.agg (opA y), .agg (erA ew eb)]) (results_cell_cell_row Tryz.results61 _ _ g4 g5 88 34 _ _ (0, 0) (0, 0) _ _ rfl rfl hk4 hk5 Tryz.underlying88 rfl (Tryz.size88B _) Tryz.underlying34 rfl (Tryz.size34B _ _)) rfl ?_
        exact hR G hG1 hG2 hE (fun h => absurd h hne)
      ·rw [hq16]
       have hJ := HI5.out
       rw [if_neg (by rw [hq16]; decide)] at hJ
       obtain ⟨y, ew, eb, p, hS, hp, hk, hcc⟩ := hJ
       have HS := Keep.mk hS
       have Hp := Keep.mk hp
       have e0 := hS.e.c 0 (erA_0 _ _)
       clear hS hp hk
       rcases hcc with ⟨rfl, rfl, hok, hGx⟩ | ⟨hne, hE, hG1, hG2⟩
       ·have Hok := Keep.mk hok
        have HGx := Keep.mk hGx
        clear hok hGx
        refine rgn ?_
        refine VlS (.bool false) ?_
        refine VlS (.bool true) ?_
        refine VlS (.bool true) ?_
        refine SkS ?_
        refine SkS ?_
        refine SkS ?_
        refine VlS (.bool true) ?_
        refine WL.nil (hK38 _ _ ?_)
        refine wp_cond_true rfl ?_
        refine wp_seq_k fun K40 hK40 => ?_
        refine ret_step17 (fun _ _ d _ _ h => by cases d <;> exact h) x g4 g5 g6 g9 vB _ w w5 y 0 0 p HS.out ?_
        rintro v82 v83 wz hk4 hk5 hR
        refine hK40 _ _ ?_
        refine wp_ret ?_
        try simp only [Exit.then]
        refine bodyPost_ret (v := .tuple #[.agg (opA y), .agg (erA 0 0)]) (results_cell_cell_row Tryz.results61 _ _ g4 g5 88 34 _ _ (0, 0) (0, 0) _ _ rfl rfl hk4 hk5 Tryz.underlying88 rfl (Tryz.size88B _) Tryz.underlying34 rfl (Tryz.size34B _ _)) rfl ?_
        exact hR G (by rw [HGx.out]; rfl) (by rw [HGx.out]; rfl) (Or.inl ⟨rfl, rfl⟩) (fun _ => ⟨by rw [HGx.out]; rfl, Hok.out⟩)
       ·skip
        refine rgn ?_
        refine VlS (.bool false) ?_
        refine VlS (.bool true) ?_
        refine VlS (.bool true) ?_
        refine SkS ?_
        refine SkS ?_
        refine SkS ?_
        refine VlS (.bool true) ?_
        refine WL.nil (hK38 _ _ ?_)
        refine wp_cond_true rfl ?_
        refine wp_seq_k fun K41 hK41 => ?_
        refine ret_step17 (fun _ _ d _ _ h => by cases d <;> exact h) x g4 g5 g6 g9 vB _ w w5 y ew eb p HS.out ?_
        rintro v82 v83 wz hk4 hk5 hR
        refine hK41 _ _ ?_
        refine wp_ret ?_
        try simp only [Exit.then]
        refine bodyPost_ret (v := .tuple #[.agg (opA y), .agg (erA ew eb)]) (results_cell_cell_row Tryz.results61 _ _ g4 g5 88 34 _ _ (0, 0) (0, 0) _ _ rfl rfl hk4 hk5 Tryz.underlying88 rfl (Tryz.size88B _) Tryz.underlying34 rfl (Tryz.size34B _ _)) rfl ?_
        exact hR G hG1 hG2 hE (fun h => absurd h hne)
     ·have hJ13 := HJ11.out
      rw [if_neg (hq13)] at hJ13
      have HJ13 := Keep.mk hJ13
      clear hJ13
      refine rgn ?_
      refine VlS (.pointer (some ⟨g6, 0, none⟩)) ?_
      refine VlS (.int .i64 c) ?_
      refine VlS (.bool false) ?_
      refine WL.nil (hK35 _ _ ?_)
      refine wp_cond_false rfl ?_
      refine wp_skip ?_
      refine hK34 _ _ ?_
      refine wp_seq_k fun K42 hK42 => rgn ?_
      refine VlS (.pointer (some ⟨g6, 0, none⟩)) ?_
      refine VlS (.int .i64 c) ?_
      refine WL.callF (by kernel_rfl) 94 _ _ rfl Tryz.in94 #[.int .i64 c] (by simp [Act.eval]) ?_
      refine (hasAt_any c w3).mono ?_
      rintro e w_y ⟨rfl, hwy⟩
      rw [hwy]
      clear hwy w_y
      refine ⟨_, rfl, ?_⟩
      simp only [Act.put, pqA, pqB, pqC]
      refine VlS (.bool (hat c)) ?_
      refine WL.nil (hK42 _ _ ?_)
      refine wp_seq_k fun K43 hK43 => ?_
      refine wp_seq_k fun K44 hK44 => ?_
      rcases Bool.eq_false_or_eq_true (hat c) with hq16 | hq16
      ·rw [hq16]
       have hJ := HJ13.out
       rw [if_pos hq16] at hJ
       obtain ⟨y, ew, eb, p, hS, hp, hk, hcc⟩ := hJ
       have HS := Keep.mk hS
       have Hp := Keep.mk hp
       have e0 := hS.e.c 0 (erA_0 _ _)
       clear hS hp hk
       rcases hcc with ⟨rfl, rfl, hok, hGx⟩ | ⟨hne, hE, hG1, hG2⟩
       ·have Hok := Keep.mk hok
        have HGx := Keep.mk hGx
        clear hok hGx
        refine rgn ?_
        refine VlS (.bool true) ?_
        refine VlS (.bool false) ?_
        refine VlS (.bool false) ?_
        refine VlS (.pointer (some ⟨g9, 0, none⟩)) ?_
        refine VlS (.int .i64 0) ?_
        refine VlS (.bool false) ?_
        refine VlS (.bool false) ?_
        refine WL.nil (hK44 _ _ ?_)
        refine wp_cond_false rfl ?_
        refine wp_skip ?_
        refine hK43 _ _ ?_
        refine at_end x g4 g5 g6 g9 vB L vl l w w3 G HRow.out Hb.out HBy.out HVl.out Hln.out y p HS.out Hok.out Hp.out ?_
        rw [HGx.out]
        exact getFs_1 L l 3 y p
       ·skip
        refine rgn ?_
        refine VlS (.bool true) ?_
        refine VlS (.bool false) ?_
        refine VlS (.bool false) ?_
        refine VlS (.pointer (some ⟨g9, 0, none⟩)) ?_
        refine VlS (.int .i64 ew) ?_
        refine VlS (.bool true) ?_
        refine VlS (.bool true) ?_
        refine WL.nil (hK44 _ _ ?_)
        refine wp_cond_true rfl ?_
        refine wp_seq_k fun K45 hK45 => ?_
        refine ret_step17 (fun _ _ d _ _ h => by cases d <;> exact h) x g4 g5 g6 g9 vB _ w w3 y ew eb p HS.out ?_
        rintro v82 v83 wz hk4 hk5 hR
        refine hK45 _ _ ?_
        refine wp_ret ?_
        try simp only [Exit.then]
        refine bodyPost_ret (v := .tuple #[.agg (opA y), .agg (erA ew eb)]) (results_cell_cell_row Tryz.results61 _ _ g4 g5 88 34 _ _ (0, 0) (0, 0) _ _ rfl rfl hk4 hk5 Tryz.underlying88 rfl (Tryz.size88B _) Tryz.underlying34 rfl (Tryz.size34B _ _)) rfl ?_
        exact hR G hG1 hG2 hE (fun h => absurd h hne)
      ·rw [hq16]
       have hJ := HJ13.out
       rw [if_neg (by rw [hq16]; decide)] at hJ
       obtain ⟨y, ew, eb, p, hS, hp, hk, hcc⟩ := hJ
       have HS := Keep.mk hS
       have Hp := Keep.mk hp
       have e0 := hS.e.c 0 (erA_0 _ _)
       clear hS hp hk
       rcases hcc with ⟨rfl, rfl, hok, hGx⟩ | ⟨hne, hE, hG1, hG2⟩
       ·have Hok := Keep.mk hok
        have HGx := Keep.mk hGx
        clear hok hGx
        refine rgn ?_
        refine VlS (.bool false) ?_
        refine VlS (.bool true) ?_
        refine VlS (.bool true) ?_
        refine SkS ?_
        refine SkS ?_
        refine SkS ?_
        refine VlS (.bool true) ?_
        refine WL.nil (hK44 _ _ ?_)
        refine wp_cond_true rfl ?_
        refine wp_seq_k fun K46 hK46 => ?_
        refine ret_step17 (fun _ _ d _ _ h => by cases d <;> exact h) x g4 g5 g6 g9 vB _ w w3 y 0 0 p HS.out ?_
        rintro v82 v83 wz hk4 hk5 hR
        refine hK46 _ _ ?_
        refine wp_ret ?_
        try simp only [Exit.then]
        refine bodyPost_ret (v := .tuple #[.agg (opA y), .agg (erA 0 0)]) (results_cell_cell_row Tryz.results61 _ _ g4 g5 88 34 _ _ (0, 0) (0, 0) _ _ rfl rfl hk4 hk5 Tryz.underlying88 rfl (Tryz.size88B _) Tryz.underlying34 rfl (Tryz.size34B _ _)) rfl ?_
        exact hR G (by rw [HGx.out]; rfl) (by rw [HGx.out]; rfl) (Or.inl ⟨rfl, rfl⟩) (fun _ => ⟨by rw [HGx.out]; rfl, Hok.out⟩)
       ·skip
        refine rgn ?_
        refine VlS (.bool false) ?_
        refine VlS (.bool true) ?_
        refine VlS (.bool true) ?_
        refine SkS ?_
        refine SkS ?_
        refine SkS ?_
        refine VlS (.bool true) ?_
        refine WL.nil (hK44 _ _ ?_)
        refine wp_cond_true rfl ?_
        refine wp_seq_k fun K47 hK47 => ?_
        refine ret_step17 (fun _ _ d _ _ h => by cases d <;> exact h) x g4 g5 g6 g9 vB _ w w3 y ew eb p HS.out ?_
        rintro v82 v83 wz hk4 hk5 hR
        refine hK47 _ _ ?_
        refine wp_ret ?_
        try simp only [Exit.then]
        refine bodyPost_ret (v := .tuple #[.agg (opA y), .agg (erA ew eb)]) (results_cell_cell_row Tryz.results61 _ _ g4 g5 88 34 _ _ (0, 0) (0, 0) _ _ rfl rfl hk4 hk5 Tryz.underlying88 rfl (Tryz.size88B _) Tryz.underlying34 rfl (Tryz.size34B _ _)) rfl ?_
        exact hR G hG1 hG2 hE (fun h => absurd h hne)
 ·have HGB := Keep.mk HG.out
  rw [if_pos hE1] at HGB
  refine rgn ?_
  refine VlS (.pointer (some ⟨g9, 0, none⟩)) ?_
  refine VlS (.int .i64 W1) ?_
  refine VlS (.bool false) ?_
  refine VlS (.bool false) ?_
  refine SkS ?_
  refine SkS ?_
  refine SkS ?_
  refine SkS ?_
  refine SkS ?_
  refine SkS ?_
  refine VlS (.bool false) ?_
  refine WL.nil (hK6 _ _ ?_)
  refine wp_cond_false rfl ?_
  refine wp_skip ?_
  refine hK5 _ _ ?_
  refine wp_seq_k fun K48 hK48 => ?_
  refine wp_seq_k fun K49 hK49 => rgn ?_
  refine VlS (.pointer (some ⟨g9, 0, none⟩)) ?_
  refine VlS (.int .i64 W1) ?_
  refine VlS (.bool true) ?_
  refine WL.nil (hK49 _ _ ?_)
  refine wp_cond_true rfl ?_
  refine wp_seq_k fun K50 hK50 => ?_
  refine ret_step7 (fun _ _ d _ _ h => by cases d <;> exact h) x g4 g5 g6 g9 vB _ w w1 zeroOp W1 b1 (a + N1) H0.out ?_
  rintro v42 v43 wz hk4 hk5 hR
  refine hK50 _ _ ?_
  refine wp_ret ?_
  try simp only [Exit.then]
  refine bodyPost_ret (v := .tuple #[.agg (opA zeroOp), .agg (erA W1 b1)]) (results_cell_cell_row Tryz.results61 _ _ g4 g5 88 34 _ _ (0, 0) (0, 0) _ _ rfl rfl hk4 hk5 Tryz.underlying88 rfl (Tryz.size88B _) Tryz.underlying34 rfl (Tryz.size34B _ _)) rfl ?_
  exact hR G (by rw [HGB.out]) (by rw [HGB.out]) HEb.out (fun h => absurd h hE1)
theorem bs0 (w : World) : (Instr.buildSlice 26 0 #[]).run Tryz.prog w = .ok (.slice (some ⟨w.heap.size, 0, none⟩) 0 0) (w.alloc (.cells #[] 88)) := by kernel_rfl
theorem getF_le {L : List Int} {l : List OpV} {i : Nat} {y : OpV} {a : Nat} (ha : a ≤ L.length) : (getF L l i y a).2.1 ≤ L.length := by
 unfold getF
 split
 ·exact adv ha (byt_n _ _)
 split
 ·exact adv ha (byt_n _ _)
 split
 ·exact adv ha (fst_n _ _)
 unfold getA
 split
 ·exact adv ha (fst_n _ _)
 split
 ·split
  ·exact adv ha (fst_n _ _)
  ·exact ha
 split
 ·exact adv (adv ha (fst_n _ _)) (next_n _ _)
 ·rename_i h
  split
  ·have h1 := (nextN_0 _ 32 (by simpa using h)).2.2
   exact adv (adv ha (fst_n _ _)) h1
  ·exact ha
theorem getFs_le {L : List Int} {l : List OpV} : ∀ (is : List Nat) {y : OpV} {a : Nat}, a ≤ L.length → (getFs L l is y a).2.1 ≤ L.length
 | [], _, _, ha => ha
 | i :: is, y, a, ha => by
  rw [getFs]
  split
  ·exact getFs_le is (getF_le ha)
  ·exact getF_le ha
theorem getO_le {L : List Int} {l : List OpV} {a : Nat} (ha : a ≤ L.length) : (getO L l a).2.1 ≤ L.length := by
 unfold getO
 split
 ·exact adv ha (next_n _ _)
 split
 ·exact ha
 ·rename_i h _
  have h1 := (nextN_0 _ 1 (by simpa using h)).2.2
  exact getFs_le _ (adv ha (by simpa using h1))
theorem Tryz.results30 : Tryz.f30.results = #[.tmp 2, .cell 3 34] := by kernel_rfl
theorem OwnO.bs0 (w : World) : OwnO (w.alloc (.cells #[] 88)) (.slice (some ⟨w.heap.size, 0, none⟩) 0 0) [] := ⟨rfl, .inr ⟨w.heap.size, 0, #[], rfl, Nat.zero_le _, Blk.new w 88 #[], Nat.le_refl _, Nat.zero_le _, rfl, rfl⟩⟩
def RGet (x : Nat) (vB : Value) (R : Int × Nat × List OpV) (w : World) (e : Ending) (w' : World) : Prop :=
 ∃ v b, e = .returned (.tuple #[v, .agg (erA R.1 b)]) ∧ ErrB R.1 R.2.1 b ∧ RfAt w' x vB R.2.1 R.1 b ∧ (Grown w w' fun k => k = x) ∧ (R.1 = 0 → OwnO w' v R.2.2 ∧ R.2.1 ≤ (R.2.1 : Nat)) ∧ (R.1 ≠ 0 → v = .slice none 0 0)
def RL (w : World) (x g3 g5 : Nat) (vB : Value) (L : List Int) (n : Nat) (G : Int × Nat × List OpV) (t : Nat) (v : Value) (w1 : World) : Prop :=
 Blk w1 g3 34 (erA 0 0) ∧ (Grown w w1 fun k => k = x) ∧
  ((∃ l p, Blk w1 g5 34 (erA 0 0) ∧ RfAt w1 x vB p 0 0 ∧ p ≤ L.length ∧ OwnO w1 v l ∧ (∀ k, v.ownBlock = some k → w.heap.size ≤ k) ∧ l.length = t ∧ t ≤ n ∧ G = getN L (n - t) l p)
   ∨ (∃ ew eb p, ew ≠ 0 ∧ Blk w1 g5 34 (erA ew eb) ∧ RfAt w1 x vB p ew eb ∧ ErrB ew p eb ∧ G.1 = ew ∧ G.2.1 = p))
theorem RGet.mk0 {w w1 : World} {x g3 : Nat} {vB v : Value} {G : Int × Nat × List OpV} {l : List OpV} {p : Nat} (hG : G = (0, p, l)) (hf : RfAt w1 x vB p 0 0) (hg : Grown w w1 fun k => k = x) (ho : OwnO w1 v l) (hz : Blk w1 g3 34 (erA 0 0)) (hn : v.ownBlock ≠ some g3) (h3 : w.heap.size ≤ g3) :
  RGet x vB G w (.returned (.tuple #[v, .agg (erA 0 0)])) (w1.drew.setRow g3 (erA 0 0)) := by
 have gs : Grown w1.drew (w1.drew.setRow g3 (erA 0 0)) fun k => k = g3 := Grown.setRow w1.drew g3 _ fun _ => rfl
 refine ⟨v, 0, by rw [hG], by rw [hG]; exact .inl ⟨rfl, rfl⟩, ?_, hg.drew.next gs (fun k hk e => by omega), fun _ => ⟨?_, Nat.le_refl _⟩, fun h => absurd (by rw [hG]) h⟩
 ·rw [hG]; exact Blk.setRow_ne (Blk.drew hf) (blk_ne hf hz (by decide)) _
 ·rw [hG]; exact (ho.below (Below.refl _ _).drew).grown gs (fun k hk e => by rw [e] at hk; exact hn hk)
theorem RGet.mk1 {w w1 : World} {x g3 : Nat} {vB : Value} {G : Int × Nat × List OpV} {p : Nat} {ew eb : Int} (h1 : G.1 = ew) (h2 : G.2.1 = p) (hne : ew ≠ 0) (hE : ErrB ew p eb) (hf : RfAt w1 x vB p ew eb) (hg : Grown w w1 fun k => k = x) (hz : Blk w1 g3 34 (erA 0 0)) (h3 : w.heap.size ≤ g3) :
  RGet x vB G w (.returned (.tuple #[.slice none 0 0, .agg (erA ew eb)])) (w1.drew.setRow g3 (erA ew eb)) := by
 have gs : Grown w1.drew (w1.drew.setRow g3 (erA ew eb)) fun k => k = g3 := Grown.setRow w1.drew g3 _ fun _ => rfl
 refine ⟨.slice none 0 0, eb, by rw [h1], by rw [h1, h2]; exact hE, ?_, hg.drew.next gs (fun k hk e => by omega), fun h => absurd (h1 ▸ h) hne, fun _ => rfl⟩
 rw [h1, h2]; exact Blk.setRow_ne (Blk.drew hf) (blk_ne hf hz (by decide)) _
set_option maxRecDepth 8000 in
set_option maxHeartbeats 4000000 in
theorem rget_any (x : Nat) (vB : Value) (L : List Int) (a : Nat) (w : World) (hF : RfAt w x vB a 0 0) (hR : ∀ wx, (Grown w wx fun k => k = x) → RowAt wx vB L) (ha : a ≤ L.length) (hb : L.length ≤ 140737488355328) (hby : Byts L) :
  Calls Tryz.prog 30 #[ptr x] w (RGet x vB (getL L a) w) := by
 obtain ⟨D1, hD1⟩ : ∃ z, Keep (z = L.drop a) := ⟨_, ⟨rfl⟩⟩
 obtain ⟨X1, N1, W1, hM1', hN1'⟩ := fst_tri D1 1024
 obtain ⟨G, hG⟩ : ∃ G, G = getL L a := ⟨_, rfl⟩
 rw [← hG]
 unfold getL at hG
 rw [← hD1.out, hM1'] at hG
 simp only [Int.toNat_natCast] at hG
 have hM1 := Keep.mk hM1'
 have hrg1 : Keep (0 ≤ X1 ∧ X1 ≤ 1024) := ⟨by have h := fst_rng D1 (by rw [hD1.out]; exact hby.drop _) 1024 (by decide); rw [hM1'] at h; exact h⟩
 obtain ⟨n, rfl⟩ : ∃ n : Nat, X1 = (n : Int) := ⟨X1.toNat, by have := hrg1.out; omega⟩
 have Hnn : Keep (n ≤ 1024) := ⟨by have := hrg1.out; omega⟩
 have hwn : IntKind.i64.wrap (n : Int) = (n : Int) := by rw [IntKind.wrap_i64]; have := Hnn.out; omega
 have hN1 := Keep.mk hN1'
 have Hp1 : Keep (a + N1 ≤ L.length) := ⟨adv ha (by rw [hD1.out] at hN1'; exact hN1')⟩
 have HStart : Keep (∀ (g5 : Nat) (b1 : Int) (v : Value) (w4 : World), ErrB W1 (a + N1) b1 → Blk w4 g5 34 (erA W1 b1) → RfAt w4 x vB (a + N1) W1 b1 → OwnO w4 v [] → (∀ k, v.ownBlock = some k → w.heap.size ≤ k) → ((∃ l p, Blk w4 g5 34 (erA 0 0) ∧ RfAt w4 x vB p 0 0 ∧ p ≤ L.length ∧ OwnO w4 v l ∧ (∀ k, v.ownBlock = some k → w.heap.size ≤ k) ∧ l.length = 0 ∧ 0 ≤ n ∧ G = getN L (n - 0) l p) ∨ (∃ ew eb p, ew ≠ 0 ∧ Blk w4 g5 34 (erA ew eb) ∧ RfAt w4 x vB p ew eb ∧ ErrB ew p eb ∧ G.1 = ew ∧ G.2.1 = p))) := ⟨fun g5 b1 v w4 hE h5 hf ho hk => by
  by_cases hz : W1 = 0
  ·have hb0 : b1 = 0 := by
    rcases hE with ⟨_, h⟩ | ⟨h, _⟩
    ·exact h
    ·exact absurd hz h
   rw [hz, hb0] at h5 hf
   rw [if_neg (by simp [hz])] at hG
   try rw [Int.toNat_natCast] at hG
   exact .inl ⟨[], a + N1, h5, hf, Hp1.out, ho, hk, rfl, Nat.zero_le _, hG⟩
  ·rw [if_pos hz] at hG
   exact .inr ⟨W1, b1, a + N1, hz, h5, hf, hE, by rw [hG], by rw [hG]⟩⟩
 have HF := Keep.mk hF
 have Ha := Keep.mk ha
 have HRow := Keep.mk hR
 have Hb := Keep.mk hb
 have HBy := Keep.mk hby
 clear hR hb hby
 clear hG hF ha hM1' hN1'
 go_enter Tryz.func30, Tryz.ntmps30
 refine wp_seq_k fun K1 hK1 => rgn ?_
 refine VlS (.slice none 0 0) ?_
 refine WL.new (by kernel_rfl) 34 rfl _ Tryz.new34E ?_
 have Z3 := Keep.mk (Blk.new w 34 (erA 0 0))
 have B1 : Keep (Below w.heap.size w (w.alloc (.cells (erA 0 0) 34))) := ⟨below_new w _⟩
 generalize w.alloc (.cells (erA 0 0) 34) = w1 at *
 obtain ⟨g3, hg3⟩ : ∃ g, g = w.heap.size := ⟨_, rfl⟩
 have Hg3 := Keep.mk hg3
 rw [← hg3] at Z3 ⊢
 clear hg3
 have HF1 : Keep (RfAt w1 x vB a 0 0) := ⟨Blk.below HF.out B1.out (Blk.lt HF.out)⟩
 simp only [Act.put, pqA, pqB, pqC]
 refine WL.nil (hK1 _ _ ?_)
 refine wp_seq_k fun K2 hK2 => rgn ?_
 refine VlS (.pointer (some ⟨x, 0, none⟩)) ?_
 refine WL.callF (by kernel_rfl) 58 _ _ rfl Tryz.in58 #[ptr x, .int .u64 1024] (by simp [Act.eval]) ?_
 refine (xnum_good x vB L a 1024 w1 HF1.out (fun wx hx => HRow.out wx ((Grown.below B1.out).trans hx)) Ha.out Hb.out HBy.out D1 hD1.out W1 (n : Int) N1 hM1.out).mono ?_
 rintro e w2 ⟨b1, hE, rfl, h1, h2⟩
 refine ⟨.tuple #[.int .u64 (n : Int), .agg (erA W1 b1)], rfl, ?_⟩
 have HEb := Keep.mk hE
 have HF2 := Keep.mk h1
 have Z32 := Keep.mk (h2.blk Z3.out (blk_ne Z3.out HF1.out (by decide)))
 have G2 : Keep (Grown w w2 fun k => k = x) := ⟨(Grown.below B1.out).trans h2⟩
 clear h1 h2 hE Z3 HF1 B1
 simp only [Act.put, pqA, pqB, pqC]
 refine VlS (.tuple #[.int .u64 (n : Int), .agg (erA W1 b1)]) ?_
 refine VlS (.int .u64 (n : Int)) ?_
 refine VlS (.agg (erA W1 b1)) ?_
 refine WL.new (by kernel_rfl) 34 rfl _ Tryz.new34E ?_
 simp only [Act.put, pqA, pqB, pqC]
 refine VlS (.int .u64 (n : Int)) ?_
 refine WL.storeR (by kernel_rfl) 34 (.tmp 5) (.tmp 14) rfl w2.heap.size (erA W1 b1) rfl rfl 34 (erA 0 0) (Blk.new w2 34 _) (Tryz.size34B _ _) (erA_sizes _ _ _ _) (erA_one _ _) ?_
 have bq := below_setRow (below_new w2 (.cells (erA 0 0) 34)) (Nat.le_refl w2.heap.size) (erA W1 b1)
 have Z5 := Keep.mk ((Blk.new w2 34 (erA 0 0)).setRow (erA W1 b1))
 generalize (w2.alloc (.cells (erA 0 0) 34)).setRow w2.heap.size (erA W1 b1) = w3 at *
 have Z33 := Keep.mk (Z32.out.below bq Z32.out.lt)
 have HF3 : Keep (RfAt w3 x vB (a + N1) W1 b1) := ⟨Blk.below HF2.out bq (Blk.lt HF2.out)⟩
 have G3 : Keep (Grown w w3 fun k => k = x) := ⟨G2.out.trans (Grown.below bq)⟩
 have H35 : Keep (g3 ≠ w2.heap.size) := ⟨fun e => by have := Z32.out.lt; omega⟩
 have H5 : Keep (w.heap.size ≤ w2.heap.size) := ⟨G2.out.size⟩
 clear bq Z32 HF2 G2
 generalize w2.heap.size = g5 at *
 skip
 simp only [Act.put]
 refine WL.nil (hK2 _ _ ?_)
 refine wp_seq_k fun K3 hK3 => rgn ?_
 refine WL.bs (by kernel_rfl) 26 0 _ rfl #[] (by simp) _ _ (bs0 w3) ?_
 have HO4 := Keep.mk (OwnO.bs0 w3)
 have bq := below_new w3 (.cells #[] 88)
 have Hk4 : Keep (w.heap.size ≤ w3.heap.size) := ⟨G3.out.size⟩
 obtain ⟨v4, hv4⟩ : ∃ v, v = Value.slice (some ⟨w3.heap.size, 0, none⟩) 0 0 := ⟨_, rfl⟩
 have Hn4 : Keep (∀ k, v4.ownBlock = some k → w.heap.size ≤ k) := ⟨fun k hk => by rw [hv4] at hk; simp [Value.ownBlock] at hk; have := Hk4.out; omega⟩
 rw [← hv4] at HO4 ⊢
 clear hv4
 generalize w3.alloc (.cells #[] 88) = w4 at *
 have Z34 := Keep.mk (Z33.out.below bq Z33.out.lt)
 have Z54 := Keep.mk (Z5.out.below bq Z5.out.lt)
 have HF4 : Keep (RfAt w4 x vB (a + N1) W1 b1) := ⟨Blk.below HF3.out bq (Blk.lt HF3.out)⟩
 have G4 : Keep (Grown w w4 fun k => k = x) := ⟨G3.out.trans (Grown.below bq)⟩
 clear bq Z33 Z5 HF3 G3 Hk4
 have HL0 : Keep (RL w x g3 g5 vB L n G 0 v4 w4) := ⟨⟨Z34.out, G4.out, HStart.out g5 b1 v4 w4 HEb.out Z54.out HF4.out HO4.out Hn4.out⟩⟩
 clear Z34 Z54 HF4 G4 HO4 Hn4
 simp only [Act.put, pqA, pqB, pqC]
 refine VlS (v4) ?_
 refine WL.nil (hK3 _ _ ?_)
 refine wp_seq_k fun K4 hK4 => ?_
 refine wp_seq_k fun K5 hK5 => rgn ?_
 refine VlS (.int .i64 0) ?_
 refine WL.nil (hK5 _ _ ?_)
 refine wp_block ?_
 refine wp_loop (fun ac wr => ∃ (t : Nat) (u6 u8 u9 u16 u17 u18 u19 u20 u21 u22 u23 u24 u25 u26 u27 u28 u29 u30 u31 u32 u33 u34 u35 u36 u37 : Value), ac = { tmps := #[.pointer (some ⟨x, 0, none⟩), undef, .slice none 0 0, .pointer (some ⟨g3, 0, none⟩), .int .u64 (n : Int), .pointer (some ⟨g5, 0, none⟩), u6, .int .i64 (t : Int), u8, u9, .tuple #[.int .u64 (n : Int), .agg (erA W1 b1)], .pointer (some ⟨x, 0, none⟩), .tuple #[.int .u64 (n : Int), .agg (erA W1 b1)], .int .u64 (n : Int), .agg (erA W1 b1), v4, u16, u17, u18, u19, u20, u21, u22, u23, u24, u25, u26, u27, u28, u29, u30, u31, u32, u33, u34, u35, u36, u37, undef, undef, undef, undef, undef, undef], defers := [] } ∧ RL w x g3 g5 vB L n G t u6 wr) (fun a _ => n - (intOf (a.tmps.getD 7 undef)).toNat) ⟨0, v4, undef, undef, undef, undef, undef, undef, undef, undef, undef, undef, undef, undef, undef, undef, undef, undef, undef, undef, undef, undef, undef, undef, undef, undef, rfl, HL0.out⟩ ?_
 rintro ac wr ⟨t, u6, u8, u9, u16, u17, u18, u19, u20, u21, u22, u23, u24, u25, u26, u27, u28, u29, u30, u31, u32, u33, u34, u35, u36, u37, rfl, hL⟩
 obtain ⟨hz3, hgr, hh⟩ := hL
 have Z3 := Keep.mk hz3
 have GR := Keep.mk hgr
 clear hz3 hgr
 rcases hh with ⟨l, p, h5, hf, hp, ho, hn, hlt, htn, hG⟩ | ⟨ew, eb, p, hne, h5, hf, hE, hG1, hG2⟩
 ·have Z5 := Keep.mk h5
  have HFr := Keep.mk hf
  have Hp := Keep.mk hp
  have HO := Keep.mk ho
  have Hn := Keep.mk hn
  have Hlt := Keep.mk hlt
  have HGn := Keep.mk hG
  have e0 := h5.c 0 (erA_0 _ _)
  clear h5 hf hp ho hn hlt hG
  by_cases htl : t < n
  ·have htl' : (t : Int) < (n : Int) := by omega
   have hwr1 : IntKind.i64.wrap ((t : Int) + 1) = (t : Int) + 1 := by rw [IntKind.wrap_i64]; have := Hnn.out; omega
   have Hx : Keep (u6.ownBlock ≠ some x) := ⟨fun e => by have := Hn.out x e; have := Blk.lt HF.out; omega⟩
   refine wp_seq_k fun K6 hK6 => ?_
   refine wp_seq_k fun K7 hK7 => rgn ?_
   refine VlS (.int .i64 (t : Int)) ?_
   refine VlS (.int .u64 (n : Int)) ?_
   refine VlS (.int .i64 (n : Int)) ?_
   refine VlS (.bool true) ?_
   refine VlS (.bool true) ?_
   refine VlS (.pointer (some ⟨g5, 0, none⟩)) ?_
   refine VlS (.int .i64 0) ?_
   refine VlS (.bool true) ?_
   refine VlS (.bool true) ?_
   refine WL.nil (hK7 _ _ ?_)
   refine wp_cond_true rfl ?_
   refine wp_skip ?_
   refine hK6 _ _ ?_
   refine wp_seq_k fun K8 hK8 => ?_
   refine wp_block ?_
   refine wp_seq_k fun K9 hK9 => rgn ?_
   refine VlS (.pointer (some ⟨x, 0, none⟩)) ?_
   refine VlS (u6) ?_
   refine WL.callF (by kernel_rfl) 61 _ _ rfl Tryz.in61 #[ptr x, u6] (by simp [Act.eval]) ?_
   refine (one_any x vB L p u6 l wr HFr.out (fun wx hx => HRow.out wx (GR.out.trans hx)) Hp.out Hb.out HBy.out (fun wx hx => HO.out.grown hx (fun k hk e => Hx.out (by rw [hk, e]))) (by have := Hlt.out; have := Hnn.out; omega)).mono ?_
   rintro e w5 ⟨y, b5, rfl, hE, h1, h2, hok⟩
   refine ⟨_, rfl, ?_⟩
   obtain ⟨R1, hR1⟩ : ∃ r, r = (getO L l p).1 := ⟨_, rfl⟩
   obtain ⟨R2, hR2⟩ : ∃ r, r = (getO L l p).2.1 := ⟨_, rfl⟩
   have HR1 := Keep.mk hR1
   have HR2 := Keep.mk hR2
   rw [← hR1] at hE h1 hok ⊢
   rw [← hR2] at hE h1
   clear hR1 hR2
   have HE5 := Keep.mk hE
   have HF5 := Keep.mk h1
   have Hok5 := Keep.mk hok
   have Z35 := Keep.mk (h2.blk Z3.out (blk_ne Z3.out HFr.out (by decide)))
   have Z55 := Keep.mk (h2.blk Z5.out (blk_ne Z5.out HFr.out (by decide)))
   have HO5 := Keep.mk (HO.out.grown h2 (fun k hk e => Hx.out (by rw [hk, e])))
   have GR5 : Keep (Grown w w5 fun k => k = x) := ⟨GR.out.trans h2⟩
   clear hE h1 h2 hok e0 Z3 Z5 HO
   simp only [Act.put, pqA, pqB, pqC]
   refine VlS (.tuple #[.agg (opA y), .agg (erA R1 b5)]) ?_
   refine VlS (.agg (opA y)) ?_
   refine VlS (.agg (erA R1 b5)) ?_
   refine WL.new (by kernel_rfl) 88 rfl _ Tryz.new88 ?_
   have Y8 := Keep.mk (Blk.new w5 88 (opA zeroOp))
   have b56 := below_new w5 (.cells (opA zeroOp) 88)
   generalize w5.alloc (.cells (opA zeroOp) 88) = w6 at *
   obtain ⟨g8, hg8⟩ : ∃ g, g = w5.heap.size := ⟨_, rfl⟩
   have Hg8 := Keep.mk hg8
   rw [← hg8] at Y8 ⊢
   clear hg8
   simp only [Act.put, pqA, pqB, pqC]
   refine WL.new (by kernel_rfl) 34 rfl _ Tryz.new34E ?_
   have Y9 := Keep.mk (Blk.new w6 34 (erA 0 0))
   have Y87 := Keep.mk (Y8.out.alloc (.cells (erA 0 0) 34))
   have b57 := b56.trans ((below_new w6 (.cells (erA 0 0) 34)).mono b56.size)
   have hz : w5.heap.size ≤ w6.heap.size := b56.size
   generalize w6.alloc (.cells (erA 0 0) 34) = w7 at *
   obtain ⟨g9, hg9⟩ : ∃ g, g = w6.heap.size := ⟨_, rfl⟩
   have Hg9 : Keep (w5.heap.size ≤ g9) := ⟨by rw [hg9]; exact hz⟩
   rw [← hg9] at Y9 ⊢
   clear hg9 hz b56 Y8
   simp only [Act.put, pqA, pqB, pqC]
   refine WL.storeR (by kernel_rfl) 88 (.tmp 8) (.tmp 31) rfl g8 (opA y) rfl rfl 88 (opA zeroOp) Y87.out (Tryz.size88B _) (opA_sizes _ _) (opA_one _) ?_
   have Y8 := Keep.mk (Y87.out.setRow (opA y))
   have Y98 := Keep.mk (Y9.out.setRow_ne (b' := g8) (blk_ne Y9.out Y87.out (by decide)) (opA y))
   have b58 := below_setRow b57 (b := g8) (by rw [Hg8.out]; exact Nat.le_refl _) (opA y)
   generalize w7.setRow g8 (opA y) = w8 at *
   clear b57 Y87 Y9
   simp only [Act.put]
   refine WL.storeR (by kernel_rfl) 34 (.tmp 9) (.tmp 32) rfl g9 (erA R1 b5) rfl rfl 34 (erA 0 0) Y98.out (Tryz.size34B _ _) (erA_sizes _ _ _ _) (erA_one _ _) ?_
   have Y9 := Keep.mk (Y98.out.setRow (erA R1 b5))
   have Y89 := Keep.mk (Y8.out.setRow_ne (b' := g9) (blk_ne Y8.out Y98.out (by decide)) (erA R1 b5))
   have b59 := below_setRow b58 (b := g9) Hg9.out (erA R1 b5)
   generalize w8.setRow g9 (erA R1 b5) = w9 at *
   have Z39 := Keep.mk (Z35.out.below b59 Z35.out.lt)
   have Z59 := Keep.mk (Z55.out.below b59 Z55.out.lt)
   have HF9 : Keep (RfAt w9 x vB R2 R1 b5) := ⟨Blk.below HF5.out b59 (Blk.lt HF5.out)⟩
   have HO9 := Keep.mk (HO5.out.below b59)
   have GR9 : Keep (Grown w w9 fun k => k = x) := ⟨GR5.out.trans (Grown.below b59)⟩
   clear b58 b59 Y8 Y98 Z35 Z55 HF5 HO5
   simp only [Act.put]
   refine WL.nil (hK9 _ _ ?_)
   refine wp_seq_k fun K10 hK10 => rgn ?_
   refine WL.row (by kernel_rfl) 34 (.tmp 9) rfl g9 rfl 34 (erA R1 b5) _ Y9.out Tryz.underlying34 rfl (Tryz.size34B _ _) ?_
   simp only [Act.put, pqA, pqB, pqC]
   refine WL.storeR (by kernel_rfl) 34 (.tmp 5) (.tmp 33) rfl g5 (erA R1 b5) rfl rfl 34 (erA 0 0) Z59.out (Tryz.size34B _ _) (erA_sizes _ _ _ _) (erA_one _ _) ?_
   have gs : Grown w9 (w9.setRow g5 (erA R1 b5)) fun k => k = g5 := Grown.setRow w9 g5 _ fun _ => rfl
   have Z5a := Keep.mk (Z59.out.setRow (erA R1 b5))
   have Z3a := Keep.mk (gs.blk Z39.out H35.out)
   have Y8a := Keep.mk (gs.blk Y89.out (blk_ne Y89.out Z59.out (by decide)))
   have HFa : Keep (RfAt (w9.setRow g5 (erA R1 b5)) x vB R2 R1 b5) := ⟨gs.blk HF9.out (blk_ne HF9.out Z59.out (by decide))⟩
   have HOa := Keep.mk (HO9.out.grown gs (fun k hk e => by rw [e] at hk; exact HO9.out.ne Z59.out (by decide) hk))
   have GRa : Keep (Grown w (w9.setRow g5 (erA R1 b5)) fun k => k = x) := ⟨GR9.out.next gs (fun k hk e => by have := H5.out; omega)⟩
   generalize w9.setRow g5 (erA R1 b5) = wa at *
   clear gs Z59 Z39 Y89 HF9 HO9 Y9
   simp only [Act.put]
   refine WL.nil (hK10 _ _ ?_)
   refine rgn ?_
   refine VlS (u6) ?_
   refine WL.row (by kernel_rfl) 88 (.tmp 8) rfl g8 rfl 88 (opA y) _ Y8a.out Tryz.underlying88 rfl (Tryz.size88B _) ?_
   simp only [Act.put, pqA, pqB, pqC]
   refine WL.bs (by kernel_rfl) 26 1 _ rfl #[(0, .agg (opA y))] (by simp [Act.eval]) _ _ (bsO y wa) ?_
   have hbs := Blk.new wa 88 (opA y)
   have hbb := below_new wa (.cells (opA y) 88)
   have HOb := Keep.mk (HOa.out.below hbb)
   have Z3b := Keep.mk (Z3a.out.below hbb Z3a.out.lt)
   have Z5b := Keep.mk (Z5a.out.below hbb Z5a.out.lt)
   have HFb : Keep (RfAt (wa.alloc (.cells (opA y) 88)) x vB R2 R1 b5) := ⟨Blk.below HFa.out hbb (Blk.lt HFa.out)⟩
   have GRb : Keep (Grown w (wa.alloc (.cells (opA y) 88)) fun k => k = x) := ⟨GRa.out.trans (Grown.below hbb)⟩
   have Hbs := Keep.mk hbs
   generalize wa.alloc (.cells (opA y) 88) = wb at *
   generalize wa.heap.size = gb at *
   clear hbs hbb HOa Z3a Z5a HFa GRa
   simp only [Act.put, pqA, pqB, pqC]
   refine WL.appO (by kernel_rfl) (.tmp 34) (.tmp 36) rfl u6 l gb y rfl rfl HOb.out Hbs.out (by have := Hlt.out; have := Hnn.out; omega) ?_
   intro v5 wc ho hg hm
   have HOc := Keep.mk ho
   have Z3c := Keep.mk (hg.blk Z3b.out (HOb.out.ne Z3b.out (by decide)))
   have Z5c := Keep.mk (hg.blk Z5b.out (HOb.out.ne Z5b.out (by decide)))
   have HFc : Keep (RfAt wc x vB R2 R1 b5) := ⟨hg.blk HFb.out Hx.out⟩
   have GRc : Keep (Grown w wc fun k => k = x) := ⟨GRb.out.next hg (fun k hk e => by have := Hn.out k e; omega)⟩
   have Hnc : Keep (∀ k, v5.ownBlock = some k → w.heap.size ≤ k) := ⟨fun k hk => by
    rcases hm with e | ⟨j, e1, e2⟩
    ·rw [e] at hk; exact Hn.out k hk
    ·rw [e1] at hk; cases hk; exact Nat.le_trans GRb.out.size e2⟩
   clear ho hg hm
   simp only [Act.put, pqA, pqB, pqC]
   refine VlS (v5) ?_
   refine WL.nil (hK8 _ _ ?_)
   refine rgn ?_
   refine VlS (.int .i64 (t : Int)) ?_
   refine VlS (.int .i64 ((t : Int) + 1)) ?_
   refine VlS (.int .i64 ((t : Int) + 1)) ?_
   refine WL.nil ?_
   refine ⟨⟨t + 1, v5, .pointer (some ⟨g8, 0, none⟩), .pointer (some ⟨g9, 0, none⟩), .int .i64 (t : Int), .int .u64 (n : Int), .int .i64 (n : Int), .bool true, .bool true, .pointer (some ⟨g5, 0, none⟩), .int .i64 0, .bool true, .bool true, .int .i64 (t : Int), .int .i64 ((t : Int) + 1), .tuple #[.agg (opA y), .agg (erA R1 b5)], .pointer (some ⟨x, 0, none⟩), u6, .tuple #[.agg (opA y), .agg (erA R1 b5)], .agg (opA y), .agg (erA R1 b5), .agg (erA R1 b5), u6, .agg (opA y), .slice (some ⟨gb, 0, none⟩) 1 1, v5, rfl, Z3c.out, GRc.out, ?_⟩, ?_⟩
   ·have hGs := HGn.out
    rw [show n - t = (n - (t + 1)) + 1 by omega, getN] at hGs
    by_cases hz : R1 = 0
    ·have hb0 : b5 = 0 := by rcases HE5.out with ⟨_, h⟩ | ⟨h, _⟩; exact h; exact absurd hz h
     obtain ⟨hy, _⟩ := Hok5.out hz
     rw [← HR1.out, if_pos hz, ← HR2.out, ← hy] at hGs
     refine .inl ⟨l ++ [y], R2, ?_, ?_, ?_, HOc.out, Hnc.out, ?_, ?_, hGs⟩
     ·have := Z5c.out; rwa [hz, hb0] at this
     ·have := HFc.out; rwa [hz, hb0] at this
     ·rw [HR2.out]; exact getO_le Hp.out
     ·rw [List.length_append, Hlt.out]; rfl
     ·omega
    ·rw [← HR1.out, if_neg hz, ← HR2.out] at hGs
     exact .inr ⟨R1, b5, R2, hz, Z5c.out, HFc.out, HE5.out, by rw [hGs], by rw [hGs]⟩
   ·simp only [intOf]; show n - ((t : Int) + 1).toNat < n - ((t : Int)).toNat; omega
  ·have htl' : ¬ (t : Int) < (n : Int) := by omega
   have hGs := HGn.out
   rw [show n - t = 0 by omega, getN] at hGs
   have HGs := Keep.mk hGs
   clear hGs
   refine wp_seq_k fun K11 hK11 => ?_
   refine wp_seq_k fun K12 hK12 => rgn ?_
   refine VlS (.int .i64 (t : Int)) ?_
   refine VlS (.int .u64 (n : Int)) ?_
   refine VlS (.int .i64 (n : Int)) ?_
   refine VlS (.bool false) ?_
   refine VlS (.bool false) ?_
   refine SkS ?_
   refine SkS ?_
   refine SkS ?_
   refine VlS (.bool false) ?_
   refine WL.nil (hK12 _ _ ?_)
   refine wp_cond_false rfl ?_
   refine wp_exit ?_
   refine hK4 _ _ ?_
   refine wp_seq_k fun K13 hK13 => ?_
   refine wp_seq_k fun K14 hK14 => rgn ?_
   refine VlS (.pointer (some ⟨g5, 0, none⟩)) ?_
   refine VlS (.int .i64 0) ?_
   refine VlS (.bool false) ?_
   refine WL.nil (hK14 _ _ ?_)
   refine wp_cond_false rfl ?_
   refine wp_skip ?_
   refine hK13 _ _ ?_
   refine wp_seq_k fun K15 hK15 => ?_
   have k3 := Z3.out.drew
   have k5 := Z5.out.drew
   refine wp_region_held_drew (S := fun wx => wx.rangeAt g5 0 (erA 0 0).toList) (by kernel_rfl) (blk_range k5) (fun hHeld => ?_)
   refine tkS (i := 0) (oi := ⟨some 42, Op.move (Operand.tmp 6), 26, _, _, none⟩) (v := u6) rfl (Or.inl ⟨by rfl, fun w hS => by go_simp⟩) hHeld ?_
   refine tkS (i := 1) (oi := ⟨some 43, Op.load 34 (Operand.tmp 5), 34, _, _, none⟩) (v := .agg (erA 0 0).toList.toArray) rfl (yieldsIf_load_mid (by rfl) 34 (Operand.tmp 5) rfl g5 0 rfl (erA 0 0).toList _ (fun w hS => hS) Tryz.underlying34 rfl (Tryz.size34B 0 0)) hHeld ?_
   refine tkS (i := 2) (oi := ⟨some 2, Op.assign (Operand.tmp 42), 26, _, _, none⟩) (v := u6) rfl (Or.inl ⟨by rfl, fun w hS => by go_simp⟩) hHeld ?_
   refine wpAnyH_ready (rs := [3]) (by kernel_rfl) (by simp) ?_
   refine AllReadyH.cons (o := ⟨none, Op.store 34 (Operand.tmp 3) (Operand.tmp 43), 0, _, _, none⟩) rfl (fun K hK => ?_) AllReadyH.nil
   rw [if_pos (by rfl)]
   refine wp_store_row 34 (.tmp 3) (.tmp 43) rfl g3 (erA 0 0) rfl rfl 34 (erA 0 0) k3 (Tryz.size34B _ _) (erA_sizes _ _ _ _) (erA_one _ _) ?_
   refine hK.out _ _ (blk_range (k5.setRow_ne (fun e => H35.out e.symm) _)) fun hH3 => ?_
   clear hK
   simp only [Act.put, pqA, pqB, pqC]
   refine wpAnyH_done (by kernel_rfl) ?_ _
   refine hK15 _ _ ?_
   refine wp_ret ?_
   try simp only [Exit.then]
   refine bodyPost_ret (v := .tuple #[u6, .agg (erA 0 0)]) (results_tmp_cell_row Tryz.results30 _ _ g3 34 _ (0, 0) _ _ rfl rfl (k3.setRow _) Tryz.underlying34 rfl (Tryz.size34B _ _)) rfl ?_
   exact RGet.mk0 HGs.out HFr.out GR.out HO.out Z3.out (fun e => by have := Hn.out g3 e; exact HO.out.ne Z3.out (by decide) e) (by have := Hg3.out; omega)
 ·have Z5 := Keep.mk h5
  have HFr := Keep.mk hf
  have HE := Keep.mk hE
  have HG1 := Keep.mk hG1
  have HG2 := Keep.mk hG2
  have e0 := h5.c 0 (erA_0 _ _)
  clear h5 hf hE hG1 hG2
  by_cases htl : t < n
  ·have htl' : (t : Int) < (n : Int) := by omega
   refine wp_seq_k fun K16 hK16 => ?_
   refine wp_seq_k fun K17 hK17 => rgn ?_
   refine VlS (.int .i64 (t : Int)) ?_
   refine VlS (.int .u64 (n : Int)) ?_
   refine VlS (.int .i64 (n : Int)) ?_
   refine VlS (.bool true) ?_
   refine VlS (.bool true) ?_
   refine VlS (.pointer (some ⟨g5, 0, none⟩)) ?_
   refine VlS (.int .i64 ew) ?_
   refine VlS (.bool false) ?_
   refine VlS (.bool false) ?_
   refine WL.nil (hK17 _ _ ?_)
   refine wp_cond_false rfl ?_
   refine wp_exit ?_
   refine hK4 _ _ ?_
   refine wp_seq_k fun K18 hK18 => ?_
   refine wp_seq_k fun K19 hK19 => rgn ?_
   refine VlS (.pointer (some ⟨g5, 0, none⟩)) ?_
   refine VlS (.int .i64 ew) ?_
   refine VlS (.bool true) ?_
   refine WL.nil (hK19 _ _ ?_)
   refine wp_cond_true rfl ?_
   refine wp_seq_k fun K20 hK20 => ?_
   have k3 := Z3.out.drew
   have k5 := Z5.out.drew
   refine wp_region_held_drew (S := fun wx => wx.rangeAt g5 0 (erA ew eb).toList) (by kernel_rfl) (blk_range k5) (fun hHeld => ?_)
   refine tkS (i := 0) (oi := ⟨some 41, Op.load 34 (Operand.tmp 5), 34, _, _, none⟩) (v := .agg (erA ew eb).toList.toArray) rfl (yieldsIf_load_mid (by rfl) 34 (Operand.tmp 5) rfl g5 0 rfl (erA ew eb).toList _ (fun w hS => hS) Tryz.underlying34 rfl (Tryz.size34B ew eb)) hHeld ?_
   refine tkS (i := 1) (oi := ⟨some 2, Op.assign (Operand.const (Value.slice none 0 0)), 26, _, _, none⟩) (v := .slice none 0 0) rfl (Or.inl ⟨by rfl, fun w hS => by go_simp⟩) hHeld ?_
   refine wpAnyH_ready (rs := [2]) (by kernel_rfl) (by simp) ?_
   refine AllReadyH.cons (o := ⟨none, Op.store 34 (Operand.tmp 3) (Operand.tmp 41), 0, _, _, none⟩) rfl (fun K hK => ?_) AllReadyH.nil
   rw [if_pos (by rfl)]
   refine wp_store_row 34 (.tmp 3) (.tmp 41) rfl g3 (erA ew eb) rfl rfl 34 (erA 0 0) k3 (Tryz.size34B _ _) (erA_sizes _ _ _ _) (erA_one _ _) ?_
   refine hK.out _ _ (blk_range (k5.setRow_ne (fun e => H35.out e.symm) _)) fun hH3 => ?_
   clear hK
   simp only [Act.put, pqA, pqB, pqC]
   refine wpAnyH_done (by kernel_rfl) ?_ _
   refine hK20 _ _ ?_
   refine wp_ret ?_
   try simp only [Exit.then]
   refine bodyPost_ret (v := .tuple #[.slice none 0 0, .agg (erA ew eb)]) (results_tmp_cell_row Tryz.results30 _ _ g3 34 _ (0, 0) _ _ rfl rfl (k3.setRow _) Tryz.underlying34 rfl (Tryz.size34B _ _)) rfl ?_
   exact RGet.mk1 HG1.out HG2.out hne HE.out HFr.out GR.out Z3.out (by have := Hg3.out; omega)
  ·have htl' : ¬ (t : Int) < (n : Int) := by omega
   refine wp_seq_k fun K21 hK21 => ?_
   refine wp_seq_k fun K22 hK22 => rgn ?_
   refine VlS (.int .i64 (t : Int)) ?_
   refine VlS (.int .u64 (n : Int)) ?_
   refine VlS (.int .i64 (n : Int)) ?_
   refine VlS (.bool false) ?_
   refine VlS (.bool false) ?_
   refine SkS ?_
   refine SkS ?_
   refine SkS ?_
   refine VlS (.bool false) ?_
   refine WL.nil (hK22 _ _ ?_)
   refine wp_cond_false rfl ?_
   refine wp_exit ?_
   refine hK4 _ _ ?_
   refine wp_seq_k fun K23 hK23 => ?_
   refine wp_seq_k fun K24 hK24 => rgn ?_
   refine VlS (.pointer (some ⟨g5, 0, none⟩)) ?_
   refine VlS (.int .i64 ew) ?_
   refine VlS (.bool true) ?_
   refine WL.nil (hK24 _ _ ?_)
   refine wp_cond_true rfl ?_
   refine wp_seq_k fun K25 hK25 => ?_
   have k3 := Z3.out.drew
   have k5 := Z5.out.drew
   refine wp_region_held_drew (S := fun wx => wx.rangeAt g5 0 (erA ew eb).toList) (by kernel_rfl) (blk_range k5) (fun hHeld => ?_)
   refine tkS (i := 0) (oi := ⟨some 41, Op.load 34 (Operand.tmp 5), 34, _, _, none⟩) (v := .agg (erA ew eb).toList.toArray) rfl (yieldsIf_load_mid (by rfl) 34 (Operand.tmp 5) rfl g5 0 rfl (erA ew eb).toList _ (fun w hS => hS) Tryz.underlying34 rfl (Tryz.size34B ew eb)) hHeld ?_
   refine tkS (i := 1) (oi := ⟨some 2, Op.assign (Operand.const (Value.slice none 0 0)), 26, _, _, none⟩) (v := .slice none 0 0) rfl (Or.inl ⟨by rfl, fun w hS => by go_simp⟩) hHeld ?_
   refine wpAnyH_ready (rs := [2]) (by kernel_rfl) (by simp) ?_
   refine AllReadyH.cons (o := ⟨none, Op.store 34 (Operand.tmp 3) (Operand.tmp 41), 0, _, _, none⟩) rfl (fun K hK => ?_) AllReadyH.nil
   rw [if_pos (by rfl)]
   refine wp_store_row 34 (.tmp 3) (.tmp 41) rfl g3 (erA ew eb) rfl rfl 34 (erA 0 0) k3 (Tryz.size34B _ _) (erA_sizes _ _ _ _) (erA_one _ _) ?_
   refine hK.out _ _ (blk_range (k5.setRow_ne (fun e => H35.out e.symm) _)) fun hH3 => ?_
   clear hK
   simp only [Act.put, pqA, pqB, pqC]
   refine wpAnyH_done (by kernel_rfl) ?_ _
   refine hK25 _ _ ?_
   refine wp_ret ?_
   try simp only [Exit.then]
   refine bodyPost_ret (v := .tuple #[.slice none 0 0, .agg (erA ew eb)]) (results_tmp_cell_row Tryz.results30 _ _ g3 34 _ (0, 0) _ _ rfl rfl (k3.setRow _) Tryz.underlying34 rfl (Tryz.size34B _ _)) rfl ?_
   exact RGet.mk1 HG1.out HG2.out hne HE.out HFr.out GR.out Z3.out (by have := Hg3.out; omega)
end Go.Proofs.YtdeiicldfgkidaaGreat
