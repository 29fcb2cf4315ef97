import Derived.Test.YtogmdfhicbmplaaB18
namespace Go.Proofs.Ytogmdfhicbmplaa
open Go.RowKit
set_option linter.unusedSimpArgs false
set_option linter.unusedVariables false

theorem Try.in42 (w : World) (vs : Array Value) : (callFunc 42 vs).run Try.prog w = .ok (.enter 42 vs) w := by kernel_rfl
set_option maxRecDepth 8000 in
set_option maxHeartbeats 1000000 in
theorem rforgetS_any (d : Nat) (x : Hs) (hv wv sv : Value) (R : RG) (w : World) (hD : RAt w d hv wv sv R) (hI : RI R) : Calls Try.prog 44 #[ptr d, .agg (bytesA 32 x.f)] w fun e w' => (hasB R.ws x = false ∧ e = .returned (.bool false) ∧ Below w.heap.size w w') ∨ ∃ m, m < R.wait.length ∧ hasB R.ws x = true ∧ ixF x (R.wait.map fun q => q.1.id) 0 = (m : Int) ∧ e = .returned (.bool true) ∧ ∃ wv', RSte w w' d hv wv sv R hv wv' sv ⟨R.room, R.held, R.wait.take m ++ R.wait.drop (m + 1), R.sets⟩ := by
 have HD := Keep.mk hD
 have HI := Keep.mk hI
 clear hD hI
 go_enter Try.func44, Try.ntmps44
 refine wp_seq_k fun K1 hK1 => rgn ?_
 refine WL.box (by kernel_rfl) 36 (.tmp 1) rfl (bytesA 32 x.f) rfl ?_
 obtain ⟨w1, hwn⟩ : ∃ wx, Keep (wx = w.alloc (.cells (bytesA 32 x.f) 36)) := ⟨_, ⟨rfl⟩⟩
 rw [← hwn.out]
 have HX1 : Keep (Blk w1 w.heap.size 36 (bytesA 32 x.f)) := ⟨by rw [hwn.out]; exact Blk.new _ _ _⟩
 have LB1 : Keep (Below w.heap.size w w1) := ⟨by rw [hwn.out]; exact below_new _ _⟩
 clear hwn
 have HD1 := Keep.mk (HD.out.below LB1.out)
 simp only [Act.put, pqA, pqB, pqC]
 refine VlS (.bool false) ?_
 refine WL.nil (hK1 _ _ ?_)
 refine wp_seq_k fun K2 hK2 => ?_
 have G1 := Keep.mk HD1.out.blk
 have G2 := Keep.mk HD1.out.wait
 by_cases hb : hasB R.ws x = true
 ·have HB := Keep.mk hb
  clear hb
  obtain ⟨m, hm, hmi, -⟩ := ixF_find (t := 0) (show hasB (R.wait.map (·.1)) x = true from HB.out)
  rw [Nat.zero_add] at hmi
  obtain ⟨gp, op, wc, hwv, hgl, hwc, -, hrg⟩ : ∃ gp op wc, wv = .slice (some ⟨gp, op, none⟩) R.wait.length wc ∧ gp < w1.heap.size ∧ R.wait.length ≤ wc ∧ w1.there gp op (wc * 34) ∧ w1.rangeAt gp op (R.wait.flatMap encV) := G2.out.resolve_left fun h => by rw [h.2] at hm; simp at hm
  subst hwv
  have HMI := Keep.mk hmi
  have HG := Keep.mk hgl
  have HRg := Keep.mk hrg
  have hm0 : ¬ (m : Int) < 0 := by omega
  have hwm : IntKind.i64.wrap ((m : Int) + 1) = ((m + 1 : Nat) : Int) := by rw [IntKind.wrap_i64]; have := HI.out.wl; omega
  have HE : Keep (∀ u ∈ R.wait.flatMap encV, u.oneCell' = true) := ⟨encV_one fun q hq => ⟨(HD1.out.ps q (.inr hq)).1, Nat.le_trans (HD1.out.ps q (.inr hq)).2.1 (by omega)⟩⟩
  have htl : (R.wait.take m).length = m := by rw [List.length_take]; omega
  have Htl := Keep.mk htl
  clear hrg hgl hmi htl
  have hS0 : Keep (∀ wx, Below w1.heap.size w1 wx → (fun wx => wx.cell? ⟨d, 2, none⟩ = some (.slice (some ⟨gp, op, none⟩) R.wait.length wc) ∧ wx.rangeAt w.heap.size 0 (bytesA 32 x.f).toList) wx) := ⟨fun wx hb => ⟨(G1.out.below hb G1.out.lt).c 2 rfl, blk_rng (HX1.out.below hb HX1.out.lt)⟩⟩
  have BD : Keep (Below w1.heap.size w1 w1.drew) := ⟨(Below.refl _ _).drew⟩
  refine wp_region_held_drew (S := fun wx => wx.cell? ⟨d, 2, none⟩ = some (.slice (some ⟨gp, op, none⟩) R.wait.length wc) ∧ wx.rangeAt w.heap.size 0 (bytesA 32 x.f).toList) (by kernel_rfl) (hS0.out _ BD.out) (fun hHeld => ?_)
  refine tkS (i := 0) (oi := ⟨some 7, Op.move (Operand.tmp 0), 31, _, _, none⟩) (v := .pointer (some ⟨d, 0, none⟩)) rfl (Or.inl ⟨by rfl, fun w hS => by clear hS; go_simp⟩) hHeld ?_
  refine tkS (i := 1) (oi := ⟨some 8, Op.nilCheck (Operand.tmp 7), 0, _, _, none⟩) (v := .pointer (some ⟨d, 0, none⟩)) rfl (Or.inl ⟨by rfl, fun w hS => by clear hS; go_simp⟩) hHeld ?_
  refine tkS (i := 2) (oi := ⟨some 9, Op.fieldAddr 79 (Operand.tmp 8) 2, 0, _, _, none⟩) (v := .pointer (some ⟨d, 2, none⟩)) rfl (Or.inl ⟨by rfl, fun w hS => by clear hS; go_simp⟩) hHeld ?_
  refine tkS (i := 3) (oi := ⟨some 10, Op.load 55 (Operand.tmp 9), 55, _, _, none⟩) (v := .slice (some ⟨gp, op, none⟩) R.wait.length wc) rfl (Or.inl ⟨by rfl, fun w hS => by obtain ⟨hS1, hS2⟩ := hS; clear hS2; go_simp⟩) hHeld ?_
  refine tkS (i := 4) (oi := ⟨some 11, Op.load 36 (Operand.tmp 3), 36, _, _, none⟩) (v := .agg (bytesA 32 x.f)) rfl (yieldsIf_ld (by rfl) (Operand.tmp 3) 36 rfl w.heap.size 0 rfl (bytesA 32 x.f) _ Try.underlying36 rfl (size36A _) fun w hS => hS.2) hHeld ?_
  refine wpAnyH_ready (rs := [5]) (by kernel_rfl) (by simp) ?_
  refine AllReadyH.cons (o := ⟨some 12, Op.call { callee := Callee.value (Operand.func 72), args := #[Operand.tmp 10, Operand.tmp 11], argTypes := #[55, 36] }, 3, _, _, none⟩) rfl (fun K hK => ?_) AllReadyH.nil
  rw [if_pos (by rfl)]
  have hcp := rplace_any (.slice (some ⟨gp, op, none⟩) R.wait.length wc) R.wait x w1.drew ((HD1.out.below BD.out).wait.row fun q hq => ⟨((HD1.out.below BD.out).ps q (.inr hq)).1, Nat.le_trans (HD1.out.ps q (.inr hq)).2.1 (by omega)⟩) (Nat.le_trans HI.out.wl (by omega))
  rw [HMI.out] at hcp
  refine wp_callF 72 _ _ rfl Try.in72 #[.slice (some ⟨gp, op, none⟩) R.wait.length wc, .agg (bytesA 32 x.f)] (by simp [Act.eval]) (fun u wx => u = .int .i64 ((m : Int)) ∧ Below w1.drew.heap.size w1.drew wx) (hcp.mono fun e w' ⟨h1, h2⟩ => ⟨_, h1, rfl, h2⟩) ?_
  clear hcp
  rintro _ w5 ⟨rfl, hb⟩
  have U5 : Keep (Below w1.heap.size w1 w5) := ⟨belowT BD.out hb⟩
  refine hK _ _ (hS0.out _ U5.out) fun hH1 => ?_
  clear hK hb
  simp only [Act.put, pqA, pqB, pqC]
  refine tkS (i := 6) (oi := ⟨some 5, Op.assign (Operand.tmp 12), 3, _, _, none⟩) (v := .int .i64 ((m : Int))) rfl (Or.inl ⟨by rfl, fun w hS => by clear hS; go_simp⟩) hH1 ?_
  refine wpAnyH_done (by kernel_rfl) ?_ _
  refine hK2 _ _ ?_
  refine wp_seq_k fun K3 hK3 => ?_
  refine wp_seq_k fun K4 hK4 => rgn ?_
  refine VlS (.int .i64 ((m : Int))) ?_
  refine VlS (.bool false) ?_
  refine WL.nil (hK4 _ _ ?_)
  refine wp_cond_false rfl ?_
  refine wp_skip ?_
  refine hK3 _ _ ?_
  refine wp_seq_k fun K5 hK5 => rgn ?_
  refine VlS (.pointer (some ⟨d, 0, none⟩)) ?_
  refine VlS (.pointer (some ⟨d, 0, none⟩)) ?_
  refine VlS (.pointer (some ⟨d, 2, none⟩)) ?_
  have c1 := (hS0.out _ U5.out).1
  refine WL.val (by kernel_rfl) (.slice (some ⟨gp, op, none⟩) R.wait.length wc) (by go_simp) ?_
  clear c1
  simp only [Act.put, pqA, pqB, pqC]
  refine VlS (.int .i64 ((m : Int))) ?_
  refine WL.slr (by kernel_rfl) 55 (.tmp 18) none (some (.tmp 19)) rfl _ none (some (.int .i64 (m : Int))) (.slice (some ⟨gp, op, none⟩) m wc) rfl rfl rfl (slV_h _ _ _ m (by omega) _) ?_
  simp only [Act.put, pqA, pqB, pqC]
  refine WL.appVL (by kernel_rfl) (.const (.slice none 0 0)) (.tmp 20) rfl (.slice none 0 0) [] (R.wait.take m) gp op wc rfl (by rw [Htl.out]; rfl) (VAt.nil _) (fun j u hu => by rw [← flat_take encV_len, List.getElem?_take] at hu; split at hu; exact rangeAt_below HRg.out U5.out HG.out j u hu; cases hu) (fun u hu => HE.out u (by rw [← flat_take encV_len] at hu; exact List.mem_of_mem_take hu)) (by rw [Htl.out]; have := HI.out.wl; simp; omega) fun v6 w6 h1 h2 h3 => ?_
  rw [List.nil_append] at h1
  have hz : Below w5.heap.size w5 w6 := h2.to_below (fun k _ e => by cases e) (Nat.le_refl _)
  have U6 := Keep.mk (belowT U5.out hz)
  have V6 := Keep.mk h1
  have N6 : Keep (∀ k, v6.ownBlock = some k → w1.heap.size ≤ k) := ⟨fun k hk => h3.elim (fun e => by rw [hk] at e; cases e) fun ⟨q, e, hq⟩ => by rw [hk] at e; have := Option.some.inj e; subst this; exact Nat.le_trans U5.out.size hq⟩
  clear h1 h2 h3 hz
  simp only [Act.put, pqA, pqB, pqC]
  refine VlS (v6) ?_
  refine WL.nil (hK5 _ _ ?_)
  refine wp_seq_k fun K6 hK6 => rgn ?_
  refine VlS (.pointer (some ⟨d, 0, none⟩)) ?_
  refine VlS (v6) ?_
  refine VlS (.pointer (some ⟨d, 0, none⟩)) ?_
  refine VlS (.pointer (some ⟨d, 0, none⟩)) ?_
  refine VlS (.pointer (some ⟨d, 2, none⟩)) ?_
  have c1 := (hS0.out _ U6.out).1
  refine WL.val (by kernel_rfl) (.slice (some ⟨gp, op, none⟩) R.wait.length wc) (by go_simp) ?_
  clear c1
  simp only [Act.put, pqA, pqB, pqC]
  refine VlS (.int .i64 ((m : Int))) ?_
  refine VlS (.int .i64 ((m + 1 : Nat) : Int)) ?_
  obtain ⟨ox, oc, hsl, hor⟩ := drop_sl (n := m + 1) (rangeAt_below HRg.out U6.out HG.out) (by omega) hwc
  refine WL.slr (by kernel_rfl) 55 (.tmp 27) (some (.tmp 29)) none rfl _ (some (.int .i64 ((m + 1 : Nat) : Int))) none (.slice (some ⟨gp, ox, none⟩) (R.wait.drop (m + 1)).length oc) rfl rfl rfl (by rw [← hsl]; exact slV_l _ _ _ (m + 1) (by omega) _) ?_
  have HOr := Keep.mk hor
  clear hsl hor
  simp only [Act.put, pqA, pqB, pqC]
  refine WL.appVL (by kernel_rfl) (.tmp 23) (.tmp 30) rfl v6 (R.wait.take m) (R.wait.drop (m + 1)) gp ox oc rfl rfl V6.out HOr.out (fun u hu => HE.out u (by rw [← flat_drop encV_len] at hu; exact List.mem_of_mem_drop hu)) (by rw [Htl.out, List.length_drop]; have := HI.out.wl; omega) fun v7 w7 h1 h2 h3 => ?_
  have V7 := Keep.mk h1
  have U7 : Keep (Below w1.heap.size w1 w7) := ⟨U6.out.trans (h2.to_below (fun k hk e => by have := N6.out k e; omega) U6.out.size)⟩
  have N7 : Keep (∀ k, v7.ownBlock = some k → w1.heap.size ≤ k) := ⟨fun k hk => h3.elim (fun e => N6.out k (by rw [← e]; exact hk)) fun ⟨q, e, hq⟩ => by rw [hk] at e; have := Option.some.inj e; subst this; exact Nat.le_trans U6.out.size hq⟩
  have HD7 := Keep.mk (HD1.out.below U7.out)
  clear h1 h2 h3
  obtain ⟨a7, n7, c7, e7⟩ := V7.out.sl
  subst e7
  simp only [Act.put, pqA, pqB, pqC]
  refine VlS (.pointer (some ⟨d, 0, none⟩)) ?_
  refine VlS (.pointer (some ⟨d, 2, none⟩)) ?_
  have f_o := HD7.out.blk.frozen 2
  have c_o : w7.cell? ⟨d, 2, none⟩ = some (.slice (some ⟨gp, op, none⟩) R.wait.length wc) := HD7.out.blk.c 2 rfl
  refine WL.cell (by kernel_rfl) (w7.setCell ⟨d, 2, none⟩ (.slice a7 n7 c7)) (by go_simp) ?_
  clear f_o c_o
  simp only [Act.put]
  refine WL.nil (hK6 _ _ ?_)
  refine wp_seq_k fun K7 hK7 => rgn ?_
  refine VlS (.bool true) ?_
  refine WL.nil (hK7 _ _ ?_)
  refine wp_ret ?_
  go_ret
  exact .inr ⟨m, hm, HB.out, HMI.out, rfl, _, ⟨forget_at HD7.out V7.out (fun k hk => ⟨fun e => by have := HD1.out.lt k e; have := N7.out k hk; omega, fun q hq e => by have := (HD1.out.ps q hq).2.2 k e; have := N7.out k hk; omega⟩), (Grown.below (belowT LB1.out U7.out)).trans (Grown.setCell _ _ _ _ fun _ => .inl rfl), fun k hk => (by rcases hk with e | e | e | e; exact .inl (.inl e); exact .inl (.inr (.inl e)); exact .inr (Nat.le_trans LB1.out.size (N7.out k e)); exact .inl (.inr (.inr (.inr e)))), fun q hq => .inl (hq.imp id fun h => (List.mem_append.1 h).elim List.mem_of_mem_take List.mem_of_mem_drop)⟩⟩
 ·have HB : Keep (hasB R.ws x = false) := ⟨Bool.eq_false_iff.2 hb⟩
  have HMI : Keep (ixF x (R.wait.map fun q => q.1.id) 0 = -1) := ⟨ixF_no fun h => hb (hasB_mem.2 (by rw [RG.ws, List.map_map]; exact h))⟩
  clear hb
  have hS0 : Keep (∀ wx, Below w1.heap.size w1 wx → (fun wx => wx.cell? ⟨d, 2, none⟩ = some (wv) ∧ wx.rangeAt w.heap.size 0 (bytesA 32 x.f).toList) wx) := ⟨fun wx hb => ⟨(G1.out.below hb G1.out.lt).c 2 rfl, blk_rng (HX1.out.below hb HX1.out.lt)⟩⟩
  have BD : Keep (Below w1.heap.size w1 w1.drew) := ⟨(Below.refl _ _).drew⟩
  refine wp_region_held_drew (S := fun wx => wx.cell? ⟨d, 2, none⟩ = some (wv) ∧ wx.rangeAt w.heap.size 0 (bytesA 32 x.f).toList) (by kernel_rfl) (hS0.out _ BD.out) (fun hHeld => ?_)
  refine tkS (i := 0) (oi := ⟨some 7, Op.move (Operand.tmp 0), 31, _, _, none⟩) (v := .pointer (some ⟨d, 0, none⟩)) rfl (Or.inl ⟨by rfl, fun w hS => by clear hS; go_simp⟩) hHeld ?_
  refine tkS (i := 1) (oi := ⟨some 8, Op.nilCheck (Operand.tmp 7), 0, _, _, none⟩) (v := .pointer (some ⟨d, 0, none⟩)) rfl (Or.inl ⟨by rfl, fun w hS => by clear hS; go_simp⟩) hHeld ?_
  refine tkS (i := 2) (oi := ⟨some 9, Op.fieldAddr 79 (Operand.tmp 8) 2, 0, _, _, none⟩) (v := .pointer (some ⟨d, 2, none⟩)) rfl (Or.inl ⟨by rfl, fun w hS => by clear hS; go_simp⟩) hHeld ?_
  refine tkS (i := 3) (oi := ⟨some 10, Op.load 55 (Operand.tmp 9), 55, _, _, none⟩) (v := wv) rfl (Or.inl ⟨by rfl, fun w hS => by obtain ⟨hS1, hS2⟩ := hS; clear hS2; go_simp⟩) hHeld ?_
  refine tkS (i := 4) (oi := ⟨some 11, Op.load 36 (Operand.tmp 3), 36, _, _, none⟩) (v := .agg (bytesA 32 x.f)) rfl (yieldsIf_ld (by rfl) (Operand.tmp 3) 36 rfl w.heap.size 0 rfl (bytesA 32 x.f) _ Try.underlying36 rfl (size36A _) fun w hS => hS.2) hHeld ?_
  refine wpAnyH_ready (rs := [5]) (by kernel_rfl) (by simp) ?_
  refine AllReadyH.cons (o := ⟨some 12, Op.call { callee := Callee.value (Operand.func 72), args := #[Operand.tmp 10, Operand.tmp 11], argTypes := #[55, 36] }, 3, _, _, none⟩) rfl (fun K hK => ?_) AllReadyH.nil
  rw [if_pos (by rfl)]
  have hcp := rplace_any (wv) R.wait x w1.drew ((HD1.out.below BD.out).wait.row fun q hq => ⟨((HD1.out.below BD.out).ps q (.inr hq)).1, Nat.le_trans (HD1.out.ps q (.inr hq)).2.1 (by omega)⟩) (Nat.le_trans HI.out.wl (by omega))
  rw [HMI.out] at hcp
  refine wp_callF 72 _ _ rfl Try.in72 #[wv, .agg (bytesA 32 x.f)] (by simp [Act.eval]) (fun u wx => u = .int .i64 (-1) ∧ Below w1.drew.heap.size w1.drew wx) (hcp.mono fun e w' ⟨h1, h2⟩ => ⟨_, h1, rfl, h2⟩) ?_
  clear hcp
  rintro _ w5 ⟨rfl, hb⟩
  have U5 : Keep (Below w1.heap.size w1 w5) := ⟨belowT BD.out hb⟩
  refine hK _ _ (hS0.out _ U5.out) fun hH1 => ?_
  clear hK hb
  simp only [Act.put, pqA, pqB, pqC]
  refine tkS (i := 6) (oi := ⟨some 5, Op.assign (Operand.tmp 12), 3, _, _, none⟩) (v := .int .i64 (-1)) rfl (Or.inl ⟨by rfl, fun w hS => by clear hS; go_simp⟩) hH1 ?_
  refine wpAnyH_done (by kernel_rfl) ?_ _
  refine hK2 _ _ ?_
  refine wp_seq_k fun K8 hK8 => ?_
  refine wp_seq_k fun K9 hK9 => rgn ?_
  refine VlS (.int .i64 (-1)) ?_
  refine VlS (.bool true) ?_
  refine WL.nil (hK9 _ _ ?_)
  refine wp_cond_true rfl ?_
  refine wp_seq_k fun K10 hK10 => rgn ?_
  refine VlS (.bool false) ?_
  refine WL.nil (hK10 _ _ ?_)
  refine wp_ret ?_
  go_ret
  exact .inl ⟨HB.out, rfl, belowT LB1.out U5.out⟩
set_option maxRecDepth 8000 in
set_option maxHeartbeats 2000000 in
theorem rsettle_any (d : Nat) (x : Hs) (hv wv sv : Value) (R : RG) (w : World) (hD : RAt w d hv wv sv R) (hI : RI R) : Calls Try.prog 42 #[ptr d, .agg (bytesA 32 x.f)] w fun e w' => e = .returned (.tuple #[.int .i64 (if rdyE R.hs R.ws x = 0 then 2 else 0), .int .i64 (rdyE R.hs R.ws x)]) ∧ ∃ hv' wv' sv' R', RSte w w' d hv wv sv R hv' wv' sv' R' ∧ setR R x R' := by
 obtain ⟨ee, hee⟩ : ∃ e, Keep (rdyE R.hs R.ws x = e) := ⟨_, ⟨rfl⟩⟩
 have HD := Keep.mk hD
 have HI := Keep.mk hI
 clear hD hI
 go_enter Try.func42, Try.ntmps42
 refine wp_seq_k fun K1 hK1 => rgn ?_
 refine WL.box (by kernel_rfl) 36 (.tmp 1) rfl (bytesA 32 x.f) rfl ?_
 obtain ⟨w1, hwn⟩ : ∃ wx, Keep (wx = w.alloc (.cells (bytesA 32 x.f) 36)) := ⟨_, ⟨rfl⟩⟩
 rw [← hwn.out]
 have HX1 : Keep (Blk w1 w.heap.size 36 (bytesA 32 x.f)) := ⟨by rw [hwn.out]; exact Blk.new _ _ _⟩
 have LB1 : Keep (Below w.heap.size w w1) := ⟨by rw [hwn.out]; exact below_new _ _⟩
 clear hwn
 have HD1 := Keep.mk (HD.out.below LB1.out)
 simp only [Act.put, pqA, pqB, pqC]
 refine VlS (.int .i64 0) ?_
 refine VlS (.int .i64 0) ?_
 refine WL.nil (hK1 _ _ ?_)
 refine wp_seq_k fun K2 hK2 => rgn ?_
 refine VlS (.pointer (some ⟨d, 0, none⟩)) ?_
 refine WL.row (by kernel_rfl) 36 (.tmp 3) rfl w.heap.size rfl 36 (bytesA 32 x.f) _ HX1.out Try.underlying36 rfl (Try.size36B _) ?_
 simp only [Act.put, pqA, pqB, pqC]
 have hrd := rready_any d x R w1 HD1.out.rd HI.out
 rw [hee.out] at hrd
 refine WL.callF (by kernel_rfl) 41 _ _ rfl Try.in41 #[ptr d, .agg (bytesA 32 x.f)] (by simp [Act.eval]) ?_
 refine (hrd).mono ?_
 rintro e w2 ⟨rfl, hz⟩
 refine ⟨_, rfl, ?_⟩
 clear hrd
 have B2 := Keep.mk (belowT LB1.out hz)
 have HX2 := Keep.mk (HX1.out.below hz HX1.out.lt)
 have HD2 := Keep.mk (HD.out.below B2.out)
 clear hz
 simp only [Act.put, pqA, pqB, pqC]
 refine VlS (.int .i64 ee) ?_
 refine WL.nil (hK2 _ _ ?_)
 refine wp_seq_k fun K3 hK3 => ?_
 refine wp_seq_k fun K4 hK4 => rgn ?_
 refine VlS (.int .i64 ee) ?_
 by_cases h2_1 : ee = 6
 ·skip
  refine VlS (.bool true) ?_
  refine VlS (.bool true) ?_
  refine SkS ?_
  refine SkS ?_
  refine VlS (.bool true) ?_
  refine WL.nil (hK4 _ _ ?_)
  refine wp_cond_true rfl ?_
  refine wp_seq_k fun K5 hK5 => rgn ?_
  refine VlS (.int .i64 ee) ?_
  refine VlS (.int .i64 0) ?_
  refine VlS (.int .i64 ee) ?_
  refine WL.nil (hK5 _ _ ?_)
  refine wp_ret ?_
  go_ret2
  refine ⟨by rw [hee.out, if_neg (by omega)]; rfl, hv, wv, sv, R, RSte.refl HD.out B2.out, .inl ⟨by rw [hee.out]; omega, rfl⟩⟩
 ·skip
  refine VlS (.bool false) ?_
  refine VlS (.bool false) ?_
  refine VlS (.int .i64 ee) ?_
  by_cases h2_4 : ee = 9
  ·skip
   refine VlS (.bool true) ?_
   refine VlS (.bool true) ?_
   refine WL.nil (hK4 _ _ ?_)
   refine wp_cond_true rfl ?_
   refine wp_seq_k fun K6 hK6 => rgn ?_
   refine VlS (.int .i64 ee) ?_
   refine VlS (.int .i64 0) ?_
   refine VlS (.int .i64 ee) ?_
   refine WL.nil (hK6 _ _ ?_)
   refine wp_ret ?_
   go_ret2
   refine ⟨by rw [hee.out, if_neg (by omega)]; rfl, hv, wv, sv, R, RSte.refl HD.out B2.out, .inl ⟨by rw [hee.out]; omega, rfl⟩⟩
  ·skip
   refine VlS (.bool false) ?_
   refine VlS (.bool false) ?_
   refine WL.nil (hK4 _ _ ?_)
   refine wp_cond_false rfl ?_
   refine wp_skip ?_
   refine hK3 _ _ ?_
   refine wp_seq_k fun K7 hK7 => ?_
   have HB : Keep (hasB R.ws x = true) := ⟨by
    by_cases hh : hasB R.ws x = true
    ·exact hh
    ·have h1 : rdyE R.hs R.ws x = 6 := by unfold rdyE; rw [find_none (Bool.eq_false_iff.2 hh)]
     rw [hee.out] at h1; omega⟩
   obtain ⟨m, hm, hmi, -⟩ := ixF_find (t := 0) (show hasB (R.wait.map (·.1)) x = true from HB.out)
   rw [Nat.zero_add] at hmi
   obtain ⟨gp, op, wc, hwv, hgl, hwc, -, hrg⟩ : ∃ gp op wc, wv = .slice (some ⟨gp, op, none⟩) R.wait.length wc ∧ gp < w2.heap.size ∧ R.wait.length ≤ wc ∧ w2.there gp op (wc * 34) ∧ w2.rangeAt gp op (R.wait.flatMap encV) := HD2.out.wait.resolve_left fun h => by rw [h.2] at hm; simp at hm
   subst hwv
   have HMI := Keep.mk hmi
   have HG := Keep.mk hgl
   have HRg := Keep.mk hrg
   have hm0 : ¬ (m : Int) < 0 := by omega
   have hm00 : (0 : Int) ≤ (m : Int) := by omega
   have hml : (m : Int) < (R.wait.length : Int) := by omega
   obtain ⟨q, hq⟩ : ∃ q, Keep (q = R.wait[m]) := ⟨_, ⟨rfl⟩⟩
   have HQm : Keep (q ∈ R.held ∨ q ∈ R.wait) := ⟨.inr (by rw [hq.out]; exact List.getElem_mem hm)⟩
   have hS0 : Keep (∀ wx, Below w2.heap.size w2 wx → (fun wx => wx.cell? ⟨d, 2, none⟩ = some (.slice (some ⟨gp, op, none⟩) R.wait.length wc) ∧ wx.rangeAt w.heap.size 0 (bytesA 32 x.f).toList) wx) := ⟨fun wx hb => ⟨(HD2.out.blk.below hb HD2.out.blk.lt).c 2 rfl, blk_rng (HX2.out.below hb HX2.out.lt)⟩⟩
   have BD : Keep (Below w2.heap.size w2 w2.drew) := ⟨(Below.refl _ _).drew⟩
   clear hrg hgl hmi
   refine wp_region_held_drew (S := fun wx => wx.cell? ⟨d, 2, none⟩ = some (.slice (some ⟨gp, op, none⟩) R.wait.length wc) ∧ wx.rangeAt w.heap.size 0 (bytesA 32 x.f).toList) (by kernel_rfl) (hS0.out _ BD.out) (fun hHeld => ?_)
   refine tkS (i := 0) (oi := ⟨some 19, Op.move (Operand.tmp 0), 31, _, _, none⟩) (v := .pointer (some ⟨d, 0, none⟩)) rfl (Or.inl ⟨by rfl, fun w hS => by clear hS; go_simp⟩) hHeld ?_
   refine tkS (i := 1) (oi := ⟨some 20, Op.nilCheck (Operand.tmp 19), 0, _, _, none⟩) (v := .pointer (some ⟨d, 0, none⟩)) rfl (Or.inl ⟨by rfl, fun w hS => by clear hS; go_simp⟩) hHeld ?_
   refine tkS (i := 2) (oi := ⟨some 21, Op.fieldAddr 79 (Operand.tmp 20) 2, 0, _, _, none⟩) (v := .pointer (some ⟨d, 2, none⟩)) rfl (Or.inl ⟨by rfl, fun w hS => by clear hS; go_simp⟩) hHeld ?_
   refine tkS (i := 3) (oi := ⟨some 22, Op.load 55 (Operand.tmp 21), 55, _, _, none⟩) (v := .slice (some ⟨gp, op, none⟩) R.wait.length wc) rfl (Or.inl ⟨by rfl, fun w hS => by obtain ⟨hS1, hS2⟩ := hS; clear hS2; go_simp⟩) hHeld ?_
   refine tkS (i := 4) (oi := ⟨some 23, Op.load 36 (Operand.tmp 3), 36, _, _, none⟩) (v := .agg (bytesA 32 x.f)) rfl (yieldsIf_ld (by rfl) (Operand.tmp 3) 36 rfl w.heap.size 0 rfl (bytesA 32 x.f) _ Try.underlying36 rfl (size36A _) fun w hS => hS.2) hHeld ?_
   refine wpAnyH_ready (rs := [5]) (by kernel_rfl) (by simp) ?_
   refine AllReadyH.cons (o := ⟨some 24, Op.call { callee := Callee.value (Operand.func 72), args := #[Operand.tmp 22, Operand.tmp 23], argTypes := #[55, 36] }, 3, _, _, none⟩) rfl (fun K hK => ?_) AllReadyH.nil
   rw [if_pos (by rfl)]
   have hcp := rplace_any (.slice (some ⟨gp, op, none⟩) R.wait.length wc) R.wait x w2.drew ((HD2.out.below BD.out).wait.row fun q hq => ⟨((HD2.out.below BD.out).ps q (.inr hq)).1, Nat.le_trans (HD2.out.ps q (.inr hq)).2.1 (by omega)⟩) (Nat.le_trans HI.out.wl (by omega))
   rw [HMI.out] at hcp
   refine wp_callF 72 _ _ rfl Try.in72 #[.slice (some ⟨gp, op, none⟩) R.wait.length wc, .agg (bytesA 32 x.f)] (by simp [Act.eval]) (fun u wx => u = .int .i64 (m : Int) ∧ Below w2.drew.heap.size w2.drew wx) (hcp.mono fun e w' ⟨h1, h2⟩ => ⟨_, h1, rfl, h2⟩) ?_
   clear hcp
   rintro _ w3 ⟨rfl, hb⟩
   have U3 : Keep (Below w2.heap.size w2 w3) := ⟨belowT BD.out hb⟩
   refine hK _ _ (hS0.out _ U3.out) fun hH1 => ?_
   clear hK hb
   have HD3 := Keep.mk (HD2.out.below U3.out)
   have HX3 := Keep.mk (HX2.out.below U3.out HX2.out.lt)
   have B3 := Keep.mk (belowT B2.out U3.out)
   have Hel : Keep (w3.rangeAt gp (op + m * 34) (encV q)) := ⟨by have h := flat_elem encV_len (rangeAt_below HRg.out U3.out HG.out) m hm; rw [← hq.out] at h; exact h⟩
   obtain ⟨qa, qc, hqf⟩ := (HD3.out.ps q HQm.out).1.form
   obtain ⟨vq, hvq⟩ : ∃ a : Array Value, Keep (a = vtx q.1.id.f q.1.ck q.2) := ⟨_, ⟨rfl⟩⟩
   obtain ⟨vz, hvz⟩ : ∃ a : Array Value, Keep (a = vtx (fun _ => 0) 0 (.slice none 0 0)) := ⟨_, ⟨rfl⟩⟩
   have Hqf := Keep.mk hqf
   clear hqf
   simp only [Act.put, pqA, pqB, pqC]
   refine tkS (i := 6) (oi := ⟨some 7, Op.assign (Operand.tmp 24), 3, _, _, none⟩) (v := .int .i64 (m : Int)) rfl (Or.inl ⟨by rfl, fun w hS => by clear hS; go_simp⟩) hH1 ?_
   refine wpAnyH_done (by kernel_rfl) ?_ _
   refine hK7 _ _ ?_
   refine wp_seq_k fun K8 hK8 => rgn ?_
   refine VlS (.pointer (some ⟨d, 0, none⟩)) ?_
   refine VlS (.pointer (some ⟨d, 0, none⟩)) ?_
   refine VlS (.pointer (some ⟨d, 2, none⟩)) ?_
   have c1 := (hS0.out _ U3.out).1
   refine WL.val (by kernel_rfl) (.slice (some ⟨gp, op, none⟩) R.wait.length wc) (by go_simp) ?_
   clear c1
   simp only [Act.put, pqA, pqB, pqC]
   refine VlS (.int .i64 (m : Int)) ?_
   refine VlS (.pointer (some ⟨gp, op + m * 34, none⟩)) ?_
   refine WL.midA (by kernel_rfl) 39 (.tmp 30) rfl gp (op + m * 34) rfl vq _ (by rw [hvq.out]; exact Hel.out) Try.underlying39 rfl (by rw [hvq.out]; exact Try.info39s _ _ _) ?_
   simp only [Act.put, pqA, pqB, pqC]
   refine WL.new (by kernel_rfl) 39 rfl _ Try.new39 ?_
   rw [← hvz.out]
   have HZ := Keep.mk (Blk.new w3 39 vz)
   have hz := below_new w3 (.cells vz 39)
   have U4 := Keep.mk (belowT U3.out hz)
   clear hz
   have LZ : Keep (w2.heap.size ≤ w3.heap.size) := ⟨U3.out.size⟩
   generalize w3.alloc (.cells vz 39) = w4 at *
   generalize w3.heap.size = gz at *
   simp only [Act.put, pqA, pqB, pqC]
   refine WL.storeR (by kernel_rfl) 39 (.tmp 8) (.tmp 31) rfl gz vq rfl rfl 39 vz HZ.out (by rw [hvq.out]; exact Try.info39s _ _ _) (by rw [hvq.out, hvz.out, vtx_size, vtx_size]) (by rw [hvq.out, Hqf.out]; exact vtx_one _ _ _ (slice_one _ _ _)) ?_
   have HV5 := Keep.mk (HZ.out.setRow vq)
   have U5 := Keep.mk (below_setRow U4.out LZ.out vq)
   generalize w4.setRow gz vq = w5 at *
   have HD5 := Keep.mk (HD2.out.below U5.out)
   have HX5 := Keep.mk (HX2.out.below U5.out HX2.out.lt)
   have B5 := Keep.mk (belowT B2.out U5.out)
   clear HZ
   simp only [Act.put]
   refine WL.nil (hK8 _ _ ?_)
   refine wp_seq_k fun K9 hK9 => rgn ?_
   refine VlS (.pointer (some ⟨d, 0, none⟩)) ?_
   refine WL.row (by kernel_rfl) 36 (.tmp 3) rfl w.heap.size rfl 36 (bytesA 32 x.f) _ HX5.out Try.underlying36 rfl (Try.size36B _) ?_
   simp only [Act.put, pqA, pqB, pqC]
   have hfg := (rforgetS_any d x hv (.slice (some ⟨gp, op, none⟩) R.wait.length wc) sv R w5 HD5.out HI.out).mono (R' := fun e w' => e = .returned (.bool true) ∧ ∃ wv', RSte w5 w' d hv (.slice (some ⟨gp, op, none⟩) R.wait.length wc) sv R hv wv' sv ⟨R.room, R.held, R.wait.take m ++ R.wait.drop (m + 1), R.sets⟩) (fun e w' h => h.elim (fun h => by have := HB.out; rw [h.1] at this; cases this) fun ⟨m', h1, _, h3, h4, wv', h5⟩ => by have e : m' = m := (by have := HMI.out; rw [h3] at this; omega); subst e; exact ⟨h4, wv', h5⟩)
   refine WL.callF (by kernel_rfl) 44 _ _ rfl Try.in44 #[ptr d, .agg (bytesA 32 x.f)] (by simp [Act.eval]) ?_
   refine (hfg).mono ?_
   rintro e w6 ⟨rfl, wv6, hst⟩
   refine ⟨_, rfl, ?_⟩
   clear hfg
   have S6 := Keep.mk hst
   have HV6 := Keep.mk (hst.grown.blk HV5.out fun e => by have := HD2.out.lt _ e; have := LZ.out; omega)
   clear hst
   simp only [Act.put, pqA, pqB, pqC]
   refine WL.nil (hK9 _ _ ?_)
   refine wp_seq_k fun K10 hK10 => ?_
   refine wp_seq_k fun K11 hK11 => rgn ?_
   refine VlS (.int .i64 ee) ?_
   by_cases h7_1 : ee = 0
   ·skip
    refine VlS (.bool false) ?_
    refine WL.nil (hK11 _ _ ?_)
    refine wp_cond_false rfl ?_
    refine wp_skip ?_
    refine hK10 _ _ ?_
    refine wp_seq_k fun K12 hK12 => rgn ?_
    refine VlS (.pointer (some ⟨d, 0, none⟩)) ?_
    refine WL.row (by kernel_rfl) 39 (.tmp 8) rfl gz rfl 39 vq _ HV6.out Try.underlying39 rfl (by rw [hvq.out]; exact Try.info39s _ _ _) ?_
    simp only [Act.put, pqA, pqB, pqC]
    have RI6 : Keep (RI ⟨R.room, R.held, R.wait.take m ++ R.wait.drop (m + 1), R.sets⟩) := ⟨{ inc := HI.out.inc, mem := HI.out.mem, hl := HI.out.hl, sl := HI.out.sl, wl := by have := HI.out.wl; show (R.wait.take m ++ R.wait.drop (m + 1)).length ≤ 4096; rw [List.length_append, List.length_take, List.length_drop]; omega, ck := HI.out.ck, hp := HI.out.hp, wp := fun v hv => HI.out.wp v (by obtain ⟨q', hq', rfl⟩ := List.mem_map.1 hv; exact List.mem_map.2 ⟨q', (List.mem_append.1 hq').elim List.mem_of_mem_take List.mem_of_mem_drop, rfl⟩) }⟩
    have HP6 : Keep (HRow w6 q.2 q.1.ps ∧ q.1.ps.length ≤ 64 ∧ ∀ k, q.2.ownBlock = some k → k < w6.heap.size ∧ ¬ RgS d hv wv6 sv k) := ⟨by
     obtain ⟨a1, a2, a3⟩ := HD5.out.ps q HQm.out
     refine ⟨a1.grownB S6.out.grown fun k hk => (a3 k hk).2, a2, fun k hk => ⟨Nat.lt_of_lt_of_le (a3 k hk).1 S6.out.grown.size, fun e => ?_⟩⟩
     rcases S6.out.sub k e with h1 | h1
     ·exact (a3 k hk).2 h1
     ·have := (a3 k hk).1; omega⟩
    have hho := rhold_any d q.1 q.2 hv wv6 sv ⟨R.room, R.held, R.wait.take m ++ R.wait.drop (m + 1), R.sets⟩ w6 S6.out.at' RI6.out HP6.out.1 ⟨HP6.out.2.1, HP6.out.2.2⟩
    rw [← hvq.out] at hho
    refine WL.callF (by kernel_rfl) 61 _ _ rfl Try.in61 #[ptr d, .agg vq] (by simp [Act.eval]) ?_
    refine (hho).mono ?_
    rintro e w7 ⟨rfl, aa, hv7, sv7, hp7, hd7, hg7, hs7, hn7⟩
    refine ⟨_, rfl, ?_⟩
    clear hho
    simp only [Act.put, pqA, pqB, pqC]
    refine WL.nil (hK12 _ _ ?_)
    refine wp_seq_k fun K13 hK13 => rgn ?_
    refine VlS (.int .i64 2) ?_
    refine VlS (.int .i64 0) ?_
    refine WL.nil (hK13 _ _ ?_)
    refine wp_ret ?_
    go_ret2
    have h0 : ee = 0 := by assumption
    have hz := (RSte.refl HD.out B5.out).trans S6.out
    refine ⟨by rw [hee.out, h0]; rfl, hv7, wv6, sv7, _, ⟨hd7, hz.grown.next hg7 fun i hi e => (hz.sub i e).elim id fun h3 => by omega, fun k hk => (hs7 k hk).elim (hz.sub k) fun h3 => .inr (Nat.le_trans hz.grown.size h3), fun q' hq' => (hn7 q' hq').elim (hz.new q') fun h => .inl (by rw [h]; exact HQm.out)⟩, .inr (.inl ⟨by rw [hee.out, h0], m, aa, hm, HMI.out, by rw [← hq.out]; exact hp7, by rw [← hq.out]⟩)⟩
   ·skip
    refine VlS (.bool true) ?_
    refine WL.nil (hK11 _ _ ?_)
    refine wp_cond_true rfl ?_
    refine wp_seq_k fun K14 hK14 => rgn ?_
    refine VlS (.int .i64 ee) ?_
    refine VlS (.int .i64 0) ?_
    refine VlS (.int .i64 ee) ?_
    refine WL.nil (hK14 _ _ ?_)
    refine wp_ret ?_
    go_ret2
    refine ⟨by rw [hee.out, if_neg (by assumption)]; rfl, hv, wv6, sv, _, (RSte.refl HD.out B5.out).trans S6.out, .inr (.inr ⟨?_, m, hm, HMI.out, rfl⟩)⟩
    rw [hee.out]
    rcases rdy_cases R.hs R.ws x with ⟨_, h⟩ | ⟨v, _, ⟨_, h⟩ | ⟨_, h, h2⟩⟩ <;> (have h' := hee.out; omega)
end Go.Proofs.Ytogmdfhicbmplaa
namespace Go.Proofs.Ytogmdfhicbmplaa
open Go.RowKit
set_option linter.unusedSimpArgs false
set_option linter.unusedVariables false

/-! ### Several dags of the program, each with the document's beside it. -/
structure PQ where
 d : Nat
 x : Nat
 g : DG
 hv : Value
 wv : Value
 sv : Value
 R : RG
/-- The blocks that a pair writes to. -/
def PW (p : PQ) (k : Nat) : Prop := DgS p.d p.g k ∨ RgS p.x p.hv p.wv p.sv k
def UQ (Ps : List PQ) (k : Nat) : Prop := ∃ p ∈ Ps, PW p k
structure MP (B : Nat) (w : World) (Ps : List PQ) : Prop where
 dg : ∀ p ∈ Ps, DagAt w (UQ Ps) p.d p.g
 rg : ∀ p ∈ Ps, RAt w p.x p.hv p.wv p.sv p.R
 dj : ∀ p ∈ Ps, ∀ k, DgS p.d p.g k → ¬ RgS p.x p.hv p.wv p.sv k
 dk : ∀ (i j : Nat) p q, Ps[i]? = some p → Ps[j]? = some q → i ≠ j → ∀ k, PW p k → ¬ PW q k
 rp : ∀ p ∈ Ps, ∀ q, q ∈ p.R.held ∨ q ∈ p.R.wait → ∀ k, q.2.ownBlock = some k → ¬ UQ Ps k
 lo : ∀ k, UQ Ps k → B ≤ k
theorem MP.below {B : Nat} {w w' : World} {Ps : List PQ} (h : MP B w Ps) (hb : Below w.heap.size w w') : MP B w' Ps :=
 ⟨fun p hp => (h.dg p hp).below hb, fun p hp => (h.rg p hp).below hb, h.dj, h.dk, h.rp, h.lo⟩
theorem MP.lt {B : Nat} {w : World} {Ps : List PQ} (h : MP B w Ps) {k : Nat} (hk : UQ Ps k) : k < w.heap.size := by
 obtain ⟨p, hp, h1⟩ := hk
 exact (h.dg p hp).lt k ⟨p, hp, h1⟩
theorem MP.nil (B : Nat) (w : World) : MP B w [] :=
 ⟨fun p hp => (by cases hp), fun p hp => (by cases hp), fun p hp => (by cases hp), fun i j p q hi => (by simp at hi), fun p hp => (by cases hp), fun k hk => by obtain ⟨p, hp, _⟩ := hk; cases hp⟩
theorem set_cases {Ps : List PQ} {i : Nat} {p p' q : PQ} {j : Nat} (hi : Ps[i]? = some p) (hj : (Ps.set i p')[j]? = some q) : (j = i ∧ q = p') ∨ (j ≠ i ∧ Ps[j]? = some q) := by
 rw [List.getElem?_set] at hj
 by_cases e : i = j
 ·subst e
  rw [if_pos rfl, if_pos (List.getElem?_eq_some_iff.1 hi).1] at hj
  exact .inl ⟨rfl, (Option.some.inj hj).symm⟩
 ·rw [if_neg e] at hj
  exact .inr ⟨Ne.symm e, hj⟩
theorem set_mem {Ps : List PQ} {i : Nat} {p p' q : PQ} (hi : Ps[i]? = some p) (hq : q ∈ Ps.set i p') : q = p' ∨ ∃ j, j ≠ i ∧ Ps[j]? = some q := by
 obtain ⟨j, hj⟩ := List.mem_iff_getElem?.1 hq
 rcases set_cases hi hj with ⟨_, h⟩ | ⟨h1, h2⟩
 ·exact .inl h
 ·exact .inr ⟨j, h1, h2⟩
/-- A step of one pair. -/
theorem MP.step {B : Nat} {w w1 : World} {Ps : List PQ} {i : Nat} {p p' : PQ} {S : Nat → Prop} (h : MP B w Ps) (hi : Ps[i]? = some p) (hB : B ≤ w.heap.size) (hg : Grown w w1 S) (hS : ∀ k, S k → PW p k) (hsub : ∀ k, PW p' k → PW p k ∨ w.heap.size ≤ k)
  (h1 : DagAt w1 (fun k => UQ Ps k ∨ PW p' k) p'.d p'.g) (h2 : RAt w1 p'.x p'.hv p'.wv p'.sv p'.R) (h3 : ∀ k, DgS p'.d p'.g k → ¬ RgS p'.x p'.hv p'.wv p'.sv k) (h4 : ∀ q, q ∈ p'.R.held ∨ q ∈ p'.R.wait → ∀ k, q.2.ownBlock = some k → ¬ (UQ Ps k ∨ PW p' k)) :
  MP B w1 (Ps.set i p') ∧ Below B w w1 := by
 have hp : p ∈ Ps := List.mem_iff_getElem?.2 ⟨i, hi⟩
 have hp' : p' ∈ Ps.set i p' := List.mem_iff_getElem?.2 ⟨i, by rw [List.getElem?_set, if_pos rfl, if_pos (List.getElem?_eq_some_iff.1 hi).1]⟩
 have hU : ∀ k, UQ (Ps.set i p') k → UQ Ps k ∨ PW p' k := fun k hk => by
  obtain ⟨q, hq, hk⟩ := hk
  rcases set_mem hi hq with rfl | ⟨j, _, hj⟩
  ·exact .inr hk
  ·exact .inl ⟨q, List.mem_iff_getElem?.2 ⟨j, hj⟩, hk⟩
 have hUo : ∀ k, k < w.heap.size → UQ (Ps.set i p') k → UQ Ps k := fun k hk hu => (hU k hu).elim id fun h5 => (hsub k h5).elim (fun h6 => ⟨p, hp, h6⟩) fun h6 => by omega
 have hlt1 : ∀ k, UQ Ps k ∨ PW p' k → k < w1.heap.size := fun k hk => h1.lt k hk
 have hmem : ∀ (j : Nat) q, j ≠ i → Ps[j]? = some q → q ∈ Ps.set i p' := fun j q hji hj => List.mem_iff_getElem?.2 ⟨j, by rw [List.getElem?_set, if_neg (Ne.symm hji)]; exact hj⟩
 refine ⟨⟨fun q hq => ?_, fun q hq => ?_, fun q hq => ?_, fun a b q r ha hb hab => ?_, fun q hq => ?_, fun k hk => ?_⟩, hg.to_below (fun k hk e => by have := h.lo k ⟨p, hp, hS k e⟩; omega) hB⟩
 ·rcases set_mem hi hq with rfl | ⟨j, hji, hj⟩
  ·exact h1.avInto (fun k hk => hU k hk) fun k hk => ⟨q, hp', .inl hk⟩
  ·have hqm : q ∈ Ps := List.mem_iff_getElem?.2 ⟨j, hj⟩
   exact (h.dg q hqm).grown hg (fun k hk e => h.dk i j p q hi hj (Ne.symm hji) k (hS k hk) (.inl e)) (fun k _ hk => ⟨p, hp, hS k hk⟩) hUo (fun k hk => ⟨q, hq, .inl hk⟩) fun k hk => hlt1 k (hU k hk)
 ·rcases set_mem hi hq with rfl | ⟨j, hji, hj⟩
  ·exact h2
  ·have hqm : q ∈ Ps := List.mem_iff_getElem?.2 ⟨j, hj⟩
   exact (h.rg q hqm).grown hg (fun k hk e => h.dk i j p q hi hj (Ne.symm hji) k (hS k e) (.inr hk)) fun r hr k hk e => h.rp q hqm r hr k hk ⟨p, hp, hS k e⟩
 ·rcases set_mem hi hq with rfl | ⟨j, hji, hj⟩
  ·exact h3
  ·exact h.dj q (List.mem_iff_getElem?.2 ⟨j, hj⟩)
 ·intro k hk e
  have key : ∀ (c : Nat) r, c ≠ i → Ps[c]? = some r → PW r k → PW p' k → False := fun c r hc hcr hk1 hk2 => by
   rcases hsub k hk2 with h5 | h5
   ·exact h.dk i c p r hi hcr (Ne.symm hc) k h5 hk1
   ·have := h.lt (k := k) ⟨r, List.mem_iff_getElem?.2 ⟨c, hcr⟩, hk1⟩; omega
  rcases set_cases hi ha with ⟨ea, rfl⟩ | ⟨ea, ha'⟩
  ·rcases set_cases hi hb with ⟨eb, rfl⟩ | ⟨eb, hb'⟩
   ·omega
   ·exact key b r eb hb' e hk
  ·rcases set_cases hi hb with ⟨eb, rfl⟩ | ⟨eb, hb'⟩
   ·exact key a q ea ha' hk e
   ·exact h.dk a b q r ha' hb' hab k hk e
 ·intro r hr k hk e
  rcases set_mem hi hq with rfl | ⟨j, hji, hj⟩
  ·exact h4 r hr k hk (hU k e)
  ·have hqm : q ∈ Ps := List.mem_iff_getElem?.2 ⟨j, hj⟩
   have hkl := (((h.rg q hqm).ps r hr).2.2 k hk).1
   exact h.rp q hqm r hr k hk (hUo k hkl e)
 ·rcases hU k hk with h5 | h5
  ·exact h.lo k h5
  ·rcases hsub k h5 with h6 | h6
   ·exact h.lo k ⟨p, hp, h6⟩
   ·omega
theorem MP.prog {B : Nat} {w w1 : World} {Ps : List PQ} {i : Nat} {p : PQ} {g1 : DG} (h : MP B w Ps) (hi : Ps[i]? = some p) (hB : B ≤ w.heap.size) (s : Ste w w1 (UQ Ps) p.d p.g g1) : MP B w1 (Ps.set i { p with g := g1 }) ∧ Below B w w1 := by
 have hp : p ∈ Ps := List.mem_iff_getElem?.2 ⟨i, hi⟩
 have hrl : ∀ k, RgS p.x p.hv p.wv p.sv k → UQ Ps k := fun k hk => ⟨p, hp, .inr hk⟩
 have hsub : ∀ k, PW { p with g := g1 } k → PW p k ∨ w.heap.size ≤ k := fun k hk => hk.elim (fun h1 => (s.sub k h1).imp .inl id) fun h1 => .inl (.inr h1)
 refine h.step hi hB s.grown (fun k hk => .inl hk) hsub (s.at'.avInto (fun k hk => hk.elim .inl fun h1 => h1.elim .inr fun h2 => .inl (hrl k h2)) fun k hk => .inr (.inl hk)) ((h.rg p hp).grown s.grown (fun k hk e => h.dj p hp k e hk) fun r hr k hk e => h.rp p hp r hr k hk ⟨p, hp, .inl e⟩) (fun k hk e => ?_) fun r hr k hk e => ?_
 ·rcases s.sub k hk with h1 | h1
  ·exact h.dj p hp k h1 e
  ·have := h.lt (hrl k e); omega
 ·have hkl := (((h.rg p hp).ps r hr).2.2 k hk).1
  rcases e with e | e
  ·exact h.rp p hp r hr k hk e
  ·rcases hsub k e with h1 | h1
   ·exact h.rp p hp r hr k hk ⟨p, hp, h1⟩
   ·omega
theorem MP.ref {B : Nat} {w w1 : World} {Ps : List PQ} {i : Nat} {p : PQ} {hv' wv' sv' : Value} {R' : RG} (h : MP B w Ps) (hi : Ps[i]? = some p) (hB : B ≤ w.heap.size) (s : RSte w w1 p.x p.hv p.wv p.sv p.R hv' wv' sv' R') : MP B w1 (Ps.set i { p with hv := hv', wv := wv', sv := sv', R := R' }) ∧ Below B w w1 := by
 have hp : p ∈ Ps := List.mem_iff_getElem?.2 ⟨i, hi⟩
 have hdl : ∀ k, DgS p.d p.g k → UQ Ps k := fun k hk => ⟨p, hp, .inl hk⟩
 have hsub : ∀ k, PW { p with hv := hv', wv := wv', sv := sv', R := R' } k → PW p k ∨ w.heap.size ≤ k := fun k hk => hk.elim (fun h1 => .inl (.inl h1)) fun h1 => (s.sub k h1).imp .inr id
 refine h.step hi hB s.grown (fun k hk => .inr hk) hsub ((h.dg p hp).grown s.grown (fun k hk e => h.dj p hp k e hk) (fun k _ hk => ⟨p, hp, .inr hk⟩) (fun k hk e => e.elim id fun e => (hsub k e).elim (fun h1 => ⟨p, hp, h1⟩) fun h1 => by omega) (fun k hk => .inl (hdl k hk)) fun k hk => hk.elim (fun h1 => Nat.lt_of_lt_of_le (h.lt h1) s.grown.size) fun h1 => h1.elim (fun h2 => Nat.lt_of_lt_of_le (h.lt (hdl k h2)) s.grown.size) (s.at'.lt k)) s.at' (fun k hk e => ?_) fun r hr k hk e => ?_
 ·rcases s.sub k e with h1 | h1
  ·exact h.dj p hp k hk h1
  ·have := h.lt (hdl k hk); omega
 ·rcases s.new r hr with h1 | h1
  ·have hkl := (((h.rg p hp).ps r h1).2.2 k hk).1
   rcases e with e | e
   ·exact h.rp p hp r h1 k hk e
   ·rcases hsub k e with h2 | h2
    ·exact h.rp p hp r h1 k hk ⟨p, hp, h2⟩
    ·omega
  ·have h5 := h1 k hk
   rcases e with e | e
   ·have := h.lt e; omega
   ·rcases e with e | e
    ·have := h.lt (hdl k e); omega
    ·exact ((s.at'.ps r hr).2.2 k hk).2 e
/-- What holds of each pair. -/
def InQ (p : PQ) : Prop := DI p.g ∧ RI p.R ∧ Sm p.g p.R
/-- All pairs as they should be. -/
def AQ (B : Nat) (w : World) (Ps : List PQ) : Prop := MP B w Ps ∧ ∀ p ∈ Ps, InQ p
theorem AQ.below {B : Nat} {w w' : World} {Ps : List PQ} (h : AQ B w Ps) (hb : Below w.heap.size w w') : AQ B w' Ps := ⟨h.1.below hb, h.2⟩
theorem AQ.set {B : Nat} {w w1 : World} {Ps : List PQ} {i : Nat} {p p' : PQ} (h : AQ B w Ps) (hi : Ps[i]? = some p) (h1 : MP B w1 (Ps.set i p')) (h2 : InQ p') : AQ B w1 (Ps.set i p') :=
 ⟨h1, fun q hq => (set_mem hi hq).elim (fun e => e ▸ h2) fun ⟨j, _, hj⟩ => h.2 q (List.mem_iff_getElem?.2 ⟨j, hj⟩)⟩
theorem AQ.self {B : Nat} {w : World} {Ps : List PQ} {i : Nat} {p : PQ} (h : AQ B w Ps) (hi : Ps[i]? = some p) : AQ B w (Ps.set i p) := by
 have e : Ps.set i p = Ps := by
  apply List.ext_getElem?
  intro j
  rw [List.getElem?_set]
  by_cases e : i = j
  ·subst e; rw [if_pos rfl, if_pos (List.getElem?_eq_some_iff.1 hi).1, hi]
  ·rw [if_neg e]
 rw [e]; exact h
end Go.Proofs.Ytogmdfhicbmplaa
namespace Go.Proofs.Ytogmdfhicbmplaa
open Go.RowKit
set_option linter.unusedSimpArgs false
set_option linter.unusedVariables false

theorem Try.in13 (w : World) (vs : Array Value) : (callFunc 13 vs).run Try.prog w = .ok (.enter 13 vs) w := by kernel_rfl
/-- What answers does with a pair. -/
def AnP (B : Nat) (Ps : List PQ) (i : Nat) (p : PQ) (w : World) (e : Ending) (w' : World) : Prop := e = .returned (.bool true) ∧ Below B w w' ∧ Grown w w' (UQ Ps) ∧ ∃ p' : PQ, p'.d = p.d ∧ p'.x = p.x ∧ AQ B w' (Ps.set i p') ∧ ∀ k, UQ (Ps.set i p') k → UQ Ps k ∨ w.heap.size ≤ k
theorem HRow.grownN {w w' : World} {v : Value} {l : List Hs} {S : Nat → Prop} (h : HRow w v l) (hg : Grown w w' S) (hs : l ≠ [] → ∀ k, v.ownBlock = some k → ¬ S k) : HRow w' v l := by
 by_cases e : l = []
 ·subst e
  rcases h with h | ⟨b, off, cap, rfl, h1, h2⟩
  ·exact .inl h
  ·exact .inr ⟨b, off, cap, rfl, h1, fun j u hu => by simp [flatH] at hu⟩
 ·exact h.grownB hg (hs e)
theorem uq_sub {Ps : List PQ} {i n : Nat} {p p' : PQ} (hi : Ps[i]? = some p) (hs : ∀ k, PW p' k → PW p k ∨ n ≤ k) (k : Nat) (hk : UQ (Ps.set i p') k) : UQ Ps k ∨ n ≤ k := by
 obtain ⟨q, hq, hk⟩ := hk
 rcases set_mem hi hq with rfl | ⟨j, _, hj⟩
 ·exact (hs k hk).imp (fun h => ⟨p, List.mem_iff_getElem?.2 ⟨i, hi⟩, h⟩) id
 ·exact .inl ⟨q, List.mem_iff_getElem?.2 ⟨j, hj⟩, hk⟩
set_option maxRecDepth 8000 in
set_option maxHeartbeats 4000000 in
theorem an_heads (B : Nat) (Ps : List PQ) (i : Nat) (p : PQ) (o : OP) (w : World) (hA : AQ B w Ps) (hi : Ps[i]? = some p) (hB : B ≤ w.heap.size) (hr : HRow w o.q.2 o.q.1.ps) (hL : (o.q.1.ps.length : Int) ≤ 9223372036854775806) (hK' : o.q.1.ps ≠ [] → ∀ k, o.q.2.ownBlock = some k → k < B) (hk : o.k = 8) : Calls Try.prog 13 #[ptr p.d, ptr p.x, .agg (opA o)] w (AnP B Ps i p w) := by
 obtain ⟨d, x, g, hv, wv, sv, R⟩ := p
 have hp : (⟨d, x, g, hv, wv, sv, R⟩ : PQ) ∈ Ps := List.mem_iff_getElem?.2 ⟨i, hi⟩
 have DG : Keep (DagAt w (UQ Ps) d g) := ⟨hA.1.dg _ hp⟩
 have RA_ : Keep (RAt w x hv wv sv R) := ⟨hA.1.rg _ hp⟩
 have RD : Keep (RRd w x R) := ⟨RA_.out.rd⟩
 have HI : Keep (DI g) := ⟨(hA.2 _ hp).1⟩
 have RI_ : Keep (RI R) := ⟨(hA.2 _ hp).2.1⟩
 have SM : Keep (Sm g R) := ⟨(hA.2 _ hp).2.2⟩
 have HAq := Keep.mk hA
 have HRq := Keep.mk hr
 have HLq := Keep.mk hL
 have HKq := Keep.mk hK'
 clear hA hr hL hK'
 obtain ⟨oo, HOo⟩ : ∃ a : Array Value, Keep (a = opA o) := ⟨_, ⟨rfl⟩⟩
 obtain ⟨vv, hvv⟩ : ∃ a : Array Value, Keep (a = vtx o.q.1.id.f o.q.1.ck o.q.2) := ⟨_, ⟨rfl⟩⟩
 rw [← HOo.out]
 show Calls Try.prog 13 #[ptr d, ptr x, .agg oo] w _
 have hk := Keep.mk hk
 go_enter Try.func13, Try.ntmps13
 refine wp_seq_k fun K1 hK1 => rgn ?_
 refine WL.box (by kernel_rfl) 41 (.tmp 2) rfl (oo) rfl ?_
 obtain ⟨w1, hwn⟩ : ∃ wx, Keep (wx = w.alloc (.cells (oo) 41)) := ⟨_, ⟨rfl⟩⟩
 rw [← hwn.out]
 have HX1 : Keep (Blk w1 w.heap.size 41 (oo)) := ⟨by rw [hwn.out]; exact Blk.new _ _ _⟩
 have U1 : Keep (Below w.heap.size w w1) := ⟨by rw [hwn.out]; exact below_new _ _⟩
 clear hwn
 have HRo : Keep (∀ wx, Below w1.heap.size w1 wx → wx.rangeAt w.heap.size 0 (opA o).toList) := ⟨fun wx hb => by have h := blk_rng (HX1.out.below hb HX1.out.lt); rw [HOo.out] at h; exact h⟩
 have HRh : Keep (∀ wx, Below w1.heap.size w1 wx → wx.rangeAt w.heap.size 36 (encH o.h)) := ⟨fun wx hb => opA_h (HRo.out wx hb)⟩
 have HRv : Keep (∀ wx, Below w1.heap.size w1 wx → wx.rangeAt w.heap.size 2 vv.toList) := ⟨fun wx hb => by rw [hvv.out]; exact opA_v (HRo.out wx hb)⟩
 have V1 : Keep (Below w1.heap.size w1 w1) := ⟨Below.refl _ _⟩
 simp only [Act.put, pqA, pqB, pqC]
 refine VlS (.bool false) ?_
 refine WL.nil (hK1 _ _ ?_)
 refine wp_seq_k fun K2 hK2 => ?_
 refine wp_seq_k fun K3 hK3 => rgn ?_
 refine VlS (.pointer (some ⟨w.heap.size, 0, none⟩)) ?_
 have ck0 : w1.cell? ⟨w.heap.size, 0, none⟩ = some (.int .i64 (8)) := by have h := opA_k (HRo.out w1 V1.out); rw [hk.out] at h; exact h
 refine WL.val (by kernel_rfl) (.int .i64 (8)) (by go_simp) ?_
 clear ck0
 simp only [Act.put, pqA, pqB, pqC]
 refine WL.nil (hK3 _ _ ?_)
 refine wp_block ?_
 refine wp_seq_k fun K4 hK4 => rgn ?_
 refine VlS (.bool false) ?_
 refine VlS (.bool false) ?_
 refine WL.nil (hK4 _ _ ?_)
 refine wp_cond_false rfl ?_
 refine wp_seq_k fun K5 hK5 => rgn ?_
 refine VlS (.bool false) ?_
 refine VlS (.bool false) ?_
 refine WL.nil (hK5 _ _ ?_)
 refine wp_cond_false rfl ?_
 refine wp_seq_k fun K6 hK6 => rgn ?_
 refine VlS (.bool false) ?_
 refine VlS (.bool false) ?_
 refine WL.nil (hK6 _ _ ?_)
 refine wp_cond_false rfl ?_
 refine wp_seq_k fun K7 hK7 => rgn ?_
 refine VlS (.bool false) ?_
 refine VlS (.bool false) ?_
 refine WL.nil (hK7 _ _ ?_)
 refine wp_cond_false rfl ?_
 refine wp_seq_k fun K8 hK8 => rgn ?_
 refine VlS (.bool false) ?_
 refine VlS (.bool false) ?_
 refine WL.nil (hK8 _ _ ?_)
 refine wp_cond_false rfl ?_
 refine wp_seq_k fun K9 hK9 => rgn ?_
 refine VlS (.bool false) ?_
 refine VlS (.bool false) ?_
 refine WL.nil (hK9 _ _ ?_)
 refine wp_cond_false rfl ?_
 refine wp_seq_k fun K10 hK10 => rgn ?_
 refine VlS (.bool false) ?_
 refine VlS (.bool false) ?_
 refine WL.nil (hK10 _ _ ?_)
 refine wp_cond_false rfl ?_
 refine wp_seq_k fun K11 hK11 => rgn ?_
 refine VlS (.bool true) ?_
 refine VlS (.bool true) ?_
 refine WL.nil (hK11 _ _ ?_)
 refine wp_cond_true rfl ?_
 refine wp_seq_k fun K12 hK12 => rgn ?_
 refine VlS (.pointer (some ⟨d, 0, none⟩)) ?_
 have hcon := heads_any d _ g w1 (DG.out.below U1.out) (by have := HI.out.hdl; have := HI.out.hl; omega)
 refine WL.callF (by kernel_rfl) 25 _ _ rfl Try.in25 #[ptr d] (by simp [Act.eval]) ?_
 refine (hcon).mono ?_
 rintro e w2 ⟨u2, rfl, hf⟩
 refine ⟨_, rfl, ?_⟩
 clear hcon
 have V2 := Keep.mk (belowT V1.out hf.bel)
 have U2 := Keep.mk (belowT U1.out hf.bel)
 have F2 := Keep.mk hf
 clear hf
 have L2 : Keep ((g.heads.length : Int) ≤ 9223372036854775807) := ⟨by have := HI.out.hdl; have := HI.out.hl; omega⟩
 simp only [Act.put, pqA, pqB, pqC]
 refine VlS (.pointer (some ⟨x, 0, none⟩)) ?_
 have hcon := (rheads_any x R w2 (RD.out.below U2.out) RI_.out).mono (R' := fun e w' => ∃ v', e = .returned v' ∧ Fresh w2 w' v' g.heads) (fun e w' ⟨v', L', h1, h2, h3, h4, _⟩ => ⟨v', h1, by rw [← rising_unique L' g.heads h3 HI.out.hd fun z => by rw [h4, SM.out.hd HI.out]]; exact h2⟩)
 refine WL.callF (by kernel_rfl) 49 _ _ rfl Try.in49 #[ptr x] (by simp [Act.eval]) ?_
 refine (hcon).mono ?_
 rintro e w3 ⟨u3, rfl, hf⟩
 refine ⟨_, rfl, ?_⟩
 clear hcon
 have V3 := Keep.mk (belowT V2.out hf.bel)
 have U3 := Keep.mk (belowT U2.out hf.bel)
 have F3 := Keep.mk hf
 have X3 : Keep (Below w2.heap.size w2 w3) := ⟨hf.bel⟩
 clear hf
 simp only [Act.put, pqA, pqB, pqC]
 have hcon := smH_any u2 u3 _ _ w3 (F2.out.own.row.below X3.out) F3.out.own.row L2.out
 rw [decide_eq_true rfl] at hcon
 refine WL.callF (by kernel_rfl) 19 _ _ rfl Try.in19 #[u2, u3] (by simp [Act.eval]) ?_
 refine (hcon).mono ?_
 rintro e w4 ⟨rfl, hz⟩
 refine ⟨_, rfl, ?_⟩
 clear hcon
 have V4 := Keep.mk (belowT V3.out hz)
 have U4 := Keep.mk (belowT U3.out hz)
 clear hz
 simp only [Act.put, pqA, pqB, pqC]
 refine VlS (.bool true) ?_
 refine WL.nil (hK12 _ _ ?_)
 refine wp_ret ?_
 go_ret
 exact ⟨rfl, U4.out.mono hB, Grown.below U4.out, _, rfl, rfl, (HAq.out.below U4.out).self hi, uq_sub hi fun k hk => .inl hk⟩
set_option maxRecDepth 8000 in
set_option maxHeartbeats 4000000 in
theorem an_missing (B : Nat) (Ps : List PQ) (i : Nat) (p : PQ) (o : OP) (w : World) (hA : AQ B w Ps) (hi : Ps[i]? = some p) (hB : B ≤ w.heap.size) (hr : HRow w o.q.2 o.q.1.ps) (hL : (o.q.1.ps.length : Int) ≤ 9223372036854775806) (hK' : o.q.1.ps ≠ [] → ∀ k, o.q.2.ownBlock = some k → k < B) (hk : o.k = 9) : Calls Try.prog 13 #[ptr p.d, ptr p.x, .agg (opA o)] w (AnP B Ps i p w) := by
 obtain ⟨d, x, g, hv, wv, sv, R⟩ := p
 have hp : (⟨d, x, g, hv, wv, sv, R⟩ : PQ) ∈ Ps := List.mem_iff_getElem?.2 ⟨i, hi⟩
 have DG : Keep (DagAt w (UQ Ps) d g) := ⟨hA.1.dg _ hp⟩
 have RA_ : Keep (RAt w x hv wv sv R) := ⟨hA.1.rg _ hp⟩
 have RD : Keep (RRd w x R) := ⟨RA_.out.rd⟩
 have HI : Keep (DI g) := ⟨(hA.2 _ hp).1⟩
 have RI_ : Keep (RI R) := ⟨(hA.2 _ hp).2.1⟩
 have SM : Keep (Sm g R) := ⟨(hA.2 _ hp).2.2⟩
 have HAq := Keep.mk hA
 have HRq := Keep.mk hr
 have HLq := Keep.mk hL
 have HKq := Keep.mk hK'
 clear hA hr hL hK'
 obtain ⟨oo, HOo⟩ : ∃ a : Array Value, Keep (a = opA o) := ⟨_, ⟨rfl⟩⟩
 obtain ⟨vv, hvv⟩ : ∃ a : Array Value, Keep (a = vtx o.q.1.id.f o.q.1.ck o.q.2) := ⟨_, ⟨rfl⟩⟩
 rw [← HOo.out]
 show Calls Try.prog 13 #[ptr d, ptr x, .agg oo] w _
 have hk := Keep.mk hk
 go_enter Try.func13, Try.ntmps13
 refine wp_seq_k fun K1 hK1 => rgn ?_
 refine WL.box (by kernel_rfl) 41 (.tmp 2) rfl (oo) rfl ?_
 obtain ⟨w1, hwn⟩ : ∃ wx, Keep (wx = w.alloc (.cells (oo) 41)) := ⟨_, ⟨rfl⟩⟩
 rw [← hwn.out]
 have HX1 : Keep (Blk w1 w.heap.size 41 (oo)) := ⟨by rw [hwn.out]; exact Blk.new _ _ _⟩
 have U1 : Keep (Below w.heap.size w w1) := ⟨by rw [hwn.out]; exact below_new _ _⟩
 clear hwn
 have HRo : Keep (∀ wx, Below w1.heap.size w1 wx → wx.rangeAt w.heap.size 0 (opA o).toList) := ⟨fun wx hb => by have h := blk_rng (HX1.out.below hb HX1.out.lt); rw [HOo.out] at h; exact h⟩
 have HRh : Keep (∀ wx, Below w1.heap.size w1 wx → wx.rangeAt w.heap.size 36 (encH o.h)) := ⟨fun wx hb => opA_h (HRo.out wx hb)⟩
 have HRv : Keep (∀ wx, Below w1.heap.size w1 wx → wx.rangeAt w.heap.size 2 vv.toList) := ⟨fun wx hb => by rw [hvv.out]; exact opA_v (HRo.out wx hb)⟩
 have V1 : Keep (Below w1.heap.size w1 w1) := ⟨Below.refl _ _⟩
 simp only [Act.put, pqA, pqB, pqC]
 refine VlS (.bool false) ?_
 refine WL.nil (hK1 _ _ ?_)
 refine wp_seq_k fun K2 hK2 => ?_
 refine wp_seq_k fun K3 hK3 => rgn ?_
 refine VlS (.pointer (some ⟨w.heap.size, 0, none⟩)) ?_
 have ck0 : w1.cell? ⟨w.heap.size, 0, none⟩ = some (.int .i64 (9)) := by have h := opA_k (HRo.out w1 V1.out); rw [hk.out] at h; exact h
 refine WL.val (by kernel_rfl) (.int .i64 (9)) (by go_simp) ?_
 clear ck0
 simp only [Act.put, pqA, pqB, pqC]
 refine WL.nil (hK3 _ _ ?_)
 refine wp_block ?_
 refine wp_seq_k fun K4 hK4 => rgn ?_
 refine VlS (.bool false) ?_
 refine VlS (.bool false) ?_
 refine WL.nil (hK4 _ _ ?_)
 refine wp_cond_false rfl ?_
 refine wp_seq_k fun K5 hK5 => rgn ?_
 refine VlS (.bool false) ?_
 refine VlS (.bool false) ?_
 refine WL.nil (hK5 _ _ ?_)
 refine wp_cond_false rfl ?_
 refine wp_seq_k fun K6 hK6 => rgn ?_
 refine VlS (.bool false) ?_
 refine VlS (.bool false) ?_
 refine WL.nil (hK6 _ _ ?_)
 refine wp_cond_false rfl ?_
 refine wp_seq_k fun K7 hK7 => rgn ?_
 refine VlS (.bool false) ?_
 refine VlS (.bool false) ?_
 refine WL.nil (hK7 _ _ ?_)
 refine wp_cond_false rfl ?_
 refine wp_seq_k fun K8 hK8 => rgn ?_
 refine VlS (.bool false) ?_
 refine VlS (.bool false) ?_
 refine WL.nil (hK8 _ _ ?_)
 refine wp_cond_false rfl ?_
 refine wp_seq_k fun K9 hK9 => rgn ?_
 refine VlS (.bool false) ?_
 refine VlS (.bool false) ?_
 refine WL.nil (hK9 _ _ ?_)
 refine wp_cond_false rfl ?_
 refine wp_seq_k fun K10 hK10 => rgn ?_
 refine VlS (.bool false) ?_
 refine VlS (.bool false) ?_
 refine WL.nil (hK10 _ _ ?_)
 refine wp_cond_false rfl ?_
 refine wp_seq_k fun K11 hK11 => rgn ?_
 refine VlS (.bool false) ?_
 refine VlS (.bool false) ?_
 refine WL.nil (hK11 _ _ ?_)
 refine wp_cond_false rfl ?_
 refine wp_seq_k fun K12 hK12 => rgn ?_
 refine VlS (.bool true) ?_
 refine VlS (.bool true) ?_
 refine WL.nil (hK12 _ _ ?_)
 refine wp_cond_true rfl ?_
 refine wp_seq_k fun K13 hK13 => rgn ?_
 refine VlS (.pointer (some ⟨d, 0, none⟩)) ?_
 have hcon := missing_any 0 d g w1 ⟨(DG.out.below U1.out).avInto (fun k hk => (DG.out.av k hk)) (fun k hk => hk), HI.out, fun _ _ => Nat.zero_le _⟩
 refine WL.callF (by kernel_rfl) 50 _ _ rfl Try.in50 #[ptr d] (by simp [Act.eval]) ?_
 refine (hcon).mono ?_
 rintro e w2 ⟨u2, LM, rfl, hf, hp, hm, hl⟩
 refine ⟨_, rfl, ?_⟩
 clear hcon
 have V2 := Keep.mk (belowT V1.out hf.bel)
 have U2 := Keep.mk (belowT U1.out hf.bel)
 have F2 := Keep.mk hf
 have PM1 := Keep.mk hp
 have MM1 := Keep.mk hm
 have L2 : Keep ((LM.length : Int) ≤ 9223372036854775807) := ⟨by omega⟩
 clear hf hp hm hl
 simp only [Act.put, pqA, pqB, pqC]
 refine VlS (.pointer (some ⟨x, 0, none⟩)) ?_
 have hcon := (rmissing_any x R w2 (RD.out.below U2.out) RI_.out).mono (R' := fun e w' => ∃ v', e = .returned v' ∧ Fresh w2 w' v' LM) (fun e w' ⟨v', L', h1, h2, h3, h4, _⟩ => ⟨v', h1, by rw [← rising_unique L' LM h3 PM1.out fun z => by rw [h4, SM.out.mis, MM1.out]]; exact h2⟩)
 refine WL.callF (by kernel_rfl) 51 _ _ rfl Try.in51 #[ptr x] (by simp [Act.eval]) ?_
 refine (hcon).mono ?_
 rintro e w3 ⟨u3, rfl, hf⟩
 refine ⟨_, rfl, ?_⟩
 clear hcon
 have V3 := Keep.mk (belowT V2.out hf.bel)
 have U3 := Keep.mk (belowT U2.out hf.bel)
 have F3 := Keep.mk hf
 have X3 : Keep (Below w2.heap.size w2 w3) := ⟨hf.bel⟩
 clear hf
 simp only [Act.put, pqA, pqB, pqC]
 have hcon := smH_any u2 u3 _ _ w3 (F2.out.own.row.below X3.out) F3.out.own.row L2.out
 rw [decide_eq_true rfl] at hcon
 refine WL.callF (by kernel_rfl) 19 _ _ rfl Try.in19 #[u2, u3] (by simp [Act.eval]) ?_
 refine (hcon).mono ?_
 rintro e w4 ⟨rfl, hz⟩
 refine ⟨_, rfl, ?_⟩
 clear hcon
 have V4 := Keep.mk (belowT V3.out hz)
 have U4 := Keep.mk (belowT U3.out hz)
 clear hz
 simp only [Act.put, pqA, pqB, pqC]
 refine VlS (.bool true) ?_
 refine WL.nil (hK13 _ _ ?_)
 refine wp_ret ?_
 go_ret
 exact ⟨rfl, U4.out.mono hB, Grown.below U4.out, _, rfl, rfl, (HAq.out.below U4.out).self hi, uq_sub hi fun k hk => .inl hk⟩
set_option maxRecDepth 8000 in
set_option maxHeartbeats 4000000 in
theorem an_waiting (B : Nat) (Ps : List PQ) (i : Nat) (p : PQ) (o : OP) (w : World) (hA : AQ B w Ps) (hi : Ps[i]? = some p) (hB : B ≤ w.heap.size) (hr : HRow w o.q.2 o.q.1.ps) (hL : (o.q.1.ps.length : Int) ≤ 9223372036854775806) (hK' : o.q.1.ps ≠ [] → ∀ k, o.q.2.ownBlock = some k → k < B) (hk : o.k = 10) : Calls Try.prog 13 #[ptr p.d, ptr p.x, .agg (opA o)] w (AnP B Ps i p w) := by
 obtain ⟨d, x, g, hv, wv, sv, R⟩ := p
 have hp : (⟨d, x, g, hv, wv, sv, R⟩ : PQ) ∈ Ps := List.mem_iff_getElem?.2 ⟨i, hi⟩
 have DG : Keep (DagAt w (UQ Ps) d g) := ⟨hA.1.dg _ hp⟩
 have RA_ : Keep (RAt w x hv wv sv R) := ⟨hA.1.rg _ hp⟩
 have RD : Keep (RRd w x R) := ⟨RA_.out.rd⟩
 have HI : Keep (DI g) := ⟨(hA.2 _ hp).1⟩
 have RI_ : Keep (RI R) := ⟨(hA.2 _ hp).2.1⟩
 have SM : Keep (Sm g R) := ⟨(hA.2 _ hp).2.2⟩
 have HAq := Keep.mk hA
 have HRq := Keep.mk hr
 have HLq := Keep.mk hL
 have HKq := Keep.mk hK'
 clear hA hr hL hK'
 obtain ⟨oo, HOo⟩ : ∃ a : Array Value, Keep (a = opA o) := ⟨_, ⟨rfl⟩⟩
 obtain ⟨vv, hvv⟩ : ∃ a : Array Value, Keep (a = vtx o.q.1.id.f o.q.1.ck o.q.2) := ⟨_, ⟨rfl⟩⟩
 rw [← HOo.out]
 show Calls Try.prog 13 #[ptr d, ptr x, .agg oo] w _
 have hk := Keep.mk hk
 go_enter Try.func13, Try.ntmps13
 refine wp_seq_k fun K1 hK1 => rgn ?_
 refine WL.box (by kernel_rfl) 41 (.tmp 2) rfl (oo) rfl ?_
 obtain ⟨w1, hwn⟩ : ∃ wx, Keep (wx = w.alloc (.cells (oo) 41)) := ⟨_, ⟨rfl⟩⟩
 rw [← hwn.out]
 have HX1 : Keep (Blk w1 w.heap.size 41 (oo)) := ⟨by rw [hwn.out]; exact Blk.new _ _ _⟩
 have U1 : Keep (Below w.heap.size w w1) := ⟨by rw [hwn.out]; exact below_new _ _⟩
 clear hwn
 have HRo : Keep (∀ wx, Below w1.heap.size w1 wx → wx.rangeAt w.heap.size 0 (opA o).toList) := ⟨fun wx hb => by have h := blk_rng (HX1.out.below hb HX1.out.lt); rw [HOo.out] at h; exact h⟩
 have HRh : Keep (∀ wx, Below w1.heap.size w1 wx → wx.rangeAt w.heap.size 36 (encH o.h)) := ⟨fun wx hb => opA_h (HRo.out wx hb)⟩
 have HRv : Keep (∀ wx, Below w1.heap.size w1 wx → wx.rangeAt w.heap.size 2 vv.toList) := ⟨fun wx hb => by rw [hvv.out]; exact opA_v (HRo.out wx hb)⟩
 have V1 : Keep (Below w1.heap.size w1 w1) := ⟨Below.refl _ _⟩
 simp only [Act.put, pqA, pqB, pqC]
 refine VlS (.bool false) ?_
 refine WL.nil (hK1 _ _ ?_)
 refine wp_seq_k fun K2 hK2 => ?_
 refine wp_seq_k fun K3 hK3 => rgn ?_
 refine VlS (.pointer (some ⟨w.heap.size, 0, none⟩)) ?_
 have ck0 : w1.cell? ⟨w.heap.size, 0, none⟩ = some (.int .i64 (10)) := by have h := opA_k (HRo.out w1 V1.out); rw [hk.out] at h; exact h
 refine WL.val (by kernel_rfl) (.int .i64 (10)) (by go_simp) ?_
 clear ck0
 simp only [Act.put, pqA, pqB, pqC]
 refine WL.nil (hK3 _ _ ?_)
 refine wp_block ?_
 refine wp_seq_k fun K4 hK4 => rgn ?_
 refine VlS (.bool false) ?_
 refine VlS (.bool false) ?_
 refine WL.nil (hK4 _ _ ?_)
 refine wp_cond_false rfl ?_
 refine wp_seq_k fun K5 hK5 => rgn ?_
 refine VlS (.bool false) ?_
 refine VlS (.bool false) ?_
 refine WL.nil (hK5 _ _ ?_)
 refine wp_cond_false rfl ?_
 refine wp_seq_k fun K6 hK6 => rgn ?_
 refine VlS (.bool false) ?_
 refine VlS (.bool false) ?_
 refine WL.nil (hK6 _ _ ?_)
 refine wp_cond_false rfl ?_
 refine wp_seq_k fun K7 hK7 => rgn ?_
 refine VlS (.bool false) ?_
 refine VlS (.bool false) ?_
 refine WL.nil (hK7 _ _ ?_)
 refine wp_cond_false rfl ?_
 refine wp_seq_k fun K8 hK8 => rgn ?_
 refine VlS (.bool false) ?_
 refine VlS (.bool false) ?_
 refine WL.nil (hK8 _ _ ?_)
 refine wp_cond_false rfl ?_
 refine wp_seq_k fun K9 hK9 => rgn ?_
 refine VlS (.bool false) ?_
 refine VlS (.bool false) ?_
 refine WL.nil (hK9 _ _ ?_)
 refine wp_cond_false rfl ?_
 refine wp_seq_k fun K10 hK10 => rgn ?_
 refine VlS (.bool false) ?_
 refine VlS (.bool false) ?_
 refine WL.nil (hK10 _ _ ?_)
 refine wp_cond_false rfl ?_
 refine wp_seq_k fun K11 hK11 => rgn ?_
 refine VlS (.bool false) ?_
 refine VlS (.bool false) ?_
 refine WL.nil (hK11 _ _ ?_)
 refine wp_cond_false rfl ?_
 refine wp_seq_k fun K12 hK12 => rgn ?_
 refine VlS (.bool false) ?_
 refine VlS (.bool false) ?_
 refine WL.nil (hK12 _ _ ?_)
 refine wp_cond_false rfl ?_
 refine wp_seq_k fun K13 hK13 => rgn ?_
 refine VlS (.bool true) ?_
 refine VlS (.bool true) ?_
 refine WL.nil (hK13 _ _ ?_)
 refine wp_cond_true rfl ?_
 refine wp_seq_k fun K14 hK14 => rgn ?_
 refine VlS (.pointer (some ⟨d, 0, none⟩)) ?_
 have hcon := waiting_any d _ g w1 (DG.out.below U1.out) (by have := HI.out.qlen; have := HI.out.wl; omega)
 refine WL.callF (by kernel_rfl) 52 _ _ rfl Try.in52 #[ptr d] (by simp [Act.eval]) ?_
 refine (hcon).mono ?_
 rintro e w2 ⟨u2, rfl, hf⟩
 refine ⟨_, rfl, ?_⟩
 clear hcon
 have V2 := Keep.mk (belowT V1.out hf.bel)
 have U2 := Keep.mk (belowT U1.out hf.bel)
 have F2 := Keep.mk hf
 clear hf
 have L2 : Keep ((g.queue.length : Int) ≤ 9223372036854775807) := ⟨by have := HI.out.qlen; have := HI.out.wl; omega⟩
 simp only [Act.put, pqA, pqB, pqC]
 refine VlS (.pointer (some ⟨x, 0, none⟩)) ?_
 have hcon := (rwaiting_any x R w2 (RD.out.below U2.out) RI_.out).mono (R' := fun e w' => ∃ v', e = .returned v' ∧ Fresh w2 w' v' g.queue) (fun e w' ⟨v', h1, h2⟩ => ⟨v', h1, by rw [← SM.out.wq HI.out]; exact h2⟩)
 refine WL.callF (by kernel_rfl) 53 _ _ rfl Try.in53 #[ptr x] (by simp [Act.eval]) ?_
 refine (hcon).mono ?_
 rintro e w3 ⟨u3, rfl, hf⟩
 refine ⟨_, rfl, ?_⟩
 clear hcon
 have V3 := Keep.mk (belowT V2.out hf.bel)
 have U3 := Keep.mk (belowT U2.out hf.bel)
 have F3 := Keep.mk hf
 have X3 : Keep (Below w2.heap.size w2 w3) := ⟨hf.bel⟩
 clear hf
 simp only [Act.put, pqA, pqB, pqC]
 have hcon := smH_any u2 u3 _ _ w3 (F2.out.own.row.below X3.out) F3.out.own.row L2.out
 rw [decide_eq_true rfl] at hcon
 refine WL.callF (by kernel_rfl) 19 _ _ rfl Try.in19 #[u2, u3] (by simp [Act.eval]) ?_
 refine (hcon).mono ?_
 rintro e w4 ⟨rfl, hz⟩
 refine ⟨_, rfl, ?_⟩
 clear hcon
 have V4 := Keep.mk (belowT V3.out hz)
 have U4 := Keep.mk (belowT U3.out hz)
 clear hz
 simp only [Act.put, pqA, pqB, pqC]
 refine VlS (.bool true) ?_
 refine WL.nil (hK14 _ _ ?_)
 refine wp_ret ?_
 go_ret
 exact ⟨rfl, U4.out.mono hB, Grown.below U4.out, _, rfl, rfl, (HAq.out.below U4.out).self hi, uq_sub hi fun k hk => .inl hk⟩
set_option maxRecDepth 8000 in
set_option maxHeartbeats 4000000 in
theorem an_order (B : Nat) (Ps : List PQ) (i : Nat) (p : PQ) (o : OP) (w : World) (hA : AQ B w Ps) (hi : Ps[i]? = some p) (hB : B ≤ w.heap.size) (hr : HRow w o.q.2 o.q.1.ps) (hL : (o.q.1.ps.length : Int) ≤ 9223372036854775806) (hK' : o.q.1.ps ≠ [] → ∀ k, o.q.2.ownBlock = some k → k < B) (hk : o.k = 11) : Calls Try.prog 13 #[ptr p.d, ptr p.x, .agg (opA o)] w (AnP B Ps i p w) := by
 obtain ⟨d, x, g, hv, wv, sv, R⟩ := p
 have hp : (⟨d, x, g, hv, wv, sv, R⟩ : PQ) ∈ Ps := List.mem_iff_getElem?.2 ⟨i, hi⟩
 have DG : Keep (DagAt w (UQ Ps) d g) := ⟨hA.1.dg _ hp⟩
 have RA_ : Keep (RAt w x hv wv sv R) := ⟨hA.1.rg _ hp⟩
 have RD : Keep (RRd w x R) := ⟨RA_.out.rd⟩
 have HI : Keep (DI g) := ⟨(hA.2 _ hp).1⟩
 have RI_ : Keep (RI R) := ⟨(hA.2 _ hp).2.1⟩
 have SM : Keep (Sm g R) := ⟨(hA.2 _ hp).2.2⟩
 have HAq := Keep.mk hA
 have HRq := Keep.mk hr
 have HLq := Keep.mk hL
 have HKq := Keep.mk hK'
 clear hA hr hL hK'
 obtain ⟨oo, HOo⟩ : ∃ a : Array Value, Keep (a = opA o) := ⟨_, ⟨rfl⟩⟩
 obtain ⟨vv, hvv⟩ : ∃ a : Array Value, Keep (a = vtx o.q.1.id.f o.q.1.ck o.q.2) := ⟨_, ⟨rfl⟩⟩
 rw [← HOo.out]
 show Calls Try.prog 13 #[ptr d, ptr x, .agg oo] w _
 have hk := Keep.mk hk
 go_enter Try.func13, Try.ntmps13
 refine wp_seq_k fun K1 hK1 => rgn ?_
 refine WL.box (by kernel_rfl) 41 (.tmp 2) rfl (oo) rfl ?_
 obtain ⟨w1, hwn⟩ : ∃ wx, Keep (wx = w.alloc (.cells (oo) 41)) := ⟨_, ⟨rfl⟩⟩
 rw [← hwn.out]
 have HX1 : Keep (Blk w1 w.heap.size 41 (oo)) := ⟨by rw [hwn.out]; exact Blk.new _ _ _⟩
 have U1 : Keep (Below w.heap.size w w1) := ⟨by rw [hwn.out]; exact below_new _ _⟩
 clear hwn
 have HRo : Keep (∀ wx, Below w1.heap.size w1 wx → wx.rangeAt w.heap.size 0 (opA o).toList) := ⟨fun wx hb => by have h := blk_rng (HX1.out.below hb HX1.out.lt); rw [HOo.out] at h; exact h⟩
 have HRh : Keep (∀ wx, Below w1.heap.size w1 wx → wx.rangeAt w.heap.size 36 (encH o.h)) := ⟨fun wx hb => opA_h (HRo.out wx hb)⟩
 have HRv : Keep (∀ wx, Below w1.heap.size w1 wx → wx.rangeAt w.heap.size 2 vv.toList) := ⟨fun wx hb => by rw [hvv.out]; exact opA_v (HRo.out wx hb)⟩
 have V1 : Keep (Below w1.heap.size w1 w1) := ⟨Below.refl _ _⟩
 simp only [Act.put, pqA, pqB, pqC]
 refine VlS (.bool false) ?_
 refine WL.nil (hK1 _ _ ?_)
 refine wp_seq_k fun K2 hK2 => ?_
 refine wp_seq_k fun K3 hK3 => rgn ?_
 refine VlS (.pointer (some ⟨w.heap.size, 0, none⟩)) ?_
 have ck0 : w1.cell? ⟨w.heap.size, 0, none⟩ = some (.int .i64 (11)) := by have h := opA_k (HRo.out w1 V1.out); rw [hk.out] at h; exact h
 refine WL.val (by kernel_rfl) (.int .i64 (11)) (by go_simp) ?_
 clear ck0
 simp only [Act.put, pqA, pqB, pqC]
 refine WL.nil (hK3 _ _ ?_)
 refine wp_block ?_
 refine wp_seq_k fun K4 hK4 => rgn ?_
 refine VlS (.bool false) ?_
 refine VlS (.bool false) ?_
 refine WL.nil (hK4 _ _ ?_)
 refine wp_cond_false rfl ?_
 refine wp_seq_k fun K5 hK5 => rgn ?_
 refine VlS (.bool false) ?_
 refine VlS (.bool false) ?_
 refine WL.nil (hK5 _ _ ?_)
 refine wp_cond_false rfl ?_
 refine wp_seq_k fun K6 hK6 => rgn ?_
 refine VlS (.bool false) ?_
 refine VlS (.bool false) ?_
 refine WL.nil (hK6 _ _ ?_)
 refine wp_cond_false rfl ?_
 refine wp_seq_k fun K7 hK7 => rgn ?_
 refine VlS (.bool false) ?_
 refine VlS (.bool false) ?_
 refine WL.nil (hK7 _ _ ?_)
 refine wp_cond_false rfl ?_
 refine wp_seq_k fun K8 hK8 => rgn ?_
 refine VlS (.bool false) ?_
 refine VlS (.bool false) ?_
 refine WL.nil (hK8 _ _ ?_)
 refine wp_cond_false rfl ?_
 refine wp_seq_k fun K9 hK9 => rgn ?_
 refine VlS (.bool false) ?_
 refine VlS (.bool false) ?_
 refine WL.nil (hK9 _ _ ?_)
 refine wp_cond_false rfl ?_
 refine wp_seq_k fun K10 hK10 => rgn ?_
 refine VlS (.bool false) ?_
 refine VlS (.bool false) ?_
 refine WL.nil (hK10 _ _ ?_)
 refine wp_cond_false rfl ?_
 refine wp_seq_k fun K11 hK11 => rgn ?_
 refine VlS (.bool false) ?_
 refine VlS (.bool false) ?_
 refine WL.nil (hK11 _ _ ?_)
 refine wp_cond_false rfl ?_
 refine wp_seq_k fun K12 hK12 => rgn ?_
 refine VlS (.bool false) ?_
 refine VlS (.bool false) ?_
 refine WL.nil (hK12 _ _ ?_)
 refine wp_cond_false rfl ?_
 refine wp_seq_k fun K13 hK13 => rgn ?_
 refine VlS (.bool false) ?_
 refine VlS (.bool false) ?_
 refine WL.nil (hK13 _ _ ?_)
 refine wp_cond_false rfl ?_
 refine wp_seq_k fun K14 hK14 => rgn ?_
 refine VlS (.bool true) ?_
 refine VlS (.bool true) ?_
 refine WL.nil (hK14 _ _ ?_)
 refine wp_cond_true rfl ?_
 refine wp_seq_k fun K15 hK15 => rgn ?_
 refine VlS (.pointer (some ⟨d, 0, none⟩)) ?_
 have hcon := order_any d _ g w1 (DG.out.below U1.out) (by have := HI.out.ol; have := HI.out.hl; omega)
 refine WL.callF (by kernel_rfl) 21 _ _ rfl Try.in21 #[ptr d] (by simp [Act.eval]) ?_
 refine (hcon).mono ?_
 rintro e w2 ⟨u2, rfl, hf⟩
 refine ⟨_, rfl, ?_⟩
 clear hcon
 have V2 := Keep.mk (belowT V1.out hf.bel)
 have U2 := Keep.mk (belowT U1.out hf.bel)
 have F2 := Keep.mk hf
 clear hf
 have L2 : Keep ((g.order.length : Int) ≤ 9223372036854775807) := ⟨by have := HI.out.ol; have := HI.out.hl; omega⟩
 simp only [Act.put, pqA, pqB, pqC]
 refine VlS (.pointer (some ⟨x, 0, none⟩)) ?_
 have hcon := rOrd_any x R g.order w2 (RD.out.below U2.out) RI_.out (by rw [SM.out.hs]; exact HI.out.hn) (fun v hv => by rw [SM.out.hs] at hv; exact (chk_ok (HI.out.hc v hv)).2.1) (by rw [SM.out.hs]; exact HI.out.oo) (fun z => by rw [SM.out.hs, HI.out.om, hasB_mem])
 refine WL.callF (by kernel_rfl) 54 _ _ rfl Try.in54 #[ptr x] (by simp [Act.eval]) ?_
 refine (hcon).mono ?_
 rintro e w3 ⟨u3, rfl, hf⟩
 refine ⟨_, rfl, ?_⟩
 clear hcon
 have V3 := Keep.mk (belowT V2.out hf.bel)
 have U3 := Keep.mk (belowT U2.out hf.bel)
 have F3 := Keep.mk hf
 have X3 : Keep (Below w2.heap.size w2 w3) := ⟨hf.bel⟩
 clear hf
 simp only [Act.put, pqA, pqB, pqC]
 have hcon := smH_any u2 u3 _ _ w3 (F2.out.own.row.below X3.out) F3.out.own.row L2.out
 rw [decide_eq_true rfl] at hcon
 refine WL.callF (by kernel_rfl) 19 _ _ rfl Try.in19 #[u2, u3] (by simp [Act.eval]) ?_
 refine (hcon).mono ?_
 rintro e w4 ⟨rfl, hz⟩
 refine ⟨_, rfl, ?_⟩
 clear hcon
 have V4 := Keep.mk (belowT V3.out hz)
 have U4 := Keep.mk (belowT U3.out hz)
 clear hz
 simp only [Act.put, pqA, pqB, pqC]
 refine VlS (.bool true) ?_
 refine WL.nil (hK15 _ _ ?_)
 refine wp_ret ?_
 go_ret
 exact ⟨rfl, U4.out.mono hB, Grown.below U4.out, _, rfl, rfl, (HAq.out.below U4.out).self hi, uq_sub hi fun k hk => .inl hk⟩
set_option maxRecDepth 8000 in
set_option maxHeartbeats 4000000 in
theorem an_fit (B : Nat) (Ps : List PQ) (i : Nat) (p : PQ) (o : OP) (w : World) (hA : AQ B w Ps) (hi : Ps[i]? = some p) (hB : B ≤ w.heap.size) (hr : HRow w o.q.2 o.q.1.ps) (hL : (o.q.1.ps.length : Int) ≤ 9223372036854775806) (hK' : o.q.1.ps ≠ [] → ∀ k, o.q.2.ownBlock = some k → k < B) (hk : o.k = 2) : Calls Try.prog 13 #[ptr p.d, ptr p.x, .agg (opA o)] w (AnP B Ps i p w) := by
 obtain ⟨d, x, g, hv, wv, sv, R⟩ := p
 have hp : (⟨d, x, g, hv, wv, sv, R⟩ : PQ) ∈ Ps := List.mem_iff_getElem?.2 ⟨i, hi⟩
 have DG : Keep (DagAt w (UQ Ps) d g) := ⟨hA.1.dg _ hp⟩
 have RA_ : Keep (RAt w x hv wv sv R) := ⟨hA.1.rg _ hp⟩
 have RD : Keep (RRd w x R) := ⟨RA_.out.rd⟩
 have HI : Keep (DI g) := ⟨(hA.2 _ hp).1⟩
 have RI_ : Keep (RI R) := ⟨(hA.2 _ hp).2.1⟩
 have SM : Keep (Sm g R) := ⟨(hA.2 _ hp).2.2⟩
 have HAq := Keep.mk hA
 have HRq := Keep.mk hr
 have HLq := Keep.mk hL
 have HKq := Keep.mk hK'
 clear hA hr hL hK'
 obtain ⟨oo, HOo⟩ : ∃ a : Array Value, Keep (a = opA o) := ⟨_, ⟨rfl⟩⟩
 obtain ⟨vv, hvv⟩ : ∃ a : Array Value, Keep (a = vtx o.q.1.id.f o.q.1.ck o.q.2) := ⟨_, ⟨rfl⟩⟩
 rw [← HOo.out]
 show Calls Try.prog 13 #[ptr d, ptr x, .agg oo] w _
 have hk := Keep.mk hk
 obtain ⟨hw, ee, hfe⟩ : ∃ a b, Keep (fitV g.held g.wait o.q.1 = (a, b)) := ⟨_, _, ⟨rfl⟩⟩
 go_enter Try.func13, Try.ntmps13
 refine wp_seq_k fun K1 hK1 => rgn ?_
 refine WL.box (by kernel_rfl) 41 (.tmp 2) rfl (oo) rfl ?_
 obtain ⟨w1, hwn⟩ : ∃ wx, Keep (wx = w.alloc (.cells (oo) 41)) := ⟨_, ⟨rfl⟩⟩
 rw [← hwn.out]
 have HX1 : Keep (Blk w1 w.heap.size 41 (oo)) := ⟨by rw [hwn.out]; exact Blk.new _ _ _⟩
 have U1 : Keep (Below w.heap.size w w1) := ⟨by rw [hwn.out]; exact below_new _ _⟩
 clear hwn
 have HRo : Keep (∀ wx, Below w1.heap.size w1 wx → wx.rangeAt w.heap.size 0 (opA o).toList) := ⟨fun wx hb => by have h := blk_rng (HX1.out.below hb HX1.out.lt); rw [HOo.out] at h; exact h⟩
 have HRh : Keep (∀ wx, Below w1.heap.size w1 wx → wx.rangeAt w.heap.size 36 (encH o.h)) := ⟨fun wx hb => opA_h (HRo.out wx hb)⟩
 have HRv : Keep (∀ wx, Below w1.heap.size w1 wx → wx.rangeAt w.heap.size 2 vv.toList) := ⟨fun wx hb => by rw [hvv.out]; exact opA_v (HRo.out wx hb)⟩
 have V1 : Keep (Below w1.heap.size w1 w1) := ⟨Below.refl _ _⟩
 simp only [Act.put, pqA, pqB, pqC]
 refine VlS (.bool false) ?_
 refine WL.nil (hK1 _ _ ?_)
 refine wp_seq_k fun K2 hK2 => ?_
 refine wp_seq_k fun K3 hK3 => rgn ?_
 refine VlS (.pointer (some ⟨w.heap.size, 0, none⟩)) ?_
 have ck0 : w1.cell? ⟨w.heap.size, 0, none⟩ = some (.int .i64 (2)) := by have h := opA_k (HRo.out w1 V1.out); rw [hk.out] at h; exact h
 refine WL.val (by kernel_rfl) (.int .i64 (2)) (by go_simp) ?_
 clear ck0
 simp only [Act.put, pqA, pqB, pqC]
 refine WL.nil (hK3 _ _ ?_)
 refine wp_block ?_
 refine wp_seq_k fun K4 hK4 => rgn ?_
 refine VlS (.bool false) ?_
 refine VlS (.bool false) ?_
 refine WL.nil (hK4 _ _ ?_)
 refine wp_cond_false rfl ?_
 refine wp_seq_k fun K5 hK5 => rgn ?_
 refine VlS (.bool true) ?_
 refine VlS (.bool true) ?_
 refine WL.nil (hK5 _ _ ?_)
 refine wp_cond_true rfl ?_
 refine wp_seq_k fun K6 hK6 => rgn ?_
 refine VlS (.pointer (some ⟨d, 0, none⟩)) ?_
 refine VlS (.pointer (some ⟨w.heap.size, 2, none⟩)) ?_
 refine WL.midA (by kernel_rfl) 39 (.tmp 88) rfl w.heap.size 2 rfl vv _ (HRv.out _ V1.out) Try.underlying39 rfl (by rw [hvv.out]; exact Try.info39s _ _ _) ?_
 simp only [Act.put, pqA, pqB, pqC]
 have hcon := fit_any d o.q.1 o.q.2 _ g w1 (DG.out.below U1.out) (HRq.out.below U1.out) HI.out.hM HLq.out
 rw [← hvv.out, hfe.out] at hcon
 refine WL.callF (by kernel_rfl) 28 _ _ rfl Try.in28 #[ptr d, .agg vv] (by simp [Act.eval]) ?_
 refine (hcon).mono ?_
 rintro e w2 ⟨rfl, hz⟩
 refine ⟨_, rfl, ?_⟩
 clear hcon
 have V2 := Keep.mk (belowT V1.out hz)
 have U2 := Keep.mk (belowT U1.out hz)
 clear hz
 simp only [Act.put, pqA, pqB, pqC]
 refine VlS (.tuple #[.int .i64 hw, .int .i64 ee]) ?_
 refine VlS (.int .i64 hw) ?_
 refine VlS (.int .i64 ee) ?_
 refine VlS (.int .i64 hw) ?_
 refine VlS (.int .i64 ee) ?_
 refine WL.nil (hK6 _ _ ?_)
 refine wp_seq_k fun K7 hK7 => rgn ?_
 refine VlS (.pointer (some ⟨x, 0, none⟩)) ?_
 refine VlS (.pointer (some ⟨w.heap.size, 2, none⟩)) ?_
 refine WL.midA (by kernel_rfl) 39 (.tmp 95) rfl w.heap.size 2 rfl vv _ (HRv.out _ V2.out) Try.underlying39 rfl (by rw [hvv.out]; exact Try.info39s _ _ _) ?_
 simp only [Act.put, pqA, pqB, pqC]
 have hcon := rfit_any x o.q.1 o.q.2 R w2 (RD.out.below U2.out) RI_.out (HRq.out.below U2.out) HLq.out
 rw [← hvv.out, SM.out.hs, SM.out.ws, hfe.out] at hcon
 refine WL.callF (by kernel_rfl) 37 _ _ rfl Try.in37 #[ptr x, .agg vv] (by simp [Act.eval]) ?_
 refine (hcon).mono ?_
 rintro e w3 ⟨rfl, hz⟩
 refine ⟨_, rfl, ?_⟩
 clear hcon
 have V3 := Keep.mk (belowT V2.out hz)
 have U3 := Keep.mk (belowT U2.out hz)
 clear hz
 simp only [Act.put, pqA, pqB, pqC]
 refine VlS (.tuple #[.int .i64 hw, .int .i64 ee]) ?_
 refine VlS (.int .i64 hw) ?_
 refine VlS (.int .i64 ee) ?_
 refine VlS (.int .i64 hw) ?_
 refine VlS (.int .i64 ee) ?_
 refine WL.nil (hK7 _ _ ?_)
 refine wp_seq_k fun K8 hK8 => rgn ?_
 refine VlS (.int .i64 hw) ?_
 refine VlS (.int .i64 hw) ?_
 refine VlS (.bool true) ?_
 refine VlS (.bool true) ?_
 refine VlS (.int .i64 ee) ?_
 refine VlS (.int .i64 ee) ?_
 refine VlS (.bool true) ?_
 refine VlS (.bool true) ?_
 refine VlS (.bool true) ?_
 refine WL.nil (hK8 _ _ ?_)
 refine wp_ret ?_
 go_ret
 exact ⟨rfl, U3.out.mono hB, Grown.below U3.out, _, rfl, rfl, (HAq.out.below U3.out).self hi, uq_sub hi fun k hk => .inl hk⟩
set_option maxRecDepth 8000 in
set_option maxHeartbeats 4000000 in
theorem an_ready (B : Nat) (Ps : List PQ) (i : Nat) (p : PQ) (o : OP) (w : World) (hA : AQ B w Ps) (hi : Ps[i]? = some p) (hB : B ≤ w.heap.size) (hr : HRow w o.q.2 o.q.1.ps) (hL : (o.q.1.ps.length : Int) ≤ 9223372036854775806) (hK' : o.q.1.ps ≠ [] → ∀ k, o.q.2.ownBlock = some k → k < B) (hk : o.k = 4) : Calls Try.prog 13 #[ptr p.d, ptr p.x, .agg (opA o)] w (AnP B Ps i p w) := by
 obtain ⟨d, x, g, hv, wv, sv, R⟩ := p
 have hp : (⟨d, x, g, hv, wv, sv, R⟩ : PQ) ∈ Ps := List.mem_iff_getElem?.2 ⟨i, hi⟩
 have DG : Keep (DagAt w (UQ Ps) d g) := ⟨hA.1.dg _ hp⟩
 have RA_ : Keep (RAt w x hv wv sv R) := ⟨hA.1.rg _ hp⟩
 have RD : Keep (RRd w x R) := ⟨RA_.out.rd⟩
 have HI : Keep (DI g) := ⟨(hA.2 _ hp).1⟩
 have RI_ : Keep (RI R) := ⟨(hA.2 _ hp).2.1⟩
 have SM : Keep (Sm g R) := ⟨(hA.2 _ hp).2.2⟩
 have HAq := Keep.mk hA
 have HRq := Keep.mk hr
 have HLq := Keep.mk hL
 have HKq := Keep.mk hK'
 clear hA hr hL hK'
 obtain ⟨oo, HOo⟩ : ∃ a : Array Value, Keep (a = opA o) := ⟨_, ⟨rfl⟩⟩
 obtain ⟨vv, hvv⟩ : ∃ a : Array Value, Keep (a = vtx o.q.1.id.f o.q.1.ck o.q.2) := ⟨_, ⟨rfl⟩⟩
 rw [← HOo.out]
 show Calls Try.prog 13 #[ptr d, ptr x, .agg oo] w _
 have hk := Keep.mk hk
 obtain ⟨ee, hee⟩ : ∃ a, Keep (rdyE g.held g.wait o.h = a) := ⟨_, ⟨rfl⟩⟩
 go_enter Try.func13, Try.ntmps13
 refine wp_seq_k fun K1 hK1 => rgn ?_
 refine WL.box (by kernel_rfl) 41 (.tmp 2) rfl (oo) rfl ?_
 obtain ⟨w1, hwn⟩ : ∃ wx, Keep (wx = w.alloc (.cells (oo) 41)) := ⟨_, ⟨rfl⟩⟩
 rw [← hwn.out]
 have HX1 : Keep (Blk w1 w.heap.size 41 (oo)) := ⟨by rw [hwn.out]; exact Blk.new _ _ _⟩
 have U1 : Keep (Below w.heap.size w w1) := ⟨by rw [hwn.out]; exact below_new _ _⟩
 clear hwn
 have HRo : Keep (∀ wx, Below w1.heap.size w1 wx → wx.rangeAt w.heap.size 0 (opA o).toList) := ⟨fun wx hb => by have h := blk_rng (HX1.out.below hb HX1.out.lt); rw [HOo.out] at h; exact h⟩
 have HRh : Keep (∀ wx, Below w1.heap.size w1 wx → wx.rangeAt w.heap.size 36 (encH o.h)) := ⟨fun wx hb => opA_h (HRo.out wx hb)⟩
 have HRv : Keep (∀ wx, Below w1.heap.size w1 wx → wx.rangeAt w.heap.size 2 vv.toList) := ⟨fun wx hb => by rw [hvv.out]; exact opA_v (HRo.out wx hb)⟩
 have V1 : Keep (Below w1.heap.size w1 w1) := ⟨Below.refl _ _⟩
 simp only [Act.put, pqA, pqB, pqC]
 refine VlS (.bool false) ?_
 refine WL.nil (hK1 _ _ ?_)
 refine wp_seq_k fun K2 hK2 => ?_
 refine wp_seq_k fun K3 hK3 => rgn ?_
 refine VlS (.pointer (some ⟨w.heap.size, 0, none⟩)) ?_
 have ck0 : w1.cell? ⟨w.heap.size, 0, none⟩ = some (.int .i64 (4)) := by have h := opA_k (HRo.out w1 V1.out); rw [hk.out] at h; exact h
 refine WL.val (by kernel_rfl) (.int .i64 (4)) (by go_simp) ?_
 clear ck0
 simp only [Act.put, pqA, pqB, pqC]
 refine WL.nil (hK3 _ _ ?_)
 refine wp_block ?_
 refine wp_seq_k fun K4 hK4 => rgn ?_
 refine VlS (.bool false) ?_
 refine VlS (.bool false) ?_
 refine WL.nil (hK4 _ _ ?_)
 refine wp_cond_false rfl ?_
 refine wp_seq_k fun K5 hK5 => rgn ?_
 refine VlS (.bool false) ?_
 refine VlS (.bool false) ?_
 refine WL.nil (hK5 _ _ ?_)
 refine wp_cond_false rfl ?_
 refine wp_seq_k fun K6 hK6 => rgn ?_
 refine VlS (.bool false) ?_
 refine VlS (.bool false) ?_
 refine WL.nil (hK6 _ _ ?_)
 refine wp_cond_false rfl ?_
 refine wp_seq_k fun K7 hK7 => rgn ?_
 refine VlS (.bool true) ?_
 refine VlS (.bool true) ?_
 refine WL.nil (hK7 _ _ ?_)
 refine wp_cond_true rfl ?_
 refine wp_seq_k fun K8 hK8 => ?_
 have V1d : Keep (Below w1.heap.size w1 w1.drew) := ⟨(Below.refl _ _).drew⟩
 have U1d : Keep (Below w.heap.size w w1.drew) := ⟨belowT U1.out V1d.out⟩
 have hS0 : Keep (∀ wx, Below w1.heap.size w1 wx → wx.rangeAt w.heap.size 36 (encH o.h)) := ⟨HRh.out⟩
 refine wp_region_held_drew (S := fun wx : World => wx.rangeAt w.heap.size 36 (encH o.h)) (by kernel_rfl) (hS0.out _ V1d.out) (fun hHeld => ?_)
 refine tkS (i := 0) (oi := ⟨some 130, Op.move (Operand.tmp 0), 27, _, _, none⟩) (v := .pointer (some ⟨d, 0, none⟩)) rfl (Or.inl ⟨by rfl, fun w hS => by clear hS; go_simp⟩) hHeld ?_
 refine tkS (i := 1) (oi := ⟨some 131, Op.fieldAddr 41 (Operand.tmp 5) 3, 0, _, _, none⟩) (v := .pointer (some ⟨w.heap.size, 36, none⟩)) rfl (Or.inl ⟨by rfl, fun w hS => by clear hS; go_simp⟩) hHeld ?_
 refine tkS (i := 2) (oi := ⟨some 132, Op.load 36 (Operand.tmp 131), 36, _, _, none⟩) (v := .agg (bytesA 32 o.h.f)) rfl (yieldsIf_ldE (by rfl) (Operand.tmp 131) rfl w.heap.size 36 rfl o.h fun w hS => hS) hHeld ?_
 refine tkS (i := 4) (oi := ⟨some 134, Op.move (Operand.tmp 1), 31, _, _, none⟩) (v := .pointer (some ⟨x, 0, none⟩)) rfl (Or.inl ⟨by rfl, fun w hS => by clear hS; go_simp⟩) hHeld ?_
 refine tkS (i := 5) (oi := ⟨some 135, Op.fieldAddr 41 (Operand.tmp 5) 3, 0, _, _, none⟩) (v := .pointer (some ⟨w.heap.size, 36, none⟩)) rfl (Or.inl ⟨by rfl, fun w hS => by clear hS; go_simp⟩) hHeld ?_
 refine tkS (i := 6) (oi := ⟨some 136, Op.load 36 (Operand.tmp 135), 36, _, _, none⟩) (v := .agg (bytesA 32 o.h.f)) rfl (yieldsIf_ldE (by rfl) (Operand.tmp 135) rfl w.heap.size 36 rfl o.h fun w hS => hS) hHeld ?_
 refine wpAnyH_ready (rs := [3]) (by kernel_rfl) (by simp) ?_
 refine AllReadyH.cons (o := ⟨some 133, Op.call { callee := Callee.value (Operand.func 40), args := #[Operand.tmp 130, Operand.tmp 132], argTypes := #[27, 36] }, 28, _, _, none⟩) rfl (fun K hK => ?_) AllReadyH.nil
 rw [if_pos (by rfl)]
 have hcon := ready_any d o.h _ g w1.drew (DG.out.below U1d.out) HI.out.hM (fun v hv => by have := chk_ok (HI.out.wc v (List.mem_of_find?_eq_some hv)); omega)
 rw [hee.out] at hcon
 refine wp_callF 40 _ _ rfl Try.in40 #[ptr d, .agg (bytesA 32 o.h.f)] (by simp [Act.eval]) (fun u wx => u = .int .i64 ee ∧ Below w1.drew.heap.size w1.drew wx) (hcon.mono fun e w' ⟨h1, h2⟩ => ⟨_, h1, rfl, h2⟩) ?_
 clear hcon
 rintro _ w2 ⟨rfl, hz⟩
 have V2 := Keep.mk (belowT V1d.out hz)
 have U2 := Keep.mk (belowT U1d.out hz)
 clear hz
 refine hK _ _ (hS0.out _ V2.out) fun hH2 => ?_
 clear hK
 simp only [Act.put, pqA, pqB, pqC]
 refine wpAnyH_ready (rs := [7]) (by kernel_rfl) (by simp) ?_
 refine AllReadyH.cons (o := ⟨some 137, Op.call { callee := Callee.value (Operand.func 41), args := #[Operand.tmp 134, Operand.tmp 136], argTypes := #[31, 36] }, 28, _, _, none⟩) rfl (fun K hK => ?_) AllReadyH.nil
 rw [if_pos (by rfl)]
 have hcon := rready_any x o.h R w2 (RD.out.below U2.out) RI_.out
 rw [SM.out.hs, SM.out.ws, hee.out] at hcon
 refine wp_callF 41 _ _ rfl Try.in41 #[ptr x, .agg (bytesA 32 o.h.f)] (by simp [Act.eval]) (fun u wx => u = .int .i64 ee ∧ Below w2.heap.size w2 wx) (hcon.mono fun e w' ⟨h1, h2⟩ => ⟨_, h1, rfl, h2⟩) ?_
 clear hcon
 rintro _ w3 ⟨rfl, hz⟩
 have V3 := Keep.mk (belowT V2.out hz)
 have U3 := Keep.mk (belowT U2.out hz)
 clear hz
 refine hK _ _ (hS0.out _ V3.out) fun hH3 => ?_
 clear hK
 simp only [Act.put, pqA, pqB, pqC]
 refine tkS (i := 8) (oi := ⟨some 138, Op.binOp BinOp.eql 28 (Operand.tmp 133) (Operand.tmp 137) 28, 4, _, _, none⟩) (v := .bool true) rfl (Or.inl ⟨by rfl, fun w hS => by clear hS; go_simp⟩) hH3 ?_
 refine tkS (i := 9) (oi := ⟨some 6, Op.assign (Operand.tmp 138), 4, _, _, none⟩) (v := .bool true) rfl (Or.inl ⟨by rfl, fun w hS => by clear hS; go_simp⟩) hH3 ?_
 refine wpAnyH_done (by kernel_rfl) ?_ _
 refine hK8 _ _ ?_
 refine wp_ret ?_
 go_ret
 exact ⟨rfl, U3.out.mono hB, Grown.below U3.out, _, rfl, rfl, (HAq.out.below U3.out).self hi, uq_sub hi fun k hk => .inl hk⟩
set_option maxRecDepth 8000 in
set_option maxHeartbeats 4000000 in
theorem an_clock (B : Nat) (Ps : List PQ) (i : Nat) (p : PQ) (o : OP) (w : World) (hA : AQ B w Ps) (hi : Ps[i]? = some p) (hB : B ≤ w.heap.size) (hr : HRow w o.q.2 o.q.1.ps) (hL : (o.q.1.ps.length : Int) ≤ 9223372036854775806) (hK' : o.q.1.ps ≠ [] → ∀ k, o.q.2.ownBlock = some k → k < B) (hk : o.k = 13) : Calls Try.prog 13 #[ptr p.d, ptr p.x, .agg (opA o)] w (AnP B Ps i p w) := by
 obtain ⟨d, x, g, hv, wv, sv, R⟩ := p
 have hp : (⟨d, x, g, hv, wv, sv, R⟩ : PQ) ∈ Ps := List.mem_iff_getElem?.2 ⟨i, hi⟩
 have DG : Keep (DagAt w (UQ Ps) d g) := ⟨hA.1.dg _ hp⟩
 have RA_ : Keep (RAt w x hv wv sv R) := ⟨hA.1.rg _ hp⟩
 have RD : Keep (RRd w x R) := ⟨RA_.out.rd⟩
 have HI : Keep (DI g) := ⟨(hA.2 _ hp).1⟩
 have RI_ : Keep (RI R) := ⟨(hA.2 _ hp).2.1⟩
 have SM : Keep (Sm g R) := ⟨(hA.2 _ hp).2.2⟩
 have HAq := Keep.mk hA
 have HRq := Keep.mk hr
 have HLq := Keep.mk hL
 have HKq := Keep.mk hK'
 clear hA hr hL hK'
 obtain ⟨oo, HOo⟩ : ∃ a : Array Value, Keep (a = opA o) := ⟨_, ⟨rfl⟩⟩
 obtain ⟨vv, hvv⟩ : ∃ a : Array Value, Keep (a = vtx o.q.1.id.f o.q.1.ck o.q.2) := ⟨_, ⟨rfl⟩⟩
 rw [← HOo.out]
 show Calls Try.prog 13 #[ptr d, ptr x, .agg oo] w _
 have hk := Keep.mk hk
 obtain ⟨cc, hcc⟩ : ∃ a, Keep (ckOf g.held o.h = a) := ⟨_, ⟨rfl⟩⟩
 go_enter Try.func13, Try.ntmps13
 refine wp_seq_k fun K1 hK1 => rgn ?_
 refine WL.box (by kernel_rfl) 41 (.tmp 2) rfl (oo) rfl ?_
 obtain ⟨w1, hwn⟩ : ∃ wx, Keep (wx = w.alloc (.cells (oo) 41)) := ⟨_, ⟨rfl⟩⟩
 rw [← hwn.out]
 have HX1 : Keep (Blk w1 w.heap.size 41 (oo)) := ⟨by rw [hwn.out]; exact Blk.new _ _ _⟩
 have U1 : Keep (Below w.heap.size w w1) := ⟨by rw [hwn.out]; exact below_new _ _⟩
 clear hwn
 have HRo : Keep (∀ wx, Below w1.heap.size w1 wx → wx.rangeAt w.heap.size 0 (opA o).toList) := ⟨fun wx hb => by have h := blk_rng (HX1.out.below hb HX1.out.lt); rw [HOo.out] at h; exact h⟩
 have HRh : Keep (∀ wx, Below w1.heap.size w1 wx → wx.rangeAt w.heap.size 36 (encH o.h)) := ⟨fun wx hb => opA_h (HRo.out wx hb)⟩
 have HRv : Keep (∀ wx, Below w1.heap.size w1 wx → wx.rangeAt w.heap.size 2 vv.toList) := ⟨fun wx hb => by rw [hvv.out]; exact opA_v (HRo.out wx hb)⟩
 have V1 : Keep (Below w1.heap.size w1 w1) := ⟨Below.refl _ _⟩
 simp only [Act.put, pqA, pqB, pqC]
 refine VlS (.bool false) ?_
 refine WL.nil (hK1 _ _ ?_)
 refine wp_seq_k fun K2 hK2 => ?_
 refine wp_seq_k fun K3 hK3 => rgn ?_
 refine VlS (.pointer (some ⟨w.heap.size, 0, none⟩)) ?_
 have ck0 : w1.cell? ⟨w.heap.size, 0, none⟩ = some (.int .i64 (13)) := by have h := opA_k (HRo.out w1 V1.out); rw [hk.out] at h; exact h
 refine WL.val (by kernel_rfl) (.int .i64 (13)) (by go_simp) ?_
 clear ck0
 simp only [Act.put, pqA, pqB, pqC]
 refine WL.nil (hK3 _ _ ?_)
 refine wp_block ?_
 refine wp_seq_k fun K4 hK4 => rgn ?_
 refine VlS (.bool false) ?_
 refine VlS (.bool false) ?_
 refine WL.nil (hK4 _ _ ?_)
 refine wp_cond_false rfl ?_
 refine wp_seq_k fun K5 hK5 => rgn ?_
 refine VlS (.bool false) ?_
 refine VlS (.bool false) ?_
 refine WL.nil (hK5 _ _ ?_)
 refine wp_cond_false rfl ?_
 refine wp_seq_k fun K6 hK6 => rgn ?_
 refine VlS (.bool false) ?_
 refine VlS (.bool false) ?_
 refine WL.nil (hK6 _ _ ?_)
 refine wp_cond_false rfl ?_
 refine wp_seq_k fun K7 hK7 => rgn ?_
 refine VlS (.bool false) ?_
 refine VlS (.bool false) ?_
 refine WL.nil (hK7 _ _ ?_)
 refine wp_cond_false rfl ?_
 refine wp_seq_k fun K8 hK8 => rgn ?_
 refine VlS (.bool false) ?_
 refine VlS (.bool false) ?_
 refine WL.nil (hK8 _ _ ?_)
 refine wp_cond_false rfl ?_
 refine wp_seq_k fun K9 hK9 => rgn ?_
 refine VlS (.bool false) ?_
 refine VlS (.bool false) ?_
 refine WL.nil (hK9 _ _ ?_)
 refine wp_cond_false rfl ?_
 refine wp_seq_k fun K10 hK10 => rgn ?_
 refine VlS (.bool false) ?_
 refine VlS (.bool false) ?_
 refine WL.nil (hK10 _ _ ?_)
 refine wp_cond_false rfl ?_
 refine wp_seq_k fun K11 hK11 => rgn ?_
 refine VlS (.bool false) ?_
 refine VlS (.bool false) ?_
 refine WL.nil (hK11 _ _ ?_)
 refine wp_cond_false rfl ?_
 refine wp_seq_k fun K12 hK12 => rgn ?_
 refine VlS (.bool false) ?_
 refine VlS (.bool false) ?_
 refine WL.nil (hK12 _ _ ?_)
 refine wp_cond_false rfl ?_
 refine wp_seq_k fun K13 hK13 => rgn ?_
 refine VlS (.bool false) ?_
 refine VlS (.bool false) ?_
 refine WL.nil (hK13 _ _ ?_)
 refine wp_cond_false rfl ?_
 refine wp_seq_k fun K14 hK14 => rgn ?_
 refine VlS (.bool false) ?_
 refine VlS (.bool false) ?_
 refine WL.nil (hK14 _ _ ?_)
 refine wp_cond_false rfl ?_
 refine wp_seq_k fun K15 hK15 => rgn ?_
 refine VlS (.bool false) ?_
 refine VlS (.bool false) ?_
 refine WL.nil (hK15 _ _ ?_)
 refine wp_cond_false rfl ?_
 refine wp_seq_k fun K16 hK16 => rgn ?_
 refine VlS (.bool true) ?_
 refine VlS (.bool true) ?_
 refine WL.nil (hK16 _ _ ?_)
 refine wp_cond_true rfl ?_
 refine wp_seq_k fun K17 hK17 => ?_
 have V1d : Keep (Below w1.heap.size w1 w1.drew) := ⟨(Below.refl _ _).drew⟩
 have U1d : Keep (Below w.heap.size w w1.drew) := ⟨belowT U1.out V1d.out⟩
 have hS0 : Keep (∀ wx, Below w1.heap.size w1 wx → wx.rangeAt w.heap.size 36 (encH o.h)) := ⟨HRh.out⟩
 refine wp_region_held_drew (S := fun wx : World => wx.rangeAt w.heap.size 36 (encH o.h)) (by kernel_rfl) (hS0.out _ V1d.out) (fun hHeld => ?_)
 refine tkS (i := 0) (oi := ⟨some 250, Op.move (Operand.tmp 0), 27, _, _, none⟩) (v := .pointer (some ⟨d, 0, none⟩)) rfl (Or.inl ⟨by rfl, fun w hS => by clear hS; go_simp⟩) hHeld ?_
 refine tkS (i := 1) (oi := ⟨some 251, Op.fieldAddr 41 (Operand.tmp 5) 3, 0, _, _, none⟩) (v := .pointer (some ⟨w.heap.size, 36, none⟩)) rfl (Or.inl ⟨by rfl, fun w hS => by clear hS; go_simp⟩) hHeld ?_
 refine tkS (i := 2) (oi := ⟨some 252, Op.load 36 (Operand.tmp 251), 36, _, _, none⟩) (v := .agg (bytesA 32 o.h.f)) rfl (yieldsIf_ldE (by rfl) (Operand.tmp 251) rfl w.heap.size 36 rfl o.h fun w hS => hS) hHeld ?_
 refine tkS (i := 4) (oi := ⟨some 254, Op.move (Operand.tmp 1), 31, _, _, none⟩) (v := .pointer (some ⟨x, 0, none⟩)) rfl (Or.inl ⟨by rfl, fun w hS => by clear hS; go_simp⟩) hHeld ?_
 refine tkS (i := 5) (oi := ⟨some 255, Op.fieldAddr 41 (Operand.tmp 5) 3, 0, _, _, none⟩) (v := .pointer (some ⟨w.heap.size, 36, none⟩)) rfl (Or.inl ⟨by rfl, fun w hS => by clear hS; go_simp⟩) hHeld ?_
 refine tkS (i := 6) (oi := ⟨some 256, Op.load 36 (Operand.tmp 255), 36, _, _, none⟩) (v := .agg (bytesA 32 o.h.f)) rfl (yieldsIf_ldE (by rfl) (Operand.tmp 255) rfl w.heap.size 36 rfl o.h fun w hS => hS) hHeld ?_
 refine wpAnyH_ready (rs := [3]) (by kernel_rfl) (by simp) ?_
 refine AllReadyH.cons (o := ⟨some 253, Op.call { callee := Callee.value (Operand.func 27), args := #[Operand.tmp 250, Operand.tmp 252], argTypes := #[27, 36] }, 3, _, _, none⟩) rfl (fun K hK => ?_) AllReadyH.nil
 rw [if_pos (by rfl)]
 have hcon := clock_any d o.h _ g w1.drew (DG.out.below U1d.out)
 rw [hcc.out] at hcon
 refine wp_callF 27 _ _ rfl Try.in27 #[ptr d, .agg (bytesA 32 o.h.f)] (by simp [Act.eval]) (fun u wx => u = .int .i64 cc ∧ Below w1.drew.heap.size w1.drew wx) (hcon.mono fun e w' ⟨h1, h2⟩ => ⟨_, h1, rfl, h2⟩) ?_
 clear hcon
 rintro _ w2 ⟨rfl, hz⟩
 have V2 := Keep.mk (belowT V1d.out hz)
 have U2 := Keep.mk (belowT U1d.out hz)
 clear hz
 refine hK _ _ (hS0.out _ V2.out) fun hH2 => ?_
 clear hK
 simp only [Act.put, pqA, pqB, pqC]
 refine wpAnyH_ready (rs := [7]) (by kernel_rfl) (by simp) ?_
 refine AllReadyH.cons (o := ⟨some 257, Op.call { callee := Callee.value (Operand.func 56), args := #[Operand.tmp 254, Operand.tmp 256], argTypes := #[31, 36] }, 3, _, _, none⟩) rfl (fun K hK => ?_) AllReadyH.nil
 rw [if_pos (by rfl)]
 have hcon := rclock_any x o.h R w2 (RD.out.below U2.out) RI_.out
 rw [SM.out.hs, hcc.out] at hcon
 refine wp_callF 56 _ _ rfl Try.in56 #[ptr x, .agg (bytesA 32 o.h.f)] (by simp [Act.eval]) (fun u wx => u = .int .i64 cc ∧ Below w2.heap.size w2 wx) (hcon.mono fun e w' ⟨h1, h2⟩ => ⟨_, h1, rfl, h2⟩) ?_
 clear hcon
 rintro _ w3 ⟨rfl, hz⟩
 have V3 := Keep.mk (belowT V2.out hz)
 have U3 := Keep.mk (belowT U2.out hz)
 clear hz
 refine hK _ _ (hS0.out _ V3.out) fun hH3 => ?_
 clear hK
 simp only [Act.put, pqA, pqB, pqC]
 refine tkS (i := 8) (oi := ⟨some 258, Op.binOp BinOp.eql 3 (Operand.tmp 253) (Operand.tmp 257) 3, 4, _, _, none⟩) (v := .bool true) rfl (Or.inl ⟨by rfl, fun w hS => by clear hS; go_simp⟩) hH3 ?_
 refine tkS (i := 9) (oi := ⟨some 6, Op.assign (Operand.tmp 258), 4, _, _, none⟩) (v := .bool true) rfl (Or.inl ⟨by rfl, fun w hS => by clear hS; go_simp⟩) hH3 ?_
 refine wpAnyH_done (by kernel_rfl) ?_ _
 refine hK17 _ _ ?_
 refine wp_ret ?_
 go_ret
 exact ⟨rfl, U3.out.mono hB, Grown.below U3.out, _, rfl, rfl, (HAq.out.below U3.out).self hi, uq_sub hi fun k hk => .inl hk⟩
end Go.Proofs.Ytogmdfhicbmplaa
