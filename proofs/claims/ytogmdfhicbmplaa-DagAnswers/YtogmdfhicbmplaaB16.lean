import Derived.Test.YtogmdfhicbmplaaB15
import Derived.Test.YtogmdfhicbmplaaB01
import Derived.Test.YtogmdfhicbmplaaB06
namespace Go.Proofs.Ytogmdfhicbmplaa
open Go.RowKit
set_option linter.unusedSimpArgs false
set_option linter.unusedVariables false

theorem Try.in61 (w : World) (vs : Array Value) : (callFunc 61 vs).run Try.prog w = .ok (.enter 61 vs) w := by kernel_rfl
theorem bsV (c : Nat → Int) (k : Int) (p : Value) (w : World) : (Instr.buildSlice 55 1 #[(0, .agg (vtx c k p))]).run Try.prog w = .ok (.slice (some ⟨w.heap.size, 0, none⟩) 1 1) (w.alloc (.cells (vtx c k p) 39)) := by kernel_rfl
theorem HRow.takeS {w : World} {a : Option Addr} {c i : Nat} {L : List Hs} (h : HRow w (.slice a L.length c) L) (hi : i ≤ L.length) : HRow w (.slice a i c) (L.take i) := by
 rcases h with ⟨a', c', e, hL, hac⟩ | ⟨b, off, cap, e, hc, hr⟩
 ·subst hL
  have : i = 0 := by simpa using hi
  subst this
  injection e with e1 e2 e3
  subst e1 e3
  exact .inl ⟨_, _, rfl, rfl, hac⟩
 ·injection e with e1 e2 e3
  subst e1 e3
  refine .inr ⟨b, off, c, by rw [List.length_take, Nat.min_eq_left hi], by rw [List.length_take]; omega, rangeAt_take hr i⟩
theorem HRow.dropS {w : World} {a : Option Addr} {c i : Nat} {L : List Hs} (h : HRow w (.slice a L.length c) L) (hi : i ≤ L.length) : HRow w (sliced a i L.length c 32) (L.drop i) := by
 rcases h with ⟨a', c', e, hL, hac⟩ | ⟨b, off, cap, e, hc, hr⟩
 ·subst hL
  have : i = 0 := by simpa using hi
  subst this
  injection e with e1 e2 e3
  subst e1 e3
  unfold sliced
  by_cases e : c = 0
  ·rw [if_pos e]; exact .inl ⟨a, c, by simp, by simp, hac⟩
  ·rw [if_neg e]
   cases a with
   | none => exact absurd (hac rfl) e
   | some ad => exact .inl ⟨some (ad.add 0), c, by simp, by simp, fun h => by cases h⟩
 ·injection e with e1 e2 e3
  subst e1 e3
  have h1 := rangeAt_drop hr i hi
  unfold sliced
  by_cases e : c = i
  ·rw [if_pos e, List.drop_of_length_le (by omega)]
   have : L.length - i = 0 := by omega
   rw [this]
   exact .inl ⟨_, _, rfl, rfl, fun h => by cases h⟩
  ·rw [if_neg e]
   refine .inr ⟨b, off + i * 32, c - i, by rw [List.length_drop]; simp [Addr.add_mid], by rw [List.length_drop]; omega, h1⟩
theorem hold_at1 {w w3 : World} {d : Nat} {hv wv sv v3 : Value} {R : RG} {q : VP} (h : RAt w d hv wv sv R) (hV : VAt w3 v3 (R.held ++ [q])) (hg : Grown w w3 fun k => hv.ownBlock = some k) (hm : Moved w hv v3) (hq : HRow w q.2 q.1.ps ∧ q.1.ps.length ≤ 64 ∧ ∀ k, q.2.ownBlock = some k → k < w.heap.size ∧ ¬ RgS d hv wv sv k) : RAt (w3.setCell ⟨d, 1, none⟩ v3) d v3 wv sv ⟨R.room, R.held ++ [q], R.wait, R.sets⟩ := by
 have g2 : Grown w3 (w3.setCell ⟨d, 1, none⟩ v3) fun k => k = d := Grown.setCell _ _ _ _ fun _ => rfl
 have hn : ∀ k, v3.ownBlock = some k → hv.ownBlock = some k ∨ w.heap.size ≤ k := fun k hk => hm.elim (fun e => .inl (e ▸ hk)) fun ⟨j, e, hj⟩ => .inr (by rw [hk] at e; have := Option.some.inj e; subst this; exact hj)
 have hd := h.blk.lt
 refine ⟨?_, hV.grown g2 fun k hk e => ?_, (h.wait.grown hg fun k hk e => (h.n1 k e).2.1 hk).grown g2 fun k hk => (h.n2 k hk).1, (h.sets.grown hg fun k hk e => (h.n1 k e).2.2 hk).grown g2 fun k hk => h.n3 k hk, fun k hk => ?_, h.n2, h.n3, fun q' hq' => ?_⟩
 ·exact (hg.blk h.blk fun e => (h.n1 d e).1 rfl).set 1 v3
 ·rcases hn k hk with h1 | h1
  ·exact (h.n1 k h1).1 e
  ·omega
 ·rcases hn k hk with h1 | h1
  ·exact h.n1 k h1
  ·exact ⟨by omega, fun e => by have := h.wait.lt k e; omega, fun e => by have := h.sets.lt k e; omega⟩
 ·have hqq : HRow w q'.2 q'.1.ps ∧ q'.1.ps.length ≤ 64 ∧ ∀ k, q'.2.ownBlock = some k → k < w.heap.size ∧ ¬ RgS d hv wv sv k := by
   rcases hq' with h1 | h1
   ·rcases List.mem_append.1 h1 with h1 | h1
    ·exact h.ps q' (.inl h1)
    ·rw [List.mem_singleton.1 h1]; exact hq
   ·exact h.ps q' (.inr h1)
  obtain ⟨a1, a2, a3⟩ := hqq
  refine ⟨(a1.grownB hg fun k hk e => (a3 k hk).2 (.inr (.inl e))).grownB g2 fun k hk e => (a3 k hk).2 (.inl e), a2, fun k hk => ⟨Nat.lt_of_lt_of_le (a3 k hk).1 (Nat.le_trans hg.size g2.size), fun e => ?_⟩⟩
  rcases e with e | e | e | e
  ·exact (a3 k hk).2 (.inl e)
  ·rcases hn k e with h1 | h1
   ·exact (a3 k hk).2 (.inr (.inl h1))
   ·have := (a3 k hk).1; omega
  ·exact (a3 k hk).2 (.inr (.inr (.inl e)))
  ·exact (a3 k hk).2 (.inr (.inr (.inr e)))
theorem hold_at2 {w : World} {d : Nat} {hv wv sv v9 : Value} {R : RG} {s' : List Hs} (h : RAt w d hv wv sv R) (hV : OwnH w v9 s') (hn : ∀ k, v9.ownBlock = some k → ¬ RgS d hv wv sv k ∧ ∀ q, q ∈ R.held ∨ q ∈ R.wait → q.2.ownBlock ≠ some k) : RAt (w.setCell ⟨d, 3, none⟩ v9) d hv wv v9 ⟨R.room, R.held, R.wait, s'⟩ := by
 have g2 : Grown w (w.setCell ⟨d, 3, none⟩ v9) fun k => k = d := Grown.setCell _ _ _ _ fun _ => rfl
 refine ⟨h.blk.set 3 v9, h.held.grown g2 fun k hk => (h.n1 k hk).1, h.wait.grown g2 fun k hk => (h.n2 k hk).1, hV.grown g2 fun k hk e => (hn k hk).1 (.inl e), fun k hk => ⟨(h.n1 k hk).1, (h.n1 k hk).2.1, fun e => (hn k e).1 (.inr (.inl hk))⟩, fun k hk => ⟨(h.n2 k hk).1, fun e => (hn k e).1 (.inr (.inr (.inl hk)))⟩, fun k hk e => (hn k hk).1 (.inl e), fun q hq => ?_⟩
 obtain ⟨a1, a2, a3⟩ := h.ps q hq
 refine ⟨a1.grownB g2 fun k hk e => (a3 k hk).2 (.inl e), a2, fun k hk => ⟨Nat.lt_of_lt_of_le (a3 k hk).1 g2.size, fun e => ?_⟩⟩
 rcases e with e | e | e | e
 ·exact (a3 k hk).2 (.inl e)
 ·exact (a3 k hk).2 (.inr (.inl e))
 ·exact (a3 k hk).2 (.inr (.inr (.inl e)))
 ·exact (hn k e).2 q hq hk
theorem flatH_single (x : Hs) : flatH [x] = encH x := by simp [flatH]
theorem blk_rngE {w : World} {g : Nat} {x : Hs} (h : Blk w g 36 (bytesA 32 x.f)) : w.rangeAt g 0 (encH x) := by
 have := blk_rng h
 exact this
theorem cf_lt (x y : Hs) : cf x y < 0 ↔ Lt x y := Iff.rfl
set_option maxRecDepth 8000 in
set_option maxHeartbeats 1000000 in
theorem rhold_any (d : Nat) (v : VX) (p hv wv sv : Value) (R : RG) (w : World) (hD : RAt w d hv wv sv R) (hI : RI R) (hr : HRow w p v.ps) (hq : v.ps.length ≤ 64 ∧ ∀ k, p.ownBlock = some k → k < w.heap.size ∧ ¬ RgS d hv wv sv k) : Calls Try.prog 61 #[ptr d, .agg (vtx v.id.f v.ck p)] w fun e w' => e = .returned (.tuple #[]) ∧ ∃ a hv' sv', PutAt R.sets v.id a ∧ RAt w' d hv' wv sv' ⟨R.room, R.held ++ [(v, p)], R.wait, insL R.sets a v.id⟩ ∧ Grown w w' (RgS d hv wv sv) ∧ (∀ k, RgS d hv' wv sv' k → RgS d hv wv sv k ∨ w.heap.size ≤ k) ∧ (∀ q, q ∈ R.held ++ [(v, p)] ∨ q ∈ R.wait → (q ∈ R.held ∨ q ∈ R.wait) ∨ q = (v, p)) := by
 obtain ⟨ha, hn, hc, rfl⟩ := hD.held.sl
 obtain ⟨sa, sc, rfl⟩ := hD.sets.sl
 have HSc : Keep (R.sets.length ≤ sc) := ⟨by
  rcases hD.sets.row with ⟨a, c, e, hL, hac⟩ | ⟨b, off, cap, e, hcp, _⟩
  ·rw [hL]; simp
  ·injection e with e1 e2 e3; omega⟩
 obtain ⟨pa, pc, hpp⟩ := hr.form
 have Hp := Keep.mk hpp
 subst hpp
 obtain ⟨vv, hvv⟩ : ∃ a : Array Value, Keep (a = vtx v.id.f v.ck (.slice pa v.ps.length pc)) := ⟨_, ⟨rfl⟩⟩
 rw [← hvv.out]
 have HD := Keep.mk hD
 have HI := Keep.mk hI
 have HR := Keep.mk hr
 have Hq := Keep.mk hq
 clear hD hI hr hq
 go_enter Try.func61, Try.ntmps61
 refine wp_seq_k fun K1 hK1 => rgn ?_
 refine WL.box (by kernel_rfl) 39 (.tmp 1) rfl (vv) rfl ?_
 obtain ⟨w1, hwn⟩ : ∃ wx, Keep (wx = w.alloc (.cells (vv) 39)) := ⟨_, ⟨rfl⟩⟩
 rw [← hwn.out]
 have HX1 : Keep (Blk w1 w.heap.size 39 (vv)) := ⟨by rw [hwn.out]; exact Blk.new _ _ _⟩
 have LB1 : Keep (Below w.heap.size w w1) := ⟨by rw [hwn.out]; exact below_new _ _⟩
 clear hwn
 have HD1 := Keep.mk (HD.out.below LB1.out)
 have HQ1 := Keep.mk (HR.out.below LB1.out)
 simp only [Act.put, pqA, pqB, pqC]
 refine WL.nil (hK1 _ _ ?_)
 refine wp_seq_k fun K2 hK2 => ?_
 have c3 : Keep (∀ wx, Below w1.heap.size w1 wx → (fun wx => True ∧ wx.rangeAt w.heap.size 0 vv.toList) wx) := ⟨fun wx hb => ⟨trivial, blk_rng (HX1.out.below hb HX1.out.lt)⟩⟩
 have B2 : Keep (Below w1.heap.size w1 w1.drew) := ⟨(Below.refl _ _).drew⟩
 refine wp_region_held_drew (S := fun wx => True ∧ wx.rangeAt w.heap.size 0 vv.toList) (by kernel_rfl) (c3.out _ B2.out) (fun hHeld => ?_)
 refine tkS (i := 0) (oi := ⟨some 6, Op.move (Operand.tmp 0), 31, _, _, none⟩) (v := .pointer (some ⟨d, 0, none⟩)) rfl (Or.inl ⟨by rfl, fun w hS => by obtain ⟨hS1, hS2⟩ := hS; go_simp⟩) hHeld ?_
 refine tkS (i := 1) (oi := ⟨some 7, Op.move (Operand.tmp 0), 31, _, _, none⟩) (v := .pointer (some ⟨d, 0, none⟩)) rfl (Or.inl ⟨by rfl, fun w hS => by obtain ⟨hS1, hS2⟩ := hS; go_simp⟩) hHeld ?_
 refine tkS (i := 2) (oi := ⟨some 8, Op.nilCheck (Operand.tmp 7), 0, _, _, none⟩) (v := .pointer (some ⟨d, 0, none⟩)) rfl (Or.inl ⟨by rfl, fun w hS => by obtain ⟨hS1, hS2⟩ := hS; go_simp⟩) hHeld ?_
 refine tkS (i := 3) (oi := ⟨some 9, Op.fieldAddr 79 (Operand.tmp 8) 1, 0, _, _, none⟩) (v := .pointer (some ⟨d, 1, none⟩)) rfl (Or.inl ⟨by rfl, fun w hS => by obtain ⟨hS1, hS2⟩ := hS; go_simp⟩) hHeld ?_
 refine tkS (i := 5) (oi := ⟨some 11, Op.load 39 (Operand.tmp 3), 39, _, _, none⟩) (v := .agg vv) rfl (yieldsIf_ld (by rfl) (Operand.tmp 3) 39 rfl w.heap.size 0 rfl vv _ Try.underlying39 rfl (by rw [hvv.out]; exact Try.info39s _ _ _) fun w hS => hS.2) hHeld ?_
 refine wpAnyH_ready (rs := [4, 6]) (by kernel_rfl) (by simp) ?_
 refine AllReadyH.cons (o := ⟨some 10, Op.load 55 (Operand.tmp 9), 55, _, _, none⟩) rfl (fun K hK => ?_) (AllReadyH.cons (o := ⟨some 12, Op.buildSlice 55 1 #[(0, Operand.tmp 11)], 55, _, _, none⟩) rfl (fun K hK => ?_) AllReadyH.nil)
 rw [if_pos (by rfl)]
 have c_o : w1.drew.cell? ⟨d, 1, none⟩ = some (.slice ha hn hc) := (HD1.out.blk.below B2.out HD1.out.blk.lt).c 1 rfl
 refine wp_val (.slice ha hn hc) (by go_simp) ?_
 clear c_o
 refine hK _ _ (c3.out _ B2.out) fun hQ1 => ?_
 clear hK
 simp only [Act.put, pqA, pqB, pqC]
 refine wpAnyH_ready (rs := [6]) (by kernel_rfl) (by simp) ?_
 refine AllReadyH.cons (o := ⟨some 12, Op.buildSlice 55 1 #[(0, Operand.tmp 11)], 55, _, _, none⟩) rfl (fun K hK => ?_) AllReadyH.nil
 rw [if_pos (by rfl)]
 refine wp_bs 55 1 _ rfl #[(0, .agg vv)] (by simp [Act.eval]) _ _ (by rw [hvv.out]; exact bsV _ _ _ _) ?_
 rw [← hvv.out]
 have HGx := Keep.mk (Blk.new w1.drew 39 vv)
 have BA2 := Keep.mk (belowT B2.out (below_new w1.drew (.cells vv 39)))
 generalize w1.drew.alloc (.cells vv 39) = wa2 at *
 generalize w1.drew.heap.size = gx at *
 refine hK _ _ (c3.out _ BA2.out) fun hQ2 => ?_
 clear hK
 simp only [Act.put, pqA, pqB, pqC]
 refine wpAnyH_ready (rs := [7]) (by kernel_rfl) (by simp) ?_
 refine AllReadyH.cons (o := ⟨some 13, Op.call { callee := Callee.builtin Builtin.append, args := #[Operand.tmp 10, Operand.tmp 12], argTypes := #[55, 55] }, 55, _, _, none⟩) rfl (fun K hK => ?_) AllReadyH.nil
 rw [if_pos (by rfl)]
 obtain ⟨v3, w3, hr3, h1, h2, h3⟩ := run_appVA wa2 55 (.slice ha hn hc) R.held (v, .slice pa v.ps.length pc) gx (HD1.out.below BA2.out).held (by rw [encV, ← hvv.out]; exact blk_rng HGx.out) (fun u hu => encV_one (L := [(v, .slice pa v.ps.length pc)]) (fun q hq => by rw [List.mem_singleton.1 hq]; exact ⟨HQ1.out, Nat.le_trans Hq.out.1 (by omega)⟩) u (by simpa using hu)) (by have := HI.out.hl; omega)
 refine Go.Lib.wp_append_run wa2 (.tmp 10) (.tmp 12) 55 55 rfl _ _ rfl rfl v3 w3 hr3 ?_
 have HDa := Keep.mk (HD1.out.below BA2.out)
 have V3 := Keep.mk h1
 have G3 := Keep.mk h2
 have M3 := Keep.mk h3
 clear h1 h2 h3 hr3
 have HXa := Keep.mk (G3.out.blk (HX1.out.below BA2.out HX1.out.lt) fun e => by have := HD.out.lt w.heap.size (.inr (.inl e)); omega)
 refine hK _ _ ⟨trivial, blk_rng HXa.out⟩ fun hH5 => ?_
 clear hK
 obtain ⟨a3, n3, k3, e3⟩ := V3.out.sl
 subst e3
 simp only [Act.put, pqA, pqB, pqC]
 refine tkS (i := 8) (oi := ⟨some 14, Op.nilCheck (Operand.tmp 6), 0, _, _, none⟩) (v := .pointer (some ⟨d, 0, none⟩)) rfl (Or.inl ⟨by rfl, fun w hS => by obtain ⟨hS1, hS2⟩ := hS; go_simp⟩) hH5 ?_
 refine tkS (i := 9) (oi := ⟨some 15, Op.fieldAddr 79 (Operand.tmp 14) 1, 0, _, _, none⟩) (v := .pointer (some ⟨d, 1, none⟩)) rfl (Or.inl ⟨by rfl, fun w hS => by obtain ⟨hS1, hS2⟩ := hS; go_simp⟩) hH5 ?_
 refine wpAnyH_ready (rs := [10]) (by kernel_rfl) (by simp) ?_
 refine AllReadyH.cons (o := ⟨none, Op.store 55 (Operand.tmp 15) (Operand.tmp 13), 0, _, _, none⟩) rfl (fun K hK => ?_) AllReadyH.nil
 rw [if_pos (by rfl)]
 have hB3 := G3.out.blk HDa.out.blk fun e => (HDa.out.n1 d e).1 rfl
 have f_o := hB3.frozen 1
 have c_o : w3.cell? ⟨d, 1, none⟩ = some (.slice ha hn hc) := hB3.c 1 rfl
 refine wp_cellS (w3.setCell ⟨d, 1, none⟩ (.slice a3 n3 k3)) (by go_simp) ?_
 clear f_o c_o hB3
 have HD4 := Keep.mk (hold_at1 (q := (v, .slice pa v.ps.length pc)) HDa.out V3.out G3.out M3.out ⟨HR.out.below (belowT LB1.out BA2.out), Hq.out.1, fun k hk => ⟨Nat.lt_of_lt_of_le (Hq.out.2 k hk).1 (belowT LB1.out BA2.out).size, (Hq.out.2 k hk).2⟩⟩)
 have G4 : Keep (Grown w (w3.setCell ⟨d, 1, none⟩ (.slice a3 n3 k3)) (RgS d (.slice ha hn hc) wv (.slice sa R.sets.length sc))) := ⟨((Grown.below (belowT LB1.out BA2.out)).next G3.out fun k _ e => .inr (.inl e)).next (Grown.setCell w3 d 1 _ (S := fun k => k = d) fun _ => rfl) fun k _ e => .inl e⟩
 have HX4 := Keep.mk (HXa.out.set_ne (b' := d) (j := 1) (fun e => by have := HD.out.blk.lt; omega) (.slice a3 n3 k3))
 have N4 : Keep (∀ k, (Value.slice a3 n3 k3).ownBlock = some k → (Value.slice ha hn hc).ownBlock = some k ∨ w.heap.size ≤ k) := ⟨fun k hk => M3.out.elim (fun e => .inl (e ▸ hk)) fun ⟨j, e, hj⟩ => .inr (by rw [hk] at e; have := Option.some.inj e; subst this; exact Nat.le_trans (belowT LB1.out BA2.out).size hj)⟩
 generalize w3.setCell ⟨d, 1, none⟩ (.slice a3 n3 k3) = w4 at *
 obtain ⟨v4, hv4⟩ : ∃ u : Value, u = .slice a3 n3 k3 := ⟨_, rfl⟩
 rw [← hv4] at HD4 N4
 refine hK _ _ ⟨trivial, blk_rng HX4.out⟩ fun hH6 => ?_
 clear hK hH5 hH6 HXa M3 G3 V3 HDa c3 hv4
 simp only [Act.put, pqA, pqB, pqC]
 refine wpAnyH_done (by kernel_rfl) ?_ _
 rotate_left
 rw [if_pos (by rfl)]
 refine wp_bs 55 1 _ rfl #[(0, .agg vv)] (by simp [Act.eval]) _ _ (by rw [hvv.out]; exact bsV _ _ _ _) ?_
 rw [← hvv.out]
 have HGx := Keep.mk (Blk.new w1.drew 39 vv)
 have BA1 := Keep.mk (belowT B2.out (below_new w1.drew (.cells vv 39)))
 generalize w1.drew.alloc (.cells vv 39) = wa1 at *
 generalize w1.drew.heap.size = gx at *
 refine hK _ _ (c3.out _ BA1.out) fun hQ1 => ?_
 clear hK
 simp only [Act.put, pqA, pqB, pqC]
 refine wpAnyH_ready (rs := [4]) (by kernel_rfl) (by simp) ?_
 refine AllReadyH.cons (o := ⟨some 10, Op.load 55 (Operand.tmp 9), 55, _, _, none⟩) rfl (fun K hK => ?_) AllReadyH.nil
 rw [if_pos (by rfl)]
 have c_o : wa1.cell? ⟨d, 1, none⟩ = some (.slice ha hn hc) := (HD1.out.blk.below BA1.out HD1.out.blk.lt).c 1 rfl
 refine wp_val (.slice ha hn hc) (by go_simp) ?_
 clear c_o
 refine hK _ _ (c3.out _ BA1.out) fun hQ2 => ?_
 clear hK
 simp only [Act.put, pqA, pqB, pqC]
 refine wpAnyH_ready (rs := [7]) (by kernel_rfl) (by simp) ?_
 refine AllReadyH.cons (o := ⟨some 13, Op.call { callee := Callee.builtin Builtin.append, args := #[Operand.tmp 10, Operand.tmp 12], argTypes := #[55, 55] }, 55, _, _, none⟩) rfl (fun K hK => ?_) AllReadyH.nil
 rw [if_pos (by rfl)]
 obtain ⟨v3, w3, hr3, h1, h2, h3⟩ := run_appVA wa1 55 (.slice ha hn hc) R.held (v, .slice pa v.ps.length pc) gx (HD1.out.below BA1.out).held (by rw [encV, ← hvv.out]; exact blk_rng HGx.out) (fun u hu => encV_one (L := [(v, .slice pa v.ps.length pc)]) (fun q hq => by rw [List.mem_singleton.1 hq]; exact ⟨HQ1.out, Nat.le_trans Hq.out.1 (by omega)⟩) u (by simpa using hu)) (by have := HI.out.hl; omega)
 refine Go.Lib.wp_append_run wa1 (.tmp 10) (.tmp 12) 55 55 rfl _ _ rfl rfl v3 w3 hr3 ?_
 have HDa := Keep.mk (HD1.out.below BA1.out)
 have V3 := Keep.mk h1
 have G3 := Keep.mk h2
 have M3 := Keep.mk h3
 clear h1 h2 h3 hr3
 have HXa := Keep.mk (G3.out.blk (HX1.out.below BA1.out HX1.out.lt) fun e => by have := HD.out.lt w.heap.size (.inr (.inl e)); omega)
 refine hK _ _ ⟨trivial, blk_rng HXa.out⟩ fun hH5 => ?_
 clear hK
 obtain ⟨a3, n3, k3, e3⟩ := V3.out.sl
 subst e3
 simp only [Act.put, pqA, pqB, pqC]
 refine tkS (i := 8) (oi := ⟨some 14, Op.nilCheck (Operand.tmp 6), 0, _, _, none⟩) (v := .pointer (some ⟨d, 0, none⟩)) rfl (Or.inl ⟨by rfl, fun w hS => by obtain ⟨hS1, hS2⟩ := hS; go_simp⟩) hH5 ?_
 refine tkS (i := 9) (oi := ⟨some 15, Op.fieldAddr 79 (Operand.tmp 14) 1, 0, _, _, none⟩) (v := .pointer (some ⟨d, 1, none⟩)) rfl (Or.inl ⟨by rfl, fun w hS => by obtain ⟨hS1, hS2⟩ := hS; go_simp⟩) hH5 ?_
 refine wpAnyH_ready (rs := [10]) (by kernel_rfl) (by simp) ?_
 refine AllReadyH.cons (o := ⟨none, Op.store 55 (Operand.tmp 15) (Operand.tmp 13), 0, _, _, none⟩) rfl (fun K hK => ?_) AllReadyH.nil
 rw [if_pos (by rfl)]
 have hB3 := G3.out.blk HDa.out.blk fun e => (HDa.out.n1 d e).1 rfl
 have f_o := hB3.frozen 1
 have c_o : w3.cell? ⟨d, 1, none⟩ = some (.slice ha hn hc) := hB3.c 1 rfl
 refine wp_cellS (w3.setCell ⟨d, 1, none⟩ (.slice a3 n3 k3)) (by go_simp) ?_
 clear f_o c_o hB3
 have HD4 := Keep.mk (hold_at1 (q := (v, .slice pa v.ps.length pc)) HDa.out V3.out G3.out M3.out ⟨HR.out.below (belowT LB1.out BA1.out), Hq.out.1, fun k hk => ⟨Nat.lt_of_lt_of_le (Hq.out.2 k hk).1 (belowT LB1.out BA1.out).size, (Hq.out.2 k hk).2⟩⟩)
 have G4 : Keep (Grown w (w3.setCell ⟨d, 1, none⟩ (.slice a3 n3 k3)) (RgS d (.slice ha hn hc) wv (.slice sa R.sets.length sc))) := ⟨((Grown.below (belowT LB1.out BA1.out)).next G3.out fun k _ e => .inr (.inl e)).next (Grown.setCell w3 d 1 _ (S := fun k => k = d) fun _ => rfl) fun k _ e => .inl e⟩
 have HX4 := Keep.mk (HXa.out.set_ne (b' := d) (j := 1) (fun e => by have := HD.out.blk.lt; omega) (.slice a3 n3 k3))
 have N4 : Keep (∀ k, (Value.slice a3 n3 k3).ownBlock = some k → (Value.slice ha hn hc).ownBlock = some k ∨ w.heap.size ≤ k) := ⟨fun k hk => M3.out.elim (fun e => .inl (e ▸ hk)) fun ⟨j, e, hj⟩ => .inr (by rw [hk] at e; have := Option.some.inj e; subst this; exact Nat.le_trans (belowT LB1.out BA1.out).size hj)⟩
 generalize w3.setCell ⟨d, 1, none⟩ (.slice a3 n3 k3) = w4 at *
 obtain ⟨v4, hv4⟩ : ∃ u : Value, u = .slice a3 n3 k3 := ⟨_, rfl⟩
 rw [← hv4] at HD4 N4
 refine hK _ _ ⟨trivial, blk_rng HX4.out⟩ fun hH6 => ?_
 clear hK hH5 hH6 HXa M3 G3 V3 HDa c3 hv4
 simp only [Act.put, pqA, pqB, pqC]
 refine wpAnyH_done (by kernel_rfl) ?_ _
 rotate_left
 all_goals
  refine hK2 _ _ ?_
  refine wp_seq_k fun K4 hK4 => rgn ?_
  refine WL.bs (by kernel_rfl) 37 0 _ rfl #[] (by simp) _ _ (bsHE w4) ?_
  have O5 := Keep.mk (own_new w4)
  have B5 : Keep (Below w4.heap.size w4 (w4.alloc (.cells #[] 36))) := ⟨below_new w4 (.cells #[] 36)⟩
  generalize w4.alloc (.cells #[] 36) = w5 at *
  have HD5 := Keep.mk (HD4.out.below B5.out)
  have HX5 := Keep.mk (HX4.out.below B5.out HX4.out.lt)
  simp only [Act.put, pqA, pqB, pqC]
  refine VlS (.slice (some ⟨w4.heap.size, 0, none⟩) 0 0) ?_
  refine WL.nil (hK4 _ _ ?_)
  refine wp_seq_k fun K5 hK5 => rgn ?_
  refine VlS (.int .i64 0) ?_
  refine WL.nil (hK5 _ _ ?_)
  refine wp_seq_k fun K6 hK6 => ?_
  refine wp_block ?_
  refine wp_loop (fun ac wr => ∃ (t : Nat) (u17 u18 u19 u20 u21 u22 u23 u24 u25 u26 u27 u28 u29 u30 u31 u32 u33 u34 u35 u36 u37 u38 : Value), ac = { tmps := #[.pointer (some ⟨d, 0, none⟩), .agg vv, undef, .pointer (some ⟨w.heap.size, 0, none⟩), .slice (some ⟨w4.heap.size, 0, none⟩) 0 0, .int .i64 (t : Int), .pointer (some ⟨d, 0, none⟩), .pointer (some ⟨d, 0, none⟩), .pointer (some ⟨d, 0, none⟩), .pointer (some ⟨d, 1, none⟩), .slice ha hn hc, .agg vv, .slice (some ⟨gx, 0, none⟩) 1 1, .slice a3 n3 k3, .pointer (some ⟨d, 0, none⟩), .pointer (some ⟨d, 1, none⟩), .slice (some ⟨w4.heap.size, 0, none⟩) 0 0, u17, u18, u19, u20, u21, u22, u23, u24, u25, u26, u27, u28, u29, u30, u31, u32, u33, u34, u35, u36, u37, u38, undef, undef, undef, undef, undef, undef, undef, undef, undef, undef, undef, undef, undef, undef, undef, undef, undef, undef, undef, undef, undef, undef, undef, undef], defers := [] } ∧ t ≤ R.sets.length ∧ Below w5.heap.size w5 wr ∧ ∀ k, k < t → Lt (R.sets.getD k default) v.id) (fun a _ => R.sets.length - (intOf (a.tmps.getD 5 undef)).toNat) ⟨0, undef, undef, undef, undef, undef, undef, undef, undef, undef, undef, undef, undef, undef, undef, undef, undef, undef, undef, undef, undef, undef, undef, rfl, by omega, Below.refl _ _, fun k hk => by omega⟩ ?_
  rintro ac wr ⟨t, u17, u18, u19, u20, u21, u22, u23, u24, u25, u26, u27, u28, u29, u30, u31, u32, u33, u34, u35, u36, u37, u38, rfl, ht, hB, hP⟩
  have JB := Keep.mk hB
  have JP := Keep.mk hP
  clear hB hP
  have HDr := Keep.mk (HD5.out.below JB.out)
  have HXr := Keep.mk (HX5.out.below JB.out HX5.out.lt)
  have BD : Keep (Below w5.heap.size w5 wr.drew) := ⟨belowT JB.out (Below.refl _ _).drew⟩
  have hS0 : Keep (∀ wx, Below w5.heap.size w5 wx → (fun wx => wx.cell? ⟨d, 3, none⟩ = some (.slice sa R.sets.length sc) ∧ wx.rangeAt w.heap.size 0 (bytesA 32 v.id.f).toList) wx) := ⟨fun wx hb => ⟨(HD5.out.below hb).blk.c 3 (show (rdA R.room v4 wv (.slice sa R.sets.length sc))[3]? = some (.slice sa R.sets.length sc) from rfl), vtx_rng (hvv.out ▸ HX5.out.below hb HX5.out.lt)⟩⟩
  by_cases htl : t < R.sets.length
  ·have htl' : (t : Int) < (R.sets.length : Int) := by omega
   have hrow : HRow w5 (.slice sa R.sets.length sc) R.sets := HD5.out.sets.row
   obtain ⟨gp, op, hsa, -, -, hrg⟩ := hrow.at (by omega)
   clear hrow
   have Hgl := Keep.mk (rangeAt_lt hrg (by omega))
   have Hel := Keep.mk (rangeAt_elem hrg t htl)
   obtain ⟨hh, hhh⟩ : ∃ hh, Keep (hh = R.sets[t]) := ⟨_, ⟨rfl⟩⟩
   rw [← hhh.out] at Hel
   have Hgd : Keep (R.sets.getD t default = hh) := ⟨by rw [hhh.out, List.getD_eq_getElem?_getD, List.getElem?_eq_getElem htl]; rfl⟩
   subst hsa
   clear hrg
   obtain ⟨cc, hcc⟩ : ∃ c, Keep (cf hh v.id = c) := ⟨_, ⟨rfl⟩⟩
   by_cases hlt : cc < 0
   ·have hS1 : Keep (∀ wx, Below w5.heap.size w5 wx → (fun wx => (fun wx => wx.cell? ⟨d, 3, none⟩ = some (.slice (some ⟨gp, op, none⟩) R.sets.length sc) ∧ wx.rangeAt w.heap.size 0 (bytesA 32 v.id.f).toList) wx ∧ wx.rangeAt gp (op + t * 32) (encH hh)) wx) := ⟨fun wx hb => ⟨hS0.out wx hb, rangeAt_below Hel.out hb Hgl.out⟩⟩
    have hwt : IntKind.i64.wrap ((t : Int) + 1) = ((t + 1 : Nat) : Int) := by rw [IntKind.wrap_i64]; have := HI.out.sl; omega
    refine wp_seq_k fun K7 hK7 => ?_
    refine wp_seq_k fun K8 hK8 => ?_
    refine wp_region_held_drew (S := fun wx => (fun wx => wx.cell? ⟨d, 3, none⟩ = some (.slice (some ⟨gp, op, none⟩) R.sets.length sc) ∧ wx.rangeAt w.heap.size 0 (bytesA 32 v.id.f).toList) wx ∧ wx.rangeAt gp (op + t * 32) (encH hh)) (by kernel_rfl) (hS1.out _ BD.out) (fun hHeld => ?_)
    refine tkS (i := 0) (oi := ⟨some 17, Op.move (Operand.tmp 5), 3, _, _, none⟩) (v := .int .i64 (t : Int)) rfl (Or.inl ⟨by rfl, fun w hS => by clear hS; go_simp⟩) hHeld ?_
    refine tkS (i := 1) (oi := ⟨some 18, Op.move (Operand.tmp 0), 31, _, _, none⟩) (v := .pointer (some ⟨d, 0, none⟩)) rfl (Or.inl ⟨by rfl, fun w hS => by clear hS; go_simp⟩) hHeld ?_
    refine tkS (i := 2) (oi := ⟨some 19, Op.nilCheck (Operand.tmp 18), 0, _, _, none⟩) (v := .pointer (some ⟨d, 0, none⟩)) rfl (Or.inl ⟨by rfl, fun w hS => by clear hS; go_simp⟩) hHeld ?_
    refine tkS (i := 3) (oi := ⟨some 20, Op.fieldAddr 79 (Operand.tmp 19) 3, 0, _, _, none⟩) (v := .pointer (some ⟨d, 3, none⟩)) rfl (Or.inl ⟨by rfl, fun w hS => by clear hS; go_simp⟩) hHeld ?_
    refine tkS (i := 4) (oi := ⟨some 21, Op.load 37 (Operand.tmp 20), 37, _, _, none⟩) (v := .slice (some ⟨gp, op, none⟩) R.sets.length sc) rfl (Or.inl ⟨by rfl, fun w hS => by obtain ⟨⟨hS1, hS2⟩, hS3⟩ := hS; clear hS2 hS3; go_simp⟩) hHeld ?_
    refine tkS (i := 5) (oi := ⟨some 22, Op.call { callee := Callee.builtin Builtin.len, args := #[Operand.tmp 21], argTypes := #[37] }, 3, _, _, none⟩) (v := .int .i64 (R.sets.length : Int)) rfl (Or.inl ⟨by rfl, fun w hS => by clear hS; go_simp⟩) hHeld ?_
    refine tkS (i := 6) (oi := ⟨some 23, Op.binOp BinOp.lss 3 (Operand.tmp 17) (Operand.tmp 22) 3, 4, _, _, none⟩) (v := .bool true) rfl (Or.inl ⟨by rfl, fun w hS => by clear hS; go_simp⟩) hHeld ?_
    refine tkS (i := 7) (oi := ⟨some 24, Op.move (Operand.tmp 23), 4, _, _, none⟩) (v := .bool true) rfl (Or.inl ⟨by rfl, fun w hS => by clear hS; go_simp⟩) hHeld ?_
    refine tkS (i := 8) (oi := ⟨some 25, Op.move (Operand.tmp 0), 31, _, _, some (7, true)⟩) (v := .pointer (some ⟨d, 0, none⟩)) rfl (Or.inl ⟨by rfl, fun w hS => by clear hS; go_simp⟩) hHeld ?_
    refine tkS (i := 9) (oi := ⟨some 26, Op.nilCheck (Operand.tmp 25), 0, _, _, some (7, true)⟩) (v := .pointer (some ⟨d, 0, none⟩)) rfl (Or.inl ⟨by rfl, fun w hS => by clear hS; go_simp⟩) hHeld ?_
    refine tkS (i := 10) (oi := ⟨some 27, Op.fieldAddr 79 (Operand.tmp 26) 3, 0, _, _, some (7, true)⟩) (v := .pointer (some ⟨d, 3, none⟩)) rfl (Or.inl ⟨by rfl, fun w hS => by clear hS; go_simp⟩) hHeld ?_
    refine tkS (i := 11) (oi := ⟨some 28, Op.load 37 (Operand.tmp 27), 37, _, _, some (7, true)⟩) (v := .slice (some ⟨gp, op, none⟩) R.sets.length sc) rfl (Or.inl ⟨by rfl, fun w hS => by obtain ⟨⟨hS1, hS2⟩, hS3⟩ := hS; clear hS2 hS3; go_simp⟩) hHeld ?_
    refine tkS (i := 12) (oi := ⟨some 29, Op.move (Operand.tmp 5), 3, _, _, some (7, true)⟩) (v := .int .i64 (t : Int)) rfl (Or.inl ⟨by rfl, fun w hS => by clear hS; go_simp⟩) hHeld ?_
    refine tkS (i := 13) (oi := ⟨some 30, Op.indexAddr 37 (Operand.tmp 28) (Operand.tmp 29), 0, _, _, some (7, true)⟩) (v := .pointer (some ⟨gp, op + t * 32, none⟩)) rfl (Or.inl ⟨by rfl, fun w hS => by clear hS; go_simp⟩) hHeld ?_
    refine tkS (i := 14) (oi := ⟨some 31, Op.load 36 (Operand.tmp 30), 36, _, _, some (7, true)⟩) (v := .agg (bytesA 32 hh.f)) rfl (yieldsIf_ldE (by rfl) (Operand.tmp 30) rfl gp (op + t * 32) rfl hh fun w hS => hS.2) hHeld ?_
    refine tkS (i := 15) (oi := ⟨some 32, Op.fieldAddr 39 (Operand.tmp 3) 0, 0, _, _, some (7, true)⟩) (v := .pointer (some ⟨w.heap.size, 0, none⟩)) rfl (Or.inl ⟨by rfl, fun w hS => by clear hS; go_simp⟩) hHeld ?_
    refine tkS (i := 16) (oi := ⟨some 33, Op.load 36 (Operand.tmp 32), 36, _, _, some (7, true)⟩) (v := .agg (bytesA 32 v.id.f)) rfl (yieldsIf_ld (by rfl) (Operand.tmp 32) 36 rfl w.heap.size 0 rfl (bytesA 32 v.id.f) _ Try.underlying36 rfl (size36A _) fun w hS => hS.1.2) hHeld ?_
    refine wpAnyH_ready (rs := [17]) (by kernel_rfl) (by simp) ?_
    refine AllReadyH.cons (o := ⟨some 34, Op.call { callee := Callee.value (Operand.func 57), args := #[Operand.tmp 31, Operand.tmp 33], argTypes := #[36, 36] }, 3, _, _, some (7, true)⟩) rfl (fun K hK => ?_) AllReadyH.nil
    rw [if_pos (by rfl)]
    refine wp_callF 57 _ _ rfl Try.in57 #[.agg (bytesA 32 hh.f), .agg (bytesA 32 v.id.f)] (by simp [Act.eval]) (fun u wx => u = .int .i64 cc ∧ Below wr.drew.heap.size wr.drew wx) ((cmpR_any hh v.id wr.drew).mono fun e w' ⟨h1, h2⟩ => ⟨_, h1, by rw [hcc.out], h2⟩) ?_
    rintro _ we ⟨rfl, hb⟩
    have UE : Keep (Below w5.heap.size w5 we) := ⟨belowT BD.out hb⟩
    refine hK _ _ (hS1.out _ UE.out) fun hH1 => ?_
    clear hK hb
    simp only [Act.put, pqA, pqB, pqC]
    refine tkS (i := 18) (oi := ⟨some 35, Op.binOp BinOp.lss 3 (Operand.tmp 34) (Operand.const (Value.int IntKind.i64 0)) 3, 4, _, _, some (7, true)⟩) (v := .bool true) rfl (Or.inl ⟨by rfl, fun w hS => by clear hS; go_simp⟩) hH1 ?_
    refine tkS (i := 19) (oi := ⟨some 36, Op.pick (Operand.tmp 24) (Operand.tmp 35) (Operand.const (Value.bool false)), 4, _, _, none⟩) (v := .bool true) rfl (Or.inl ⟨by rfl, fun w hS => by clear hS; go_simp⟩) hH1 ?_
    refine wpAnyH_done (by kernel_rfl) ?_ _
    refine hK8 _ _ ?_
    refine wp_cond_true rfl ?_
    refine wp_skip ?_
    refine hK7 _ _ ?_
    refine wp_block ?_
    refine rgn ?_
    refine VlS (.int .i64 (t : Int)) ?_
    refine VlS (.int .i64 ((t + 1 : Nat) : Int)) ?_
    refine VlS (.int .i64 ((t + 1 : Nat) : Int)) ?_
    refine WL.nil ?_
    refine ⟨⟨t + 1, .int .i64 (t : Int), .pointer (some ⟨d, 0, none⟩), .pointer (some ⟨d, 0, none⟩), .pointer (some ⟨d, 3, none⟩), .slice (some ⟨gp, op, none⟩) R.sets.length sc, .int .i64 (R.sets.length : Int), .bool true, .bool true, .pointer (some ⟨d, 0, none⟩), .pointer (some ⟨d, 0, none⟩), .pointer (some ⟨d, 3, none⟩), .slice (some ⟨gp, op, none⟩) R.sets.length sc, .int .i64 (t : Int), .pointer (some ⟨gp, op + t * 32, none⟩), .agg (bytesA 32 hh.f), .pointer (some ⟨w.heap.size, 0, none⟩), .agg (bytesA 32 v.id.f), .int .i64 cc, .bool true, .bool true, .int .i64 (t : Int), .int .i64 ((t + 1 : Nat) : Int), rfl, by omega, UE.out, fun k hk => ?_⟩, ?_⟩
    ·rcases Nat.lt_or_eq_of_le (Nat.le_of_lt_succ hk) with h1 | rfl
     ·exact JP.out k h1
     ·rw [Hgd.out]; exact (cf_lt _ _).1 (by rw [hcc.out]; exact hlt)
    ·simp only [intOf]; show R.sets.length - ((t + 1 : Nat) : Int).toNat < R.sets.length - ((t : Int)).toNat; omega
   ·have hS1 : Keep (∀ wx, Below w5.heap.size w5 wx → (fun wx => (fun wx => wx.cell? ⟨d, 3, none⟩ = some (.slice (some ⟨gp, op, none⟩) R.sets.length sc) ∧ wx.rangeAt w.heap.size 0 (bytesA 32 v.id.f).toList) wx ∧ wx.rangeAt gp (op + t * 32) (encH hh)) wx) := ⟨fun wx hb => ⟨hS0.out wx hb, rangeAt_below Hel.out hb Hgl.out⟩⟩
    have htl2 := htl
    refine wp_seq_k fun K9 hK9 => ?_
    refine wp_seq_k fun K10 hK10 => ?_
    refine wp_region_held_drew (S := fun wx => (fun wx => wx.cell? ⟨d, 3, none⟩ = some (.slice (some ⟨gp, op, none⟩) R.sets.length sc) ∧ wx.rangeAt w.heap.size 0 (bytesA 32 v.id.f).toList) wx ∧ wx.rangeAt gp (op + t * 32) (encH hh)) (by kernel_rfl) (hS1.out _ BD.out) (fun hHeld => ?_)
    refine tkS (i := 0) (oi := ⟨some 17, Op.move (Operand.tmp 5), 3, _, _, none⟩) (v := .int .i64 (t : Int)) rfl (Or.inl ⟨by rfl, fun w hS => by clear hS; go_simp⟩) hHeld ?_
    refine tkS (i := 1) (oi := ⟨some 18, Op.move (Operand.tmp 0), 31, _, _, none⟩) (v := .pointer (some ⟨d, 0, none⟩)) rfl (Or.inl ⟨by rfl, fun w hS => by clear hS; go_simp⟩) hHeld ?_
    refine tkS (i := 2) (oi := ⟨some 19, Op.nilCheck (Operand.tmp 18), 0, _, _, none⟩) (v := .pointer (some ⟨d, 0, none⟩)) rfl (Or.inl ⟨by rfl, fun w hS => by clear hS; go_simp⟩) hHeld ?_
    refine tkS (i := 3) (oi := ⟨some 20, Op.fieldAddr 79 (Operand.tmp 19) 3, 0, _, _, none⟩) (v := .pointer (some ⟨d, 3, none⟩)) rfl (Or.inl ⟨by rfl, fun w hS => by clear hS; go_simp⟩) hHeld ?_
    refine tkS (i := 4) (oi := ⟨some 21, Op.load 37 (Operand.tmp 20), 37, _, _, none⟩) (v := .slice (some ⟨gp, op, none⟩) R.sets.length sc) rfl (Or.inl ⟨by rfl, fun w hS => by obtain ⟨⟨hS1, hS2⟩, hS3⟩ := hS; clear hS2 hS3; go_simp⟩) hHeld ?_
    refine tkS (i := 5) (oi := ⟨some 22, Op.call { callee := Callee.builtin Builtin.len, args := #[Operand.tmp 21], argTypes := #[37] }, 3, _, _, none⟩) (v := .int .i64 (R.sets.length : Int)) rfl (Or.inl ⟨by rfl, fun w hS => by clear hS; go_simp⟩) hHeld ?_
    refine tkS (i := 6) (oi := ⟨some 23, Op.binOp BinOp.lss 3 (Operand.tmp 17) (Operand.tmp 22) 3, 4, _, _, none⟩) (v := .bool true) rfl (Or.inl ⟨by rfl, fun w hS => by clear hS; go_simp⟩) hHeld ?_
    refine tkS (i := 7) (oi := ⟨some 24, Op.move (Operand.tmp 23), 4, _, _, none⟩) (v := .bool true) rfl (Or.inl ⟨by rfl, fun w hS => by clear hS; go_simp⟩) hHeld ?_
    refine tkS (i := 8) (oi := ⟨some 25, Op.move (Operand.tmp 0), 31, _, _, some (7, true)⟩) (v := .pointer (some ⟨d, 0, none⟩)) rfl (Or.inl ⟨by rfl, fun w hS => by clear hS; go_simp⟩) hHeld ?_
    refine tkS (i := 9) (oi := ⟨some 26, Op.nilCheck (Operand.tmp 25), 0, _, _, some (7, true)⟩) (v := .pointer (some ⟨d, 0, none⟩)) rfl (Or.inl ⟨by rfl, fun w hS => by clear hS; go_simp⟩) hHeld ?_
    refine tkS (i := 10) (oi := ⟨some 27, Op.fieldAddr 79 (Operand.tmp 26) 3, 0, _, _, some (7, true)⟩) (v := .pointer (some ⟨d, 3, none⟩)) rfl (Or.inl ⟨by rfl, fun w hS => by clear hS; go_simp⟩) hHeld ?_
    refine tkS (i := 11) (oi := ⟨some 28, Op.load 37 (Operand.tmp 27), 37, _, _, some (7, true)⟩) (v := .slice (some ⟨gp, op, none⟩) R.sets.length sc) rfl (Or.inl ⟨by rfl, fun w hS => by obtain ⟨⟨hS1, hS2⟩, hS3⟩ := hS; clear hS2 hS3; go_simp⟩) hHeld ?_
    refine tkS (i := 12) (oi := ⟨some 29, Op.move (Operand.tmp 5), 3, _, _, some (7, true)⟩) (v := .int .i64 (t : Int)) rfl (Or.inl ⟨by rfl, fun w hS => by clear hS; go_simp⟩) hHeld ?_
    refine tkS (i := 13) (oi := ⟨some 30, Op.indexAddr 37 (Operand.tmp 28) (Operand.tmp 29), 0, _, _, some (7, true)⟩) (v := .pointer (some ⟨gp, op + t * 32, none⟩)) rfl (Or.inl ⟨by rfl, fun w hS => by clear hS; go_simp⟩) hHeld ?_
    refine tkS (i := 14) (oi := ⟨some 31, Op.load 36 (Operand.tmp 30), 36, _, _, some (7, true)⟩) (v := .agg (bytesA 32 hh.f)) rfl (yieldsIf_ldE (by rfl) (Operand.tmp 30) rfl gp (op + t * 32) rfl hh fun w hS => hS.2) hHeld ?_
    refine tkS (i := 15) (oi := ⟨some 32, Op.fieldAddr 39 (Operand.tmp 3) 0, 0, _, _, some (7, true)⟩) (v := .pointer (some ⟨w.heap.size, 0, none⟩)) rfl (Or.inl ⟨by rfl, fun w hS => by clear hS; go_simp⟩) hHeld ?_
    refine tkS (i := 16) (oi := ⟨some 33, Op.load 36 (Operand.tmp 32), 36, _, _, some (7, true)⟩) (v := .agg (bytesA 32 v.id.f)) rfl (yieldsIf_ld (by rfl) (Operand.tmp 32) 36 rfl w.heap.size 0 rfl (bytesA 32 v.id.f) _ Try.underlying36 rfl (size36A _) fun w hS => hS.1.2) hHeld ?_
    refine wpAnyH_ready (rs := [17]) (by kernel_rfl) (by simp) ?_
    refine AllReadyH.cons (o := ⟨some 34, Op.call { callee := Callee.value (Operand.func 57), args := #[Operand.tmp 31, Operand.tmp 33], argTypes := #[36, 36] }, 3, _, _, some (7, true)⟩) rfl (fun K hK => ?_) AllReadyH.nil
    rw [if_pos (by rfl)]
    refine wp_callF 57 _ _ rfl Try.in57 #[.agg (bytesA 32 hh.f), .agg (bytesA 32 v.id.f)] (by simp [Act.eval]) (fun u wx => u = .int .i64 cc ∧ Below wr.drew.heap.size wr.drew wx) ((cmpR_any hh v.id wr.drew).mono fun e w' ⟨h1, h2⟩ => ⟨_, h1, by rw [hcc.out], h2⟩) ?_
    rintro _ we ⟨rfl, hb⟩
    have UE : Keep (Below w5.heap.size w5 we) := ⟨belowT BD.out hb⟩
    refine hK _ _ (hS1.out _ UE.out) fun hH1 => ?_
    clear hK hb
    simp only [Act.put, pqA, pqB, pqC]
    refine tkS (i := 18) (oi := ⟨some 35, Op.binOp BinOp.lss 3 (Operand.tmp 34) (Operand.const (Value.int IntKind.i64 0)) 3, 4, _, _, some (7, true)⟩) (v := .bool false) rfl (Or.inl ⟨by rfl, fun w hS => by clear hS; go_simp⟩) hH1 ?_
    refine tkS (i := 19) (oi := ⟨some 36, Op.pick (Operand.tmp 24) (Operand.tmp 35) (Operand.const (Value.bool false)), 4, _, _, none⟩) (v := .bool false) rfl (Or.inl ⟨by rfl, fun w hS => by clear hS; go_simp⟩) hH1 ?_
    refine wpAnyH_done (by kernel_rfl) ?_ _
    refine hK10 _ _ ?_
    refine wp_cond_false rfl ?_
    refine wp_exit ?_
    refine hK6 _ _ ?_
    refine wp_seq_k fun K11 hK11 => ?_
    have Be : Keep (Below w4.heap.size w4 we) := ⟨belowT B5.out UE.out⟩
    have Le : Keep (w4.heap.size ≤ we.heap.size) := ⟨Be.out.size⟩
    have HDe := Keep.mk (HD5.out.below UE.out)
    have Oe := Keep.mk (ownsH_below O5.out UE.out)
    have HPt : Keep (PutAt R.sets v.id t) := ⟨⟨by omega, JP.out, fun _ hc => hlt (by rw [← hcc.out]; exact (cf_lt _ _).2 (by rw [Hgd.out] at hc; exact hc))⟩⟩
    refine rgn ?_
    refine VlS (.slice (some ⟨w4.heap.size, 0, none⟩) 0 0) ?_
    refine VlS (.pointer (some ⟨d, 0, none⟩)) ?_
    refine VlS (.pointer (some ⟨d, 0, none⟩)) ?_
    refine VlS (.pointer (some ⟨d, 3, none⟩)) ?_
    have c1 := HDe.out.blk.c 3 (show (rdA R.room v4 wv (.slice (some ⟨gp, op, none⟩) R.sets.length sc))[3]? = some (.slice (some ⟨gp, op, none⟩) R.sets.length sc) from rfl)
    refine WL.val (by kernel_rfl) (.slice (some ⟨gp, op, none⟩) R.sets.length sc) (by go_simp) ?_
    clear c1
    simp only [Act.put, pqA, pqB, pqC]
    refine VlS (.int .i64 (t : Int)) ?_
    refine WL.slr (by kernel_rfl) 37 (.tmp 43) none (some (.tmp 44)) rfl _ none (some (.int .i64 (t : Int))) (.slice (some ⟨gp, op, none⟩) t sc) rfl rfl rfl (slH_h _ _ _ t (by have := HSc.out; omega) _) ?_
    simp only [Act.put, pqA, pqB, pqC]
    refine WL.appL (by kernel_rfl) (.tmp 39) (.tmp 45) rfl w4.heap.size (.slice (some ⟨w4.heap.size, 0, none⟩) 0 0) (.slice (some ⟨gp, op, none⟩) t sc) [] (R.sets.take t) rfl rfl Oe.out (HRow.takeS HDe.out.sets.row (by omega)) (by have := HI.out.sl; simp; omega) (Le.out) fun v6 w6 h1 h2 => ?_
    rw [List.nil_append] at h1
    have O6 := Keep.mk h1
    have B6 : Keep (Below w4.heap.size w4 w6) := ⟨belowG Be.out h2 Le.out fun k e => by have e := Option.some.inj e; subst e; exact Nat.le_refl _⟩
    have HD6 := Keep.mk (HD4.out.below B6.out)
    have HX6 := Keep.mk (HX4.out.below B6.out HX4.out.lt)
    clear h1 h2
    simp only [Act.put, pqA, pqB, pqC]
    refine VlS (v6) ?_
    refine WL.nil (hK11 _ _ ?_)
    refine wp_seq_k fun K12 hK12 => rgn ?_
    refine VlS (v6) ?_
    refine VlS (.pointer (some ⟨w.heap.size, 0, none⟩)) ?_
    refine WL.mid (by kernel_rfl) 36 (.tmp 48) rfl w.heap.size 0 rfl (bytesA 32 v.id.f).toList _ (vtx_rng (hvv.out ▸ HX6.out)) Try.underlying36 rfl (by rw [Array.length_toList]; exact Try.size36B _) ?_
    rw [Array.toArray_toList]
    simp only [Act.put, pqA, pqB, pqC]
    refine WL.bs (by kernel_rfl) 37 1 _ rfl #[(0, .agg (bytesA 32 v.id.f))] (by simp [Act.eval]) _ _ (bsH v.id w6) ?_
    have HGy := Keep.mk (Blk.new w6 36 (bytesA 32 v.id.f))
    have hz := below_new w6 (.cells (bytesA 32 v.id.f) 36)
    have B7 := Keep.mk (belowT B6.out hz)
    have O7 := Keep.mk (ownsH_below O6.out hz)
    clear hz
    generalize w6.alloc (.cells (bytesA 32 v.id.f) 36) = w7 at *
    generalize w6.heap.size = gy at *
    simp only [Act.put, pqA, pqB, pqC]
    refine WL.appL (by kernel_rfl) (.tmp 47) (.tmp 50) rfl w4.heap.size v6 (.slice (some ⟨gy, 0, none⟩) 1 1) (R.sets.take t) [v.id] rfl rfl O7.out (HRow.mk rfl (Nat.le_refl _) (by rw [flatH_single]; exact blk_rngE HGy.out)) (by have := HI.out.sl; rw [List.length_take]; simp; omega) B7.out.size fun v8 w8 h1 h2 => ?_
    have O8 := Keep.mk h1
    have B8 : Keep (Below w4.heap.size w4 w8) := ⟨belowG B7.out h2 B7.out.size fun k e => (World.ownsRow.lt O7.out k e).1⟩
    have HD8 := Keep.mk (HD4.out.below B8.out)
    clear h1 h2
    simp only [Act.put, pqA, pqB, pqC]
    refine VlS (v8) ?_
    refine WL.nil (hK12 _ _ ?_)
    refine rgn ?_
    refine VlS (.pointer (some ⟨d, 0, none⟩)) ?_
    refine VlS (v8) ?_
    refine VlS (.pointer (some ⟨d, 0, none⟩)) ?_
    refine VlS (.pointer (some ⟨d, 0, none⟩)) ?_
    refine VlS (.pointer (some ⟨d, 3, none⟩)) ?_
    have c1 := HD8.out.blk.c 3 (show (rdA R.room v4 wv (.slice (some ⟨gp, op, none⟩) R.sets.length sc))[3]? = some (.slice (some ⟨gp, op, none⟩) R.sets.length sc) from rfl)
    refine WL.val (by kernel_rfl) (.slice (some ⟨gp, op, none⟩) R.sets.length sc) (by go_simp) ?_
    clear c1
    simp only [Act.put, pqA, pqB, pqC]
    refine VlS (.int .i64 (t : Int)) ?_
    obtain ⟨sx, hsx⟩ : ∃ s, Keep (s = sliced (some ⟨gp, op, none⟩) t R.sets.length sc 32) := ⟨_, ⟨rfl⟩⟩
    refine WL.slr (by kernel_rfl) 37 (.tmp 57) (some (.tmp 58)) none rfl _ (some (.int .i64 (t : Int))) none sx rfl rfl rfl (by rw [hsx.out]; exact slH_l _ _ _ t (by omega) _) ?_
    simp only [Act.put, pqA, pqB, pqC]
    refine WL.appL (by kernel_rfl) (.tmp 53) (.tmp 59) rfl w4.heap.size v8 sx (R.sets.take t ++ [v.id]) (R.sets.drop t) rfl rfl O8.out (by rw [hsx.out]; exact HRow.dropS HD8.out.sets.row (by omega)) (by have := HI.out.sl; rw [List.length_append, List.length_take, List.length_drop]; simp; omega) B8.out.size fun v9 w9 h1 h2 => ?_
    have O9 := Keep.mk h1
    have B9 : Keep (Below w4.heap.size w4 w9) := ⟨belowG B8.out h2 B8.out.size fun k e => (World.ownsRow.lt O8.out k e).1⟩
    have HD9 := Keep.mk (HD4.out.below B9.out)
    clear h1 h2
    have hsl := (OwnH.of O9.out).sl
    obtain ⟨a9, c9, e9⟩ := hsl
    obtain ⟨n9, hn9⟩ : ∃ n, n = (R.sets.take t ++ [v.id] ++ R.sets.drop t).length := ⟨_, rfl⟩
    rw [← hn9] at e9
    subst e9
    simp only [Act.put, pqA, pqB, pqC]
    refine VlS (.pointer (some ⟨d, 0, none⟩)) ?_
    refine VlS (.pointer (some ⟨d, 3, none⟩)) ?_
    have f_o := HD9.out.blk.frozen 3
    have c_o : w9.cell? ⟨d, 3, none⟩ = some (.slice (some ⟨gp, op, none⟩) R.sets.length sc) := HD9.out.blk.c 3 (show (rdA R.room v4 wv (.slice (some ⟨gp, op, none⟩) R.sets.length sc))[3]? = some (.slice (some ⟨gp, op, none⟩) R.sets.length sc) from rfl)
    refine WL.cell (by kernel_rfl) (w9.setCell ⟨d, 3, none⟩ (.slice a9 n9 c9)) (by go_simp) ?_
    clear f_o c_o
    simp only [Act.put]
    refine WL.nil ?_
    go_end0
    have hOo := OwnH.of O9.out
    rw [show R.sets.take t ++ [v.id] ++ R.sets.drop t = insL R.sets t v.id by rw [insL, List.append_assoc]; rfl] at hOo
    have hnw : ∀ k, (Value.slice a9 n9 c9).ownBlock = some k → w4.heap.size ≤ k := fun k hk => (World.ownsRow.lt O9.out k hk).1
    refine ⟨rfl, t, v4, .slice a9 n9 c9, HPt.out, ⟨hold_at2 HD9.out hOo fun k hk => ⟨fun e => by have := HD4.out.lt k e; have := hnw k hk; omega, fun q hq e => by have := ((HD4.out.ps q hq).2.2 k e).1; have := hnw k hk; omega⟩, (G4.out.trans (Grown.below B9.out)).trans (Grown.setCell _ _ _ _ fun _ => .inl rfl), fun k hk => ?_, fun q hq => ?_⟩⟩
    ·rcases hk with e | e | e | e
     ·exact .inl (.inl e)
     ·exact (N4.out k e).imp (fun h => .inr (.inl h)) id
     ·exact .inl (.inr (.inr (.inl e)))
     ·exact .inr (Nat.le_trans G4.out.size (hnw k e))
    ·rcases hq with hq | hq
     ·rcases List.mem_append.1 hq with hq | hq
      ·exact .inl (.inl hq)
      ·exact .inr (List.mem_singleton.1 hq)
     ·exact .inl (.inr hq)
  ·have hte : Keep (t = R.sets.length) := ⟨by omega⟩
   have htl' : ¬ (t : Int) < (R.sets.length : Int) := by omega
   refine wp_seq_k fun K13 hK13 => ?_
   refine wp_seq_k fun K14 hK14 => ?_
   refine wp_region_held_drew (S := fun wx => wx.cell? ⟨d, 3, none⟩ = some (.slice sa R.sets.length sc) ∧ wx.rangeAt w.heap.size 0 (bytesA 32 v.id.f).toList) (by kernel_rfl) (hS0.out _ BD.out) (fun hHeld => ?_)
   refine tkS (i := 0) (oi := ⟨some 17, Op.move (Operand.tmp 5), 3, _, _, none⟩) (v := .int .i64 (t : Int)) rfl (Or.inl ⟨by rfl, fun w hS => by clear hS; go_simp⟩) hHeld ?_
   refine tkS (i := 1) (oi := ⟨some 18, Op.move (Operand.tmp 0), 31, _, _, none⟩) (v := .pointer (some ⟨d, 0, none⟩)) rfl (Or.inl ⟨by rfl, fun w hS => by clear hS; go_simp⟩) hHeld ?_
   refine tkS (i := 2) (oi := ⟨some 19, Op.nilCheck (Operand.tmp 18), 0, _, _, none⟩) (v := .pointer (some ⟨d, 0, none⟩)) rfl (Or.inl ⟨by rfl, fun w hS => by clear hS; go_simp⟩) hHeld ?_
   refine tkS (i := 3) (oi := ⟨some 20, Op.fieldAddr 79 (Operand.tmp 19) 3, 0, _, _, none⟩) (v := .pointer (some ⟨d, 3, none⟩)) rfl (Or.inl ⟨by rfl, fun w hS => by clear hS; go_simp⟩) hHeld ?_
   refine tkS (i := 4) (oi := ⟨some 21, Op.load 37 (Operand.tmp 20), 37, _, _, none⟩) (v := .slice sa R.sets.length sc) rfl (Or.inl ⟨by rfl, fun w hS => by obtain ⟨hS1, hS2⟩ := hS; clear hS2; go_simp⟩) hHeld ?_
   refine tkS (i := 5) (oi := ⟨some 22, Op.call { callee := Callee.builtin Builtin.len, args := #[Operand.tmp 21], argTypes := #[37] }, 3, _, _, none⟩) (v := .int .i64 (R.sets.length : Int)) rfl (Or.inl ⟨by rfl, fun w hS => by clear hS; go_simp⟩) hHeld ?_
   refine tkS (i := 6) (oi := ⟨some 23, Op.binOp BinOp.lss 3 (Operand.tmp 17) (Operand.tmp 22) 3, 4, _, _, none⟩) (v := .bool false) rfl (Or.inl ⟨by rfl, fun w hS => by clear hS; go_simp⟩) hHeld ?_
   refine tkS (i := 7) (oi := ⟨some 24, Op.move (Operand.tmp 23), 4, _, _, none⟩) (v := .bool false) rfl (Or.inl ⟨by rfl, fun w hS => by clear hS; go_simp⟩) hHeld ?_
   refine tkS (i := 8) (oi := ⟨some 25, Op.move (Operand.tmp 0), 31, _, _, some (7, true)⟩) (v := undef) rfl (Or.inr ⟨by rfl, rfl⟩) hHeld ?_
   refine tkS (i := 9) (oi := ⟨some 26, Op.nilCheck (Operand.tmp 25), 0, _, _, some (7, true)⟩) (v := undef) rfl (Or.inr ⟨by rfl, rfl⟩) hHeld ?_
   refine tkS (i := 10) (oi := ⟨some 27, Op.fieldAddr 79 (Operand.tmp 26) 3, 0, _, _, some (7, true)⟩) (v := undef) rfl (Or.inr ⟨by rfl, rfl⟩) hHeld ?_
   refine tkS (i := 11) (oi := ⟨some 28, Op.load 37 (Operand.tmp 27), 37, _, _, some (7, true)⟩) (v := undef) rfl (Or.inr ⟨by rfl, rfl⟩) hHeld ?_
   refine tkS (i := 12) (oi := ⟨some 29, Op.move (Operand.tmp 5), 3, _, _, some (7, true)⟩) (v := undef) rfl (Or.inr ⟨by rfl, rfl⟩) hHeld ?_
   refine tkS (i := 13) (oi := ⟨some 30, Op.indexAddr 37 (Operand.tmp 28) (Operand.tmp 29), 0, _, _, some (7, true)⟩) (v := undef) rfl (Or.inr ⟨by rfl, rfl⟩) hHeld ?_
   refine tkS (i := 14) (oi := ⟨some 31, Op.load 36 (Operand.tmp 30), 36, _, _, some (7, true)⟩) (v := undef) rfl (Or.inr ⟨by rfl, rfl⟩) hHeld ?_
   refine tkS (i := 15) (oi := ⟨some 32, Op.fieldAddr 39 (Operand.tmp 3) 0, 0, _, _, some (7, true)⟩) (v := undef) rfl (Or.inr ⟨by rfl, rfl⟩) hHeld ?_
   refine tkS (i := 16) (oi := ⟨some 33, Op.load 36 (Operand.tmp 32), 36, _, _, some (7, true)⟩) (v := undef) rfl (Or.inr ⟨by rfl, rfl⟩) hHeld ?_
   refine tkS (i := 17) (oi := ⟨some 34, Op.call { callee := Callee.value (Operand.func 57), args := #[Operand.tmp 31, Operand.tmp 33], argTypes := #[36, 36] }, 3, _, _, some (7, true)⟩) (v := undef) rfl (Or.inr ⟨by rfl, rfl⟩) hHeld ?_
   refine tkS (i := 18) (oi := ⟨some 35, Op.binOp BinOp.lss 3 (Operand.tmp 34) (Operand.const (Value.int IntKind.i64 0)) 3, 4, _, _, some (7, true)⟩) (v := undef) rfl (Or.inr ⟨by rfl, rfl⟩) hHeld ?_
   refine tkS (i := 19) (oi := ⟨some 36, Op.pick (Operand.tmp 24) (Operand.tmp 35) (Operand.const (Value.bool false)), 4, _, _, none⟩) (v := .bool false) rfl (Or.inl ⟨by rfl, fun w hS => by clear hS; go_simp⟩) hHeld ?_
   refine wpAnyH_done (by kernel_rfl) ?_ _
   refine hK14 _ _ ?_
   refine wp_cond_false rfl ?_
   refine wp_exit ?_
   refine hK6 _ _ ?_
   refine wp_seq_k fun K15 hK15 => ?_
   have Be : Keep (Below w4.heap.size w4 wr.drew) := ⟨belowT B5.out BD.out⟩
   have Le : Keep (w4.heap.size ≤ wr.drew.heap.size) := ⟨Be.out.size⟩
   have HDe := Keep.mk (HD5.out.below BD.out)
   have Oe := Keep.mk (ownsH_below O5.out BD.out)
   have HPt : Keep (PutAt R.sets v.id t) := ⟨⟨by omega, JP.out, fun hc => absurd hc (by omega)⟩⟩
   refine rgn ?_
   refine VlS (.slice (some ⟨w4.heap.size, 0, none⟩) 0 0) ?_
   refine VlS (.pointer (some ⟨d, 0, none⟩)) ?_
   refine VlS (.pointer (some ⟨d, 0, none⟩)) ?_
   refine VlS (.pointer (some ⟨d, 3, none⟩)) ?_
   have c1 := HDe.out.blk.c 3 (show (rdA R.room v4 wv (.slice sa R.sets.length sc))[3]? = some (.slice sa R.sets.length sc) from rfl)
   refine WL.val (by kernel_rfl) (.slice sa R.sets.length sc) (by go_simp) ?_
   clear c1
   simp only [Act.put, pqA, pqB, pqC]
   refine VlS (.int .i64 (t : Int)) ?_
   refine WL.slr (by kernel_rfl) 37 (.tmp 43) none (some (.tmp 44)) rfl _ none (some (.int .i64 (t : Int))) (.slice sa t sc) rfl rfl rfl (slH_h _ _ _ t (by have := HSc.out; omega) _) ?_
   simp only [Act.put, pqA, pqB, pqC]
   refine WL.appL (by kernel_rfl) (.tmp 39) (.tmp 45) rfl w4.heap.size (.slice (some ⟨w4.heap.size, 0, none⟩) 0 0) (.slice sa t sc) [] (R.sets.take t) rfl rfl Oe.out (HRow.takeS HDe.out.sets.row (by omega)) (by have := HI.out.sl; simp; omega) (Le.out) fun v6 w6 h1 h2 => ?_
   rw [List.nil_append] at h1
   have O6 := Keep.mk h1
   have B6 : Keep (Below w4.heap.size w4 w6) := ⟨belowG Be.out h2 Le.out fun k e => by have e := Option.some.inj e; subst e; exact Nat.le_refl _⟩
   have HD6 := Keep.mk (HD4.out.below B6.out)
   have HX6 := Keep.mk (HX4.out.below B6.out HX4.out.lt)
   clear h1 h2
   simp only [Act.put, pqA, pqB, pqC]
   refine VlS (v6) ?_
   refine WL.nil (hK15 _ _ ?_)
   refine wp_seq_k fun K16 hK16 => rgn ?_
   refine VlS (v6) ?_
   refine VlS (.pointer (some ⟨w.heap.size, 0, none⟩)) ?_
   refine WL.mid (by kernel_rfl) 36 (.tmp 48) rfl w.heap.size 0 rfl (bytesA 32 v.id.f).toList _ (vtx_rng (hvv.out ▸ HX6.out)) Try.underlying36 rfl (by rw [Array.length_toList]; exact Try.size36B _) ?_
   rw [Array.toArray_toList]
   simp only [Act.put, pqA, pqB, pqC]
   refine WL.bs (by kernel_rfl) 37 1 _ rfl #[(0, .agg (bytesA 32 v.id.f))] (by simp [Act.eval]) _ _ (bsH v.id w6) ?_
   have HGy := Keep.mk (Blk.new w6 36 (bytesA 32 v.id.f))
   have hz := below_new w6 (.cells (bytesA 32 v.id.f) 36)
   have B7 := Keep.mk (belowT B6.out hz)
   have O7 := Keep.mk (ownsH_below O6.out hz)
   clear hz
   generalize w6.alloc (.cells (bytesA 32 v.id.f) 36) = w7 at *
   generalize w6.heap.size = gy at *
   simp only [Act.put, pqA, pqB, pqC]
   refine WL.appL (by kernel_rfl) (.tmp 47) (.tmp 50) rfl w4.heap.size v6 (.slice (some ⟨gy, 0, none⟩) 1 1) (R.sets.take t) [v.id] rfl rfl O7.out (HRow.mk rfl (Nat.le_refl _) (by rw [flatH_single]; exact blk_rngE HGy.out)) (by have := HI.out.sl; rw [List.length_take]; simp; omega) B7.out.size fun v8 w8 h1 h2 => ?_
   have O8 := Keep.mk h1
   have B8 : Keep (Below w4.heap.size w4 w8) := ⟨belowG B7.out h2 B7.out.size fun k e => (World.ownsRow.lt O7.out k e).1⟩
   have HD8 := Keep.mk (HD4.out.below B8.out)
   clear h1 h2
   simp only [Act.put, pqA, pqB, pqC]
   refine VlS (v8) ?_
   refine WL.nil (hK16 _ _ ?_)
   refine rgn ?_
   refine VlS (.pointer (some ⟨d, 0, none⟩)) ?_
   refine VlS (v8) ?_
   refine VlS (.pointer (some ⟨d, 0, none⟩)) ?_
   refine VlS (.pointer (some ⟨d, 0, none⟩)) ?_
   refine VlS (.pointer (some ⟨d, 3, none⟩)) ?_
   have c1 := HD8.out.blk.c 3 (show (rdA R.room v4 wv (.slice sa R.sets.length sc))[3]? = some (.slice sa R.sets.length sc) from rfl)
   refine WL.val (by kernel_rfl) (.slice sa R.sets.length sc) (by go_simp) ?_
   clear c1
   simp only [Act.put, pqA, pqB, pqC]
   refine VlS (.int .i64 (t : Int)) ?_
   obtain ⟨sx, hsx⟩ : ∃ s, Keep (s = sliced sa t R.sets.length sc 32) := ⟨_, ⟨rfl⟩⟩
   refine WL.slr (by kernel_rfl) 37 (.tmp 57) (some (.tmp 58)) none rfl _ (some (.int .i64 (t : Int))) none sx rfl rfl rfl (by rw [hsx.out]; exact slH_l _ _ _ t (by omega) _) ?_
   simp only [Act.put, pqA, pqB, pqC]
   refine WL.appL (by kernel_rfl) (.tmp 53) (.tmp 59) rfl w4.heap.size v8 sx (R.sets.take t ++ [v.id]) (R.sets.drop t) rfl rfl O8.out (by rw [hsx.out]; exact HRow.dropS HD8.out.sets.row (by omega)) (by have := HI.out.sl; rw [List.length_append, List.length_take, List.length_drop]; simp; omega) B8.out.size fun v9 w9 h1 h2 => ?_
   have O9 := Keep.mk h1
   have B9 : Keep (Below w4.heap.size w4 w9) := ⟨belowG B8.out h2 B8.out.size fun k e => (World.ownsRow.lt O8.out k e).1⟩
   have HD9 := Keep.mk (HD4.out.below B9.out)
   clear h1 h2
   have hsl := (OwnH.of O9.out).sl
   obtain ⟨a9, c9, e9⟩ := hsl
   obtain ⟨n9, hn9⟩ : ∃ n, n = (R.sets.take t ++ [v.id] ++ R.sets.drop t).length := ⟨_, rfl⟩
   rw [← hn9] at e9
   subst e9
   simp only [Act.put, pqA, pqB, pqC]
   refine VlS (.pointer (some ⟨d, 0, none⟩)) ?_
   refine VlS (.pointer (some ⟨d, 3, none⟩)) ?_
   have f_o := HD9.out.blk.frozen 3
   have c_o : w9.cell? ⟨d, 3, none⟩ = some (.slice sa R.sets.length sc) := HD9.out.blk.c 3 (show (rdA R.room v4 wv (.slice sa R.sets.length sc))[3]? = some (.slice sa R.sets.length sc) from rfl)
   refine WL.cell (by kernel_rfl) (w9.setCell ⟨d, 3, none⟩ (.slice a9 n9 c9)) (by go_simp) ?_
   clear f_o c_o
   simp only [Act.put]
   refine WL.nil ?_
   go_end0
   have hOo := OwnH.of O9.out
   rw [show R.sets.take t ++ [v.id] ++ R.sets.drop t = insL R.sets t v.id by rw [insL, List.append_assoc]; rfl] at hOo
   have hnw : ∀ k, (Value.slice a9 n9 c9).ownBlock = some k → w4.heap.size ≤ k := fun k hk => (World.ownsRow.lt O9.out k hk).1
   refine ⟨rfl, t, v4, .slice a9 n9 c9, HPt.out, ⟨hold_at2 HD9.out hOo fun k hk => ⟨fun e => by have := HD4.out.lt k e; have := hnw k hk; omega, fun q hq e => by have := ((HD4.out.ps q hq).2.2 k e).1; have := hnw k hk; omega⟩, (G4.out.trans (Grown.below B9.out)).trans (Grown.setCell _ _ _ _ fun _ => .inl rfl), fun k hk => ?_, fun q hq => ?_⟩⟩
   ·rcases hk with e | e | e | e
    ·exact .inl (.inl e)
    ·exact (N4.out k e).imp (fun h => .inr (.inl h)) id
    ·exact .inl (.inr (.inr (.inl e)))
    ·exact .inr (Nat.le_trans G4.out.size (hnw k e))
   ·rcases hq with hq | hq
    ·rcases List.mem_append.1 hq with hq | hq
     ·exact .inl (.inl hq)
     ·exact .inr (List.mem_singleton.1 hq)
    ·exact .inl (.inr hq)
end Go.Proofs.Ytogmdfhicbmplaa
namespace Go.Proofs.Ytogmdfhicbmplaa
open Go.RowKit
set_option linter.unusedSimpArgs false
set_option linter.unusedVariables false

/-! ### Rows of numbers. -/
def iv (l : List Int) : List Value := l.map fun c => .int .i64 c
theorem iv_len (l : List Int) : (iv l).length = l.length := by simp [iv]
theorem iv_get (l : List Int) (i : Nat) (h : i < l.length) : (iv l)[i]? = some (.int .i64 (l.getD i 0)) := by
 simp [iv, h, List.getD]
theorem iv_app (a b : List Int) : iv (a ++ b) = iv a ++ iv b := by simp [iv]
theorem iv_one (l : List Int) : ∀ u ∈ iv l, u.oneCell' = true := fun u hu => by simp [iv] at hu; obtain ⟨_, _, rfl⟩ := hu; rfl
theorem iv_set (l : List Int) (t : Nat) (c : Int) : (iv l).set t (.int .i64 c) = iv (l.set t c) := by simp [iv, List.map_set]
def OwnJ (w : World) (v : Value) (l : List Int) : Prop :=
 (v = .slice none 0 0 ∧ l = []) ∨ ∃ g cap cur T, v = .slice (some ⟨g, 0, none⟩) l.length cap ∧ Blk w g T cur ∧ (T = 3 ∨ T = 51 ∧ l.length = cap) ∧ l.length ≤ cap ∧ cap ≤ maxLen ∧ cur.size = cap ∧ cur.toList.take l.length = iv l
theorem ownJ_nil (w : World) : OwnJ w (.slice none 0 0) [] := .inl ⟨rfl, rfl⟩
theorem OwnJ.sl {w : World} {v : Value} {l : List Int} (h : OwnJ w v l) : ∃ a c, v = .slice a l.length c := by
 rcases h with ⟨rfl, rfl⟩ | ⟨g, cap, cur, T, rfl, _⟩
 ·exact ⟨_, _, rfl⟩
 ·exact ⟨_, _, rfl⟩
theorem take_getJ {cur : Array Value} {l : List Int} {n : Nat} (h : cur.toList.take n = iv l) (hl : l.length = n) (t : Nat) (ht : t < n) : cur[t]? = some (.int .i64 (l.getD t 0)) := by
 have h2 : (cur.toList.take n)[t]? = some (.int .i64 (l.getD t 0)) := by rw [h, iv_get _ _ (by omega)]
 rw [List.getElem?_take, if_pos ht, Array.getElem?_toList] at h2
 exact h2
theorem OwnJ.at {w : World} {a : Option Addr} {n c : Nat} {l : List Int} (h : OwnJ w (.slice a n c) l) {i : Nat} (hi : i < l.length) : ∃ b, a = some ⟨b, 0, none⟩ ∧ w.cell? ⟨b, i, none⟩ = some (.int .i64 (l.getD i 0)) ∧ w.frozen? ⟨b, i, none⟩ = false ∧ b < w.heap.size := by
 rcases h with ⟨_, rfl⟩ | ⟨g, cap, cur, T, e, hg, _, _, _, _, ht⟩
 ·simp at hi
 ·injection e with e1 e2 e3
  exact ⟨g, e1, by rw [hg.cell, take_getJ ht rfl i hi], hg.frozen i, hg.lt⟩
theorem OwnJ.lt {w : World} {v : Value} {l : List Int} (h : OwnJ w v l) : ∀ k, v.ownBlock = some k → k < w.heap.size := fun k hk => by
 rcases h with ⟨rfl, rfl⟩ | ⟨g, cap, cur, T, rfl, hg, _⟩
 ·simp [Value.ownBlock] at hk
 ·simp [Value.ownBlock] at hk; subst hk; exact hg.lt
theorem OwnJ.grown {w w' : World} {v : Value} {l : List Int} {S : Nat → Prop} (h : OwnJ w v l) (hg : Grown w w' S) (hs : ∀ k, v.ownBlock = some k → ¬ S k) : OwnJ w' v l := by
 rcases h with h | ⟨g, cap, cur, T, rfl, hb, h2⟩
 ·exact .inl h
 ·exact .inr ⟨g, cap, cur, T, rfl, hg.blk hb (hs g rfl), h2⟩
theorem OwnJ.below {w w' : World} {v : Value} {l : List Int} (h : OwnJ w v l) (hb : Below w.heap.size w w') : OwnJ w' v l := h.grown (Grown.below (S := fun _ => False) hb) fun _ _ h => h
theorem OwnJ.setNe {w : World} {v : Value} {l : List Int} (h : OwnJ w v l) {g : Nat} (hg : v.ownBlock ≠ some g) (t : Nat) (c : Value) : OwnJ (w.setCell ⟨g, t, none⟩ c) v l :=
 h.grown (Grown.setCell w g t c (S := fun k => k = g) fun _ => rfl) fun _ hk e => hg (e ▸ hk)
theorem Try.info3 : (Try.prog.info? 3).map (fun i => (i.zero, i.size, i.bytes)) = some (some (.int .i64 0), 1, 8) := by kernel_rfl
def AppPostJ (w : World) (v : Value) (l : List Int) (v' : Value) (w' : World) : Prop :=
 OwnJ w' v' l ∧ ((v'.ownBlock = v.ownBlock ∧ (Grown w w' fun k => v.ownBlock = some k) ∧ ∀ a n c, v = .slice a n c → n < c) ∨ (v'.ownBlock = some w.heap.size ∧ Below w.heap.size w w'))
theorem AppPostJ.grown {w w' : World} {v v' : Value} {l : List Int} (h : AppPostJ w v l v' w') : Grown w w' fun k => v.ownBlock = some k := by
 rcases h.2 with h | h
 ·exact h.2.1
 ·exact Grown.below h.2
theorem run_appJ (w : World) (ty : TypeId) (v : Value) (l : List Int) (hown : OwnJ w v l) (g1 : Nat) (m : Int) (hc : w.cell? ⟨g1, 0, none⟩ = some (.int .i64 m)) (hb : l.length + 1 ≤ 1000000) :
  ∃ v' w', (Builtin.append_ #[23, 23] ty #[v, .slice (some ⟨g1, 0, none⟩) 1 1]).run Try.prog w = .ok v' w' ∧ AppPostJ w v (l ++ [m]) v' w' := by
 obtain ⟨i, hi, hzz⟩ := Option.map_eq_some_iff.1 Try.info3
 simp only [Prod.mk.injEq] at hzz
 obtain ⟨hz, hsz, hby⟩ := hzz
 have hnews : ∀ j u, (iv [m])[j]? = some u → w.cell? ((⟨g1, 0, none⟩ : Addr).add j) = some u := fun j u hu => by
  cases j with
  | zero => simp [iv] at hu; subst hu; exact hc
  | succ j => simp [iv] at hu
 rcases hown with ⟨rfl, rfl⟩ | ⟨g, cap, cur, T, rfl, hg, hT, hnc, hcm, hcs, htake⟩
 ·have hr := run_append_nil (P := Try.prog) w 23 ty 3 i (.int .i64 0) Try.underlying23 hi hz ⟨g1, 0, none⟩ 1 1 (iv [m]) (by rw [iv_len, hsz]; rfl) hnews (by omega) (by omega) (by omega)
  have hge := grownCap_ge w 1 0 3
  refine ⟨_, _, hr, .inr ⟨w.heap.size, grownCap w 1 0 3, _, 3, rfl, Blk.new w.drew 3 _, .inl rfl, hge, grownCap_le_maxLen w _ _ _ (by unfold maxLen; omega), ?_, ?_⟩, .inr ⟨rfl, ⟨rfl, rfl, rfl, by simp, fun k hk => Below.heap_alloc w.drew _ k hk⟩⟩⟩
  ·simp [iv, Builtin.zeroCells, Value.cells]; omega
  ·simp [iv]
 ·by_cases hroom : l.length + 1 ≤ cap
  ·obtain rfl : T = 3 := hT.elim id fun h => absurd h.2 (by omega)
   have hcell : (w.cell? ⟨g, l.length, none⟩).isSome = true := by
    rw [hg.cell, Array.getElem?_eq_getElem (by omega)]; rfl
   have hr := run_append_room_cells (P := Try.prog) w 23 ty 3 i Try.underlying23 hi g 0 l.length cap ⟨g1, 0, none⟩ 1 1 (iv [m]) (by rw [iv_len, hsz]; rfl) hnews (iv_one _) hroom
    (fun j hj => by
     have e : j = 0 := by rw [iv_len] at hj; simpa using hj
     subst e; rw [hsz]; simpa using hcell)
    (fun j hj => by
     have e : j = 0 := by rw [iv_len] at hj; simpa using hj
     subst e; rw [hsz]; simpa using hg.frozen l.length)
   have e : w.setCells g (0 + l.length * i.size) (iv [m]) = w.setCell ⟨g, l.length, none⟩ (.int .i64 m) := by
    rw [hsz, Nat.mul_one, Nat.zero_add]; rfl
   rw [e] at hr
   refine ⟨_, _, hr, .inr ⟨g, cap, cur.setIfInBounds l.length (.int .i64 m), 3, by simp, hg.set _ _, .inl rfl, by simpa using hroom, hcm, by simp [hcs], ?_⟩, .inl ⟨rfl, Grown.setCell w g _ _ fun _ => rfl, fun a n c e => by injection e with e1 e2 e3; omega⟩⟩
   have hlt9 : l.length < cur.toList.length := by simp; omega
   rw [Array.toList_setIfInBounds, List.length_append, List.length_singleton, iv_app, ← htake, take_set_next cur.toList l.length (.int .i64 m) hlt9]
   rfl
  ·have holds : ∀ j u, (iv l)[j]? = some u → w.cell? ((⟨g, 0, none⟩ : Addr).add j) = some u := fun j u hu => by
    have hj : j < l.length := by have := (List.getElem?_eq_some_iff.1 hu).1; rwa [iv_len] at this
    rw [iv_get l j hj] at hu
    rw [Addr.add_mid, Nat.zero_add, hg.cell, take_getJ htake rfl j hj]; exact hu
   have hr2 := run_append_grow (P := Try.prog) w 23 ty 3 i (.int .i64 0) Try.underlying23 hi hz ⟨g, 0, none⟩ l.length cap (iv l) (by rw [iv_len, hsz]; omega) holds ⟨g1, 0, none⟩ 1 1 (iv [m]) (by rw [iv_len, hsz]; rfl) hnews (by omega) (by omega) (by rw [hby]; exact growslice_fits (by omega) (by omega))
   have hge := grownCap_ge w (l.length + 1) cap 3
   refine ⟨_, _, hr2, .inr ⟨w.heap.size, grownCap w (l.length + 1) cap 3, _, 3, by simp, Blk.new w.drew 3 _, .inl rfl, by simpa using hge, grownCap_le_maxLen w _ _ _ (by unfold maxLen; omega), ?_, ?_⟩, .inr ⟨rfl, ⟨rfl, rfl, rfl, by simp, fun k hk => Below.heap_alloc w.drew _ k hk⟩⟩⟩
   ·simp [iv, Builtin.zeroCells, Value.cells]; omega
   ·rw [List.length_append, List.length_singleton, Array.toList_append, List.take_append_of_le_length (by simp [iv])]
    rw [List.take_of_length_le (by simp [iv])]
    simp [iv]
end Go.Proofs.Ytogmdfhicbmplaa
namespace Go.Proofs.Ytogmdfhicbmplaa
open Go.RowKit
set_option linter.unusedSimpArgs false
set_option linter.unusedVariables false

/-! ### The one order, step by step. -/
/-- How many of these are not placed yet. -/
def lkN (O ps : List Hs) : Nat := ps.countP fun p => decide (p ∉ O)
/-- What lacks says of x. -/
def lkA (par : Hs → List Hs) (O : List Hs) (x : Hs) : Int := if x ∈ O then -1 else (lkN O (par x) : Int)
theorem lkA_zero {par : Hs → List Hs} {O : List Hs} {x : Hs} : lkA par O x = 0 ↔ x ∉ O ∧ ∀ p ∈ par x, p ∈ O := by
 unfold lkA lkN
 by_cases h : x ∈ O
 ·rw [if_pos h]; constructor
  ·intro e; omega
  ·exact fun e => absurd h e.1
 ·rw [if_neg h]
  constructor
  ·intro e
   have e' : (par x).countP (fun p => decide (p ∉ O)) = 0 := by omega
   rw [List.countP_eq_zero] at e'
   exact ⟨h, fun p hp => by have := e' p hp; simpa using this⟩
  ·rintro ⟨_, e⟩
   have : (par x).countP (fun p => decide (p ∉ O)) = 0 := List.countP_eq_zero.2 fun p hp => by simpa using e p hp
   omega
theorem take_mem {G : List Hs} {t i : Nat} {x : Hs} (hn : G.Nodup) (hi : G[i]? = some x) : x ∈ G.take t ↔ i < t := by
 constructor
 ·intro h
  obtain ⟨j, hj⟩ := mem_at h
  rw [List.getElem?_take] at hj
  split at hj
  ·have := nodup_at hn hi hj; omega
  ·cases hj
 ·intro h
  refine at_mem (i := i) ?_
  rw [List.getElem?_take, if_pos h]; exact hi
/-- Of a set that is not all placed the one that comes next lacks nothing. -/
theorem one_ready {par : Hs → List Hs} {G : List Hs} (h : OneO par G) {t : Nat} {x : Hs} (hx : G[t]? = some x) : lkA par (G.take t) x = 0 := by
 refine lkA_zero.2 ⟨fun hm => ?_, fun p hp => ?_⟩
 ·have := (take_mem h.nd hx).1 hm; omega
 ·obtain ⟨k, hk⟩ := mem_at (h.all x (at_mem hx) p hp)
  exact (take_mem h.nd hk).2 (h.top t k x p hx hk hp)
theorem one_next {par : Hs → List Hs} {G A : List Hs} (h : OneO par G) (hA : A.Pairwise Lt) (hm : ∀ x, x ∈ A ↔ x ∈ G) {t n : Nat} {x : Hs} (hn : A[n]? = some x) (h0 : lkA par (G.take t) x = 0) (hmin : ∀ (a : Nat) y, a < n → A[a]? = some y → lkA par (G.take t) y ≠ 0) : G[t]? = some x := by
 obtain ⟨k, hk⟩ := mem_at ((hm x).1 (at_mem hn))
 obtain ⟨h1, h2⟩ := lkA_zero.1 h0
 have hkt : t ≤ k := Nat.le_of_not_lt fun hc => h1 ((take_mem h.nd hk).2 hc)
 rcases Nat.lt_or_eq_of_le hkt with hlt | rfl
 ·have htl : t < G.length := Nat.lt_trans hlt (List.getElem?_eq_some_iff.1 hk).1
  have hy : G[t]? = some G[t] := List.getElem?_eq_getElem htl
  obtain ⟨m, hmm⟩ := mem_at ((hm G[t]).2 (at_mem hy))
  have hnm : n ≤ m := Nat.le_of_not_lt fun hc => hmin m _ hc hmm (one_ready h hy)
  rcases Nat.lt_or_eq_of_le hnm with hl | rfl
  ·have hL : Lt x G[t] := by
    obtain ⟨a1, a2⟩ := List.getElem?_eq_some_iff.1 hn
    obtain ⟨b1, b2⟩ := List.getElem?_eq_some_iff.1 hmm
    rw [← a2, ← b2]
    exact List.pairwise_iff_getElem.1 hA n m a1 b1 hl
   obtain ⟨j, z, hj, hjz, hz⟩ := h.min t k _ x hlt hy hk hL
   have := (take_mem h.nd hjz).1 (h2 z hz)
   omega
  ·rw [hn] at hmm; rw [hy, ← Option.some.inj hmm]
 ·exact hk
theorem one_at {par : Hs → List Hs} {G A : List Hs} (h : OneO par G) (hm : ∀ x, x ∈ A ↔ x ∈ G) {t : Nat} (ht : t < G.length) : ∃ m, m < A.length ∧ ∃ y, A[m]? = some y ∧ lkA par (G.take t) y = 0 := by
 have hy : G[t]? = some G[t] := List.getElem?_eq_getElem ht
 obtain ⟨m, hmm⟩ := mem_at ((hm G[t]).2 (at_mem hy))
 exact ⟨m, (List.getElem?_eq_some_iff.1 hmm).1, _, hmm, one_ready h hy⟩
theorem lkN_snoc {O ps : List Hs} {x : Hs} (hp : ps.Nodup) (hx : x ∉ O) : (lkN (O ++ [x]) ps : Int) = lkN O ps - (if x ∈ ps then 1 else 0) := by
 unfold lkN
 induction ps with
 | nil => simp
 | cons p r ih =>
  rw [List.nodup_cons] at hp
  have ih := ih hp.2
  rw [List.countP_cons, List.countP_cons]
  by_cases e : x = p
  ·subst e
   have h1 : x ∉ r := hp.1
   rw [if_neg h1] at ih
   simp only [List.mem_append, List.mem_singleton, or_true, not_true, decide_false, hx, not_false_iff, decide_true, if_true, List.mem_cons, true_or] 
   simp only [List.mem_append, List.mem_singleton] at ih
   simp
   simp at ih
   omega
  ·have h2 : (x ∈ p :: r) ↔ x ∈ r := by rw [List.mem_cons]; exact ⟨fun h => h.resolve_left e, .inr⟩
   have h3 : decide (p ∉ O ++ [x]) = decide (p ∉ O) := by
    congr 1; rw [List.mem_append, List.mem_singleton]; simp [Ne.symm e]
   rw [h3]
   by_cases h4 : x ∈ r
   ·rw [if_pos h4] at ih; rw [if_pos (h2.2 h4)]; omega
   ·rw [if_neg h4] at ih; rw [if_neg fun h => h4 (h2.1 h)]; omega
/-- Behind the one that is placed. -/
theorem lkA_step {par : Hs → List Hs} {G : List Hs} (h : OneO par G) (hp : ∀ x ∈ G, (par x).Nodup) {t : Nat} {x : Hs} (hx : G[t]? = some x) {y : Hs} (hy : y ∈ G) :
  lkA par (G.take (t + 1)) y = if y = x then -1 else lkA par (G.take t) y - (if x ∈ par y then 1 else 0) := by
 have hT : G.take (t + 1) = G.take t ++ [x] := by
  rw [List.take_add_one, hx]; rfl
 have hxO : x ∉ G.take t := fun hm => by have := (take_mem h.nd hx).1 hm; omega
 unfold lkA
 by_cases e : y = x
 ·rw [if_pos e, if_pos (by rw [hT, e]; simp)]
 ·rw [if_neg e]
  have h1 : y ∈ G.take (t + 1) ↔ y ∈ G.take t := by rw [hT, List.mem_append, List.mem_singleton]; exact ⟨fun h => h.resolve_right e, .inl⟩
  by_cases h2 : y ∈ G.take t
  ·rw [if_pos (h1.2 h2), if_pos h2]
   obtain ⟨k, hk⟩ := mem_at hy
   have hkt := (take_mem h.nd hk).1 h2
   rw [if_neg fun hm => by have := h.top k t y x hk hx hm; omega]
   omega
  ·rw [if_neg fun h => h2 (h1.1 h), if_neg h2, hT, lkN_snoc (hp y hy) hxO]
theorem self_no {par : Hs → List Hs} {G : List Hs} (h : OneO par G) {x : Hs} (hx : x ∈ G) : x ∉ par x := fun hm => by
 obtain ⟨k, hk⟩ := mem_at hx
 have := h.top k k x x hk hk hm
 omega
/-! ### Pairs of a vertex and a parent. -/
def prs (L : List VX) : List (Hs × Hs) := L.flatMap fun v => v.ps.map fun p => (v.id, p)
theorem prs_app (L : List VX) (v : VX) : prs (L ++ [v]) = prs L ++ v.ps.map fun p => (v.id, p) := by unfold prs; rw [List.flatMap_append]; simp
theorem prs_no {L : List VX} {x : Hs} (h : ∀ v ∈ L, v.id ≠ x) : (prs L).countP (fun q => decide (q.1 = x)) = 0 := List.countP_eq_zero.2 fun q hq => by
 obtain ⟨v, hv, hq⟩ := List.mem_flatMap.1 hq
 obtain ⟨p, _, rfl⟩ := List.mem_map.1 hq
 simpa using h v hv
theorem prs_cnt : ∀ {L : List VX}, (L.map (·.id)).Nodup → ∀ v ∈ L, (prs L).countP (fun q => decide (q.1 = v.id)) = v.ps.length
 | [], _, v, h => by cases h
 | u :: r, hn, v, h => by
  rw [List.map_cons, List.nodup_cons] at hn
  have e : prs (u :: r) = (u.ps.map fun p => (u.id, p)) ++ prs r := by unfold prs; rw [List.flatMap_cons]
  rw [e, List.countP_append]
  rcases List.mem_cons.1 h with rfl | h
  ·rw [prs_no (x := v.id) fun w hw e => hn.1 (List.mem_map.2 ⟨w, hw, e⟩), List.countP_map, Nat.add_zero, List.countP_eq_length.2 fun p _ => by simp]
  ·rw [prs_cnt hn.2 v h, List.countP_map, List.countP_eq_zero.2 fun p _ => by simp; exact fun e => hn.1 (e ▸ List.mem_map.2 ⟨v, h, rfl⟩), Nat.zero_add]
theorem prs_mem {L : List VX} (hn : (L.map (·.id)).Nodup) {v : VX} (hv : v ∈ L) {p : Hs} : (v.id, p) ∈ prs L ↔ p ∈ v.ps := by
 unfold prs
 rw [List.mem_flatMap]
 constructor
 ·rintro ⟨u, hu, hp⟩
  obtain ⟨z, hz, e⟩ := List.mem_map.1 hp
  have e1 := congrArg Prod.fst e
  have e2 := congrArg Prod.snd e
  simp only at e1 e2
  rw [← mem_one hn hu hv e1, ← e2]; exact hz
 ·exact fun h => ⟨v, hv, List.mem_map.2 ⟨p, h, rfl⟩⟩
theorem prs_nd : ∀ {L : List VX}, (L.map (·.id)).Nodup → (∀ v ∈ L, v.ps.Nodup) → (prs L).Nodup
 | [], _, _ => List.nodup_nil
 | u :: r, hn, hp => by
  rw [List.map_cons, List.nodup_cons] at hn
  have e : prs (u :: r) = (u.ps.map fun p => (u.id, p)) ++ prs r := by unfold prs; rw [List.flatMap_cons]
  rw [e, List.nodup_append]
  refine ⟨?_, prs_nd hn.2 fun v hv => hp v (List.mem_cons_of_mem _ hv), ?_⟩
  ·exact (hp u (List.mem_cons_self ..)).map _ fun a b hab e => hab (Prod.mk.inj e).2
  ·rintro q hq q' hq' rfl
   obtain ⟨p, _, rfl⟩ := List.mem_map.1 hq
   obtain ⟨v, hv, hz⟩ := List.mem_flatMap.1 hq'
   obtain ⟨z, _, e⟩ := List.mem_map.1 hz
   exact hn.1 ((Prod.mk.inj e).1 ▸ List.mem_map.2 ⟨v, hv, rfl⟩)
theorem prs_pair {L : List VX} (hn : (L.map (·.id)).Nodup) (hp : ∀ v ∈ L, v.ps.Nodup) {v : VX} (hv : v ∈ L) (p : Hs) : (prs L).count (v.id, p) = if p ∈ v.ps then 1 else 0 := by
 by_cases h : p ∈ v.ps
 ·rw [if_pos h]
  have h1 := List.nodup_iff_count.1 (prs_nd hn hp) (v.id, p)
  have h2 := List.count_pos_iff.2 ((prs_mem hn hv).2 h)
  omega
 ·rw [if_neg h]
  exact List.count_eq_zero.2 fun hm => h ((prs_mem hn hv).1 hm)
end Go.Proofs.Ytogmdfhicbmplaa
namespace Go.Proofs.Ytogmdfhicbmplaa
open Go.RowKit
set_option linter.unusedSimpArgs false
set_option linter.unusedVariables false

/-! ### The document's Order: its two tables. -/
theorem vtx_idR {w : World} {b off : Nat} {c : Nat → Int} {k : Int} {p : Value} (h : w.rangeAt b off (vtx c k p).toList) : w.rangeAt b off (bytesA 32 c).toList := fun j v hv => by
 have hj := (List.getElem?_eq_some_iff.1 hv).1
 refine h j v ?_
 unfold vtx
 rw [Array.toList_append, List.getElem?_append_left hj]
 exact hv
def slN (v : Value) : Nat := match v with | .slice _ n _ => n | _ => 0
theorem OwnH.slN {w : World} {v : Value} {l : List Hs} (h : OwnH w v l) : slN v = l.length := by obtain ⟨a, c, rfl⟩ := h.sl; rfl

theorem run_makeI (n : Nat) (hn : n ≤ 1000000) (w : World) : (Instr.makeSlice 23 (.int .i64 (n : Int)) (.int .i64 (n : Int))).run Try.prog w = .ok (.slice (some ⟨w.heap.size, 0, none⟩) n n) (w.alloc (.cells (madeCells #[.int .i64 0] n) 3)) := by
 obtain ⟨i, hi, hzz⟩ := Option.map_eq_some_iff.1 Try.info3
 simp only [Prod.mk.injEq] at hzz
 obtain ⟨hz, hs, hb⟩ := hzz
 have hr := run_make (P := Try.prog) w 23 3 i _ Try.underlying23 hi hz .i64 .i64 (n : Int) (n : Int) (by omega) (by omega) (by rw [hb]; omega) (by omega)
 simp only [Int.toNat_natCast, hs, Value.cells, Nat.mul_one] at hr
 exact hr
theorem Try.info23 : (Try.prog.info? 23).map (fun i => (i.zero, i.size, i.bytes)) = some (some (.slice none 0 0), 1, 24) := by kernel_rfl
theorem run_makeC (n : Nat) (hn : n ≤ 1000000) (w : World) : (Instr.makeSlice 102 (.int .i64 (n : Int)) (.int .i64 (n : Int))).run Try.prog w = .ok (.slice (some ⟨w.heap.size, 0, none⟩) n n) (w.alloc (.cells (madeCells #[.slice none 0 0] n) 23)) := by
 obtain ⟨i, hi, hzz⟩ := Option.map_eq_some_iff.1 Try.info23
 simp only [Prod.mk.injEq] at hzz
 obtain ⟨hz, hs, hb⟩ := hzz
 have hr := run_make (P := Try.prog) w 102 23 i _ Try.underlying102 hi hz .i64 .i64 (n : Int) (n : Int) (by omega) (by omega) (by rw [hb]; omega) (by omega)
 simp only [Int.toNat_natCast, hs, Value.cells, Nat.mul_one] at hr
 exact hr
theorem made_list (z : Value) (n : Nat) : madeCells #[z] n = (List.replicate n z).toArray := by
 apply Array.ext
 ·simp [size_madeCells]
 ·intro i h1 h2
  simp [madeCells, Nat.mod_one]
theorem iv_rep (n : Nat) (c : Int) : iv (List.replicate n c) = List.replicate n (.int .i64 c) := by simp [iv]
structure OSt (B : Nat) (w : World) (gl gc n : Nat) (LK : List Int) (CV : List Value) (CL : Nat → List Int) : Prop where
 lk : Blk w gl 3 (iv LK).toArray
 ln : LK.length = n
 ch : Blk w gc 23 CV.toArray
 cn : CV.length = n
 cl : ∀ p, p < n → OwnJ w (CV.getD p undef) (CL p)
 nd : ∀ p q k, p < n → q < n → p ≠ q → (CV.getD p undef).ownBlock = some k → (CV.getD q undef).ownBlock ≠ some k
 ne : ∀ p k, p < n → (CV.getD p undef).ownBlock = some k → k ≠ gl ∧ k ≠ gc ∧ B ≤ k
 bl : B ≤ gl ∧ B ≤ gc ∧ gl ≠ gc
theorem OSt.cellL {B : Nat} {w : World} {gl gc n : Nat} {LK : List Int} {CV : List Value} {CL : Nat → List Int} (h : OSt B w gl gc n LK CV CL) {a : Nat} (ha : a < n) : w.cell? ⟨gl, a, none⟩ = some (.int .i64 (LK.getD a 0)) := by
 rw [h.lk.cell]
 have := iv_get LK a (by rw [h.ln]; exact ha)
 simpa using this
theorem OSt.cellC {B : Nat} {w : World} {gl gc n : Nat} {LK : List Int} {CV : List Value} {CL : Nat → List Int} (h : OSt B w gl gc n LK CV CL) {a : Nat} (ha : a < n) : w.cell? ⟨gc, a, none⟩ = some (CV.getD a undef) := by
 rw [h.ch.cell]
 have : a < CV.length := by rw [h.cn]; exact ha
 simp [List.getD_eq_getElem?_getD, this]
theorem OSt.below {B : Nat} {w w' : World} {gl gc n : Nat} {LK : List Int} {CV : List Value} {CL : Nat → List Int} (h : OSt B w gl gc n LK CV CL) (hb : Below w.heap.size w w') : OSt B w' gl gc n LK CV CL :=
 { h with lk := h.lk.below hb h.lk.lt, ch := h.ch.below hb h.ch.lt, cl := fun p hp => (h.cl p hp).below hb }
theorem OSt.setL {B : Nat} {w : World} {gl gc n : Nat} {LK : List Int} {CV : List Value} {CL : Nat → List Int} (h : OSt B w gl gc n LK CV CL) (a : Nat) (c : Int) : OSt B (w.setCell ⟨gl, a, none⟩ (.int .i64 c)) gl gc n (LK.set a c) CV CL where
 lk := by have := h.lk.set a (.int .i64 c); rw [List.setIfInBounds_toArray, iv_set] at this; exact this
 ln := by rw [List.length_set]; exact h.ln
 ch := h.ch.set_ne (Ne.symm h.bl.2.2) _
 cn := h.cn
 cl := fun p hp => (h.cl p hp).setNe (fun e => (h.ne p _ hp e).1 rfl) _ _
 nd := h.nd
 ne := h.ne
 bl := h.bl
theorem getD_setV (l : List Value) (p q : Nat) (v : Value) (hp : p < l.length) : (l.set p v).getD q undef = if q = p then v else l.getD q undef := by
 rw [List.getD_eq_getElem?_getD, List.getD_eq_getElem?_getD, List.getElem?_set]
 by_cases e : p = q
 ·subst e; rw [if_pos rfl, if_pos rfl, if_pos hp]; rfl
 ·rw [if_neg e, if_neg (Ne.symm e)]
theorem getD_setI (l : List Int) (p q : Nat) (v : Int) (hp : p < l.length) : (l.set p v).getD q 0 = if q = p then v else l.getD q 0 := by
 rw [List.getD_eq_getElem?_getD, List.getD_eq_getElem?_getD, List.getElem?_set]
 by_cases e : p = q
 ·subst e; rw [if_pos rfl, if_pos rfl, if_pos hp]; rfl
 ·rw [if_neg e, if_neg (Ne.symm e)]
theorem OSt.app {B : Nat} {w w' : World} {gl gc n : Nat} {LK : List Int} {CV : List Value} {CL : Nat → List Int} (h : OSt B w gl gc n LK CV CL) {p : Nat} (hp : p < n) {m : Int} {v' : Value} (hA : AppPostJ w (CV.getD p undef) (CL p ++ [m]) v' w') (hB : B ≤ w.heap.size) :
  OSt B (w'.setCell ⟨gc, p, none⟩ v') gl gc n LK (CV.set p v') (fun q => if q = p then CL p ++ [m] else CL q) := by
 have hg := hA.grown
 have hgl := h.lk.lt
 have hgc := h.ch.lt
 have hn : ∀ k, v'.ownBlock = some k → (CV.getD p undef).ownBlock = some k ∨ k = w.heap.size := fun k hk => by
  rcases hA.2 with h1 | h1
  ·exact .inl (h1.1 ▸ hk)
  ·rw [hk] at h1; exact .inr (Option.some.inj h1.1)
 have hlt : ∀ q k, q < n → (CV.getD q undef).ownBlock = some k → k < w.heap.size := fun q k hq hk => (h.cl q hq).lt k hk
 have hset : ∀ q, (CV.set p v').getD q undef = if q = p then v' else CV.getD q undef := fun q => getD_setV CV p q v' (by rw [h.cn]; exact hp)
 refine ⟨?_, h.ln, ?_, by rw [List.length_set]; exact h.cn, fun q hq => ?_, fun q r k hq hr hqr => ?_, fun q k hq => ?_, h.bl⟩
 ·exact (hg.blk h.lk fun e => (h.ne p _ hp e).1 rfl).set_ne h.bl.2.2 _
 ·have := (hg.blk h.ch fun e => (h.ne p _ hp e).2.1 rfl).set p v'
  rw [List.setIfInBounds_toArray] at this
  exact this
 ·rw [hset q]
  by_cases e : q = p
  ·rw [if_pos e, if_pos e]
   refine hA.1.setNe (fun e2 => ?_) _ _
   rcases hn gc e2 with h1 | h1
   ·exact (h.ne p gc hp h1).2.1 rfl
   ·omega
  ·rw [if_neg e, if_neg e]
   exact ((h.cl q hq).grown hg fun k hk e2 => h.nd q p k hq hp e hk e2).setNe (fun e2 => (h.ne q gc hq e2).2.1 rfl) _ _
 ·rw [hset q, hset r]
  by_cases e : q = p
  ·rw [if_pos e, if_neg (fun e2 => hqr (e.trans e2.symm))]
   intro hk e2
   rcases hn k hk with h1 | h1
   ·exact h.nd p r k hp hr (fun e3 => hqr (e.trans e3)) h1 e2
   ·have := hlt r k hr e2; omega
  ·rw [if_neg e]
   by_cases e3 : r = p
   ·rw [if_pos e3]
    intro hk e2
    rcases hn k e2 with h1 | h1
    ·exact h.nd q p k hq hp e hk h1
    ·have := hlt q k hq hk; omega
   ·rw [if_neg e3]; exact h.nd q r k hq hr hqr
 ·rw [hset q]
  by_cases e : q = p
  ·rw [if_pos e]
   intro hk
   rcases hn k hk with h1 | h1
   ·exact h.ne p k hp h1
   ·exact ⟨by omega, by omega, by omega⟩
  ·rw [if_neg e]; exact h.ne q k hq
theorem OSt.appB {B : Nat} {w w' : World} {gl gc n : Nat} {LK : List Int} {CV : List Value} {CL : Nat → List Int} (h : OSt B w gl gc n LK CV CL) {p : Nat} (hp : p < n) {m : Int} {v' : Value} (hA : AppPostJ w (CV.getD p undef) (CL p ++ [m]) v' w') (hB : B ≤ w.heap.size) : Below B w (w'.setCell ⟨gc, p, none⟩ v') :=
 (hA.grown.to_below (fun k hk e => by have := (h.ne p k hp e).2.2; omega) hB).trans ((Grown.setCell w' gc p v' (S := fun k => k = gc) fun _ => rfl).to_below (fun k hk e => by have := h.bl.2.1; omega) (Nat.le_trans hB hA.grown.size))
theorem OSt.new (w : World) (n : Nat) : OSt w.heap.size ((w.alloc (.cells (madeCells #[.int .i64 0] n) 3)).alloc (.cells (madeCells #[.slice none 0 0] n) 23)) w.heap.size (w.alloc (.cells (madeCells #[.int .i64 0] n) 3)).heap.size n (List.replicate n 0) (List.replicate n (.slice none 0 0)) (fun _ => []) := by
 have hs : (w.alloc (.cells (madeCells #[.int .i64 0] n) 3)).heap.size = w.heap.size + 1 := by simp
 have hg : ∀ p, p < n → (List.replicate n (Value.slice none 0 0)).getD p undef = .slice none 0 0 := fun p hp => by simp [List.getD_eq_getElem?_getD, hp]
 refine ⟨?_, by simp, ?_, by simp, fun p hp => ?_, fun p q k hp hq _ => ?_, fun p k hp => ?_, Nat.le_refl _, by omega, by omega⟩
 ·rw [iv_rep, ← made_list]
  exact (Blk.new w 3 _).below (below_new _ _) (by rw [hs]; omega)
 ·rw [← made_list]; exact Blk.new _ 23 _
 ·rw [hg p hp]; exact ownJ_nil _
 ·rw [hg p hp]; intro h; cases h
 ·rw [hg p hp]; intro h; cases h
end Go.Proofs.Ytogmdfhicbmplaa
