import Derived.Test.YtogmdfhicbmplaaB16
namespace Go.Proofs.Ytogmdfhicbmplaa
open Go.RowKit
set_option linter.unusedSimpArgs false
set_option linter.unusedVariables false

theorem Try.in18 (w : World) (vs : Array Value) : (callFunc 18 vs).run Try.prog w = .ok (.enter 18 vs) w := by kernel_rfl
theorem wait_at1 {w w3 : World} {d : Nat} {hv wv sv v3 : Value} {R : RG} {q : VP} (h : RAt w d hv wv sv R) (hV : VAt w3 v3 (R.wait ++ [q])) (hg : Grown w w3 fun k => wv.ownBlock = some k) (hm : Moved w wv v3) (hq : HRow w q.2 q.1.ps ∧ q.1.ps.length ≤ 64 ∧ ∀ k, q.2.ownBlock = some k → k < w.heap.size ∧ ¬ RgS d hv wv sv k) : RAt (w3.setCell ⟨d, 2, none⟩ v3) d hv v3 sv ⟨R.room, R.held, R.wait ++ [q], R.sets⟩ := by
 have g2 : Grown w3 (w3.setCell ⟨d, 2, none⟩ v3) fun k => k = d := Grown.setCell _ _ _ _ fun _ => rfl
 have hn : ∀ k, v3.ownBlock = some k → wv.ownBlock = some k ∨ w.heap.size ≤ k := fun k hk => hm.elim (fun e => .inl (e ▸ hk)) fun ⟨j, e, hj⟩ => .inr (by rw [hk] at e; have := Option.some.inj e; subst this; exact hj)
 have hd := h.blk.lt
 refine ⟨?_, (h.held.grown hg fun k hk e => (h.n1 k hk).2.1 e).grown g2 fun k hk => (h.n1 k hk).1, hV.grown g2 fun k hk e => ?_, (h.sets.grown hg fun k hk e => (h.n2 k e).2 hk).grown g2 fun k hk => h.n3 k hk, fun k hk => ⟨(h.n1 k hk).1, fun e => ?_, (h.n1 k hk).2.2⟩, fun k hk => ?_, h.n3, fun q' hq' => ?_⟩
 ·exact (hg.blk h.blk fun e => (h.n2 d e).1 rfl).set 2 v3
 ·rcases hn k hk with h1 | h1
  ·exact (h.n2 k h1).1 e
  ·omega
 ·rcases hn k e with h1 | h1
  ·exact (h.n1 k hk).2.1 h1
  ·have := h.held.lt k hk; omega
 ·rcases hn k hk with h1 | h1
  ·exact h.n2 k h1
  ·exact ⟨by omega, fun e => by have := h.sets.lt k e; omega⟩
 ·have hqq : HRow w q'.2 q'.1.ps ∧ q'.1.ps.length ≤ 64 ∧ ∀ k, q'.2.ownBlock = some k → k < w.heap.size ∧ ¬ RgS d hv wv sv k := by
   rcases hq' with h1 | h1
   ·exact h.ps q' (.inl h1)
   ·rcases List.mem_append.1 h1 with h1 | h1
    ·exact h.ps q' (.inr h1)
    ·rw [List.mem_singleton.1 h1]; exact hq
  obtain ⟨a1, a2, a3⟩ := hqq
  refine ⟨(a1.grownB hg fun k hk e => (a3 k hk).2 (.inr (.inr (.inl e)))).grownB g2 fun k hk e => (a3 k hk).2 (.inl e), a2, fun k hk => ⟨Nat.lt_of_lt_of_le (a3 k hk).1 (Nat.le_trans hg.size g2.size), fun e => ?_⟩⟩
  rcases e with e | e | e | e
  ·exact (a3 k hk).2 (.inl e)
  ·exact (a3 k hk).2 (.inr (.inl e))
  ·rcases hn k e with h1 | h1
   ·exact (a3 k hk).2 (.inr (.inr (.inl h1)))
   ·have := (a3 k hk).1; omega
  ·exact (a3 k hk).2 (.inr (.inr (.inr e)))
theorem VAt.one {w : World} {g off cap n : Nat} {L : List VP} (h : VAt w (.slice (some ⟨g, off, none⟩) n cap) L) (hn : 1 ≤ L.length) : n = L.length ∧ w.rangeAt g off (L.flatMap encV) ∧ L.length ≤ cap ∧ ∃ ox c, sliced (some ⟨g, off, none⟩) 1 n cap 34 = .slice (some ⟨g, ox, none⟩) (L.drop 1).length c ∧ VAt w (.slice (some ⟨g, ox, none⟩) (L.drop 1).length c) (L.drop 1) := by
 have hL : n = L.length ∧ L.length ≤ cap ∧ g < w.heap.size ∧ w.there g off (cap * 34) ∧ w.rangeAt g off (L.flatMap encV) := by
  rcases h with ⟨e, _⟩ | ⟨g', off', cap', e, h1, h2, h3, h4⟩
  ·cases e
  ·injection e with e1 e2 e3
   injection e1 with e1
   injection e1 with e1 e4
   subst e1 e2 e3 e4
   exact ⟨rfl, h2, h1, h3, h4⟩
 obtain ⟨rfl, hc, hg, ht, hr⟩ := hL
 have hV : VAt w (.slice (some ⟨g, off, none⟩) L.length cap) L := h
 refine ⟨rfl, hr, hc, ?_⟩
 unfold sliced
 by_cases e : cap = 1
 ·have h0 : L.length - 1 = 0 := by omega
  refine ⟨off, cap - 1, by rw [if_pos e, List.length_drop], .inr ⟨g, off, cap - 1, rfl, hg, by rw [List.length_drop]; omega, fun j hj => by rw [e] at hj; simp at hj, ?_⟩⟩
  rw [List.drop_of_length_le (by omega)]
  intro j u hu
  simp at hu
 ·have := hV.drop 1 hn
  rw [← List.length_drop] at this
  refine ⟨off + 1 * 34, cap - 1, by rw [if_neg e, List.length_drop]; simp [Addr.add_mid], this⟩
theorem drop_at {w : World} {d : Nat} {hv wv sv v : Value} {R : RG} (h : RAt w d hv wv sv R) (hV : VAt w v (R.wait.drop 1)) (hb : v.ownBlock = wv.ownBlock) : RAt (w.setCell ⟨d, 2, none⟩ v) d hv v sv ⟨R.room, R.held, R.wait.drop 1, R.sets⟩ := by
 have hg : Grown w (w.setCell ⟨d, 2, none⟩ v) fun k => k = d := Grown.setCell _ _ _ _ fun _ => rfl
 refine ⟨h.blk.set 2 v, h.held.grown hg fun k hk => (h.n1 k hk).1, hV.grown hg fun k hk => (h.n2 k (hb ▸ hk)).1, h.sets.grown hg fun k hk => h.n3 k hk, fun k hk => ⟨(h.n1 k hk).1, fun e => (h.n1 k hk).2.1 (hb ▸ e), (h.n1 k hk).2.2⟩, fun k hk => h.n2 k (hb ▸ hk), h.n3, fun q hq => ?_⟩
 obtain ⟨a1, a2, a3⟩ := h.ps q (hq.imp id List.mem_of_mem_drop)
 refine ⟨a1.grownB hg fun k hk e => (a3 k hk).2 (.inl e), a2, fun k hk => ⟨Nat.lt_of_lt_of_le (a3 k hk).1 hg.size, fun e => (a3 k hk).2 ?_⟩⟩
 rcases e with e | e | e | e
 ·exact .inl e
 ·exact .inr (.inl e)
 ·exact .inr (.inr (.inl (hb ▸ e)))
 ·exact .inr (.inr (.inr e))
set_option maxRecDepth 8000 in
set_option maxHeartbeats 4000000 in
theorem radd_any (d : Nat) (v : VX) (p hv wv sv : Value) (R : RG) (w : World) (hD : RAt w d hv wv sv R) (hI : RI R) (hr : HRow w p v.ps) (hL : (v.ps.length : Int) ≤ 9223372036854775806) (hrm : 0 ≤ R.room) : Calls Try.prog 18 #[ptr d, .agg (vtx v.id.f v.ck p)] w fun e w' => ∃ u p' hv' wv' sv' R' ol, e = .returned (.tuple #[.int .i64 (fitV R.hs R.ws v).1, u, .int .i64 (fitV R.hs R.ws v).2]) ∧ RSte w w' d hv wv sv R hv' wv' sv' R' ∧ addR R v p' ol R' ∧ OwnH w' u ol ∧ (∀ k, u.ownBlock = some k → w.heap.size ≤ k ∧ ¬ RgS d hv' wv' sv' k) := by
 obtain ⟨pa, pc, rfl⟩ := hr.form
 obtain ⟨vv, hvv⟩ : ∃ a : Array Value, Keep (a = vtx v.id.f v.ck (.slice pa v.ps.length pc)) := ⟨_, ⟨rfl⟩⟩
 rw [← hvv.out]
 obtain ⟨hw, ee, hfe⟩ : ∃ a b, Keep (fitV R.hs R.ws v = (a, b)) := ⟨_, _, ⟨rfl⟩⟩
 have HD := Keep.mk hD
 have HI := Keep.mk hI
 have HR := Keep.mk hr
 have HL := Keep.mk hL
 have Hrm := Keep.mk hrm
 clear hD hI hr hL hrm
 go_enter Try.func18, Try.ntmps18
 refine wp_seq_k fun K1 hK1 => rgn ?_
 refine WL.box (by kernel_rfl) 39 (.tmp 1) rfl (vv) rfl ?_
 obtain ⟨w1, hwn⟩ : ∃ wx, Keep (wx = w.alloc (.cells (vv) 39)) := ⟨_, ⟨rfl⟩⟩
 rw [← hwn.out]
 have HX1 : Keep (Blk w1 w.heap.size 39 (vv)) := ⟨by rw [hwn.out]; exact Blk.new _ _ _⟩
 have LB1 : Keep (Below w.heap.size w w1) := ⟨by rw [hwn.out]; exact below_new _ _⟩
 clear hwn
 have HD1 := Keep.mk (HD.out.below LB1.out)
 have HQ1 := Keep.mk (HR.out.below LB1.out)
 simp only [Act.put, pqA, pqB, pqC]
 refine VlS (.int .i64 0) ?_
 refine VlS (.slice none 0 0) ?_
 refine VlS (.int .i64 0) ?_
 refine WL.nil (hK1 _ _ ?_)
 refine wp_seq_k fun K2 hK2 => rgn ?_
 refine VlS (.pointer (some ⟨d, 0, none⟩)) ?_
 refine WL.row (by kernel_rfl) 39 (.tmp 3) rfl w.heap.size rfl 39 vv _ HX1.out Try.underlying39 rfl (by rw [hvv.out]; exact Try.info39s _ _ _) ?_
 simp only [Act.put, pqA, pqB, pqC]
 have hft := rfit_any d v (.slice pa v.ps.length pc) R w1 HD1.out.rd HI.out HQ1.out HL.out
 rw [← hvv.out, hfe.out] at hft
 refine WL.callF (by kernel_rfl) 37 _ _ rfl Try.in37 #[ptr d, .agg vv] (by simp [Act.eval]) ?_
 refine (hft).mono ?_
 rintro e w2 ⟨rfl, hz⟩
 refine ⟨_, rfl, ?_⟩
 have B2 := Keep.mk hz
 have HX2 := Keep.mk (HX1.out.below hz HX1.out.lt)
 have HD2 := Keep.mk (HD1.out.below hz)
 have HQ2 := Keep.mk (HQ1.out.below hz)
 have BW2 := Keep.mk (belowT LB1.out hz)
 clear hz hft
 simp only [Act.put, pqA, pqB, pqC]
 refine VlS (.tuple #[.int .i64 hw, .int .i64 ee]) ?_
 refine VlS (.int .i64 hw) ?_
 refine VlS (.int .i64 ee) ?_
 refine VlS (.int .i64 hw) ?_
 refine VlS (.int .i64 ee) ?_
 refine WL.nil (hK2 _ _ ?_)
 refine wp_seq_k fun K3 hK3 => ?_
 refine wp_seq_k fun K4 hK4 => rgn ?_
 refine VlS (.int .i64 ee) ?_
 by_cases h2_1 : ee = 0
 ·skip
  refine VlS (.bool false) ?_
  refine VlS (.bool false) ?_
  refine VlS (.int .i64 hw) ?_
  by_cases h2_4 : hw = 1
  ·skip
   refine VlS (.bool true) ?_
   refine VlS (.bool true) ?_
   refine WL.nil (hK4 _ _ ?_)
   refine wp_cond_true rfl ?_
   refine wp_seq_k fun K5 hK5 => rgn ?_
   refine VlS (.int .i64 hw) ?_
   refine VlS (.int .i64 ee) ?_
   refine VlS (.int .i64 hw) ?_
   refine VlS (.slice none 0 0) ?_
   refine VlS (.int .i64 ee) ?_
   refine WL.nil (hK5 _ _ ?_)
   refine wp_ret ?_
   go_ret3
   refine ⟨.slice none 0 0, .slice none 0 0, hv, wv, sv, R, [], by rw [hfe.out]; rfl, RSte.refl HD.out BW2.out, .inr (.inr ⟨?_, ?_, rfl, rfl⟩), ownH_nil _, fun k hk => by cases hk⟩
   ·rw [hfe.out]; rcases fit_cases R.hs R.ws v with h | h | h | h | h <;> (have h' := hfe.out; simp_all)
   ·rw [hfe.out]; rcases fit_cases R.hs R.ws v with h | h | h | h | h <;> (have h' := hfe.out; simp_all)
  ·skip
   refine VlS (.bool false) ?_
   refine VlS (.bool false) ?_
   refine WL.nil (hK4 _ _ ?_)
   refine wp_cond_false rfl ?_
   refine wp_skip ?_
   refine hK3 _ _ ?_
   refine wp_seq_k fun K6 hK6 => ?_
   have HC : Keep (chkV v = 0 ∧ (hw = 2 ∨ hw = 3) ∧ ee = 0) := ⟨by
    rcases fit_cases R.hs R.ws v with ⟨_, h⟩ | ⟨_, _, h2, h⟩ | ⟨_, _, h2, _, h⟩ | ⟨_, _, h2, _, h4, h⟩ | ⟨_, _, h2, _, _, h⟩ <;> (rw [hfe.out] at h; injection h with e1 e2)
    ·omega
    ·omega
    ·exact ⟨h2, .inr e1, e2⟩
    ·omega
    ·exact ⟨h2, .inl e1, e2⟩⟩
   have HPl : Keep (v.ps.length ≤ 64) := ⟨(chk_ok HC.out.1).1⟩
   refine rgn ?_
   refine VlS (.pointer (some ⟨w.heap.size, 33, none⟩)) ?_
   have c33 : w2.cell? ⟨w.heap.size, 33, none⟩ = some (.slice pa v.ps.length pc) := HX2.out.c 33 (by rw [hvv.out]; exact vtx_ps _ _ _)
   refine WL.val (by kernel_rfl) (.slice pa v.ps.length pc) (by go_simp) ?_
   clear c33
   simp only [Act.put, pqA, pqB, pqC]
   refine WL.appL (by kernel_rfl) (.const (.slice none 0 0)) (.tmp 25) rfl w2.heap.size (.slice none 0 0) (.slice pa v.ps.length pc) [] v.ps rfl rfl (ownsH_nil _ _) HQ2.out (by have := HPl.out; simp; omega) (Nat.le_refl _) fun v3 w3 h1 h2 => ?_
   rw [List.nil_append] at h1
   have hz : Below w2.heap.size w2 w3 := belowG (Below.refl _ _) h2 (Nat.le_refl _) fun k e => by cases e
   have O3 := Keep.mk h1
   have B3 := Keep.mk hz
   have HX3 := Keep.mk (HX2.out.below hz HX2.out.lt)
   clear h1 h2 hz
   obtain ⟨qa, qc, e3⟩ := (OwnH.of O3.out).sl
   subst e3
   simp only [Act.put, pqA, pqB, pqC]
   refine VlS (.pointer (some ⟨w.heap.size, 33, none⟩)) ?_
   have f_o := HX3.out.frozen 33
   have c_o : w3.cell? ⟨w.heap.size, 33, none⟩ = some (.slice pa v.ps.length pc) := HX3.out.c 33 (by rw [hvv.out]; exact vtx_ps _ _ _)
   refine WL.cell (by kernel_rfl) (w3.setCell ⟨w.heap.size, 33, none⟩ (.slice qa v.ps.length qc)) (by go_simp) ?_
   clear f_o c_o
   obtain ⟨vx, hvx⟩ : ∃ a : Array Value, Keep (a = vtx v.id.f v.ck (.slice qa v.ps.length qc)) := ⟨_, ⟨rfl⟩⟩
   have HX4 : Keep (Blk (w3.setCell ⟨w.heap.size, 33, none⟩ (.slice qa v.ps.length qc)) w.heap.size 39 vx) := ⟨by have h := HX3.out.set 33 (.slice qa v.ps.length qc); rw [hvv.out, vtx_set, ← hvx.out] at h; exact h⟩
   have B4 : Keep (Below w.heap.size w (w3.setCell ⟨w.heap.size, 33, none⟩ (.slice qa v.ps.length qc))) := ⟨(belowT BW2.out B3.out).trans ((Grown.setCell w3 w.heap.size 33 (.slice qa v.ps.length qc) (S := fun k => k = w.heap.size) fun _ => rfl).to_below (fun k hk e => by omega) (belowT BW2.out B3.out).size)⟩
   have O4 : Keep (OwnH (w3.setCell ⟨w.heap.size, 33, none⟩ (.slice qa v.ps.length qc)) (.slice qa v.ps.length qc) v.ps) := ⟨(OwnH.of O3.out).grown (Grown.setCell w3 w.heap.size 33 _ (S := fun k => k = w.heap.size) fun _ => rfl) fun k hk e => by have := (World.ownsRow.lt O3.out k hk).1; have := HX2.out.lt; omega⟩
   have N4 : Keep (∀ k, (Value.slice qa v.ps.length qc).ownBlock = some k → w2.heap.size ≤ k) := ⟨fun k hk => (World.ownsRow.lt O3.out k hk).1⟩
   generalize w3.setCell ⟨w.heap.size, 33, none⟩ (.slice qa v.ps.length qc) = w4 at *
   have HD4 := Keep.mk (HD.out.below B4.out)
   have Hnew : Keep (∀ k, (Value.slice qa v.ps.length qc).ownBlock = some k → k < w4.heap.size ∧ ¬ RgS d hv wv sv k) := ⟨fun k hk => ⟨O4.out.lt k hk, fun e => by have := HD.out.lt k e; have := N4.out k hk; have := BW2.out.size; omega⟩⟩
   clear HX3 O3 B3
   simp only [Act.put]
   refine WL.nil (hK6 _ _ ?_)
   refine wp_seq_k fun K7 hK7 => ?_
   refine wp_seq_k fun K8 hK8 => rgn ?_
   refine VlS (.int .i64 hw) ?_
   by_cases h5_1 : hw = 2
   ·skip
    refine VlS (.bool true) ?_
    refine WL.nil (hK8 _ _ ?_)
    refine wp_cond_true rfl ?_
    refine wp_seq_k fun K9 hK9 => rgn ?_
    refine VlS (.pointer (some ⟨d, 0, none⟩)) ?_
    refine WL.row (by kernel_rfl) 39 (.tmp 3) rfl w.heap.size rfl 39 vx _ HX4.out Try.underlying39 rfl (by rw [hvx.out]; exact Try.info39s _ _ _) ?_
    simp only [Act.put, pqA, pqB, pqC]
    have hho := rhold_any d v (.slice qa v.ps.length qc) hv wv sv R w4 HD4.out HI.out O4.out.row ⟨HPl.out, Hnew.out⟩
    rw [← hvx.out] at hho
    refine WL.callF (by kernel_rfl) 61 _ _ rfl Try.in61 #[ptr d, .agg vx] (by simp [Act.eval]) ?_
    refine (hho).mono ?_
    rintro e w5 ⟨rfl, aa, hv5, sv5, hp5, hd5, hg5, hs5, hn5⟩
    refine ⟨_, rfl, ?_⟩
    clear hho
    simp only [Act.put, pqA, pqB, pqC]
    refine WL.nil (hK9 _ _ ?_)
    refine wp_seq_k fun K10 hK10 => rgn ?_
    refine VlS (.int .i64 hw) ?_
    refine VlS (.int .i64 ee) ?_
    refine VlS (.int .i64 hw) ?_
    refine VlS (.slice none 0 0) ?_
    refine VlS (.int .i64 ee) ?_
    refine WL.nil (hK10 _ _ ?_)
    refine wp_ret ?_
    go_ret3
    refine ⟨.slice none 0 0, .slice qa v.ps.length qc, hv5, wv, sv5, _, [], by rw [hfe.out]; rfl, ⟨hd5, (Grown.below B4.out).next hg5 fun k hk e => e, fun k hk => (hs5 k hk).imp id fun h => Nat.le_trans B4.out.size h, fun q hq => (hn5 q hq).imp id fun h k hk => ?_⟩, .inl ⟨?_, ⟨aa, hp5, rfl⟩, rfl⟩, ownH_nil _, fun k hk => by cases hk⟩
    ·rw [h] at hk; exact Nat.le_trans BW2.out.size (N4.out k hk)
    ·rw [hfe.out, HC.out.2.2]; simp_all
   ·skip
    refine VlS (.bool false) ?_
    refine WL.nil (hK8 _ _ ?_)
    refine wp_cond_false rfl ?_
    refine wp_skip ?_
    refine hK7 _ _ ?_
    refine wp_seq_k fun K11 hK11 => ?_
    have H3 : Keep (hw = 3) := ⟨HC.out.2.1.resolve_left (by assumption)⟩
    obtain ⟨xa, xn, xc, ewv⟩ := HD4.out.wait.sl
    subst ewv
    have c3 : Keep (∀ wx, Below w4.heap.size w4 wx → (fun wx => True ∧ wx.rangeAt w.heap.size 0 vx.toList) wx) := ⟨fun wx hb => ⟨trivial, blk_rng (HX4.out.below hb HX4.out.lt)⟩⟩
    have BD2 : Keep (Below w4.heap.size w4 w4.drew) := ⟨(Below.refl _ _).drew⟩
    refine wp_region_held_drew (S := fun wx => True ∧ wx.rangeAt w.heap.size 0 vx.toList) (by kernel_rfl) (c3.out _ BD2.out) (fun hHeld => ?_)
    refine tkS (i := 0) (oi := ⟨some 35, Op.move (Operand.tmp 0), 31, _, _, none⟩) (v := .pointer (some ⟨d, 0, none⟩)) rfl (Or.inl ⟨by rfl, fun w hS => by obtain ⟨hS1, hS2⟩ := hS; go_simp⟩) hHeld ?_
    refine tkS (i := 1) (oi := ⟨some 36, Op.move (Operand.tmp 0), 31, _, _, none⟩) (v := .pointer (some ⟨d, 0, none⟩)) rfl (Or.inl ⟨by rfl, fun w hS => by obtain ⟨hS1, hS2⟩ := hS; go_simp⟩) hHeld ?_
    refine tkS (i := 2) (oi := ⟨some 37, Op.nilCheck (Operand.tmp 36), 0, _, _, none⟩) (v := .pointer (some ⟨d, 0, none⟩)) rfl (Or.inl ⟨by rfl, fun w hS => by obtain ⟨hS1, hS2⟩ := hS; go_simp⟩) hHeld ?_
    refine tkS (i := 3) (oi := ⟨some 38, Op.fieldAddr 79 (Operand.tmp 37) 2, 0, _, _, none⟩) (v := .pointer (some ⟨d, 2, none⟩)) rfl (Or.inl ⟨by rfl, fun w hS => by obtain ⟨hS1, hS2⟩ := hS; go_simp⟩) hHeld ?_
    refine tkS (i := 5) (oi := ⟨some 40, Op.load 39 (Operand.tmp 3), 39, _, _, none⟩) (v := .agg vx) rfl (yieldsIf_ld (by rfl) (Operand.tmp 3) 39 rfl w.heap.size 0 rfl vx _ Try.underlying39 rfl (by rw [hvx.out]; exact Try.info39s _ _ _) fun w hS => hS.2) hHeld ?_
    refine wpAnyH_ready (rs := [4, 6]) (by kernel_rfl) (by simp) ?_
    refine AllReadyH.cons (o := ⟨some 39, Op.load 55 (Operand.tmp 38), 55, _, _, none⟩) rfl (fun K hK => ?_) (AllReadyH.cons (o := ⟨some 41, Op.buildSlice 55 1 #[(0, Operand.tmp 40)], 55, _, _, none⟩) rfl (fun K hK => ?_) AllReadyH.nil)
    rw [if_pos (by rfl)]
    have c_o : w4.drew.cell? ⟨d, 2, none⟩ = some (.slice xa xn xc) := (HD4.out.blk.below BD2.out HD4.out.blk.lt).c 2 rfl
    refine wp_val (.slice xa xn xc) (by go_simp) ?_
    clear c_o
    refine hK _ _ (c3.out _ BD2.out) fun hQ1 => ?_
    clear hK
    simp only [Act.put, pqA, pqB, pqC]
    refine wpAnyH_ready (rs := [6]) (by kernel_rfl) (by simp) ?_
    refine AllReadyH.cons (o := ⟨some 41, Op.buildSlice 55 1 #[(0, Operand.tmp 40)], 55, _, _, none⟩) rfl (fun K hK => ?_) AllReadyH.nil
    rw [if_pos (by rfl)]
    refine wp_bs 55 1 _ rfl #[(0, .agg vx)] (by simp [Act.eval]) _ _ (by rw [hvx.out]; exact bsV _ _ _ _) ?_
    rw [← hvx.out]
    have HGx := Keep.mk (Blk.new w4.drew 39 vx)
    have BA2 := Keep.mk (belowT BD2.out (below_new w4.drew (.cells vx 39)))
    generalize w4.drew.alloc (.cells vx 39) = wa2 at *
    generalize w4.drew.heap.size = gx at *
    refine hK _ _ (c3.out _ BA2.out) fun hQ2 => ?_
    clear hK
    simp only [Act.put, pqA, pqB, pqC]
    refine wpAnyH_ready (rs := [7]) (by kernel_rfl) (by simp) ?_
    refine AllReadyH.cons (o := ⟨some 42, Op.call { callee := Callee.builtin Builtin.append, args := #[Operand.tmp 39, Operand.tmp 41], argTypes := #[55, 55] }, 55, _, _, none⟩) rfl (fun K hK => ?_) AllReadyH.nil
    rw [if_pos (by rfl)]
    obtain ⟨v5, w5, hr5, h1, h2, h3⟩ := run_appVA wa2 55 (.slice xa xn xc) R.wait (v, .slice qa v.ps.length qc) gx (HD4.out.below BA2.out).wait (by rw [encV, ← hvx.out]; exact blk_rng HGx.out) (fun u hu => encV_one (L := [(v, .slice qa v.ps.length qc)]) (fun q hq => by rw [List.mem_singleton.1 hq]; exact ⟨O4.out.row, Nat.le_trans HPl.out (by omega)⟩) u (by simpa using hu)) (by have := HI.out.wl; omega)
    refine Go.Lib.wp_append_run wa2 (.tmp 39) (.tmp 41) 55 55 rfl _ _ rfl rfl v5 w5 hr5 ?_
    have HDa := Keep.mk (HD4.out.below BA2.out)
    have V5 := Keep.mk h1
    have G5 := Keep.mk h2
    have M5 := Keep.mk h3
    clear h1 h2 h3 hr5
    have HXa := Keep.mk (G5.out.blk (HX4.out.below BA2.out HX4.out.lt) fun e => by have := HD.out.lt w.heap.size (.inr (.inr (.inl e))); omega)
    refine hK _ _ ⟨trivial, blk_rng HXa.out⟩ fun hH5 => ?_
    clear hK
    obtain ⟨a5, n5, k5, e5⟩ := V5.out.sl
    subst e5
    simp only [Act.put, pqA, pqB, pqC]
    refine tkS (i := 8) (oi := ⟨some 43, Op.nilCheck (Operand.tmp 35), 0, _, _, none⟩) (v := .pointer (some ⟨d, 0, none⟩)) rfl (Or.inl ⟨by rfl, fun w hS => by obtain ⟨hS1, hS2⟩ := hS; go_simp⟩) hH5 ?_
    refine tkS (i := 9) (oi := ⟨some 44, Op.fieldAddr 79 (Operand.tmp 43) 2, 0, _, _, none⟩) (v := .pointer (some ⟨d, 2, none⟩)) rfl (Or.inl ⟨by rfl, fun w hS => by obtain ⟨hS1, hS2⟩ := hS; go_simp⟩) hH5 ?_
    refine wpAnyH_ready (rs := [10]) (by kernel_rfl) (by simp) ?_
    refine AllReadyH.cons (o := ⟨none, Op.store 55 (Operand.tmp 44) (Operand.tmp 42), 0, _, _, none⟩) rfl (fun K hK => ?_) AllReadyH.nil
    rw [if_pos (by rfl)]
    have hB5 := G5.out.blk HDa.out.blk fun e => (HDa.out.n2 d e).1 rfl
    have f_o := hB5.frozen 2
    have c_o : w5.cell? ⟨d, 2, none⟩ = some (.slice xa xn xc) := hB5.c 2 rfl
    refine wp_cellS (w5.setCell ⟨d, 2, none⟩ (.slice a5 n5 k5)) (by go_simp) ?_
    clear f_o c_o hB5
    have HD6 := Keep.mk (wait_at1 (q := (v, .slice qa v.ps.length qc)) HDa.out V5.out G5.out M5.out ⟨O4.out.row.below BA2.out, HPl.out, fun k hk => ⟨Nat.lt_of_lt_of_le (Hnew.out k hk).1 BA2.out.size, (Hnew.out k hk).2⟩⟩)
    have G6 : Keep (Grown w (w5.setCell ⟨d, 2, none⟩ (.slice a5 n5 k5)) (RgS d hv (.slice xa xn xc) sv)) := ⟨((Grown.below (S := RgS d hv (.slice xa xn xc) sv) (B4.out.trans (BA2.out.mono B4.out.size))).next G5.out fun k _ e => .inr (.inr (.inl e))).next (Grown.setCell w5 d 2 _ (S := fun k => k = d) fun _ => rfl) fun k _ e => .inl e⟩
    have N6 : Keep (∀ k, (Value.slice a5 n5 k5).ownBlock = some k → (Value.slice xa xn xc).ownBlock = some k ∨ w.heap.size ≤ k) := ⟨fun k hk => M5.out.elim (fun e => .inl (e ▸ hk)) fun ⟨j, e, hj⟩ => .inr (by rw [hk] at e; have := Option.some.inj e; subst this; exact Nat.le_trans B4.out.size (Nat.le_trans BA2.out.size hj))⟩
    have HX6 := Keep.mk (HXa.out.set_ne (b' := d) (j := 2) (fun e => by have := HD.out.blk.lt; omega) (.slice a5 n5 k5))
    generalize w5.setCell ⟨d, 2, none⟩ (.slice a5 n5 k5) = w6 at *
    obtain ⟨v6, hv6⟩ : ∃ u : Value, u = .slice a5 n5 k5 := ⟨_, rfl⟩
    rw [← hv6] at HD6 N6
    refine hK _ _ ⟨trivial, blk_rng HX6.out⟩ fun hH6 => ?_
    clear hK hH5 hH6 HXa M5 G5 V5 HDa c3 hv6
    simp only [Act.put, pqA, pqB, pqC]
    refine wpAnyH_done (by kernel_rfl) ?_ _
    rotate_left
    rw [if_pos (by rfl)]
    refine wp_bs 55 1 _ rfl #[(0, .agg vx)] (by simp [Act.eval]) _ _ (by rw [hvx.out]; exact bsV _ _ _ _) ?_
    rw [← hvx.out]
    have HGx := Keep.mk (Blk.new w4.drew 39 vx)
    have BA1 := Keep.mk (belowT BD2.out (below_new w4.drew (.cells vx 39)))
    generalize w4.drew.alloc (.cells vx 39) = wa1 at *
    generalize w4.drew.heap.size = gx at *
    refine hK _ _ (c3.out _ BA1.out) fun hQ1 => ?_
    clear hK
    simp only [Act.put, pqA, pqB, pqC]
    refine wpAnyH_ready (rs := [4]) (by kernel_rfl) (by simp) ?_
    refine AllReadyH.cons (o := ⟨some 39, Op.load 55 (Operand.tmp 38), 55, _, _, none⟩) rfl (fun K hK => ?_) AllReadyH.nil
    rw [if_pos (by rfl)]
    have c_o : wa1.cell? ⟨d, 2, none⟩ = some (.slice xa xn xc) := (HD4.out.blk.below BA1.out HD4.out.blk.lt).c 2 rfl
    refine wp_val (.slice xa xn xc) (by go_simp) ?_
    clear c_o
    refine hK _ _ (c3.out _ BA1.out) fun hQ2 => ?_
    clear hK
    simp only [Act.put, pqA, pqB, pqC]
    refine wpAnyH_ready (rs := [7]) (by kernel_rfl) (by simp) ?_
    refine AllReadyH.cons (o := ⟨some 42, Op.call { callee := Callee.builtin Builtin.append, args := #[Operand.tmp 39, Operand.tmp 41], argTypes := #[55, 55] }, 55, _, _, none⟩) rfl (fun K hK => ?_) AllReadyH.nil
    rw [if_pos (by rfl)]
    obtain ⟨v5, w5, hr5, h1, h2, h3⟩ := run_appVA wa1 55 (.slice xa xn xc) R.wait (v, .slice qa v.ps.length qc) gx (HD4.out.below BA1.out).wait (by rw [encV, ← hvx.out]; exact blk_rng HGx.out) (fun u hu => encV_one (L := [(v, .slice qa v.ps.length qc)]) (fun q hq => by rw [List.mem_singleton.1 hq]; exact ⟨O4.out.row, Nat.le_trans HPl.out (by omega)⟩) u (by simpa using hu)) (by have := HI.out.wl; omega)
    refine Go.Lib.wp_append_run wa1 (.tmp 39) (.tmp 41) 55 55 rfl _ _ rfl rfl v5 w5 hr5 ?_
    have HDa := Keep.mk (HD4.out.below BA1.out)
    have V5 := Keep.mk h1
    have G5 := Keep.mk h2
    have M5 := Keep.mk h3
    clear h1 h2 h3 hr5
    have HXa := Keep.mk (G5.out.blk (HX4.out.below BA1.out HX4.out.lt) fun e => by have := HD.out.lt w.heap.size (.inr (.inr (.inl e))); omega)
    refine hK _ _ ⟨trivial, blk_rng HXa.out⟩ fun hH5 => ?_
    clear hK
    obtain ⟨a5, n5, k5, e5⟩ := V5.out.sl
    subst e5
    simp only [Act.put, pqA, pqB, pqC]
    refine tkS (i := 8) (oi := ⟨some 43, Op.nilCheck (Operand.tmp 35), 0, _, _, none⟩) (v := .pointer (some ⟨d, 0, none⟩)) rfl (Or.inl ⟨by rfl, fun w hS => by obtain ⟨hS1, hS2⟩ := hS; go_simp⟩) hH5 ?_
    refine tkS (i := 9) (oi := ⟨some 44, Op.fieldAddr 79 (Operand.tmp 43) 2, 0, _, _, none⟩) (v := .pointer (some ⟨d, 2, none⟩)) rfl (Or.inl ⟨by rfl, fun w hS => by obtain ⟨hS1, hS2⟩ := hS; go_simp⟩) hH5 ?_
    refine wpAnyH_ready (rs := [10]) (by kernel_rfl) (by simp) ?_
    refine AllReadyH.cons (o := ⟨none, Op.store 55 (Operand.tmp 44) (Operand.tmp 42), 0, _, _, none⟩) rfl (fun K hK => ?_) AllReadyH.nil
    rw [if_pos (by rfl)]
    have hB5 := G5.out.blk HDa.out.blk fun e => (HDa.out.n2 d e).1 rfl
    have f_o := hB5.frozen 2
    have c_o : w5.cell? ⟨d, 2, none⟩ = some (.slice xa xn xc) := hB5.c 2 rfl
    refine wp_cellS (w5.setCell ⟨d, 2, none⟩ (.slice a5 n5 k5)) (by go_simp) ?_
    clear f_o c_o hB5
    have HD6 := Keep.mk (wait_at1 (q := (v, .slice qa v.ps.length qc)) HDa.out V5.out G5.out M5.out ⟨O4.out.row.below BA1.out, HPl.out, fun k hk => ⟨Nat.lt_of_lt_of_le (Hnew.out k hk).1 BA1.out.size, (Hnew.out k hk).2⟩⟩)
    have G6 : Keep (Grown w (w5.setCell ⟨d, 2, none⟩ (.slice a5 n5 k5)) (RgS d hv (.slice xa xn xc) sv)) := ⟨((Grown.below (S := RgS d hv (.slice xa xn xc) sv) (B4.out.trans (BA1.out.mono B4.out.size))).next G5.out fun k _ e => .inr (.inr (.inl e))).next (Grown.setCell w5 d 2 _ (S := fun k => k = d) fun _ => rfl) fun k _ e => .inl e⟩
    have N6 : Keep (∀ k, (Value.slice a5 n5 k5).ownBlock = some k → (Value.slice xa xn xc).ownBlock = some k ∨ w.heap.size ≤ k) := ⟨fun k hk => M5.out.elim (fun e => .inl (e ▸ hk)) fun ⟨j, e, hj⟩ => .inr (by rw [hk] at e; have := Option.some.inj e; subst this; exact Nat.le_trans B4.out.size (Nat.le_trans BA1.out.size hj))⟩
    have HX6 := Keep.mk (HXa.out.set_ne (b' := d) (j := 2) (fun e => by have := HD.out.blk.lt; omega) (.slice a5 n5 k5))
    generalize w5.setCell ⟨d, 2, none⟩ (.slice a5 n5 k5) = w6 at *
    obtain ⟨v6, hv6⟩ : ∃ u : Value, u = .slice a5 n5 k5 := ⟨_, rfl⟩
    rw [← hv6] at HD6 N6
    refine hK _ _ ⟨trivial, blk_rng HX6.out⟩ fun hH6 => ?_
    clear hK hH5 hH6 HXa M5 G5 V5 HDa c3 hv6
    simp only [Act.put, pqA, pqB, pqC]
    refine wpAnyH_done (by kernel_rfl) ?_ _
    rotate_left
    all_goals
     refine hK11 _ _ ?_
     refine wp_seq_k fun K13 hK13 => rgn ?_
     refine WL.bs (by kernel_rfl) 37 0 _ rfl #[] (by simp) _ _ (bsHE w6) ?_
     have O7 := Keep.mk (ownH_empty w6)
     have B7 : Keep (Below w6.heap.size w6 (w6.alloc (.cells #[] 36))) := ⟨below_new w6 (.cells #[] 36)⟩
     generalize w6.alloc (.cells #[] 36) = w7 at *
     have HD7 := Keep.mk (HD6.out.below B7.out)
     obtain ⟨v7, hv7⟩ : ∃ v, Keep (v = Value.slice (some ⟨w6.heap.size, 0, none⟩) 0 0) := ⟨_, ⟨rfl⟩⟩
     rw [← hv7.out] at O7 ⊢
     have N7 : Keep (∀ k, v7.ownBlock = some k → w.heap.size ≤ k ∧ ¬ RgS d hv v6 sv k) := ⟨fun k hk => by rw [hv7.out] at hk; have hk : w6.heap.size = k := Option.some.inj hk; subst hk; exact ⟨G6.out.size, fun e => by have := HD6.out.lt _ e; omega⟩⟩
     have G7 : Keep (Grown w w7 (RgS d hv (.slice xa xn xc) sv)) := ⟨G6.out.trans (Grown.below B7.out)⟩
     obtain ⟨L, hLL⟩ : ∃ L, Keep (L = (R.wait ++ [(v, .slice qa v.ps.length qc)])) := ⟨_, ⟨rfl⟩⟩
     rw [← hLL.out] at HD7
     have HLn : Keep (L.length = R.wait.length + 1) := ⟨by rw [hLL.out]; simp⟩
     have HB7 : Keep (∀ q, q ∈ R.held ∨ q ∈ L → ∀ k, q.2.ownBlock = some k → v7.ownBlock ≠ some k) := ⟨fun q hq k hk e => by rw [hLL.out] at hq; have h1 := ((HD6.out.ps q hq).2.2 k hk).1; rw [hv7.out] at e; have : w6.heap.size = k := Option.some.inj e; omega⟩
     clear HD6 G6 O4 HX4
     simp only [Act.put, pqA, pqB, pqC]
     refine VlS (v7) ?_
     refine WL.nil (hK13 _ _ ?_)
     refine wp_seq_k fun K14 hK14 => ?_
     refine wp_block ?_
     refine wp_loop (fun ac wr => ∃ (t : Nat) (u46 u47 u48 u49 u50 u51 u52 u53 u54 u55 u56 u57 u58 u59 u60 u61 u62 u63 u64 u65 u66 u67 u68 u69 u70 u71 u72 u73 : Value) (ov tv : Value), ac = { tmps := #[.pointer (some ⟨d, 0, none⟩), .agg vv, undef, .pointer (some ⟨w.heap.size, 0, none⟩), .int .i64 0, .slice none 0 0, .int .i64 0, .int .i64 hw, .int .i64 ee, ov, .tuple #[.int .i64 hw, .int .i64 ee], .pointer (some ⟨d, 0, none⟩), .agg vv, .tuple #[.int .i64 hw, .int .i64 ee], .int .i64 hw, .int .i64 ee, .int .i64 ee, .bool false, .bool false, .int .i64 hw, .bool false, .bool false, undef, undef, .pointer (some ⟨w.heap.size, 33, none⟩), .slice pa v.ps.length pc, .slice qa v.ps.length qc, .pointer (some ⟨w.heap.size, 33, none⟩), .int .i64 hw, .bool false, undef, undef, undef, undef, undef, .pointer (some ⟨d, 0, none⟩), .pointer (some ⟨d, 0, none⟩), .pointer (some ⟨d, 0, none⟩), .pointer (some ⟨d, 2, none⟩), .slice xa xn xc, .agg vx, .slice (some ⟨gx, 0, none⟩) 1 1, .slice a5 n5 k5, .pointer (some ⟨d, 0, none⟩), .pointer (some ⟨d, 2, none⟩), v7, u46, u47, u48, u49, u50, u51, u52, u53, u54, u55, u56, u57, u58, u59, u60, u61, u62, u63, u64, u65, u66, u67, u68, u69, u70, u71, u72, u73, undef, undef, undef], defers := [] } ∧ t ≤ L.length ∧ RAt wr d hv tv sv ⟨R.room, R.held, L.drop t, R.sets⟩ ∧ OwnH wr ov ((L.take t).map fun q => q.1.id) ∧ (∀ k, ov.ownBlock = some k → w.heap.size ≤ k ∧ ¬ RgS d hv tv sv k) ∧ Grown w wr (RgS d hv (.slice xa xn xc) sv) ∧ (∀ k, RgS d hv tv sv k → RgS d hv (.slice xa xn xc) sv k ∨ w.heap.size ≤ k) ∧ (∀ q, q ∈ R.held ∨ q ∈ L.drop t → ∀ k, q.2.ownBlock = some k → ov.ownBlock ≠ some k) ∧ (t ≠ 0 → R.room < (L.length : Int) - (t - 1 : Nat))) (fun a _ => L.length - slN (a.tmps.getD 9 undef)) ⟨0, undef, undef, undef, undef, undef, undef, undef, undef, undef, undef, undef, undef, undef, undef, undef, undef, undef, undef, undef, undef, undef, undef, undef, undef, undef, undef, undef, undef, v7, v6, rfl, by omega, HD7.out, O7.out, N7.out, G7.out, fun k hk => by (rcases hk with e | e | e | e; exact .inl (.inl e); exact .inl (.inr (.inl e)); exact (N6.out k e).imp (fun h => .inr (.inr (.inl h))) id; exact .inl (.inr (.inr (.inr e)))), HB7.out, fun h => absurd rfl h⟩ ?_
     rintro ac wr ⟨t, u46, u47, u48, u49, u50, u51, u52, u53, u54, u55, u56, u57, u58, u59, u60, u61, u62, u63, u64, u65, u66, u67, u68, u69, u70, u71, u72, u73, ov, tv, rfl, ht, hDt, hO, hN, hG, hM, hBk, hQ⟩
     have JD := Keep.mk hDt
     have JO := Keep.mk hO
     have JN := Keep.mk hN
     have JG := Keep.mk hG
     have JM := Keep.mk hM
     have JB := Keep.mk hBk
     clear hDt hO hN hG hM hBk
     obtain ⟨ta, tn, tc, etv⟩ := JD.out.wait.sl
     subst etv
     have HTn : Keep (tn = L.length - t) := ⟨by
      rcases JD.out.wait with ⟨e, e2⟩ | ⟨_, _, _, e, _⟩
      ·injection e with _ e3 _; rw [e3]; have e2 : L.drop t = [] := e2; have := congrArg List.length e2; simp at this; omega
      ·injection e with _ e3 _; rw [e3]; show (L.drop t).length = _; rw [List.length_drop]⟩
     have BD : Keep (Below wr.heap.size wr wr.drew) := ⟨(Below.refl _ _).drew⟩
     have hS0 : Keep (∀ wx, Below wr.heap.size wr wx → (fun wx : World => wx.cell? ⟨d, 2, none⟩ = some (.slice ta tn tc) ∧ wx.cell? ⟨d, 0, none⟩ = some (.int .i64 R.room)) wx) := ⟨fun wx hb => ⟨(JD.out.blk.below hb JD.out.blk.lt).c 2 rfl, (JD.out.blk.below hb JD.out.blk.lt).c 0 rfl⟩⟩
     by_cases hgo : R.room < (tn : Int)
     ·have htl : t < L.length := by have := HTn.out; have := Hrm.out; omega
      have HDd := Keep.mk (JD.out.below BD.out)
      obtain ⟨gp, op, eta⟩ : ∃ g o, ta = some ⟨g, o, none⟩ := by
       rcases JD.out.wait with ⟨e, e2⟩ | ⟨g, o, _, e, _⟩
       ·have e2 : L.drop t = [] := e2; have := congrArg List.length e2; simp at this; omega
       ·injection e with e1 _ _; exact ⟨g, o, e1⟩
      subst eta
      obtain ⟨-, hrg, hcp, ox, oc, hsl, hV1⟩ := (HDd.out.wait).one (show 1 ≤ (L.drop t).length by rw [List.length_drop]; omega)
      have hl0 : 0 < (L.drop t).length := by rw [List.length_drop]; omega
      have hn0 : (0 : Int) < (tn : Int) := by have := HTn.out; omega
      have hn1 : ¬ tn = 0 := by omega
      have Hel := Keep.mk (flat_elem encV_len hrg 0 hl0)
      have Hgl := Keep.mk (flatV_lt hrg (by omega))
      obtain ⟨q0, hq0⟩ : ∃ q, Keep (q = L[t]) := ⟨_, ⟨rfl⟩⟩
      have hq0' : (L.drop t)[0] = q0 := by rw [hq0.out]; simp
      have Hel2 : Keep (wr.drew.rangeAt gp (op + 0 * 34) (encV q0)) := ⟨by have := Hel.out; rw [show (⟨R.room, R.held, L.drop t, R.sets⟩ : RG).wait[0] = q0 from hq0'] at this; exact this⟩
      have HV1 := Keep.mk hV1
      have Hsl := Keep.mk hsl
      clear hsl hV1 hrg hcp hq0' Hel
      refine wp_seq_k fun K15 hK15 => ?_
      refine wp_seq_k fun K16 hK16 => ?_
      refine wp_region_held_drew (S := fun wx : World => wx.cell? ⟨d, 2, none⟩ = some (.slice (some ⟨gp, op, none⟩) tn tc) ∧ wx.cell? ⟨d, 0, none⟩ = some (.int .i64 R.room)) (by kernel_rfl) (hS0.out _ BD.out) (fun hHeld => ?_)
      refine tkS (i := 0) (oi := ⟨some 46, Op.move (Operand.tmp 0), 31, _, _, none⟩) (v := .pointer (some ⟨d, 0, none⟩)) rfl (Or.inl ⟨by rfl, fun w hS => by clear hS; go_simp⟩) hHeld ?_
      refine tkS (i := 1) (oi := ⟨some 47, Op.nilCheck (Operand.tmp 46), 0, _, _, none⟩) (v := .pointer (some ⟨d, 0, none⟩)) rfl (Or.inl ⟨by rfl, fun w hS => by clear hS; go_simp⟩) hHeld ?_
      refine tkS (i := 2) (oi := ⟨some 48, Op.fieldAddr 79 (Operand.tmp 47) 2, 0, _, _, none⟩) (v := .pointer (some ⟨d, 2, none⟩)) rfl (Or.inl ⟨by rfl, fun w hS => by clear hS; go_simp⟩) hHeld ?_
      refine tkS (i := 3) (oi := ⟨some 49, Op.load 55 (Operand.tmp 48), 55, _, _, none⟩) (v := .slice (some ⟨gp, op, none⟩) tn tc) rfl (Or.inl ⟨by rfl, fun w hS => by obtain ⟨hS1, hS2⟩ := hS; clear hS2; go_simp⟩) hHeld ?_
      refine tkS (i := 4) (oi := ⟨some 50, Op.call { callee := Callee.builtin Builtin.len, args := #[Operand.tmp 49], argTypes := #[55] }, 3, _, _, none⟩) (v := .int .i64 (tn : Int)) rfl (Or.inl ⟨by rfl, fun w hS => by clear hS; go_simp⟩) hHeld ?_
      refine tkS (i := 5) (oi := ⟨some 51, Op.move (Operand.tmp 0), 31, _, _, none⟩) (v := .pointer (some ⟨d, 0, none⟩)) rfl (Or.inl ⟨by rfl, fun w hS => by clear hS; go_simp⟩) hHeld ?_
      refine tkS (i := 6) (oi := ⟨some 52, Op.nilCheck (Operand.tmp 51), 0, _, _, none⟩) (v := .pointer (some ⟨d, 0, none⟩)) rfl (Or.inl ⟨by rfl, fun w hS => by clear hS; go_simp⟩) hHeld ?_
      refine tkS (i := 7) (oi := ⟨some 53, Op.fieldAddr 79 (Operand.tmp 52) 0, 0, _, _, none⟩) (v := .pointer (some ⟨d, 0, none⟩)) rfl (Or.inl ⟨by rfl, fun w hS => by clear hS; go_simp⟩) hHeld ?_
      refine tkS (i := 8) (oi := ⟨some 54, Op.load 3 (Operand.tmp 53), 3, _, _, none⟩) (v := .int .i64 R.room) rfl (Or.inl ⟨by rfl, fun w hS => by obtain ⟨hS1, hS2⟩ := hS; clear hS1; go_simp⟩) hHeld ?_
      refine tkS (i := 9) (oi := ⟨some 55, Op.binOp BinOp.gtr 3 (Operand.tmp 50) (Operand.tmp 54) 3, 4, _, _, none⟩) (v := .bool true) rfl (Or.inl ⟨by rfl, fun w hS => by clear hS; go_simp⟩) hHeld ?_
      refine wpAnyH_done (by kernel_rfl) ?_ _
      refine hK16 _ _ ?_
      refine wp_cond_true rfl ?_
      refine wp_skip ?_
      refine hK15 _ _ ?_
      refine wp_block ?_
      refine wp_seq_k fun K17 hK17 => rgn ?_
      refine VlS (ov) ?_
      refine VlS (.pointer (some ⟨d, 0, none⟩)) ?_
      refine VlS (.pointer (some ⟨d, 0, none⟩)) ?_
      refine VlS (.pointer (some ⟨d, 2, none⟩)) ?_
      have c1 := (hS0.out _ BD.out).1
      refine WL.val (by kernel_rfl) (.slice (some ⟨gp, op, none⟩) tn tc) (by go_simp) ?_
      clear c1
      simp only [Act.put, pqA, pqB, pqC]
      refine VlS (.pointer (some ⟨gp, op, none⟩)) ?_
      refine VlS (.pointer (some ⟨gp, op, none⟩)) ?_
      refine WL.mid (by kernel_rfl) 36 (.tmp 62) rfl gp op rfl (bytesA 32 q0.1.id.f).toList _ (by have := vtx_idR (show wr.drew.rangeAt gp (op + 0 * 34) (vtx q0.1.id.f q0.1.ck q0.2).toList from Hel2.out); rwa [Nat.zero_mul, Nat.add_zero] at this) Try.underlying36 rfl (by rw [Array.length_toList]; exact Try.size36B _) ?_
      rw [Array.toArray_toList]
      simp only [Act.put, pqA, pqB, pqC]
      refine WL.bs (by kernel_rfl) 37 1 _ rfl #[(0, .agg (bytesA 32 q0.1.id.f))] (by simp [Act.eval]) _ _ (bsH q0.1.id wr.drew) ?_
      have HGy := Keep.mk (Blk.new wr.drew 36 (bytesA 32 q0.1.id.f))
      have hz := below_new wr.drew (.cells (bytesA 32 q0.1.id.f) 36)
      have B8 := Keep.mk (belowT BD.out hz)
      have HV8 := Keep.mk (HV1.out.below hz)
      clear hz
      generalize wr.drew.alloc (.cells (bytesA 32 q0.1.id.f) 36) = w8 at *
      generalize wr.drew.heap.size = gy at *
      simp only [Act.put, pqA, pqB, pqC]
      refine WL.appH (by kernel_rfl) (.tmp 56) (.tmp 64) rfl ov _ gy q0.1.id rfl rfl (JO.out.below B8.out) HGy.out (by have := HI.out.wl; have := HLn.out; rw [List.length_map, List.length_take]; omega) fun v9 w9 h1 h2 h3 => ?_
      have O9 := Keep.mk h1
      have G9 := Keep.mk h2
      have M9 := Keep.mk h3
      clear h1 h2 h3
      have HD9 := Keep.mk ((JD.out.below B8.out).grown G9.out (fun k hk e => (JN.out k e).2 hk) fun q hq k hk e => JB.out q hq k hk e)
      simp only [Act.put, pqA, pqB, pqC]
      refine VlS (v9) ?_
      refine WL.nil (hK17 _ _ ?_)
      refine rgn ?_
      refine VlS (.pointer (some ⟨d, 0, none⟩)) ?_
      refine VlS (.pointer (some ⟨d, 0, none⟩)) ?_
      refine VlS (.pointer (some ⟨d, 0, none⟩)) ?_
      refine VlS (.pointer (some ⟨d, 2, none⟩)) ?_
      have c1 : w9.cell? ⟨d, 2, none⟩ = some (.slice (some ⟨gp, op, none⟩) tn tc) := HD9.out.blk.c 2 rfl
      refine WL.val (by kernel_rfl) (.slice (some ⟨gp, op, none⟩) tn tc) (by go_simp) ?_
      clear c1
      simp only [Act.put, pqA, pqB, pqC]
      refine WL.slr (by kernel_rfl) 55 (.tmp 70) (some (.const (.int .i64 1))) none rfl _ (some (.int .i64 ((1 : Nat) : Int))) none (.slice (some ⟨gp, ox, none⟩) (L.drop t |>.drop 1).length oc) rfl rfl rfl (by rw [← Hsl.out]; exact slV_l _ _ _ 1 (by omega) _) ?_
      simp only [Act.put, pqA, pqB, pqC]
      refine VlS (.pointer (some ⟨d, 0, none⟩)) ?_
      refine VlS (.pointer (some ⟨d, 2, none⟩)) ?_
      have f_o := HD9.out.blk.frozen 2
      have c_o : w9.cell? ⟨d, 2, none⟩ = some (.slice (some ⟨gp, op, none⟩) tn tc) := HD9.out.blk.c 2 rfl
      refine WL.cell (by kernel_rfl) (w9.setCell ⟨d, 2, none⟩ (.slice (some ⟨gp, ox, none⟩) (L.drop t |>.drop 1).length oc)) (by go_simp) ?_
      clear f_o c_o
      have HVn : Keep (VAt w9 (.slice (some ⟨gp, ox, none⟩) (L.drop t |>.drop 1).length oc) ((L.drop t).drop 1)) := ⟨HV8.out.grown G9.out fun k hk e => (JN.out k e).2 (.inr (.inr (.inl hk)))⟩
      have HDn := Keep.mk (drop_at HD9.out HVn.out rfl)
      simp only [Act.put]
      refine WL.nil ?_
      refine ⟨⟨t + 1, .pointer (some ⟨d, 0, none⟩), .pointer (some ⟨d, 0, none⟩), .pointer (some ⟨d, 2, none⟩), .slice (some ⟨gp, op, none⟩) tn tc, .int .i64 (tn : Int), .pointer (some ⟨d, 0, none⟩), .pointer (some ⟨d, 0, none⟩), .pointer (some ⟨d, 0, none⟩), .int .i64 R.room, .bool true, ov, .pointer (some ⟨d, 0, none⟩), .pointer (some ⟨d, 0, none⟩), .pointer (some ⟨d, 2, none⟩), .slice (some ⟨gp, op, none⟩) tn tc, .pointer (some ⟨gp, op, none⟩), .pointer (some ⟨gp, op, none⟩), .agg (bytesA 32 q0.1.id.f), .slice (some ⟨gy, 0, none⟩) 1 1, v9, .pointer (some ⟨d, 0, none⟩), .pointer (some ⟨d, 0, none⟩), .pointer (some ⟨d, 0, none⟩), .pointer (some ⟨d, 2, none⟩), .slice (some ⟨gp, op, none⟩) tn tc, .slice (some ⟨gp, ox, none⟩) (L.drop t |>.drop 1).length oc, .pointer (some ⟨d, 0, none⟩), .pointer (some ⟨d, 2, none⟩), v9, .slice (some ⟨gp, ox, none⟩) (L.drop t |>.drop 1).length oc, by congr 2, by omega, ?_, ?_, ?_, ?_, ?_, ?_, ?_⟩, ?_⟩
      ·rw [show L.drop (t + 1) = (L.drop t).drop 1 by rw [List.drop_drop]]; exact HDn.out
      ·rw [show ((L.take (t + 1)).map fun q => q.1.id) = (L.take t).map (fun q => q.1.id) ++ [q0.1.id] by rw [List.take_add_one, List.getElem?_eq_getElem htl, ← hq0.out]; simp]
       refine O9.out.grown (Grown.setCell w9 d 2 _ (S := fun k => k = d) fun _ => rfl) (fun k hk e => ?_)
       subst e; rcases M9.out with h1 | ⟨j, h1, h2⟩
       ·exact (JN.out k (h1 ▸ hk)).2 (.inl rfl)
       ·rw [hk] at h1; have := Option.some.inj h1; have := JD.out.blk.lt; have := B8.out.size; omega
      ·intro k hk; rcases M9.out with h1 | ⟨j, h1, h2⟩
       ·exact ⟨(JN.out k (h1 ▸ hk)).1, fun e => (JN.out k (h1 ▸ hk)).2 e⟩
       ·rw [hk] at h1; have e1 := Option.some.inj h1; subst e1; exact ⟨Nat.le_trans JG.out.size (Nat.le_trans B8.out.size h2), fun e => by have := JD.out.lt k e; have := B8.out.size; omega⟩
      ·exact ((JG.out.trans (Grown.below B8.out)).next G9.out fun k hk e => by have := (JN.out k e).1; omega).trans (Grown.setCell w9 d 2 _ fun _ => .inl rfl)
      ·intro k hk; exact JM.out k hk
      ·intro q hq k hk e; rcases M9.out with h1 | ⟨j, h1, h2⟩
       ·exact JB.out q (hq.imp id fun h => by rw [show L.drop (t + 1) = (L.drop t).drop 1 by rw [List.drop_drop]] at h; exact List.mem_of_mem_drop h) k hk (h1 ▸ e)
       ·rw [e] at h1; have e1 := Option.some.inj h1; have := ((JD.out.ps q (hq.imp id fun h => by rw [show L.drop (t + 1) = (L.drop t).drop 1 by rw [List.drop_drop]] at h; exact List.mem_of_mem_drop h)).2.2 k hk).1; have := B8.out.size; omega
      ·intro _; have := HTn.out; rw [Nat.add_sub_cancel]; omega
      ·show L.length - slN v9 < L.length - slN ov
       rw [O9.out.slN, JO.out.slN, List.length_append, List.length_map, List.length_take, List.length_singleton]; omega
     ·refine wp_seq_k fun K18 hK18 => ?_
      refine wp_seq_k fun K19 hK19 => ?_
      refine wp_region_held_drew (S := fun wx : World => wx.cell? ⟨d, 2, none⟩ = some (.slice ta tn tc) ∧ wx.cell? ⟨d, 0, none⟩ = some (.int .i64 R.room)) (by kernel_rfl) (hS0.out _ BD.out) (fun hHeld => ?_)
      refine tkS (i := 0) (oi := ⟨some 46, Op.move (Operand.tmp 0), 31, _, _, none⟩) (v := .pointer (some ⟨d, 0, none⟩)) rfl (Or.inl ⟨by rfl, fun w hS => by clear hS; go_simp⟩) hHeld ?_
      refine tkS (i := 1) (oi := ⟨some 47, Op.nilCheck (Operand.tmp 46), 0, _, _, none⟩) (v := .pointer (some ⟨d, 0, none⟩)) rfl (Or.inl ⟨by rfl, fun w hS => by clear hS; go_simp⟩) hHeld ?_
      refine tkS (i := 2) (oi := ⟨some 48, Op.fieldAddr 79 (Operand.tmp 47) 2, 0, _, _, none⟩) (v := .pointer (some ⟨d, 2, none⟩)) rfl (Or.inl ⟨by rfl, fun w hS => by clear hS; go_simp⟩) hHeld ?_
      refine tkS (i := 3) (oi := ⟨some 49, Op.load 55 (Operand.tmp 48), 55, _, _, none⟩) (v := .slice ta tn tc) rfl (Or.inl ⟨by rfl, fun w hS => by obtain ⟨hS1, hS2⟩ := hS; clear hS2; go_simp⟩) hHeld ?_
      refine tkS (i := 4) (oi := ⟨some 50, Op.call { callee := Callee.builtin Builtin.len, args := #[Operand.tmp 49], argTypes := #[55] }, 3, _, _, none⟩) (v := .int .i64 (tn : Int)) rfl (Or.inl ⟨by rfl, fun w hS => by clear hS; go_simp⟩) hHeld ?_
      refine tkS (i := 5) (oi := ⟨some 51, Op.move (Operand.tmp 0), 31, _, _, none⟩) (v := .pointer (some ⟨d, 0, none⟩)) rfl (Or.inl ⟨by rfl, fun w hS => by clear hS; go_simp⟩) hHeld ?_
      refine tkS (i := 6) (oi := ⟨some 52, Op.nilCheck (Operand.tmp 51), 0, _, _, none⟩) (v := .pointer (some ⟨d, 0, none⟩)) rfl (Or.inl ⟨by rfl, fun w hS => by clear hS; go_simp⟩) hHeld ?_
      refine tkS (i := 7) (oi := ⟨some 53, Op.fieldAddr 79 (Operand.tmp 52) 0, 0, _, _, none⟩) (v := .pointer (some ⟨d, 0, none⟩)) rfl (Or.inl ⟨by rfl, fun w hS => by clear hS; go_simp⟩) hHeld ?_
      refine tkS (i := 8) (oi := ⟨some 54, Op.load 3 (Operand.tmp 53), 3, _, _, none⟩) (v := .int .i64 R.room) rfl (Or.inl ⟨by rfl, fun w hS => by obtain ⟨hS1, hS2⟩ := hS; clear hS1; go_simp⟩) hHeld ?_
      refine tkS (i := 9) (oi := ⟨some 55, Op.binOp BinOp.gtr 3 (Operand.tmp 50) (Operand.tmp 54) 3, 4, _, _, none⟩) (v := .bool false) rfl (Or.inl ⟨by rfl, fun w hS => by clear hS; go_simp⟩) hHeld ?_
      refine wpAnyH_done (by kernel_rfl) ?_ _
      refine hK19 _ _ ?_
      refine wp_cond_false rfl ?_
      refine wp_exit ?_
      refine hK14 _ _ ?_
      refine wp_seq_k fun K20 hK20 => rgn ?_
      refine VlS (.int .i64 hw) ?_
      refine VlS (ov) ?_
      refine VlS (.int .i64 ee) ?_
      refine VlS (.int .i64 hw) ?_
      refine VlS (ov) ?_
      refine VlS (.int .i64 ee) ?_
      refine WL.nil (hK20 _ _ ?_)
      refine wp_ret ?_
      go_ret3
      refine ⟨ov, .slice qa v.ps.length qc, hv, .slice ta tn tc, sv, _, _, by rw [hfe.out]; rfl, ⟨JD.out.below BD.out, JG.out.trans (Grown.below BD.out), JM.out, fun q hq => ?_⟩, .inr (.inl ⟨by rw [hfe.out, H3.out, HC.out.2.2], t, by have := HLn.out; omega, by have := HTn.out; have := HLn.out; omega, fun h0 => by have := hQ h0; have := HLn.out; omega, ?_, rfl⟩), ?_, JN.out⟩
      ·rcases hq with hq | hq
       ·exact .inl (.inl hq)
       ·have hq := List.mem_of_mem_drop (show q ∈ L.drop t from hq)
        rw [hLL.out] at hq
        rcases List.mem_append.1 hq with hq | hq
        ·exact .inl (.inr hq)
        ·right; rw [List.mem_singleton.1 hq]; exact fun k hk => Nat.le_trans BW2.out.size (N4.out k hk)
      ·rw [hLL.out]
      ·rw [← hLL.out]; exact JO.out.below BD.out
 ·skip
  refine VlS (.bool true) ?_
  refine VlS (.bool true) ?_
  refine SkS ?_
  refine SkS ?_
  refine VlS (.bool true) ?_
  refine WL.nil (hK4 _ _ ?_)
  refine wp_cond_true rfl ?_
  refine wp_seq_k fun K13 hK13 => rgn ?_
  refine VlS (.int .i64 hw) ?_
  refine VlS (.int .i64 ee) ?_
  refine VlS (.int .i64 hw) ?_
  refine VlS (.slice none 0 0) ?_
  refine VlS (.int .i64 ee) ?_
  refine WL.nil (hK13 _ _ ?_)
  refine wp_ret ?_
  go_ret3
  refine ⟨.slice none 0 0, .slice none 0 0, hv, wv, sv, R, [], by rw [hfe.out]; rfl, RSte.refl HD.out BW2.out, .inr (.inr ⟨?_, ?_, rfl, rfl⟩), ownH_nil _, fun k hk => by cases hk⟩
  ·rw [hfe.out]; rcases fit_cases R.hs R.ws v with h | h | h | h | h <;> (have h' := hfe.out; simp_all)
  ·rw [hfe.out]; rcases fit_cases R.hs R.ws v with h | h | h | h | h <;> (have h' := hfe.out; simp_all)
end Go.Proofs.Ytogmdfhicbmplaa
