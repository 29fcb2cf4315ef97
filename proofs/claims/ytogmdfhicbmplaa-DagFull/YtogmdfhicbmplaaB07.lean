import Derived.Test.YtogmdfhicbmplaaB05
import Derived.Test.YtogmdfhicbmplaaB06
namespace Go.Proofs.Ytogmdfhicbmplaa
open Go.RowKit
set_option linter.unusedSimpArgs false
set_option linter.unusedVariables false

end Go.Proofs.Ytogmdfhicbmplaa
namespace Go.Proofs.Ytogmdfhicbmplaa
open Go.RowKit
set_option linter.unusedSimpArgs false
set_option linter.unusedVariables false

set_option maxRecDepth 8000 in
theorem add_other (d : Nat) (v : VX) (p : Value) (Av : Nat → Prop) (g : DG) (w : World) (hw ee : Int) (hD : DagAt w Av d g) (hr : HRow w p v.ps) (hM : ∀ v ∈ g.held, 0 ≤ v.ck ∧ v.ck ≤ 4096) (hL : (v.ps.length : Int) ≤ 9223372036854775806) (hFt : fitV g.held g.wait v = (hw, ee)) (hN : ¬ hw = 2 ∧ ¬ hw = 3) :
  Calls Try.prog 17 #[ptr d, .agg (vtx v.id.f v.ck p)] w fun e w' => e = .returned (.tuple #[.int .i64 hw, .slice none 0 0, .int .i64 ee]) ∧ Below w.heap.size w w' := by
 obtain ⟨pa, pc, rfl⟩ := hr.form
 obtain ⟨vv, hvv⟩ : ∃ a : Array Value, Keep (a = vtx v.id.f v.ck (.slice pa v.ps.length pc)) := ⟨_, ⟨rfl⟩⟩
 rw [← hvv.out]
 have HD := Keep.mk hD
 have HR := Keep.mk hr
 have HM := Keep.mk hM
 have HL := Keep.mk hL
 have HFt := Keep.mk hFt
 have HN := Keep.mk hN
 clear hD hr hM hL hFt hN
 go_enter Try.func17, Try.ntmps17
 refine wp_seq_k fun K1 hK1 => rgn ?_
 refine WL.box (by kernel_rfl) 39 (.tmp 1) rfl (vv) rfl ?_
 obtain ⟨w1, hwn⟩ : ∃ wx, Keep (wx = w.alloc (.cells (vv) 39)) := ⟨_, ⟨rfl⟩⟩
 rw [← hwn.out]
 have HX1 : Keep (Blk w1 w.heap.size 39 (vv)) := ⟨by rw [hwn.out]; exact Blk.new _ _ _⟩
 have LB1 : Keep (Below w.heap.size w w1) := ⟨by rw [hwn.out]; exact below_new _ _⟩
 clear hwn
 have HD1 := Keep.mk (HD.out.below LB1.out)
 have HR1 := Keep.mk (HR.out.below LB1.out)
 simp only [Act.put, pqA, pqB, pqC]
 refine VlS (.int .i64 0) ?_
 refine VlS (.slice none 0 0) ?_
 refine VlS (.int .i64 0) ?_
 refine WL.nil (hK1 _ _ ?_)
 refine wp_seq_k fun K2 hK2 => rgn ?_
 refine VlS (.pointer (some ⟨d, 0, none⟩)) ?_
 refine WL.row (by kernel_rfl) 39 (.tmp 3) rfl w.heap.size rfl 39 vv _ HX1.out Try.underlying39 rfl (by rw [hvv.out]; exact Try.info39s _ _ _) ?_
 simp only [Act.put, pqA, pqB, pqC]
 have hft := fit_any d v _ Av g w1 HD1.out HR1.out HM.out HL.out
 rw [← hvv.out, HFt.out] at hft
 refine WL.callF (by kernel_rfl) 28 _ _ rfl Try.in28 #[ptr d, .agg vv] (by simp [Act.eval]) ?_
 refine (hft).mono ?_
 rintro e w2 ⟨rfl, hz⟩
 refine ⟨_, rfl, ?_⟩
 clear hft
 have LB2 := Keep.mk (belowT LB1.out hz)
 clear hz
 have hn2 := HN.out.1
 have hn3 := HN.out.2
 simp only [Act.put, pqA, pqB, pqC]
 refine VlS (.tuple #[.int .i64 hw, .int .i64 ee]) ?_
 refine VlS (.int .i64 hw) ?_
 refine VlS (.int .i64 ee) ?_
 refine VlS (.int .i64 hw) ?_
 refine VlS (.int .i64 ee) ?_
 refine WL.nil (hK2 _ _ ?_)
 refine wp_seq_k fun K3 hK3 => ?_
 refine wp_seq_k fun K4 hK4 => rgn ?_
 refine VlS (.int .i64 hw) ?_
 refine WL.nil (hK4 _ _ ?_)
 refine wp_block ?_
 refine wp_seq_k fun K5 hK5 => rgn ?_
 refine VlS (.bool false) ?_
 refine VlS (.bool false) ?_
 refine WL.nil (hK5 _ _ ?_)
 refine wp_cond_false rfl ?_
 refine wp_seq_k fun K6 hK6 => rgn ?_
 refine VlS (.bool false) ?_
 refine VlS (.bool false) ?_
 refine WL.nil (hK6 _ _ ?_)
 refine wp_cond_false rfl ?_
 refine wp_skip ?_
 refine hK3 _ _ ?_
 refine wp_seq_k fun K7 hK7 => rgn ?_
 refine VlS (.int .i64 hw) ?_
 refine VlS (.slice none 0 0) ?_
 refine VlS (.int .i64 ee) ?_
 refine VlS (.int .i64 hw) ?_
 refine VlS (.slice none 0 0) ?_
 refine VlS (.int .i64 ee) ?_
 refine WL.nil (hK7 _ _ ?_)
 refine wp_ret ?_
 go_ret3
 exact ⟨rfl, LB2.out⟩
end Go.Proofs.Ytogmdfhicbmplaa
namespace Go.Proofs.Ytogmdfhicbmplaa
open Go.RowKit
set_option linter.unusedSimpArgs false
set_option linter.unusedVariables false

/-! ### Lists that rise. -/
theorem rises_pw {L : List Hs} (h : risesB L = true) : L.Pairwise Lt := by
 rw [risesB_iff] at h
 have key : ∀ n i : Nat, i + n + 1 < L.length → Lt (L.getD i default) (L.getD (i + n + 1) default) := by
  intro n
  induction n with
  | zero => intro i hi; exact h i hi
  | succ n ih =>
   intro i hi
   have h1 := ih i (by omega)
   have h2 := h (i + n + 1) (by omega)
   exact h1.trans h2
 rw [List.pairwise_iff_getElem]
 intro i j hi hj hij
 have := key (j - i - 1) i (by omega)
 rw [show i + (j - i - 1) + 1 = j by omega] at this
 simpa [List.getD_eq_getElem?_getD, hi, hj] using this
theorem pw_inc {L : List Hs} (h : L.Pairwise Lt) : Inc L := fun i j hij hj => by
 have := (List.pairwise_iff_getElem.1 h) i j (by omega) hj hij
 simpa [List.getD_eq_getElem?_getD, hj, show i < L.length by omega] using this
theorem pw_nodup {L : List Hs} (h : L.Pairwise Lt) : L.Nodup := h.imp fun h => h.ne
theorem getD_at {l : List Hs} {k : Nat} {z : Hs} (h : l[k]? = some z) : l.getD k default = z := by rw [List.getD_eq_getElem?_getD, h]; rfl
theorem at_getD {l : List Hs} {k : Nat} (h : k < l.length) : l[k]? = some (l.getD k default) := by rw [List.getD_eq_getElem?_getD, List.getElem?_eq_getElem h]; rfl
/-! ### Where a vertex is placed. -/
theorem plc_gen (v : VX) (l : List Hs) : ∀ k b, k ≤ b → b ≤ l.length → (∀ (j : Nat) z, k ≤ j → l[j]? = some z → z ∉ v.ps) → (∀ z, l[b]? = some z → Lt v.id z) → (∀ (j : Nat) z, k ≤ j → j < b → l[j]? = some z → ¬ Lt v.id z) →
  plc v l k b ≤ l.length ∧ (∀ (j : Nat) z, l[j]? = some z → z ∈ v.ps → j < plc v l k b) ∧ (∀ z, l[plc v l k b]? = some z → Lt v.id z) ∧ (∀ (i : Nat) z, i < plc v l k b → l[i]? = some z → Lt v.id z → ∃ (j : Nat) (y : Hs), i ≤ j ∧ l[j]? = some y ∧ y ∈ v.ps)
 | 0, b, h1, h2, h3, h4, h5 => by
  unfold plc
  exact ⟨h2, fun j z hj hz => absurd hz (h3 j z (Nat.zero_le _) hj), h4, fun i z hi hz hlt => absurd hlt (h5 i z (Nat.zero_le _) hi hz)⟩
 | k + 1, b, h1, h2, h3, h4, h5 => by
  have hk := at_getD (l := l) (k := k) (by omega)
  unfold plc
  by_cases hp : l.getD k default ∈ v.ps
  ·rw [if_pos hp]
   refine ⟨h2, fun j z hj hz => ?_, h4, fun i z hi hz hlt => ?_⟩
   ·exact Nat.lt_of_not_le fun hb => h3 j z (by omega) hj hz
   ·by_cases hik : i ≤ k
    ·exact ⟨k, _, hik, hk, hp⟩
    ·exact absurd hlt (h5 i z (by omega) hi hz)
  ·rw [if_neg hp]
   refine plc_gen v l k _ ?_ ?_ ?_ ?_ ?_
   ·split <;> omega
   ·split <;> omega
   ·intro j z hj hz
    rcases Nat.lt_or_eq_of_le hj with h | rfl
    ·exact h3 j z h hz
    ·rw [hk] at hz; cases hz; exact hp
   ·intro z hz
    by_cases hc : cf v.id (l.getD k default) < 0
    ·rw [if_pos hc, hk] at hz; cases hz; exact hc
    ·rw [if_neg hc] at hz; exact h4 z hz
   ·intro j z hj hb hz
    rcases Nat.lt_or_eq_of_le hj with h | rfl
    ·refine h5 j z h ?_ hz
     split at hb <;> omega
    ·rw [hk] at hz; cases hz
     intro hc
     have hc' : cf v.id (l.getD k default) < 0 := hc
     rw [if_pos hc'] at hb
     omega
theorem plc_spec (v : VX) (l : List Hs) :
  plc v l l.length l.length ≤ l.length ∧ (∀ (j : Nat) z, l[j]? = some z → z ∈ v.ps → j < plc v l l.length l.length) ∧ (∀ z, l[plc v l l.length l.length]? = some z → Lt v.id z) ∧ (∀ (i : Nat) z, i < plc v l l.length l.length → l[i]? = some z → Lt v.id z → ∃ (j : Nat) (y : Hs), i ≤ j ∧ l[j]? = some y ∧ y ∈ v.ps) :=
 plc_gen v l l.length l.length (Nat.le_refl _) (Nat.le_refl _) (fun j z hj hz => by rw [List.getElem?_eq_none hj] at hz; cases hz) (fun z hz => by rw [List.getElem?_eq_none (Nat.le_refl _)] at hz; cases hz) (fun j z h1 h2 => by omega)
/-! ### Vertices by their hashes. -/
theorem isV_iff {x : Hs} {v : VX} : isV x v = true ↔ v.id = x := by unfold isV; rw [decide_eq_true_iff]; exact eq_comm
theorem hasB_iff {l : List VX} {x : Hs} : hasB l x = true ↔ ∃ v ∈ l, v.id = x := by
 unfold hasB
 rw [List.find?_isSome]
 exact ⟨fun ⟨v, h1, h2⟩ => ⟨v, h1, isV_iff.1 h2⟩, fun ⟨v, h1, h2⟩ => ⟨v, h1, isV_iff.2 h2⟩⟩
theorem hasB_no {l : List VX} {x : Hs} : hasB l x = false ↔ ∀ v ∈ l, v.id ≠ x := by
 rw [Bool.eq_false_iff]
 constructor
 ·intro h v hv e; exact h (hasB_iff.2 ⟨v, hv, e⟩)
 ·intro h e; obtain ⟨v, hv, e⟩ := hasB_iff.1 e; exact h v hv e
theorem hasB_app {l m : List VX} {x : Hs} : hasB (l ++ m) x = (hasB l x || hasB m x) := by
 rw [Bool.eq_iff_iff, Bool.or_eq_true, hasB_iff, hasB_iff, hasB_iff]
 constructor
 ·rintro ⟨v, hv, e⟩
  rcases List.mem_append.1 hv with h | h
  ·exact .inl ⟨v, h, e⟩
  ·exact .inr ⟨v, h, e⟩
 ·rintro (⟨v, h, e⟩ | ⟨v, h, e⟩)
  ·exact ⟨v, List.mem_append.2 (.inl h), e⟩
  ·exact ⟨v, List.mem_append.2 (.inr h), e⟩
theorem hasB_one {v : VX} {x : Hs} : hasB [v] x = true ↔ x = v.id := by
 rw [hasB_iff]
 constructor
 ·rintro ⟨u, hu, e⟩; rw [List.mem_singleton] at hu; subst hu; exact e.symm
 ·rintro rfl; exact ⟨v, by simp, rfl⟩
theorem find_none {l : List VX} {x : Hs} (h : hasB l x = false) : l.find? (isV x) = none := by
 unfold hasB at h
 cases hf : l.find? (isV x) with
 | none => rfl
 | some v => rw [hf] at h; cases h
theorem find_has {l : List VX} {x : Hs} (h : hasB l x = true) : ∃ v, l.find? (isV x) = some v ∧ v ∈ l ∧ v.id = x := by
 unfold hasB at h
 obtain ⟨v, hv⟩ := Option.isSome_iff_exists.1 h
 exact ⟨v, hv, List.mem_of_find?_eq_some hv, isV_iff.1 (List.find?_some hv)⟩
theorem find_mem {l : List VX} (hn : (l.map (·.id)).Nodup) {v : VX} (hv : v ∈ l) : l.find? (isV v.id) = some v := by
 induction l with
 | nil => cases hv
 | cons u r ih =>
  rw [List.map_cons, List.nodup_cons] at hn
  rw [List.find?_cons]
  rcases List.mem_cons.1 hv with rfl | h
  ·rw [isV_iff.2 rfl]
  ·have hne : isV v.id u = false := by
    rw [Bool.eq_false_iff, Ne, isV_iff]
    intro e
    exact hn.1 (List.mem_map.2 ⟨v, h, e.symm⟩)
   rw [hne]
   exact ih hn.2 h
theorem mem_one {l : List VX} (hn : (l.map (·.id)).Nodup) {u v : VX} (hu : u ∈ l) (hv : v ∈ l) (e : u.id = v.id) : u = v := by
 have h1 := find_mem hn hu
 have h2 := find_mem hn hv
 rw [e, h2] at h1
 exact (Option.some.inj h1).symm
theorem find_app {l m : List VX} {x : Hs} (h : hasB l x = true) : (l ++ m).find? (isV x) = l.find? (isV x) := by
 obtain ⟨v, hv, _⟩ := find_has h
 rw [List.find?_append, hv]; rfl
theorem ckOf_app {l m : List VX} {x : Hs} (h : hasB l x = true) : ckOf (l ++ m) x = ckOf l x := by unfold ckOf; rw [find_app h]
theorem mxC_app {l m : List VX} {ps : List Hs} (h : ∀ p ∈ ps, hasB l p = true) : mxC (l ++ m) ps = mxC l ps := by
 unfold mxC
 suffices H : ∀ (ps : List Hs) (k : Int), (∀ p ∈ ps, hasB l p = true) → ps.foldl (fun m' h => if ckOf (l ++ m) h > m' then ckOf (l ++ m) h else m') k = ps.foldl (fun m h => if ckOf l h > m then ckOf l h else m) k from H ps 0 h
 intro ps
 induction ps with
 | nil => intros; rfl
 | cons x r ih =>
  intro k hk
  rw [List.foldl_cons, List.foldl_cons, ckOf_app (hk x (by simp))]
  exact ih _ fun p hp => hk p (by simp [hp])
/-- The parents of a held one. -/
def parH (l : List VX) (x : Hs) : List Hs := match l.find? (isV x) with
 | some v => v.ps
 | none => []
theorem parH_app {l m : List VX} {x : Hs} (h : hasB l x = true) : parH (l ++ m) x = parH l x := by unfold parH; rw [find_app h]
theorem parH_mem {l : List VX} (hn : (l.map (·.id)).Nodup) {v : VX} (hv : v ∈ l) : parH l v.id = v.ps := by unfold parH; rw [find_mem hn hv]
theorem chk_ok {v : VX} (h : chkV v = 0) : v.ps.length ≤ 64 ∧ v.ps.Pairwise Lt ∧ 1 ≤ v.ck ∧ v.ck ≤ 4096 ∧ (v.ck = 1 ↔ v.ps.length = 0) := by
 unfold chkV at h
 by_cases h1 : 64 < v.ps.length ∨ risesB v.ps = false
 ·rw [if_pos h1] at h; cases h
 ·rw [if_neg h1] at h
  by_cases h2 : v.ck < 1 ∨ 4096 < v.ck ∨ ¬ (v.ck = 1 ↔ v.ps.length = 0)
  ·rw [if_pos h2] at h; cases h
  ·rw [not_or] at h1
   rw [not_or, not_or, Classical.not_not] at h2
   exact ⟨by omega, rises_pw (by simpa using h1.2), by omega, by omega, h2.2.2⟩
theorem next_ok {l : List VX} {v : VX} (h : nextE l v = 0) : v.ck = mxC l v.ps + 1 ∧ l.length < 4096 := by
 unfold nextE at h
 by_cases h1 : v.ck ≠ mxC l v.ps + 1
 ·rw [if_pos h1] at h; cases h
 ·rw [if_neg h1] at h
  by_cases h2 : 4096 ≤ l.length
  ·rw [if_pos h2] at h; cases h
  ·exact ⟨Classical.not_not.1 h1, by omega⟩
/-! ### What the heads are then. -/
def hdsOf (h : List Hs) (v : VX) : List Hs := insL (h.filter (outB v.ps)) ((h.filter (outB v.ps)).countP fun x => decide (cf x v.id < 0)) v.id
theorem cnt_at {l : List Hs} {x : Hs} {i : Nat} (hi : i ≤ l.length) (h1 : ∀ k, k < i → Lt (l.getD k default) x) (h2 : ∀ k, i ≤ k → k < l.length → ¬ Lt (l.getD k default) x) : l.countP (fun h => decide (cf h x < 0)) = i := by
 conv => lhs; rw [← List.take_append_drop i l]
 rw [List.countP_append]
 have e1 : (l.take i).countP (fun h => decide (cf h x < 0)) = i := by
  have : (l.take i).countP (fun h => decide (cf h x < 0)) = (l.take i).length := List.countP_eq_length.2 fun a ha => by
   obtain ⟨k, hk⟩ := mem_at ha
   have hk' := (List.getElem?_eq_some_iff.1 hk).1
   rw [List.length_take] at hk'
   rw [List.getElem?_take, if_pos (by omega)] at hk
   have := h1 k (by omega)
   rw [getD_at hk] at this
   exact decide_eq_true this
  rw [this, List.length_take]; omega
 have e2 : (l.drop i).countP (fun h => decide (cf h x < 0)) = 0 := List.countP_eq_zero.2 fun a ha => by
  obtain ⟨k, hk⟩ := mem_at ha
  rw [List.getElem?_drop] at hk
  have hk' := (List.getElem?_eq_some_iff.1 hk).1
  have := h2 (i + k) (by omega) hk'
  rw [getD_at hk] at this
  simpa [Lt] using this
 omega
theorem cnt_take {l : List Hs} (hl : l.Pairwise Lt) (x : Hs) : (∀ y ∈ l.take (l.countP fun h => decide (cf h x < 0)), Lt y x) ∧ (∀ y ∈ l.drop (l.countP fun h => decide (cf h x < 0)), ¬ Lt y x) := by
 induction l with
 | nil => simp
 | cons a r ih =>
  rw [List.pairwise_cons] at hl
  rw [List.countP_cons]
  by_cases ha : cf a x < 0
  ·rw [if_pos (by simpa using ha), List.take_succ_cons, List.drop_succ_cons]
   refine ⟨fun y hy => ?_, (ih hl.2).2⟩
   rcases List.mem_cons.1 hy with rfl | h
   ·exact ha
   ·exact (ih hl.2).1 y h
  ·have h0 : r.countP (fun h => decide (cf h x < 0)) = 0 := List.countP_eq_zero.2 fun y hy => by
    have := hl.1 y hy
    intro hc
    have hc2 : Lt y x := by simpa [Lt] using hc
    exact ha (this.trans hc2)
   rw [if_neg (by simpa using ha), h0]
   refine ⟨by simp, fun y hy => ?_⟩
   simp only [Nat.add_zero, List.drop_zero] at hy
   rcases List.mem_cons.1 hy with rfl | h
   ·exact ha
   ·intro hc; exact ha ((hl.1 y h).trans hc)
theorem hds_pw {h : List Hs} {v : VX} (hp : h.Pairwise Lt) (hv : v.id ∉ h) : (hdsOf h v).Pairwise Lt := by
 unfold hdsOf
 have h1 : (h.filter (outB v.ps)).Pairwise Lt := hp.filter _
 have h2 : v.id ∉ h.filter (outB v.ps) := fun hc => hv (List.mem_filter.1 hc).1
 generalize h.filter (outB v.ps) = l at *
 obtain ⟨t1, t2⟩ := cnt_take h1 v.id
 generalize l.countP (fun x => decide (cf x v.id < 0)) = i at *
 have gt : ∀ y ∈ l.drop i, Lt v.id y := fun y hy => by
  rcases Lt.tri v.id y with h | h | h
  ·exact h
  ·exact absurd (h ▸ List.mem_of_mem_drop hy) h2
  ·exact absurd h (t2 y hy)
 have h1' : (l.take i ++ l.drop i).Pairwise Lt := by rw [List.take_append_drop]; exact h1
 rw [List.pairwise_append] at h1'
 unfold insL
 rw [List.pairwise_append, List.pairwise_cons]
 refine ⟨h1'.1, ⟨gt, h1'.2.1⟩, fun a ha b hb => ?_⟩
 rcases List.mem_cons.1 hb with rfl | hb
 ·exact t1 a ha
 ·exact h1'.2.2 a ha b hb
theorem hds_mem {h : List Hs} {v : VX} {x : Hs} : x ∈ hdsOf h v ↔ x = v.id ∨ (x ∈ h ∧ x ∉ v.ps) := by
 unfold hdsOf
 rw [insL_mem, List.mem_filter]
 simp [outB]
/-! ### What holds of every Dag. -/
structure DI (g : DG) : Prop where
 room : 0 ≤ g.room ∧ g.room ≤ 64
 hl : g.held.length ≤ 4096
 hn : (g.held.map (·.id)).Nodup
 wn : (g.wait.map (·.id)).Nodup
 dj : ∀ v ∈ g.wait, hasB g.held v.id = false
 hc : ∀ v ∈ g.held, chkV v = 0
 wc : ∀ v ∈ g.wait, chkV v = 0
 q : g.queue = g.wait.map (·.id)
 ql : (g.wait.length : Int) ≤ g.room
 ck : ∀ v ∈ g.held, v.ck = mxC g.held v.ps + 1
 cl : ∀ v ∈ g.held, ∀ p ∈ v.ps, hasB g.held p = true
 om : ∀ x, x ∈ g.order ↔ hasB g.held x = true
 oo : OneO (parH g.held) g.order
 hd : g.heads.Pairwise Lt
 hm : ∀ x, x ∈ g.heads ↔ hasB g.held x = true ∧ ∀ v ∈ g.held, x ∉ v.ps
/-- A vertex was taken. -/
def tookG (g : DG) (v : VX) (g' : DG) : Prop := g'.room = g.room ∧ g'.held = g.held ++ [v] ∧ g'.wait = g.wait ∧ g'.queue = g.queue ∧ g'.order = insL g.order (plc v g.order g.order.length g.order.length) v.id ∧ g'.heads = hdsOf g.heads v
theorem DI.took {g g' : DG} {v : VX} (h : DI g) (hc : chkV v = 0) (h1 : hasB g.held v.id = false) (h2 : hasB g.wait v.id = false) (ha : ∀ p ∈ v.ps, hasB g.held p = true) (hn : nextE g.held v = 0) (t : tookG g v g') : DI g' := by
 obtain ⟨e1, e2, e3, e4, e5, e6⟩ := t
 have hnx := next_ok hn
 have hvo : v.id ∉ g.order := fun hc => by rw [h.om, h1] at hc; cases hc
 have hps : v.id ∉ v.ps := fun hc => by have := ha _ hc; rw [h1] at this; cases this
 have hup : ∀ u ∈ g.held, v.id ∉ u.ps := fun u hu hc => by have := h.cl u hu _ hc; rw [h1] at this; cases this
 have hnd : ((g.held ++ [v]).map (·.id)).Nodup := by
  rw [List.map_append, List.nodup_append]
  refine ⟨h.hn, by simp, fun a ha b hb => ?_⟩
  simp only [List.map_cons, List.map_nil, List.mem_singleton] at hb
  subst hb
  obtain ⟨u, hu, rfl⟩ := List.mem_map.1 ha
  exact hasB_no.1 h1 u hu
 have hpv : parH (g.held ++ [v]) v.id = v.ps := parH_mem hnd (by simp)
 have hhas : ∀ x, hasB (g.held ++ [v]) x = true ↔ x = v.id ∨ hasB g.held x = true := fun x => by rw [hasB_app, Bool.or_eq_true, hasB_one]; exact Or.comm
 refine ⟨by rw [e1]; exact h.room, by rw [e2, List.length_append]; have := hnx.2; simp; omega, by rw [e2]; exact hnd, by rw [e3]; exact h.wn, ?_, ?_, by rw [e3]; exact h.wc, by rw [e4, e3]; exact h.q, by rw [e3, e1]; exact h.ql, ?_, ?_, ?_, ?_, ?_, ?_⟩
 ·rw [e3, e2]
  intro u hu
  rw [Bool.eq_false_iff, Ne, hhas]
  rintro (e | e)
  ·exact hasB_no.1 h2 u hu e
  ·rw [h.dj u hu] at e; cases e
 ·rw [e2]
  intro u hu
  rcases List.mem_append.1 hu with hu | hu
  ·exact h.hc u hu
  ·rw [List.mem_singleton] at hu; subst hu; exact hc
 ·rw [e2]
  intro u hu
  rcases List.mem_append.1 hu with hu | hu
  ·rw [mxC_app (h.cl u hu)]; exact h.ck u hu
  ·rw [List.mem_singleton] at hu; subst hu; rw [mxC_app ha]; exact hnx.1
 ·rw [e2]
  intro u hu p hp
  rw [hhas]
  rcases List.mem_append.1 hu with hu | hu
  ·exact .inr (h.cl u hu p hp)
  ·rw [List.mem_singleton] at hu; subst hu; exact .inr (ha p hp)
 ·intro x
  rw [e5, e2, insL_mem, hhas, h.om]
 ·rw [e5, e2]
  obtain ⟨p1, p2, p3, p4⟩ := plc_spec v g.order
  refine h.oo.ins (fun x hx => parH_app ((h.om x).1 hx)) p1 hvo ?_ ?_ ?_ p3 ?_
  ·intro x hx hcx
   obtain ⟨u, hu, hum, hue⟩ := find_has ((h.om x).1 hx)
   rw [← hue, parH_mem h.hn hum] at hcx
   exact hup u hum hcx
  ·rw [hpv]; exact fun p hp => (h.om p).2 (ha p hp)
  ·rw [hpv]; exact p2
  ·rw [hpv]; exact p4
 ·rw [e6]
  refine hds_pw h.hd fun hc => ?_
  have := ((h.hm _).1 hc).1
  rw [h1] at this; cases this
 ·intro x
  rw [e6, e2, hds_mem, hhas]
  constructor
  ·rintro (rfl | ⟨h3, h4⟩)
   ·refine ⟨.inl rfl, fun u hu => ?_⟩
    rcases List.mem_append.1 hu with hu | hu
    ·exact hup u hu
    ·rw [List.mem_singleton] at hu; subst hu; exact hps
   ·obtain ⟨h5, h6⟩ := (h.hm x).1 h3
    refine ⟨.inr h5, fun u hu => ?_⟩
    rcases List.mem_append.1 hu with hu | hu
    ·exact h6 u hu
    ·rw [List.mem_singleton] at hu; subst hu; exact h4
  ·rintro ⟨h3 | h3, h4⟩
   ·exact .inl h3
   ·exact .inr ⟨(h.hm x).2 ⟨h3, fun u hu => h4 u (by simp [hu])⟩, h4 v (by simp)⟩
theorem DI.waits {g g' : DG} {v : VX} (h : DI g) (hc : chkV v = 0) (h1 : hasB g.held v.id = false) (h2 : hasB g.wait v.id = false) (hr : (g.wait.length : Int) + 1 ≤ g.room)
  (t : g'.room = g.room ∧ g'.held = g.held ∧ g'.wait = g.wait ++ [v] ∧ g'.queue = g.queue ++ [v.id] ∧ g'.order = g.order ∧ g'.heads = g.heads) : DI g' := by
 obtain ⟨e1, e2, e3, e4, e5, e6⟩ := t
 refine ⟨by rw [e1]; exact h.room, by rw [e2]; exact h.hl, by rw [e2]; exact h.hn, ?_, ?_, by rw [e2]; exact h.hc, ?_, by rw [e4, e3, h.q, List.map_append]; rfl, by rw [e3, e1, List.length_append]; simp; omega, by rw [e2]; exact h.ck, by rw [e2]; exact h.cl, by rw [e5, e2]; exact h.om, by rw [e5, e2]; exact h.oo, by rw [e6]; exact h.hd, by rw [e6, e2]; exact h.hm⟩
 ·rw [e3, List.map_append, List.nodup_append]
  refine ⟨h.wn, by simp, fun a ha b hb => ?_⟩
  simp only [List.map_cons, List.map_nil, List.mem_singleton] at hb
  subst hb
  obtain ⟨u, hu, rfl⟩ := List.mem_map.1 ha
  exact hasB_no.1 h2 u hu
 ·rw [e3, e2]
  intro u hu
  rcases List.mem_append.1 hu with hu | hu
  ·exact h.dj u hu
  ·rw [List.mem_singleton] at hu; subst hu; exact h1
 ·rw [e3]
  intro u hu
  rcases List.mem_append.1 hu with hu | hu
  ·exact h.wc u hu
  ·rw [List.mem_singleton] at hu; subst hu; exact hc
theorem ix_has (x : Hs) : ∀ (l : List VX) (t : Nat), hasB l x = true → ∃ i : Nat, i < l.length ∧ ixF x (l.map (·.id)) t = ((t + i : Nat) : Int) ∧ (l.eraseP (isV x)).map (·.id) = (l.map (·.id)).take i ++ (l.map (·.id)).drop (i + 1)
 | [], t, h => by rw [hasB_iff] at h; obtain ⟨v, hv, _⟩ := h; cases hv
 | v :: r, t, h => by
  by_cases hx : x = v.id
  ·refine ⟨0, by simp, by simp [ixF, hx], ?_⟩
   rw [List.eraseP_cons, isV_iff.2 hx.symm]
   simp
  ·have hne : isV x v = false := by rw [Bool.eq_false_iff, Ne, isV_iff]; exact fun e => hx e.symm
   have hr : hasB r x = true := by
    rw [hasB_iff] at h ⊢
    obtain ⟨u, hu, e⟩ := h
    rcases List.mem_cons.1 hu with rfl | hu
    ·exact absurd e.symm hx
    ·exact ⟨u, hu, e⟩
   obtain ⟨i, h1, h2, h3⟩ := ix_has x r (t + 1) hr
   refine ⟨i + 1, by simp; omega, ?_, ?_⟩
   ·rw [List.map_cons, ixF, if_neg hx, h2]; congr 1; omega
   ·rw [List.eraseP_cons, hne]
    simp [h3]
theorem DI.ix {g : DG} (h : DI g) (x : Hs) : hasB g.wait x = true → ∃ i : Nat, i < g.queue.length ∧ ixF x g.queue 0 = (i : Int) := fun hx => by
 obtain ⟨i, h1, h2, _⟩ := ix_has x g.wait 0 hx
 rw [← h.q, Nat.zero_add] at h2
 exact ⟨i, by rw [h.q, List.length_map]; exact h1, h2⟩
end Go.Proofs.Ytogmdfhicbmplaa
namespace Go.Proofs.Ytogmdfhicbmplaa
open Go.RowKit
set_option linter.unusedSimpArgs false
set_option linter.unusedVariables false

/-- The length of a slice. -/
def lnV : Value → Nat
 | .slice _ n _ => n
 | _ => 0
set_option maxRecDepth 8000 in
set_option maxHeartbeats 1000000 in
theorem shed_one (d : Nat) (v0 : VX) (r : List VX) (Av : Nat → Prop) (g : DG) (w : World) (hD : DagAt w Av d g) (hQ : g.queue = g.wait.map (·.id)) (hW : g.wait = v0 :: r) (hR : g.room = (r.length : Int)) (hQl : g.queue.length ≤ 1000000000) : Calls Try.prog 60 #[ptr d] w fun e w' => ∃ u g', e = .returned u ∧ Ste w w' Av d g g' ∧ (g'.room = g.room ∧ g'.held = g.held ∧ g'.wait = r ∧ g'.queue = r.map (·.id) ∧ g'.order = g.order ∧ g'.heads = g.heads) ∧ OwnH w' u [v0.id] ∧ (∀ k, u.ownBlock = some k → w.heap.size ≤ k ∧ ¬ DgS d g' k) := by
 have HD := Keep.mk hD
 have HQ := Keep.mk hQ
 have HW := Keep.mk hW
 have HR := Keep.mk hR
 have HQl := Keep.mk hQl
 clear hD hQ hW hR hQl
 go_enter Try.func60, Try.ntmps60
 refine wp_seq_k fun K1 hK1 => rgn ?_
 refine VlS (.slice none 0 0) ?_
 refine WL.nil (hK1 _ _ ?_)
 refine wp_seq_k fun K2 hK2 => rgn ?_
 refine VlS (.slice none 0 0) ?_
 refine WL.nil (hK2 _ _ ?_)
 refine wp_seq_k fun K3 hK3 => ?_
 refine wp_block ?_
 refine wp_loop (fun ac wr => ∃ (t : Nat) (u3 u4 u5 u6 u7 u8 u9 u10 u11 u12 u13 u14 u15 u16 u17 u18 u19 u20 u21 u22 u23 u24 u25 u26 u27 : Value) (gr : DG), ac = { tmps := #[.pointer (some ⟨d, 0, none⟩), undef, .slice none 0 0, u3, u4, u5, u6, u7, u8, u9, u10, u11, u12, u13, u14, u15, u16, u17, u18, u19, u20, u21, u22, u23, u24, u25, u26, u27, undef], defers := [] } ∧ ((t = 0 ∧ w = wr ∧ g = gr ∧ .slice none 0 0 = u3) ∨ (t = 1 ∧ Ste w wr Av d g gr ∧ (gr.room = g.room ∧ gr.held = g.held ∧ gr.wait = r ∧ gr.queue = r.map (·.id) ∧ gr.order = g.order ∧ gr.heads = g.heads) ∧ OwnH wr u3 [v0.id] ∧ (∀ k, u3.ownBlock = some k → w.heap.size ≤ k ∧ ¬ DgS d gr k)))) (fun a _ => 1 - lnV (a.tmps.getD 3 undef)) ⟨0, .slice none 0 0, undef, undef, undef, undef, undef, undef, undef, undef, undef, undef, undef, undef, undef, undef, undef, undef, undef, undef, undef, undef, undef, undef, undef, undef, g, rfl, .inl ⟨rfl, rfl, rfl, rfl⟩⟩ ?_
 rintro ac wr ⟨t, u3, u4, u5, u6, u7, u8, u9, u10, u11, u12, u13, u14, u15, u16, u17, u18, u19, u20, u21, u22, u23, u24, u25, u26, u27, gr, rfl, hX⟩
 rcases hX with ⟨rfl, rfl, rfl, rfl⟩ | ⟨rfl, hS, hG, hO, hN⟩
 ·have JA := Keep.mk HD.out
  obtain ⟨qa, qc, hqv⟩ := JA.out.oq.sl
  have Hqv := Keep.mk hqv
  clear hqv
  have hql0 : 0 < g.queue.length := by rw [HQ.out, HW.out]; simp
  have hle : g.room < (g.queue.length : Int) := by rw [HR.out, HQ.out, HW.out]; simp; omega
  refine wp_seq_k fun K4 hK4 => ?_
  refine wp_seq_k fun K5 hK5 => ?_
  have hS0 : Keep (w.drew.cell? ⟨d, 5, none⟩ = some (.slice qa g.queue.length qc) ∧ w.drew.cell? ⟨d, 0, none⟩ = some (.int .i64 g.room)) := ⟨by have h := JA.out.blk.drew.c 5 (by rfl : (dgA g)[5]? = some g.qv); rw [Hqv.out] at h; exact h, JA.out.blk.drew.c 0 rfl⟩
  refine wp_region_held_drew (S := fun wx => wx.cell? ⟨d, 5, none⟩ = some (.slice qa g.queue.length qc) ∧ wx.cell? ⟨d, 0, none⟩ = some (.int .i64 g.room)) (by kernel_rfl) (hS0.out) (fun hHeld => ?_)
  refine tkS (i := 0) (oi := ⟨some 5, Op.move (Operand.tmp 0), 27, _, _, none⟩) (v := .pointer (some ⟨d, 0, none⟩)) rfl (Or.inl ⟨by rfl, fun w hS => by obtain ⟨hS1, hS2⟩ := hS; go_simp⟩) hHeld ?_
  refine tkS (i := 1) (oi := ⟨some 6, Op.nilCheck (Operand.tmp 5), 0, _, _, none⟩) (v := .pointer (some ⟨d, 0, none⟩)) rfl (Or.inl ⟨by rfl, fun w hS => by obtain ⟨hS1, hS2⟩ := hS; go_simp⟩) hHeld ?_
  refine tkS (i := 2) (oi := ⟨some 7, Op.fieldAddr 77 (Operand.tmp 6) 5, 0, _, _, none⟩) (v := .pointer (some ⟨d, 5, none⟩)) rfl (Or.inl ⟨by rfl, fun w hS => by obtain ⟨hS1, hS2⟩ := hS; go_simp⟩) hHeld ?_
  refine tkS (i := 3) (oi := ⟨some 8, Op.load 37 (Operand.tmp 7), 37, _, _, none⟩) (v := .slice qa g.queue.length qc) rfl (Or.inl ⟨by rfl, fun w hS => by obtain ⟨hS1, hS2⟩ := hS; go_simp⟩) hHeld ?_
  refine tkS (i := 4) (oi := ⟨some 9, Op.call { callee := Callee.builtin Builtin.len, args := #[Operand.tmp 8], argTypes := #[37] }, 3, _, _, none⟩) (v := .int .i64 (g.queue.length : Int)) rfl (Or.inl ⟨by rfl, fun w hS => by obtain ⟨hS1, hS2⟩ := hS; go_simp⟩) hHeld ?_
  refine tkS (i := 5) (oi := ⟨some 10, Op.move (Operand.tmp 0), 27, _, _, none⟩) (v := .pointer (some ⟨d, 0, none⟩)) rfl (Or.inl ⟨by rfl, fun w hS => by obtain ⟨hS1, hS2⟩ := hS; go_simp⟩) hHeld ?_
  refine tkS (i := 6) (oi := ⟨some 11, Op.nilCheck (Operand.tmp 10), 0, _, _, none⟩) (v := .pointer (some ⟨d, 0, none⟩)) rfl (Or.inl ⟨by rfl, fun w hS => by obtain ⟨hS1, hS2⟩ := hS; go_simp⟩) hHeld ?_
  refine tkS (i := 7) (oi := ⟨some 12, Op.fieldAddr 77 (Operand.tmp 11) 0, 0, _, _, none⟩) (v := .pointer (some ⟨d, 0, none⟩)) rfl (Or.inl ⟨by rfl, fun w hS => by obtain ⟨hS1, hS2⟩ := hS; go_simp⟩) hHeld ?_
  refine tkS (i := 8) (oi := ⟨some 13, Op.load 3 (Operand.tmp 12), 3, _, _, none⟩) (v := .int .i64 g.room) rfl (Or.inl ⟨by rfl, fun w hS => by obtain ⟨hS1, hS2⟩ := hS; go_simp⟩) hHeld ?_
  refine tkS (i := 9) (oi := ⟨some 14, Op.binOp BinOp.gtr 3 (Operand.tmp 9) (Operand.tmp 13) 3, 4, _, _, none⟩) (v := .bool true) rfl (Or.inl ⟨by rfl, fun w hS => by obtain ⟨hS1, hS2⟩ := hS; go_simp⟩) hHeld ?_
  refine wpAnyH_done (by kernel_rfl) ?_ _
  refine hK5 _ _ ?_
  refine wp_cond_true rfl ?_
  refine wp_skip ?_
  refine hK4 _ _ ?_
  refine wp_block ?_
  refine wp_seq_k fun K6 hK6 => ?_
  have B1 : Keep (Below w.heap.size w w.drew) := ⟨(Below.refl _ _).drew⟩
  have JB := Keep.mk (JA.out.below B1.out)
  clear hS0 hle
  generalize w.drew = ws at *
  obtain ⟨gp, op, hpa, _, _, hrg⟩ := (Hqv.out ▸ JB.out.oq.row : HRow ws (.slice qa g.queue.length qc) g.queue).at hql0
  have hel := rangeAt_elem hrg 0 hql0
  rw [Nat.zero_mul, Nat.add_zero, show g.queue[0] = v0.id by simp [HQ.out, HW.out]] at hel
  have Hel := Keep.mk hel
  subst hpa
  have hql' : (0 : Int) < (g.queue.length : Int) := by omega
  have c5 : ws.cell? ⟨d, 5, none⟩ = some (.slice (some ⟨gp, op, none⟩) g.queue.length qc) := by have h := JB.out.blk.c 5 (by rfl : (dgA g)[5]? = some g.qv); rw [Hqv.out] at h; exact h
  clear hrg hel
  refine rgn ?_
  refine VlS (.pointer (some ⟨d, 0, none⟩)) ?_
  refine VlS (.pointer (some ⟨d, 0, none⟩)) ?_
  refine VlS (.pointer (some ⟨d, 5, none⟩)) ?_
  refine VlS (.slice (some ⟨gp, op, none⟩) g.queue.length qc) ?_
  refine VlS (.pointer (some ⟨gp, op, none⟩)) ?_
  refine WL.mid (by kernel_rfl) 36 (.tmp 19) rfl gp op rfl (encH v0.id) _ Hel.out Try.underlying36 rfl (Try.size36L v0.id) ?_
  rw [enc_load]
  simp only [Act.put, pqA, pqB, pqC]
  refine WL.new (by kernel_rfl) 36 rfl _ Try.new36 ?_
  simp only [Act.put, pqA, pqB, pqC]
  refine WL.storeR (by kernel_rfl) 36 (.tmp 4) (.tmp 20) rfl ws.heap.size (bytesA 32 v0.id.f) rfl rfl 36 (bytesA 32 fun _ => 0) (Blk.new ws 36 _) (Try.size36B _) (bytesA_sizes _ _ _) (bytesA_one _ _) ?_
  have HY := Keep.mk ((Blk.new ws 36 (bytesA 32 fun _ => 0)).setRow (bytesA 32 v0.id.f))
  have BY : Keep (Below ws.heap.size ws ((ws.alloc (.cells (bytesA 32 fun _ => 0) 36)).setRow ws.heap.size (bytesA 32 v0.id.f))) := ⟨below_setRow (below_new ws _) (Nat.le_refl _) _⟩
  generalize (ws.alloc (.cells (bytesA 32 fun _ => 0) 36)).setRow ws.heap.size (bytesA 32 v0.id.f) = wy at *
  have JC := Keep.mk (JB.out.below BY.out)
  have B2 : Keep (Below w.heap.size w wy) := ⟨belowT B1.out BY.out⟩
  have NY : Keep (∀ k, DgS d g k → k ≠ ws.heap.size) := ⟨fun k hk e => by have := JB.out.lt k (JB.out.av k hk); omega⟩
  generalize hbb : ws.heap.size = bb at *
  clear Hel c5
  simp only [Act.put]
  refine WL.nil (hK6 _ _ ?_)
  refine wp_seq_k fun K7 hK7 => rgn ?_
  refine VlS (.pointer (some ⟨d, 0, none⟩)) ?_
  refine WL.row (by kernel_rfl) 36 (.tmp 4) rfl bb rfl 36 (bytesA 32 v0.id.f) _ HY.out Try.underlying36 rfl (Try.size36B _) ?_
  simp only [Act.put, pqA, pqB, pqC]
  have Hqm : Keep (g.queue = v0.id :: r.map (·.id)) := ⟨by rw [HQ.out, HW.out]; rfl⟩
  have hfg := forget_any d v0.id Av g wy JC.out (fun _ => ⟨0, by rw [Hqm.out]; simp, by rw [Hqm.out]; exact ix_head _ _⟩) HQl.out
  refine WL.callF (by kernel_rfl) 43 _ _ rfl Try.in43 #[ptr d, .agg (bytesA 32 v0.id.f)] (by simp [Act.eval]) ?_
  refine (hfg.mono (R' := fun e w' => e = .returned (.bool true) ∧ ∃ g', Ste wy w' Av d g g' ∧ g'.room = g.room ∧ g'.held = g.held ∧ g'.wait = r ∧ g'.queue = r.map (·.id) ∧ g'.order = g.order ∧ g'.heads = g.heads) (fun e w' h => h.elim (fun h => by have h1 := h.1; rw [HW.out, hasB_head] at h1; cases h1) fun ⟨_, h2, i, h3, h4, g', h5, h6, h7, h8, h9, h10, h11⟩ => ⟨h2, g', h5, h6, h7, by rw [h8, HW.out, erase_head], by rw [Hqm.out, ix_head] at h4; have h4 := Int.ofNat_inj.1 h4; subst h4; rw [h9, Hqm.out]; rfl, h10, h11⟩)).mono ?_
  rintro e wz ⟨rfl, g2, hs2, hg2⟩
  refine ⟨_, rfl, ?_⟩
  clear hfg
  have HS3 : Keep (Ste w wz Av d g g2) := ⟨⟨hs2.at', (Grown.below (S := DgS d g) B2.out).trans hs2.grown, fun k hk => (hs2.sub k hk).imp id fun h => Nat.le_trans B2.out.size h⟩⟩
  have HY3 := Keep.mk (hs2.grown.blk HY.out fun e => NY.out _ e rfl)
  have JG3 := Keep.mk hg2
  clear hs2 hg2
  simp only [Act.put, pqA, pqB, pqC]
  refine WL.nil (hK7 _ _ ?_)
  refine rgn ?_
  refine VlS (.slice none 0 0) ?_
  refine WL.row (by kernel_rfl) 36 (.tmp 4) rfl bb rfl 36 (bytesA 32 v0.id.f) _ HY3.out Try.underlying36 rfl (Try.size36B _) ?_
  simp only [Act.put, pqA, pqB, pqC]
  refine WL.bs (by kernel_rfl) 37 1 _ rfl #[(0, .agg (bytesA 32 v0.id.f))] (by simp [Act.eval]) _ _ (bsH v0.id wz) ?_
  have HGy := Keep.mk (Blk.new wz 36 (bytesA 32 v0.id.f))
  have B5 := Keep.mk (below_new wz (.cells (bytesA 32 v0.id.f) 36))
  generalize wz.alloc (.cells (bytesA 32 v0.id.f) 36) = w5 at *
  have HS5 := Keep.mk (HS3.out.more B5.out)
  generalize hgy : wz.heap.size = gy at *
  simp only [Act.put, pqA, pqB, pqC]
  refine WL.appH (by kernel_rfl) (.tmp 24) (.tmp 26) rfl _ [] gy v0.id rfl rfl (ownH_nil _) HGy.out (by simp) fun v6 w6 h1 h2 h3 => ?_
  have B6 : Keep (Below w5.heap.size w5 w6) := ⟨h2.to_below (fun k _ e => by cases e) (Nat.le_refl _)⟩
  have HS6 := Keep.mk (HS5.out.more B6.out)
  have JN5 : Keep (∀ k, v6.ownBlock = some k → w.heap.size ≤ k ∧ ¬ DgS d g2 k) := ⟨fun k hk => h3.elim (fun e => by rw [hk] at e; cases e) fun ⟨q, e, hq⟩ => by rw [hk] at e; have := Option.some.inj e; subst this; exact ⟨Nat.le_trans HS5.out.grown.size hq, fun e => by have := HS5.out.at'.lt k (.inr e); omega⟩⟩
  have JO6 : Keep (OwnH w6 v6 [v0.id]) := ⟨h1⟩
  clear h1 h2 h3
  simp only [Act.put, pqA, pqB, pqC]
  refine VlS (v6) ?_
  refine WL.nil ?_
  obtain ⟨a6, c6, e6⟩ := JO6.out.sl
  refine ⟨⟨1, v6, .pointer (some ⟨bb, 0, none⟩), .pointer (some ⟨d, 0, none⟩), .pointer (some ⟨d, 0, none⟩), .pointer (some ⟨d, 5, none⟩), .slice (some ⟨gp, op, none⟩) g.queue.length qc, .int .i64 (g.queue.length : Int), .pointer (some ⟨d, 0, none⟩), .pointer (some ⟨d, 0, none⟩), .pointer (some ⟨d, 0, none⟩), .int .i64 g.room, .bool true, .pointer (some ⟨d, 0, none⟩), .pointer (some ⟨d, 0, none⟩), .pointer (some ⟨d, 5, none⟩), .slice (some ⟨gp, op, none⟩) g.queue.length qc, .pointer (some ⟨gp, op, none⟩), .agg (bytesA 32 v0.id.f), .pointer (some ⟨d, 0, none⟩), .agg (bytesA 32 v0.id.f), .bool true, .slice none 0 0, .agg (bytesA 32 v0.id.f), .slice (some ⟨gy, 0, none⟩) 1 1, v6, g2, rfl, .inr ⟨rfl, HS6.out, JG3.out, JO6.out, JN5.out⟩⟩, ?_⟩
  subst e6
  exact Nat.zero_lt_one
 ·have JS := Keep.mk hS
  have JG := Keep.mk hG
  have JO := Keep.mk hO
  have JN := Keep.mk hN
  clear hS hG hO hN
  obtain ⟨qa, qc, hqv⟩ := JS.out.at'.oq.sl
  have Hqv := Keep.mk hqv
  clear hqv
  have hle : ¬ gr.room < (gr.queue.length : Int) := by rw [JG.out.1, HR.out, JG.out.2.2.2.1, List.length_map]; omega
  refine wp_seq_k fun K8 hK8 => ?_
  refine wp_seq_k fun K9 hK9 => ?_
  have hS0 : Keep (wr.drew.cell? ⟨d, 5, none⟩ = some (.slice qa gr.queue.length qc) ∧ wr.drew.cell? ⟨d, 0, none⟩ = some (.int .i64 gr.room)) := ⟨by have h := JS.out.at'.blk.drew.c 5 (by rfl : (dgA gr)[5]? = some gr.qv); rw [Hqv.out] at h; exact h, JS.out.at'.blk.drew.c 0 rfl⟩
  refine wp_region_held_drew (S := fun wx => wx.cell? ⟨d, 5, none⟩ = some (.slice qa gr.queue.length qc) ∧ wx.cell? ⟨d, 0, none⟩ = some (.int .i64 gr.room)) (by kernel_rfl) (hS0.out) (fun hHeld => ?_)
  refine tkS (i := 0) (oi := ⟨some 5, Op.move (Operand.tmp 0), 27, _, _, none⟩) (v := .pointer (some ⟨d, 0, none⟩)) rfl (Or.inl ⟨by rfl, fun w hS => by obtain ⟨hS1, hS2⟩ := hS; go_simp⟩) hHeld ?_
  refine tkS (i := 1) (oi := ⟨some 6, Op.nilCheck (Operand.tmp 5), 0, _, _, none⟩) (v := .pointer (some ⟨d, 0, none⟩)) rfl (Or.inl ⟨by rfl, fun w hS => by obtain ⟨hS1, hS2⟩ := hS; go_simp⟩) hHeld ?_
  refine tkS (i := 2) (oi := ⟨some 7, Op.fieldAddr 77 (Operand.tmp 6) 5, 0, _, _, none⟩) (v := .pointer (some ⟨d, 5, none⟩)) rfl (Or.inl ⟨by rfl, fun w hS => by obtain ⟨hS1, hS2⟩ := hS; go_simp⟩) hHeld ?_
  refine tkS (i := 3) (oi := ⟨some 8, Op.load 37 (Operand.tmp 7), 37, _, _, none⟩) (v := .slice qa gr.queue.length qc) rfl (Or.inl ⟨by rfl, fun w hS => by obtain ⟨hS1, hS2⟩ := hS; go_simp⟩) hHeld ?_
  refine tkS (i := 4) (oi := ⟨some 9, Op.call { callee := Callee.builtin Builtin.len, args := #[Operand.tmp 8], argTypes := #[37] }, 3, _, _, none⟩) (v := .int .i64 (gr.queue.length : Int)) rfl (Or.inl ⟨by rfl, fun w hS => by obtain ⟨hS1, hS2⟩ := hS; go_simp⟩) hHeld ?_
  refine tkS (i := 5) (oi := ⟨some 10, Op.move (Operand.tmp 0), 27, _, _, none⟩) (v := .pointer (some ⟨d, 0, none⟩)) rfl (Or.inl ⟨by rfl, fun w hS => by obtain ⟨hS1, hS2⟩ := hS; go_simp⟩) hHeld ?_
  refine tkS (i := 6) (oi := ⟨some 11, Op.nilCheck (Operand.tmp 10), 0, _, _, none⟩) (v := .pointer (some ⟨d, 0, none⟩)) rfl (Or.inl ⟨by rfl, fun w hS => by obtain ⟨hS1, hS2⟩ := hS; go_simp⟩) hHeld ?_
  refine tkS (i := 7) (oi := ⟨some 12, Op.fieldAddr 77 (Operand.tmp 11) 0, 0, _, _, none⟩) (v := .pointer (some ⟨d, 0, none⟩)) rfl (Or.inl ⟨by rfl, fun w hS => by obtain ⟨hS1, hS2⟩ := hS; go_simp⟩) hHeld ?_
  refine tkS (i := 8) (oi := ⟨some 13, Op.load 3 (Operand.tmp 12), 3, _, _, none⟩) (v := .int .i64 gr.room) rfl (Or.inl ⟨by rfl, fun w hS => by obtain ⟨hS1, hS2⟩ := hS; go_simp⟩) hHeld ?_
  refine tkS (i := 9) (oi := ⟨some 14, Op.binOp BinOp.gtr 3 (Operand.tmp 9) (Operand.tmp 13) 3, 4, _, _, none⟩) (v := .bool false) rfl (Or.inl ⟨by rfl, fun w hS => by obtain ⟨hS1, hS2⟩ := hS; go_simp⟩) hHeld ?_
  refine wpAnyH_done (by kernel_rfl) ?_ _
  refine hK9 _ _ ?_
  refine wp_cond_false rfl ?_
  refine wp_exit ?_
  refine hK3 _ _ ?_
  refine wp_seq_k fun K10 hK10 => rgn ?_
  refine VlS (u3) ?_
  refine VlS (u3) ?_
  refine WL.nil (hK10 _ _ ?_)
  refine wp_ret ?_
  go_ret
  exact ⟨_, gr, rfl, JS.out.more (Below.refl _ _).drew, JG.out, JO.out.below (Below.refl _ _).drew, JN.out⟩
set_option maxRecDepth 8000 in
set_option maxHeartbeats 1000000 in
theorem add_waitsG (d : Nat) (v : VX) (p : Value) (Av : Nat → Prop) (g : DG) (w : World) (X : DG → Prop) (ol : List Hs) (hD : DagAt w Av d g) (hr : HRow w p v.ps) (hM : ∀ v ∈ g.held, 0 ≤ v.ck ∧ v.ck ≤ 4096) (hL : (v.ps.length : Int) ≤ 9223372036854775806) (hL2 : v.ps.length ≤ 4398046511104) (hFt : fitV g.held g.wait v = (3, 0)) (hW : g.wait.find? (isV v.id) = none) (hQl : g.queue.length ≤ 1000000000)
  (hSh : ∀ (w1 : World) (Av1 : Nat → Prop) (g1 : DG), DagAt w1 Av1 d g1 → (g1.room = g.room ∧ g1.held = g.held ∧ g1.wait = g.wait ++ [v] ∧ g1.queue = g.queue ++ [v.id] ∧ g1.order = g.order ∧ g1.heads = g.heads) → Calls Try.prog 60 #[ptr d] w1 fun e w' => ∃ u g', e = .returned u ∧ Ste w1 w' Av1 d g1 g' ∧ X g' ∧ OwnH w' u ol ∧ (∀ k, u.ownBlock = some k → w1.heap.size ≤ k ∧ ¬ DgS d g' k)) :
  Calls Try.prog 17 #[ptr d, .agg (vtx v.id.f v.ck p)] w fun e w' => ∃ u g', e = .returned (.tuple #[.int .i64 3, u, .int .i64 0]) ∧ Ste w w' Av d g g' ∧ X g' ∧ OwnH w' u ol ∧ (∀ k, u.ownBlock = some k → w.heap.size ≤ k ∧ ¬ DgS d g' k) := by
 obtain ⟨pa, pc, rfl⟩ := hr.form
 obtain ⟨vv, hvv⟩ : ∃ a : Array Value, Keep (a = vtx v.id.f v.ck (.slice pa v.ps.length pc)) := ⟨_, ⟨rfl⟩⟩
 rw [← hvv.out]
 have HD := Keep.mk hD
 have HR := Keep.mk hr
 have HM := Keep.mk hM
 have HL := Keep.mk hL
 have HL2 := Keep.mk hL2
 have HFt := Keep.mk hFt
 have HW := Keep.mk hW
 have HQl := Keep.mk hQl
 have HSh := Keep.mk hSh
 obtain ⟨qa, qc, hqv⟩ := hD.oq.sl
 have Hqv := Keep.mk hqv
 clear hD hr hM hL hL2 hFt hW hQl hqv hSh
 go_enter Try.func17, Try.ntmps17
 refine wp_seq_k fun K1 hK1 => rgn ?_
 refine WL.box (by kernel_rfl) 39 (.tmp 1) rfl (vv) rfl ?_
 obtain ⟨w1, hwn⟩ : ∃ wx, Keep (wx = w.alloc (.cells (vv) 39)) := ⟨_, ⟨rfl⟩⟩
 rw [← hwn.out]
 have HX1 : Keep (Blk w1 w.heap.size 39 (vv)) := ⟨by rw [hwn.out]; exact Blk.new _ _ _⟩
 have LB1 : Keep (Below w.heap.size w w1) := ⟨by rw [hwn.out]; exact below_new _ _⟩
 clear hwn
 have HD1 := Keep.mk (HD.out.below LB1.out)
 have HR1 := Keep.mk (HR.out.below LB1.out)
 simp only [Act.put, pqA, pqB, pqC]
 refine VlS (.int .i64 0) ?_
 refine VlS (.slice none 0 0) ?_
 refine VlS (.int .i64 0) ?_
 refine WL.nil (hK1 _ _ ?_)
 refine wp_seq_k fun K2 hK2 => rgn ?_
 refine VlS (.pointer (some ⟨d, 0, none⟩)) ?_
 refine WL.row (by kernel_rfl) 39 (.tmp 3) rfl w.heap.size rfl 39 vv _ HX1.out Try.underlying39 rfl (by rw [hvv.out]; exact Try.info39s _ _ _) ?_
 simp only [Act.put, pqA, pqB, pqC]
 have hft := fit_any d v _ Av g w1 HD1.out HR1.out HM.out HL.out
 rw [← hvv.out, HFt.out] at hft
 refine WL.callF (by kernel_rfl) 28 _ _ rfl Try.in28 #[ptr d, .agg vv] (by simp [Act.eval]) ?_
 refine (hft).mono ?_
 rintro e w2 ⟨rfl, hz⟩
 refine ⟨_, rfl, ?_⟩
 clear hft
 have HX2 := Keep.mk (HX1.out.below hz HX1.out.lt)
 have LB2 := Keep.mk (belowT LB1.out hz)
 have HD2 := Keep.mk (HD1.out.below hz)
 have HR2 := Keep.mk (HR1.out.below hz)
 clear hz HX1 HD1 HR1
 simp only [Act.put, pqA, pqB, pqC]
 refine VlS (.tuple #[.int .i64 3, .int .i64 0]) ?_
 refine VlS (.int .i64 3) ?_
 refine VlS (.int .i64 0) ?_
 refine VlS (.int .i64 3) ?_
 refine VlS (.int .i64 0) ?_
 refine WL.nil (hK2 _ _ ?_)
 refine wp_seq_k fun K3 hK3 => ?_
 refine wp_seq_k fun K4 hK4 => rgn ?_
 refine VlS (.int .i64 3) ?_
 refine WL.nil (hK4 _ _ ?_)
 refine wp_block ?_
 refine wp_seq_k fun K5 hK5 => rgn ?_
 refine VlS (.bool false) ?_
 refine VlS (.bool false) ?_
 refine WL.nil (hK5 _ _ ?_)
 refine wp_cond_false rfl ?_
 refine wp_seq_k fun K6 hK6 => rgn ?_
 refine VlS (.bool true) ?_
 refine VlS (.bool true) ?_
 refine WL.nil (hK6 _ _ ?_)
 refine wp_cond_true rfl ?_
 refine wp_seq_k fun K7 hK7 => ?_
 have hS0 : Keep ((fun wx => wx.cell? ⟨d, 4, none⟩ = some (.map (some g.wb)) ∧ wx.rangeAt w.heap.size 0 (bytesA 32 v.id.f).toList ∧ wx.rangeAt w.heap.size 0 vv.toList) w2.drew) := ⟨⟨HD2.out.blk.drew.c 4 rfl, vtx_rng (hvv.out ▸ HX2.out.drew), blk_rng HX2.out.drew⟩⟩
 refine wp_region_held_drew (S := fun wx => wx.cell? ⟨d, 4, none⟩ = some (.map (some g.wb)) ∧ wx.rangeAt w.heap.size 0 (bytesA 32 v.id.f).toList ∧ wx.rangeAt w.heap.size 0 vv.toList) (by kernel_rfl) (hS0.out) (fun hHeld => ?_)
 refine tkS (i := 0) (oi := ⟨some 22, Op.move (Operand.tmp 0), 27, _, _, none⟩) (v := .pointer (some ⟨d, 0, none⟩)) rfl (Or.inl ⟨by rfl, fun w hS => by obtain ⟨hS1, hS2, hS3⟩ := hS; go_simp⟩) hHeld ?_
 refine tkS (i := 1) (oi := ⟨some 23, Op.nilCheck (Operand.tmp 22), 0, _, _, none⟩) (v := .pointer (some ⟨d, 0, none⟩)) rfl (Or.inl ⟨by rfl, fun w hS => by obtain ⟨hS1, hS2, hS3⟩ := hS; go_simp⟩) hHeld ?_
 refine tkS (i := 2) (oi := ⟨some 24, Op.fieldAddr 77 (Operand.tmp 23) 4, 0, _, _, none⟩) (v := .pointer (some ⟨d, 4, none⟩)) rfl (Or.inl ⟨by rfl, fun w hS => by obtain ⟨hS1, hS2, hS3⟩ := hS; go_simp⟩) hHeld ?_
 refine tkS (i := 3) (oi := ⟨some 25, Op.load 75 (Operand.tmp 24), 75, _, _, none⟩) (v := .map (some g.wb)) rfl (Or.inl ⟨by rfl, fun w hS => by obtain ⟨hS1, hS2, hS3⟩ := hS; go_simp⟩) hHeld ?_
 refine tkS (i := 4) (oi := ⟨some 26, Op.fieldAddr 39 (Operand.tmp 3) 0, 0, _, _, none⟩) (v := .pointer (some ⟨w.heap.size, 0, none⟩)) rfl (Or.inl ⟨by rfl, fun w hS => by obtain ⟨hS1, hS2, hS3⟩ := hS; go_simp⟩) hHeld ?_
 refine tkS (i := 5) (oi := ⟨some 27, Op.load 36 (Operand.tmp 26), 36, _, _, none⟩) (v := .agg (bytesA 32 v.id.f)) rfl (yieldsIf_ld (by rfl) (Operand.tmp 26) 36 rfl w.heap.size 0 rfl (bytesA 32 v.id.f) _ Try.underlying36 rfl (size36A _) fun w hS => hS.2.1) hHeld ?_
 refine tkS (i := 6) (oi := ⟨some 28, Op.load 39 (Operand.tmp 3), 39, _, _, none⟩) (v := .agg vv) rfl (yieldsIf_ld (by rfl) (Operand.tmp 3) 39 rfl w.heap.size 0 rfl vv _ Try.underlying39 rfl (by rw [hvv.out]; exact Try.info39s _ _ _) fun w hS => hS.2.2) hHeld ?_
 refine wpAnyH_ready (rs := [7]) (by kernel_rfl) (by simp) ?_
 refine AllReadyH.cons (o := ⟨some 29, Op.call { callee := Callee.value (Operand.func 59), args := #[Operand.tmp 28], argTypes := #[39] }, 39, _, _, none⟩) rfl (fun K hK => ?_) AllReadyH.nil
 rw [if_pos (by rfl)]
 have how := own_any v _ w2.drew (HR2.out.below (Below.refl _ _).drew) (by have := HL2.out; omega)
 rw [← hvv.out] at how
 refine wp_callF 59 _ _ rfl Try.in59 #[.agg vv] (by simp [Act.eval]) (fun u wx => ∃ p3, u = .agg (vtx v.id.f v.ck p3) ∧ Fresh w2.drew wx p3 v.ps) (how.mono fun e w' ⟨p3, h1, h2⟩ => ⟨_, h1, p3, rfl, h2⟩) ?_
 clear how
 rintro _ w3 ⟨p3, rfl, hf⟩
 have HF3 := Keep.mk hf
 have B3 : Keep (Below w2.heap.size w2 w3) := ⟨belowT (Below.refl _ w2).drew hf.bel⟩
 have HX3 := Keep.mk (HX2.out.below B3.out HX2.out.lt)
 have HD3 := Keep.mk (HD2.out.below B3.out)
 have LB3 := Keep.mk (belowT LB2.out B3.out)
 obtain ⟨vq, hvq⟩ : ∃ a : Array Value, Keep (a = vtx v.id.f v.ck p3) := ⟨_, ⟨rfl⟩⟩
 rw [← hvq.out]
 refine hK _ _ ⟨HD3.out.blk.c 4 rfl, vtx_rng (hvv.out ▸ HX3.out), blk_rng HX3.out⟩ fun hH1 => ?_
 clear hK hf
 simp only [Act.put, pqA, pqB, pqC]
 refine wpAnyH_ready (rs := [8]) (by kernel_rfl) (by simp) ?_
 refine AllReadyH.cons (o := ⟨none, Op.mapUpdate 75 (Operand.tmp 25) (Operand.tmp 27) (Operand.tmp 29), 0, _, _, none⟩) rfl (fun K hK => ?_) AllReadyH.nil
 rw [if_pos (by rfl)]
 obtain ⟨w4, hr4, hm4, hg4⟩ := upd_new HD3.out.wait (HD3.out.av _ (.inr (.inr (.inl rfl)))) v HW.out p3 HF3.out.own.row fun k hk => ⟨HF3.out.own.lt k hk, fun ha => by have h1 : w2.heap.size ≤ k := HF3.out.new k hk; have := HD2.out.lt k ha; omega⟩
 rw [← hvq.out] at hr4
 refine wp_upd (Operand.tmp 25) (Operand.tmp 27) (Operand.tmp 29) rfl _ _ _ rfl rfl rfl w4 hr4 ?_
 have HX4 := Keep.mk (hg4.blk HX3.out fun e => HD3.out.wait.ne HX3.out e)
 have HD4 := Keep.mk (HD3.out.addWait hm4 hg4)
 have G4 : Keep (Grown w w4 (DgS d g)) := ⟨(Grown.below (S := DgS d g) LB3.out).next (T := fun k => k = g.wb) hg4 fun i _ e => e ▸ .inr (.inr (.inl rfl))⟩
 refine hK _ _ ⟨HD4.out.blk.c 4 rfl, vtx_rng (hvv.out ▸ HX4.out), blk_rng HX4.out⟩ fun hH2 => ?_
 clear hK hr4 hm4 hg4 hS0 HX3 HX2 HD3 HD2 HR2
 simp only [Act.put, pqA, pqB, pqC]
 refine wpAnyH_done (by kernel_rfl) ?_ _
 refine hK7 _ _ ?_
 refine wp_seq_k fun K8 hK8 => ?_
 have c5k : Keep (∀ wx, Below w4.heap.size w4 wx → (fun wx => True ∧ wx.rangeAt w.heap.size 0 (bytesA 32 v.id.f).toList ∧ wx.rangeAt w.heap.size 0 vv.toList) wx) := ⟨fun wx hb => ⟨trivial, vtx_rng (hvv.out ▸ HX4.out.below hb HX4.out.lt), blk_rng (HX4.out.below hb HX4.out.lt)⟩⟩
 have B2 : Keep (Below w4.heap.size w4 w4.drew) := ⟨(Below.refl _ _).drew⟩
 refine wp_region_held_drew (S := fun wx => True ∧ wx.rangeAt w.heap.size 0 (bytesA 32 v.id.f).toList ∧ wx.rangeAt w.heap.size 0 vv.toList) (by kernel_rfl) (c5k.out _ B2.out) (fun hHeld => ?_)
 refine tkS (i := 0) (oi := ⟨some 30, Op.move (Operand.tmp 0), 27, _, _, none⟩) (v := .pointer (some ⟨d, 0, none⟩)) rfl (Or.inl ⟨by rfl, fun w hS => by obtain ⟨hS1, hS2, hS3⟩ := hS; go_simp⟩) hHeld ?_
 refine tkS (i := 1) (oi := ⟨some 31, Op.move (Operand.tmp 0), 27, _, _, none⟩) (v := .pointer (some ⟨d, 0, none⟩)) rfl (Or.inl ⟨by rfl, fun w hS => by obtain ⟨hS1, hS2, hS3⟩ := hS; go_simp⟩) hHeld ?_
 refine tkS (i := 2) (oi := ⟨some 32, Op.nilCheck (Operand.tmp 31), 0, _, _, none⟩) (v := .pointer (some ⟨d, 0, none⟩)) rfl (Or.inl ⟨by rfl, fun w hS => by obtain ⟨hS1, hS2, hS3⟩ := hS; go_simp⟩) hHeld ?_
 refine tkS (i := 3) (oi := ⟨some 33, Op.fieldAddr 77 (Operand.tmp 32) 5, 0, _, _, none⟩) (v := .pointer (some ⟨d, 5, none⟩)) rfl (Or.inl ⟨by rfl, fun w hS => by obtain ⟨hS1, hS2, hS3⟩ := hS; go_simp⟩) hHeld ?_
 refine tkS (i := 5) (oi := ⟨some 35, Op.fieldAddr 39 (Operand.tmp 3) 0, 0, _, _, none⟩) (v := .pointer (some ⟨w.heap.size, 0, none⟩)) rfl (Or.inl ⟨by rfl, fun w hS => by obtain ⟨hS1, hS2, hS3⟩ := hS; go_simp⟩) hHeld ?_
 refine tkS (i := 6) (oi := ⟨some 36, Op.load 36 (Operand.tmp 35), 36, _, _, none⟩) (v := .agg (bytesA 32 v.id.f)) rfl (yieldsIf_ld (by rfl) (Operand.tmp 35) 36 rfl w.heap.size 0 rfl (bytesA 32 v.id.f) _ Try.underlying36 rfl (size36A _) fun w hS => hS.2.1) hHeld ?_
 refine wpAnyH_ready (rs := [4, 7]) (by kernel_rfl) (by simp) ?_
 refine AllReadyH.cons (o := ⟨some 34, Op.load 37 (Operand.tmp 33), 37, _, _, none⟩) rfl (fun K hK => ?_) (AllReadyH.cons (o := ⟨some 37, Op.buildSlice 37 1 #[(0, Operand.tmp 36)], 37, _, _, none⟩) rfl (fun K hK => ?_) AllReadyH.nil)
 all_goals rw [if_pos (by rfl)]
 ·have c_o : w4.drew.cell? ⟨d, 5, none⟩ = some (.slice qa g.queue.length qc) := by have h := (HD4.out.blk.below B2.out HD4.out.blk.lt).c 5 (by rfl : (dgA { g with wait := g.wait ++ [v] })[5]? = some g.qv); rw [Hqv.out] at h; exact h
  refine wp_val (.slice qa g.queue.length qc) (by go_simp) ?_
  clear c_o
  refine hK _ _ (c5k.out _ B2.out) fun hR1 => ?_
  clear hK
  simp only [Act.put, pqA, pqB, pqC]
  refine wpAnyH_ready (rs := [7]) (by kernel_rfl) (by simp) ?_
  refine AllReadyH.cons (o := ⟨some 37, Op.buildSlice 37 1 #[(0, Operand.tmp 36)], 37, _, _, none⟩) rfl (fun K hK => ?_) AllReadyH.nil
  rw [if_pos (by rfl)]
  refine wp_bs 37 1 _ rfl #[(0, .agg (bytesA 32 v.id.f))] (by simp [Act.eval]) _ _ (bsH v.id _) ?_
  have HGy := Keep.mk (Blk.new w4.drew 36 (bytesA 32 v.id.f))
  have BB2 := Keep.mk (belowT B2.out (below_new w4.drew (.cells (bytesA 32 v.id.f) 36)))
  generalize w4.drew.alloc (.cells (bytesA 32 v.id.f) 36) = wb2 at *
  generalize w4.drew.heap.size = gy at *
  refine hK _ _ (c5k.out _ BB2.out) fun hR2 => ?_
  clear hK
  simp only [Act.put, pqA, pqB, pqC]
  refine wpAnyH_ready (rs := [8]) (by kernel_rfl) (by simp) ?_
  refine AllReadyH.cons (o := ⟨some 38, Op.call { callee := Callee.builtin Builtin.append, args := #[Operand.tmp 34, Operand.tmp 37], argTypes := #[37, 37] }, 37, _, _, none⟩) rfl (fun K hK => ?_) AllReadyH.nil
  rw [if_pos (by rfl)]
  refine wp_apH (Operand.tmp 34) (Operand.tmp 37) rfl _ g.queue gy v.id rfl rfl (Hqv.out ▸ (HD4.out.below BB2.out).oq) HGy.out (by have := HQl.out; omega) fun v5 w5 h5 => ?_
  have HN5 := Keep.mk h5
  have HX5 := Keep.mk (h5.2.1.blk (HX4.out.below BB2.out HX4.out.lt) fun e => by have := (((HD4.out.below BB2.out).oq).typ (by show g.qv.ownBlock = _; rw [Hqv.out]; exact e)).one (HX4.out.below BB2.out HX4.out.lt).typ; revert this; decide)
  have HB5 := Keep.mk (h5.2.1.blk (HD4.out.below BB2.out).blk fun e => by have := (((HD4.out.below BB2.out).oq).typ (by show g.qv.ownBlock = _; rw [Hqv.out]; exact e)).one (HD4.out.below BB2.out).blk.typ; revert this; decide)
  refine hK _ _ ⟨trivial, vtx_rng (hvv.out ▸ HX5.out), blk_rng HX5.out⟩ fun hH5 => ?_
  obtain ⟨a5, c5, e5⟩ := h5.1.sl
  subst e5
  clear hK h5
  simp only [Act.put, pqA, pqB, pqC]
  refine tkS (i := 9) (oi := ⟨some 39, Op.nilCheck (Operand.tmp 30), 0, _, _, none⟩) (v := .pointer (some ⟨d, 0, none⟩)) rfl (Or.inl ⟨by rfl, fun w hS => by obtain ⟨hS1, hS2, hS3⟩ := hS; go_simp⟩) hH5 ?_
  refine tkS (i := 10) (oi := ⟨some 40, Op.fieldAddr 77 (Operand.tmp 39) 5, 0, _, _, none⟩) (v := .pointer (some ⟨d, 5, none⟩)) rfl (Or.inl ⟨by rfl, fun w hS => by obtain ⟨hS1, hS2, hS3⟩ := hS; go_simp⟩) hH5 ?_
  refine wpAnyH_ready (rs := [11]) (by kernel_rfl) (by simp) ?_
  refine AllReadyH.cons (o := ⟨none, Op.store 37 (Operand.tmp 40) (Operand.tmp 38), 0, _, _, none⟩) rfl (fun K hK => ?_) AllReadyH.nil
  rw [if_pos (by rfl)]
  have f_o := HB5.out.frozen 5
  have c_o : w5.cell? ⟨d, 5, none⟩ = some (.slice qa g.queue.length qc) := by have h := HB5.out.c 5 (by rfl : (dgA { g with wait := g.wait ++ [v] })[5]? = some g.qv); rw [Hqv.out] at h; exact h
  obtain ⟨n5, hn5⟩ : ∃ n, n = (g.queue ++ [v.id]).length := ⟨_, rfl⟩
  rw [← hn5] at HN5 ⊢
  refine wp_cellS (w5.setCell ⟨d, 5, none⟩ (.slice a5 n5 c5)) (by go_simp) ?_
  clear f_o c_o
  have HD6 := Keep.mk ((HD4.out.below BB2.out).setQ HN5.out.1 (by show Grown _ _ fun k => g.qv.ownBlock = some k; rw [Hqv.out]; exact HN5.out.2.1) (by show Moved _ g.qv _; rw [Hqv.out]; exact HN5.out.2.2))
  have HX6 := Keep.mk (HX5.out.set_ne (b' := d) (j := 5) (fun e => by subst e; have := HX5.out.typ.one HB5.out.typ; revert this; decide) (.slice a5 n5 c5))
  have G6 : Keep (Grown w (w5.setCell ⟨d, 5, none⟩ (.slice a5 n5 c5)) (DgS d g)) := ⟨((G4.out.trans (Grown.below BB2.out)).next HN5.out.2.1 fun i _ e => .inr (.inr (.inr (.inr (.inr (by rw [Hqv.out]; exact e)))))).next (Grown.setCell w5 d 5 _ (S := fun k => k = d) fun _ => rfl) fun i _ e => .inl e⟩
  have M6 : Keep (Moved w g.qv (.slice a5 n5 c5)) := ⟨by rw [Hqv.out]; exact HN5.out.2.2.imp id fun ⟨q, e, h⟩ => ⟨q, e, Nat.le_trans G4.out.size (Nat.le_trans BB2.out.size h)⟩⟩
  generalize w5.setCell ⟨d, 5, none⟩ (.slice a5 n5 c5) = w6 at *
  obtain ⟨v6, hv6⟩ : ∃ u : Value, u = .slice a5 n5 c5 := ⟨_, rfl⟩
  rw [← hv6] at HD6 M6
  refine hK _ _ ⟨trivial, vtx_rng (hvv.out ▸ HX6.out), blk_rng HX6.out⟩ fun hH6 => ?_
  rw [hn5]
  clear hK hH5 hH6 HB5 HX5 HN5 c5k hv6 hn5
  simp only [Act.put, pqA, pqB, pqC]
  refine wpAnyH_done (by kernel_rfl) ?_ _
  refine hK8 _ _ ?_
  refine rgn ?_
  refine VlS (.pointer (some ⟨d, 0, none⟩)) ?_
  have hsh := HSh.out w6 _ { { g with wait := g.wait ++ [v] } with qv := v6, queue := g.queue ++ [v.id] } HD6.out ⟨rfl, rfl, rfl, rfl, rfl, rfl⟩
  refine WL.callF (by kernel_rfl) 60 _ _ rfl Try.in60 #[ptr d] (by simp [Act.eval]) ?_
  refine (hsh).mono ?_
  rintro e w7 ⟨u7, g7, rfl, hs, hx, ho, hn⟩
  refine ⟨_, rfl, ?_⟩
  clear hsh
  have HS7 := Keep.mk hs
  have HX7 := Keep.mk hx
  have HO7 := Keep.mk ho
  have HN7 := Keep.mk hn
  clear hs hx ho hn
  simp only [Act.put, pqA, pqB, pqC]
  refine VlS (u7) ?_
  refine WL.nil (hK3 _ _ ?_)
  refine wp_seq_k fun K9 hK9 => rgn ?_
  refine VlS (.int .i64 3) ?_
  refine VlS (u7) ?_
  refine VlS (.int .i64 0) ?_
  refine VlS (.int .i64 3) ?_
  refine VlS (u7) ?_
  refine VlS (.int .i64 0) ?_
  refine WL.nil (hK9 _ _ ?_)
  refine wp_ret ?_
  go_ret3
  refine ⟨u7, g7, rfl, ⟨HS7.out.at'.avInto (fun k hk => hk.elim (fun e => .inl (.inl e)) .inr) (fun k hk => .inr hk), G6.out.next HS7.out.grown (fun i hi e => (DagAt.setQS (g := { g with wait := g.wait ++ [v] }) M6.out e).elim id fun h => by omega), fun k hk => (HS7.out.sub k hk).elim (fun h => DagAt.setQS (g := { g with wait := g.wait ++ [v] }) M6.out h) fun h => .inr (Nat.le_trans G6.out.size h)⟩, HX7.out, HO7.out, fun k hk => ⟨Nat.le_trans G6.out.size (HN7.out k hk).1, (HN7.out k hk).2⟩⟩
 ·refine wp_bs 37 1 _ rfl #[(0, .agg (bytesA 32 v.id.f))] (by simp [Act.eval]) _ _ (bsH v.id _) ?_
  have HGy := Keep.mk (Blk.new w4.drew 36 (bytesA 32 v.id.f))
  have BB1 := Keep.mk (belowT B2.out (below_new w4.drew (.cells (bytesA 32 v.id.f) 36)))
  generalize w4.drew.alloc (.cells (bytesA 32 v.id.f) 36) = wb1 at *
  generalize w4.drew.heap.size = gy at *
  refine hK _ _ (c5k.out _ BB1.out) fun hR1 => ?_
  clear hK
  simp only [Act.put, pqA, pqB, pqC]
  refine wpAnyH_ready (rs := [4]) (by kernel_rfl) (by simp) ?_
  refine AllReadyH.cons (o := ⟨some 34, Op.load 37 (Operand.tmp 33), 37, _, _, none⟩) rfl (fun K hK => ?_) AllReadyH.nil
  rw [if_pos (by rfl)]
  have c_o : wb1.cell? ⟨d, 5, none⟩ = some (.slice qa g.queue.length qc) := by have h := (HD4.out.blk.below BB1.out HD4.out.blk.lt).c 5 (by rfl : (dgA { g with wait := g.wait ++ [v] })[5]? = some g.qv); rw [Hqv.out] at h; exact h
  refine wp_val (.slice qa g.queue.length qc) (by go_simp) ?_
  clear c_o
  refine hK _ _ (c5k.out _ BB1.out) fun hR2 => ?_
  clear hK
  simp only [Act.put, pqA, pqB, pqC]
  refine wpAnyH_ready (rs := [8]) (by kernel_rfl) (by simp) ?_
  refine AllReadyH.cons (o := ⟨some 38, Op.call { callee := Callee.builtin Builtin.append, args := #[Operand.tmp 34, Operand.tmp 37], argTypes := #[37, 37] }, 37, _, _, none⟩) rfl (fun K hK => ?_) AllReadyH.nil
  rw [if_pos (by rfl)]
  refine wp_apH (Operand.tmp 34) (Operand.tmp 37) rfl _ g.queue gy v.id rfl rfl (Hqv.out ▸ (HD4.out.below BB1.out).oq) HGy.out (by have := HQl.out; omega) fun v5 w5 h5 => ?_
  have HN5 := Keep.mk h5
  have HX5 := Keep.mk (h5.2.1.blk (HX4.out.below BB1.out HX4.out.lt) fun e => by have := (((HD4.out.below BB1.out).oq).typ (by show g.qv.ownBlock = _; rw [Hqv.out]; exact e)).one (HX4.out.below BB1.out HX4.out.lt).typ; revert this; decide)
  have HB5 := Keep.mk (h5.2.1.blk (HD4.out.below BB1.out).blk fun e => by have := (((HD4.out.below BB1.out).oq).typ (by show g.qv.ownBlock = _; rw [Hqv.out]; exact e)).one (HD4.out.below BB1.out).blk.typ; revert this; decide)
  refine hK _ _ ⟨trivial, vtx_rng (hvv.out ▸ HX5.out), blk_rng HX5.out⟩ fun hH5 => ?_
  obtain ⟨a5, c5, e5⟩ := h5.1.sl
  subst e5
  clear hK h5
  simp only [Act.put, pqA, pqB, pqC]
  refine tkS (i := 9) (oi := ⟨some 39, Op.nilCheck (Operand.tmp 30), 0, _, _, none⟩) (v := .pointer (some ⟨d, 0, none⟩)) rfl (Or.inl ⟨by rfl, fun w hS => by obtain ⟨hS1, hS2, hS3⟩ := hS; go_simp⟩) hH5 ?_
  refine tkS (i := 10) (oi := ⟨some 40, Op.fieldAddr 77 (Operand.tmp 39) 5, 0, _, _, none⟩) (v := .pointer (some ⟨d, 5, none⟩)) rfl (Or.inl ⟨by rfl, fun w hS => by obtain ⟨hS1, hS2, hS3⟩ := hS; go_simp⟩) hH5 ?_
  refine wpAnyH_ready (rs := [11]) (by kernel_rfl) (by simp) ?_
  refine AllReadyH.cons (o := ⟨none, Op.store 37 (Operand.tmp 40) (Operand.tmp 38), 0, _, _, none⟩) rfl (fun K hK => ?_) AllReadyH.nil
  rw [if_pos (by rfl)]
  have f_o := HB5.out.frozen 5
  have c_o : w5.cell? ⟨d, 5, none⟩ = some (.slice qa g.queue.length qc) := by have h := HB5.out.c 5 (by rfl : (dgA { g with wait := g.wait ++ [v] })[5]? = some g.qv); rw [Hqv.out] at h; exact h
  obtain ⟨n5, hn5⟩ : ∃ n, n = (g.queue ++ [v.id]).length := ⟨_, rfl⟩
  rw [← hn5] at HN5 ⊢
  refine wp_cellS (w5.setCell ⟨d, 5, none⟩ (.slice a5 n5 c5)) (by go_simp) ?_
  clear f_o c_o
  have HD6 := Keep.mk ((HD4.out.below BB1.out).setQ HN5.out.1 (by show Grown _ _ fun k => g.qv.ownBlock = some k; rw [Hqv.out]; exact HN5.out.2.1) (by show Moved _ g.qv _; rw [Hqv.out]; exact HN5.out.2.2))
  have HX6 := Keep.mk (HX5.out.set_ne (b' := d) (j := 5) (fun e => by subst e; have := HX5.out.typ.one HB5.out.typ; revert this; decide) (.slice a5 n5 c5))
  have G6 : Keep (Grown w (w5.setCell ⟨d, 5, none⟩ (.slice a5 n5 c5)) (DgS d g)) := ⟨((G4.out.trans (Grown.below BB1.out)).next HN5.out.2.1 fun i _ e => .inr (.inr (.inr (.inr (.inr (by rw [Hqv.out]; exact e)))))).next (Grown.setCell w5 d 5 _ (S := fun k => k = d) fun _ => rfl) fun i _ e => .inl e⟩
  have M6 : Keep (Moved w g.qv (.slice a5 n5 c5)) := ⟨by rw [Hqv.out]; exact HN5.out.2.2.imp id fun ⟨q, e, h⟩ => ⟨q, e, Nat.le_trans G4.out.size (Nat.le_trans BB1.out.size h)⟩⟩
  generalize w5.setCell ⟨d, 5, none⟩ (.slice a5 n5 c5) = w6 at *
  obtain ⟨v6, hv6⟩ : ∃ u : Value, u = .slice a5 n5 c5 := ⟨_, rfl⟩
  rw [← hv6] at HD6 M6
  refine hK _ _ ⟨trivial, vtx_rng (hvv.out ▸ HX6.out), blk_rng HX6.out⟩ fun hH6 => ?_
  rw [hn5]
  clear hK hH5 hH6 HB5 HX5 HN5 c5k hv6 hn5
  simp only [Act.put, pqA, pqB, pqC]
  refine wpAnyH_done (by kernel_rfl) ?_ _
  refine hK8 _ _ ?_
  refine rgn ?_
  refine VlS (.pointer (some ⟨d, 0, none⟩)) ?_
  have hsh := HSh.out w6 _ { { g with wait := g.wait ++ [v] } with qv := v6, queue := g.queue ++ [v.id] } HD6.out ⟨rfl, rfl, rfl, rfl, rfl, rfl⟩
  refine WL.callF (by kernel_rfl) 60 _ _ rfl Try.in60 #[ptr d] (by simp [Act.eval]) ?_
  refine (hsh).mono ?_
  rintro e w7 ⟨u7, g7, rfl, hs, hx, ho, hn⟩
  refine ⟨_, rfl, ?_⟩
  clear hsh
  have HS7 := Keep.mk hs
  have HX7 := Keep.mk hx
  have HO7 := Keep.mk ho
  have HN7 := Keep.mk hn
  clear hs hx ho hn
  simp only [Act.put, pqA, pqB, pqC]
  refine VlS (u7) ?_
  refine WL.nil (hK3 _ _ ?_)
  refine wp_seq_k fun K10 hK10 => rgn ?_
  refine VlS (.int .i64 3) ?_
  refine VlS (u7) ?_
  refine VlS (.int .i64 0) ?_
  refine VlS (.int .i64 3) ?_
  refine VlS (u7) ?_
  refine VlS (.int .i64 0) ?_
  refine WL.nil (hK10 _ _ ?_)
  refine wp_ret ?_
  go_ret3
  refine ⟨u7, g7, rfl, ⟨HS7.out.at'.avInto (fun k hk => hk.elim (fun e => .inl (.inl e)) .inr) (fun k hk => .inr hk), G6.out.next HS7.out.grown (fun i hi e => (DagAt.setQS (g := { g with wait := g.wait ++ [v] }) M6.out e).elim id fun h => by omega), fun k hk => (HS7.out.sub k hk).elim (fun h => DagAt.setQS (g := { g with wait := g.wait ++ [v] }) M6.out h) fun h => .inr (Nat.le_trans G6.out.size h)⟩, HX7.out, HO7.out, fun k hk => ⟨Nat.le_trans G6.out.size (HN7.out k hk).1, (HN7.out k hk).2⟩⟩
end Go.Proofs.Ytogmdfhicbmplaa
