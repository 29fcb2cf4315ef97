import Derived.Test.YtogmdfhicbmplaaB07
import Derived.Test.YtogmdfhicbmplaaB02
import Derived.Shelf.SlSortCmp.NoneTotal
import Derived.Laws.CopyRow
namespace Go.Proofs.Ytogmdfhicbmplaa
open Go.RowKit
set_option linter.unusedSimpArgs false
set_option linter.unusedVariables false

/-! ### The calls of a Dag of which DI holds. -/
theorem DI.ol {g : DG} (h : DI g) : g.order.length = g.held.length := by
 have hp : g.order.Perm (g.held.map (·.id)) := (List.perm_ext_iff_of_nodup h.oo.nd h.hn).2 fun x => by
  rw [h.om, hasB_iff, List.mem_map]
 rw [hp.length_eq, List.length_map]
theorem DI.hdl {g : DG} (h : DI g) : g.heads.length ≤ g.held.length := by
 have : g.heads ⊆ g.order := fun x hx => (h.om x).2 ((h.hm x).1 hx).1
 have := (pw_nodup h.hd).length_le_of_subset this
 rw [h.ol] at this; exact this
theorem DI.hM {g : DG} (h : DI g) : ∀ v ∈ g.held, 0 ≤ v.ck ∧ v.ck ≤ 4096 := fun v hv => by have := chk_ok (h.hc v hv); omega
theorem DI.wl {g : DG} (h : DI g) : g.wait.length ≤ 64 := by have := h.ql; have := h.room; omega
theorem DI.qlen {g : DG} (h : DI g) : g.queue.length = g.wait.length := by rw [h.q, List.length_map]
theorem take_any (d : Nat) (v : VX) (p : Value) (Av : Nat → Prop) (g : DG) (w : World) (hD : DagAt w Av d g) (hI : DI g) (hr : HRow w p v.ps) (hk : ∀ k, p.ownBlock = some k → k < w.heap.size ∧ ¬ Av k) (hF : hasB g.held v.id = false) (hc : chkV v = 0) :
  Calls Try.prog 58 #[ptr d, .agg (vtx v.id.f v.ck p)] w fun e w' => e = .returned (.tuple #[]) ∧ ∃ g', Ste w w' Av d g g' ∧ tookG g v g' := by
 have hv := chk_ok hc
 have hol := hI.ol
 have hhl := hI.hdl
 have hl := hI.hl
 have hfl : (g.heads.filter (outB v.ps)).length ≤ g.heads.length := List.length_filter_le _ _
 refine (take_gen d v p Av g w (plc v g.order g.order.length g.order.length) (insL g.order (plc v g.order g.order.length g.order.length) v.id) (g.heads.filter (outB v.ps)) (hdsOf g.heads v) hD hr hk (find_none hF) ?_ (insOk_any _ _ _ (plc_spec v g.order).1 (by omega)) (delOk_any _ _ (pw_inc hv.2.1) (by omega) (by omega)) (pw_inc (hI.hd.filter _)) (by omega) ?_).mono ?_
 ·intro w1 Av1 p1 g1 h1 h2 h3
  have := place_any d v p1 Av1 g1 w1 h1 h3 (pw_inc hv.2.1) (by omega) (by rw [h2]; omega)
  rw [h2] at this
  exact this
 ·intro i hi h1 h2
  unfold hdsOf
  rw [cnt_at hi h1 h2]
  exact insOk_any _ _ _ hi (by omega)
 ·rintro e w' ⟨h1, g', h2, h3⟩
  exact ⟨h1, g', h2, h3⟩
theorem fit_cases (l m : List VX) (v : VX) :
  ((hasB l v.id = true ∨ hasB m v.id = true) ∧ fitV l m v = (1, 0)) ∨ (hasB l v.id = false ∧ hasB m v.id = false ∧ chkV v ≠ 0 ∧ fitV l m v = (0, chkV v)) ∨
  (hasB l v.id = false ∧ hasB m v.id = false ∧ chkV v = 0 ∧ v.ps.all (hasB l) = false ∧ fitV l m v = (3, 0)) ∨ (hasB l v.id = false ∧ hasB m v.id = false ∧ chkV v = 0 ∧ v.ps.all (hasB l) = true ∧ nextE l v ≠ 0 ∧ fitV l m v = (0, nextE l v)) ∨
  (hasB l v.id = false ∧ hasB m v.id = false ∧ chkV v = 0 ∧ v.ps.all (hasB l) = true ∧ nextE l v = 0 ∧ fitV l m v = (2, 0)) := by
 unfold fitV
 by_cases h1 : hasB l v.id = true ∨ hasB m v.id = true
 ·rw [if_pos h1]; exact .inl ⟨h1, rfl⟩
 ·rw [if_neg h1]
  rw [not_or, Bool.not_eq_true, Bool.not_eq_true] at h1
  by_cases h2 : chkV v ≠ 0
  ·rw [if_pos h2]; exact .inr (.inl ⟨h1.1, h1.2, h2, rfl⟩)
  ·rw [if_neg h2]
   have h2 := Classical.not_not.1 h2
   by_cases h3 : v.ps.all (hasB l) = false
   ·rw [if_pos h3]; exact .inr (.inr (.inl ⟨h1.1, h1.2, h2, h3, rfl⟩))
   ·rw [if_neg h3]
    have h3 : v.ps.all (hasB l) = true := by simpa using h3
    by_cases h4 : nextE l v ≠ 0
    ·rw [if_pos h4]; exact .inr (.inr (.inr (.inl ⟨h1.1, h1.2, h2, h3, h4, rfl⟩)))
    ·rw [if_neg h4]; exact .inr (.inr (.inr (.inr ⟨h1.1, h1.2, h2, h3, Classical.not_not.1 h4, rfl⟩)))
/-- What Add makes of a Dag; ol: those that wait no more. -/
def addG (g : DG) (v : VX) (ol : List Hs) (g' : DG) : Prop :=
 (fitV g.held g.wait v = (2, 0) ∧ tookG g v g' ∧ ol = []) ∨
 (fitV g.held g.wait v = (3, 0) ∧ (g.wait.length : Int) + 1 ≤ g.room ∧ (g'.room = g.room ∧ g'.held = g.held ∧ g'.wait = g.wait ++ [v] ∧ g'.order = g.order ∧ g'.heads = g.heads) ∧ ol = []) ∨
 (fitV g.held g.wait v = (3, 0) ∧ g.room < (g.wait.length : Int) + 1 ∧ ∃ v0, g.wait ++ [v] = v0 :: g'.wait ∧ (g'.room = g.room ∧ g'.held = g.held ∧ g'.order = g.order ∧ g'.heads = g.heads) ∧ ol = [v0.id]) ∨
 ((fitV g.held g.wait v).1 ≠ 2 ∧ (fitV g.held g.wait v).1 ≠ 3 ∧ g' = g ∧ ol = [])
theorem all_iff {l : List VX} {ps : List Hs} : ps.all (hasB l) = true ↔ ∀ p ∈ ps, hasB l p = true := List.all_eq_true
theorem DI.sheds {g g' : DG} {v v0 : VX} (h : DI g) (hc : chkV v = 0) (h1 : hasB g.held v.id = false) (h2 : hasB g.wait v.id = false) (hw : g.wait ++ [v] = v0 :: g'.wait) (hq : g'.queue = g'.wait.map (·.id)) (t : g'.room = g.room ∧ g'.held = g.held ∧ g'.order = g.order ∧ g'.heads = g.heads) : DI g' := by
 obtain ⟨e1, e2, e5, e6⟩ := t
 have hmem : ∀ u ∈ g'.wait, u ∈ g.wait ∨ u = v := fun u hu => by
  have : u ∈ g.wait ++ [v] := by rw [hw]; exact List.mem_cons_of_mem _ hu
  rcases List.mem_append.1 this with h | h
  ·exact .inl h
  ·exact .inr (List.mem_singleton.1 h)
 have hlen : g'.wait.length = g.wait.length := by
  have := congrArg List.length hw
  simp only [List.length_append, List.length_cons, List.length_nil] at this
  omega
 have hnd : ((g.wait ++ [v]).map (·.id)).Nodup := by
  rw [List.map_append, List.nodup_append]
  refine ⟨h.wn, by simp, fun a ha b hb => ?_⟩
  simp only [List.map_cons, List.map_nil, List.mem_singleton] at hb
  subst hb
  obtain ⟨u, hu, rfl⟩ := List.mem_map.1 ha
  exact hasB_no.1 h2 u hu
 refine ⟨by rw [e1]; exact h.room, by rw [e2]; exact h.hl, by rw [e2]; exact h.hn, ?_, ?_, by rw [e2]; exact h.hc, ?_, hq, by rw [hlen, e1]; exact h.ql, by rw [e2]; exact h.ck, by rw [e2]; exact h.cl, by rw [e5, e2]; exact h.om, by rw [e5, e2]; exact h.oo, by rw [e6]; exact h.hd, by rw [e6, e2]; exact h.hm⟩
 ·rw [hw, List.map_cons, List.nodup_cons] at hnd; exact hnd.2
 ·rw [e2]
  intro u hu
  rcases hmem u hu with hu | rfl
  ·exact h.dj u hu
  ·exact h1
 ·intro u hu
  rcases hmem u hu with hu | rfl
  ·exact h.wc u hu
  ·exact hc
theorem add_any (d : Nat) (v : VX) (p : Value) (Av : Nat → Prop) (g : DG) (w : World) (hD : DagAt w Av d g) (hI : DI g) (hr : HRow w p v.ps) (hL : (v.ps.length : Int) ≤ 9223372036854775806) :
  Calls Try.prog 17 #[ptr d, .agg (vtx v.id.f v.ck p)] w fun e w' => ∃ u g' ol, e = .returned (.tuple #[.int .i64 (fitV g.held g.wait v).1, u, .int .i64 (fitV g.held g.wait v).2]) ∧ Ste w w' Av d g g' ∧ DI g' ∧ addG g v ol g' ∧ OwnH w' u ol ∧ (∀ k, u.ownBlock = some k → w.heap.size ≤ k ∧ ¬ DgS d g' k) := by
 have hql := hI.qlen
 have hwl := hI.wl
 have hother : ∀ hw ee, fitV g.held g.wait v = (hw, ee) → ¬ hw = 2 → ¬ hw = 3 → Calls Try.prog 17 #[ptr d, .agg (vtx v.id.f v.ck p)] w fun e w' => ∃ u g' ol, e = .returned (.tuple #[.int .i64 (fitV g.held g.wait v).1, u, .int .i64 (fitV g.held g.wait v).2]) ∧ Ste w w' Av d g g' ∧ DI g' ∧ addG g v ol g' ∧ OwnH w' u ol ∧ (∀ k, u.ownBlock = some k → w.heap.size ≤ k ∧ ¬ DgS d g' k) := by
  intro hw ee hf h1 h2
  refine (add_other d v p Av g w hw ee hD hr hI.hM hL hf ⟨h1, h2⟩).mono ?_
  rintro e w' ⟨rfl, hb⟩
  rw [hf]
  exact ⟨_, g, [], rfl, Ste.refl hD hb, hI, .inr (.inr (.inr ⟨by rw [hf]; exact h1, by rw [hf]; exact h2, rfl, rfl⟩)), ownH_nil _, fun k hk => by cases hk⟩
 rcases fit_cases g.held g.wait v with ⟨_, hf⟩ | ⟨_, _, _, hf⟩ | ⟨h1, h2, h3, h4, hf⟩ | ⟨_, _, _, _, _, hf⟩ | ⟨h1, h2, h3, h4, h5, hf⟩
 ·exact hother _ _ hf (by decide) (by decide)
 ·exact hother _ _ hf (by decide) (by decide)
 ·have hv := chk_ok h3
  by_cases hroom : (g.wait.length : Int) + 1 ≤ g.room
  ·refine (add_waits d v p Av g w hD hr hI.hM hL (by omega) hf (find_none h2) (by rw [hql]; exact hroom) (by omega)).mono ?_
   rintro e w' ⟨rfl, g', hs, hg⟩
   rw [hf]
   exact ⟨_, g', [], rfl, hs, hI.waits h3 h1 h2 hroom hg, .inr (.inl ⟨hf, hroom, ⟨hg.1, hg.2.1, hg.2.2.1, hg.2.2.2.2⟩, rfl⟩), ownH_nil _, fun k hk => by cases hk⟩
  ·have hre : g.room = (g.wait.length : Int) := by have := hI.ql; omega
   obtain ⟨v0, r, hvr⟩ : ∃ v0 r, g.wait ++ [v] = v0 :: r := by cases hg : g.wait with
    | nil => exact ⟨v, [], rfl⟩
    | cons a b => exact ⟨a, b ++ [v], rfl⟩
   have hrl : r.length = g.wait.length := by
    have := congrArg List.length hvr
    simp only [List.length_append, List.length_cons, List.length_nil] at this
    omega
   refine (add_waitsG d v p Av g w (fun g' => g'.room = g.room ∧ g'.held = g.held ∧ g'.wait = r ∧ g'.queue = r.map (·.id) ∧ g'.order = g.order ∧ g'.heads = g.heads) [v0.id] hD hr hI.hM hL (by omega) hf (find_none h2) (by omega) ?_).mono ?_
   ·rintro w1 Av1 g1 hD1 ⟨e1, e2, e3, e4, e5, e6⟩
    refine (shed_one d v0 r Av1 g1 w1 hD1 (by rw [e4, e3, hI.q, List.map_append]; rfl) (by rw [e3, hvr]) (by rw [e1, hre, hrl]) (by rw [e4, List.length_append]; simp; omega)).mono ?_
    rintro e w' ⟨u, g', rfl, hs, ⟨f1, f2, f3, f4, f5, f6⟩, ho, hn⟩
    exact ⟨u, g', rfl, hs, ⟨f1.trans e1, f2.trans e2, f3, f4, f5.trans e5, f6.trans e6⟩, ho, hn⟩
   ·rintro e w' ⟨u, g', rfl, hs, ⟨f1, f2, f3, f4, f5, f6⟩, ho, hn⟩
    rw [hf]
    exact ⟨u, g', [v0.id], rfl, hs, hI.sheds h3 h1 h2 (by rw [f3]; exact hvr) (by rw [f3, f4]) ⟨f1, f2, f5, f6⟩, .inr (.inr (.inl ⟨hf, by omega, v0, by rw [f3]; exact hvr, ⟨f1, f2, f5, f6⟩, rfl⟩)), ho, hn⟩
 ·exact hother _ _ hf (by decide) (by decide)
 ·have hv := chk_ok h3
  refine (add_took d v p Av g w (tookG g v) hD hr hI.hM hL (by omega) hf ?_).mono ?_
  ·intro w1 p1 h6 h7 h8
   exact take_any d v p1 Av g w1 h6 hI h7 h8 h1 h3
  ·rintro e w' ⟨rfl, g', hs, ht⟩
   rw [hf]
   exact ⟨_, g', [], rfl, hs, hI.took h3 h1 h2 (all_iff.1 h4) h5 ht, .inl ⟨hf, ht, rfl⟩, ownH_nil _, fun k hk => by cases hk⟩
/-- What Settle makes of a Dag. -/
def setG (g : DG) (x : Hs) (g' : DG) : Prop :=
 ((rdyE g.held g.wait x = 6 ∨ rdyE g.held g.wait x = 9) ∧ g' = g) ∨
 (rdyE g.held g.wait x = 0 ∧ ∃ v, g.wait.find? (isV x) = some v ∧ g'.room = g.room ∧ g'.held = g.held ++ [v] ∧ g'.wait = g.wait.eraseP (isV x) ∧ g'.order = insL g.order (plc v g.order g.order.length g.order.length) v.id ∧ g'.heads = hdsOf g.heads v) ∨
 ((rdyE g.held g.wait x = 3 ∨ rdyE g.held g.wait x = 51) ∧ ∃ v, g.wait.find? (isV x) = some v ∧ g'.room = g.room ∧ g'.held = g.held ∧ g'.wait = g.wait.eraseP (isV x) ∧ g'.order = g.order ∧ g'.heads = g.heads)
/-! ### A Dag that lies above B. -/
structure DS (B : Nat) (w : World) (d : Nat) (g : DG) : Prop where
 at' : DagAt w (DgS d g) d g
 di : DI g
 lo : ∀ k, DgS d g k → B ≤ k
theorem Ste.ds {B : Nat} {w w' : World} {d : Nat} {g g' : DG} (h : Ste w w' (DgS d g) d g g') (hI : DI g') (hs : DS B w d g) (hB : B ≤ w.heap.size) : DS B w' d g' ∧ Below B w w' :=
 ⟨⟨h.at'.avInto (fun k hk => .inr hk) (fun k hk => hk), hI, fun k hk => (h.sub k hk).elim (hs.lo k) fun h => Nat.le_trans hB h⟩, h.grown.to_below (fun k hk hd => by have := hs.lo k hd; omega) hB⟩
theorem DS.below {B : Nat} {w w' : World} {d : Nat} {g : DG} (h : DS B w d g) (hb : Below w.heap.size w w') : DS B w' d g := ⟨h.at'.below hb, h.di, h.lo⟩
theorem new_ds (r : Int) (w : World) : Calls Try.prog 10 #[.int .i64 r] w fun e w' =>
  ((r < 0 ∨ 64 < r) ∧ e = .returned (.tuple #[.pointer none, .int .i64 1]) ∧ Below w.heap.size w w') ∨ (0 ≤ r ∧ r ≤ 64 ∧ ∃ d g, e = .returned (.tuple #[.pointer (some ⟨d, 0, none⟩), .int .i64 0]) ∧ DS w.heap.size w' d g ∧ Below w.heap.size w w' ∧ g.room = r ∧ g.held = [] ∧ g.wait = [] ∧ g.order = [] ∧ g.heads = []) := by
 refine (new_any r w).mono ?_
 rintro e w' (⟨h, rfl, rfl⟩ | ⟨h, d, g, rfl, hD, h1, h2, h3, h4, h5, h6, hB, hl⟩)
 ·exact .inl ⟨h, rfl, Below.refl _ _⟩
 ·refine .inr ⟨by omega, by omega, d, g, rfl, ⟨hD, ?_, hl⟩, hB, h1, h2, h3, h5, h4⟩
  refine ⟨by rw [h1]; omega, by rw [h2]; simp, by rw [h2]; simp, by rw [h3]; simp, by rw [h3]; simp, by rw [h2]; simp, by rw [h3]; simp, by rw [h6, h3]; rfl, by rw [h3, h1]; simp; omega, by rw [h2]; simp, by rw [h2]; simp, by rw [h5, h2]; simp [hasB], ?_, by rw [h4]; simp, by rw [h4, h2]; simp [hasB]⟩
  rw [h5]
  exact ⟨List.nodup_nil, by simp, by simp, by simp⟩
end Go.Proofs.Ytogmdfhicbmplaa
namespace Go.Proofs.Ytogmdfhicbmplaa
open Go.RowKit
set_option linter.unusedSimpArgs false
set_option linter.unusedVariables false

/-! ### Vertices that came, each followed by all that could be settled then. -/
/-- l: those that came so far. -/
structure FedJ (l : List VX) (g : DG) : Prop where
 rm : g.room = 64
 hs : ∀ v ∈ g.held, v ∈ l
 ws : ∀ v ∈ g.wait, v ∈ l
 ft : ∀ v ∈ l, v ∈ g.held ∨ v ∈ g.wait ∨ chkV v ≠ 0 ∨ (v.ps.all (hasB g.held) = true ∧ v.ck ≠ mxC g.held v.ps + 1)
 cn : g.held.length + g.wait.length ≤ l.length
 ll : l.length ≤ 64
theorem hasB_more {l : List VX} {v : VX} {x : Hs} (h : hasB l x = true) : hasB (l ++ [v]) x = true := by rw [hasB_app, h]; rfl
theorem fate_more {l : List VX} {u v : VX} (h : u.ps.all (hasB l) = true ∧ u.ck ≠ mxC l u.ps + 1) : u.ps.all (hasB (l ++ [v])) = true ∧ u.ck ≠ mxC (l ++ [v]) u.ps + 1 :=
 ⟨all_iff.2 fun p hp => hasB_more (all_iff.1 h.1 p hp), by rw [mxC_app (all_iff.1 h.1)]; exact h.2⟩
theorem FedJ.add {l : List VX} {v : VX} {g g' : DG} {ol : List Hs} (h : FedJ l g) (hv : ∀ u ∈ l, u.id ≠ v.id) (hl : l.length + 1 ≤ 64) (a : addG g v ol g') : FedJ (l ++ [v]) g' := by
 have hn1 : hasB g.held v.id = false := hasB_no.2 fun u hu => hv u (h.hs u hu)
 have hn2 : hasB g.wait v.id = false := hasB_no.2 fun u hu => hv u (h.ws u hu)
 have hcn := h.cn
 have same : g' = g → (chkV v ≠ 0 ∨ (v.ps.all (hasB g.held) = true ∧ v.ck ≠ mxC g.held v.ps + 1)) → FedJ (l ++ [v]) g' := by
  rintro rfl hw
  refine ⟨h.rm, fun u hu => List.mem_append_left _ (h.hs u hu), fun u hu => List.mem_append_left _ (h.ws u hu), fun u hu => ?_, by rw [List.length_append]; simp; omega, by rw [List.length_append]; simp; omega⟩
  rcases List.mem_append.1 hu with hu | hu
  ·exact h.ft u hu
  ·rw [List.mem_singleton] at hu; subst hu; exact .inr (.inr hw)
 rcases a with ⟨hf, ⟨e1, e2, e3, e4, e5, e6⟩, _⟩ | ⟨hf, hr, ⟨e1, e2, e3, e5, e6⟩, _⟩ | ⟨hf, hr, _⟩ | ⟨hf2, hf3, rfl, _⟩
 ·refine ⟨e1.trans h.rm, ?_, ?_, ?_, by rw [e2, e3]; simp only [List.length_append, List.length_cons, List.length_nil]; omega, by rw [List.length_append]; simp; omega⟩
  ·rw [e2]
   intro u hu
   rcases List.mem_append.1 hu with hu | hu
   ·exact List.mem_append_left _ (h.hs u hu)
   ·exact List.mem_append_right _ hu
  ·rw [e3]; exact fun u hu => List.mem_append_left _ (h.ws u hu)
  ·rw [e2, e3]
   intro u hu
   rcases List.mem_append.1 hu with hu | hu
   ·rcases h.ft u hu with h1 | h1 | h1 | h1
    ·exact .inl (List.mem_append_left _ h1)
    ·exact .inr (.inl h1)
    ·exact .inr (.inr (.inl h1))
    ·exact .inr (.inr (.inr (fate_more h1)))
   ·exact .inl (List.mem_append_right _ hu)
 ·refine ⟨e1.trans h.rm, ?_, ?_, ?_, by rw [e2, e3]; simp only [List.length_append, List.length_cons, List.length_nil]; omega, by rw [List.length_append]; simp; omega⟩
  ·rw [e2]; exact fun u hu => List.mem_append_left _ (h.hs u hu)
  ·rw [e3]
   intro u hu
   rcases List.mem_append.1 hu with hu | hu
   ·exact List.mem_append_left _ (h.ws u hu)
   ·exact List.mem_append_right _ hu
  ·rw [e2, e3]
   intro u hu
   rcases List.mem_append.1 hu with hu | hu
   ·rcases h.ft u hu with h1 | h1 | h1
    ·exact .inl h1
    ·exact .inr (.inl (List.mem_append_left _ h1))
    ·exact .inr (.inr h1)
   ·exact .inr (.inl (List.mem_append_right _ hu))
 ·have := h.rm; omega
 ·rcases fit_cases g'.held g'.wait v with ⟨h1, hf⟩ | ⟨_, _, h3, hf⟩ | ⟨_, _, _, _, hf⟩ | ⟨_, _, _, h4, h5, hf⟩ | ⟨_, _, _, _, _, hf⟩
  ·rw [hn1, hn2] at h1; simp at h1
  ·exact same rfl (.inl h3)
  ·rw [hf] at hf3; exact absurd rfl hf3
  ·refine same rfl (.inr ⟨h4, fun hc => h5 ?_⟩)
   unfold nextE
   rw [if_neg (fun h => h hc), if_neg (by omega)]
  ·rw [hf] at hf2; exact absurd rfl hf2
theorem OneO.congr {par par' : Hs → List Hs} {l : List Hs} (h : OneO par l) (e : ∀ x ∈ l, par' x = par x) : OneO par' l :=
 ⟨h.nd, fun i k x y hi hk hy => h.top i k x y hi hk (by rw [← e x (at_mem hi)]; exact hy), fun x hx p hp => h.all x hx p (by rw [← e x hx]; exact hp),
  fun i k x y hik hi hk hlt => by obtain ⟨j, z, h1, h2, h3⟩ := h.min i k x y hik hi hk hlt; exact ⟨j, z, h1, h2, by rw [e y (at_mem hk)]; exact h3⟩⟩
end Go.Proofs.Ytogmdfhicbmplaa
namespace Go.Proofs.Ytogmdfhicbmplaa
open Go.RowKit
set_option linter.unusedSimpArgs false
set_option linter.unusedVariables false

/-! ### Lists of things of s cells. -/
section
variable {α : Type} {enc : α → List Value} {s : Nat}
theorem flat_len (hs : ∀ x, (enc x).length = s) : ∀ L : List α, (L.flatMap enc).length = L.length * s
 | [] => by simp
 | x :: L => by rw [List.flatMap_cons, List.length_append, hs, flat_len hs L, List.length_cons, Nat.add_mul, Nat.one_mul, Nat.add_comm]
theorem flat_get (hs : ∀ x, (enc x).length = s) : ∀ (L : List α) (i : Nat) (hi : i < L.length) (j : Nat), j < s → (L.flatMap enc)[i * s + j]? = (enc L[i])[j]?
 | x :: L, 0, _, j, hj => by rw [List.flatMap_cons, Nat.zero_mul, Nat.zero_add, List.getElem?_append_left (by rw [hs]; exact hj)]; rfl
 | x :: L, i + 1, hi, j, hj => by
  rw [List.flatMap_cons, List.getElem?_append_right (by rw [hs, Nat.add_mul]; omega), hs, show (i + 1) * s + j - s = i * s + j by rw [Nat.add_mul]; omega]
  exact flat_get hs L i (by simpa using hi) j hj
theorem flat_take (hs : ∀ x, (enc x).length = s) : ∀ (L : List α) (k : Nat), (L.flatMap enc).take (k * s) = (L.take k).flatMap enc
 | L, 0 => by simp
 | [], k + 1 => by simp
 | x :: L, k + 1 => by
  rw [List.flatMap_cons, List.take_succ_cons, List.flatMap_cons, List.take_append, hs, List.take_of_length_le (by rw [hs, Nat.add_mul]; omega), show (k + 1) * s - s = k * s by rw [Nat.add_mul]; omega, flat_take hs L k]
theorem flat_drop (hs : ∀ x, (enc x).length = s) : ∀ (L : List α) (k : Nat), (L.flatMap enc).drop (k * s) = (L.drop k).flatMap enc
 | L, 0 => by simp
 | [], k + 1 => by simp
 | x :: L, k + 1 => by
  rw [List.flatMap_cons, List.drop_succ_cons, List.drop_append, hs, List.drop_of_length_le (by rw [hs, Nat.add_mul]; omega), List.nil_append, show (k + 1) * s - s = k * s by rw [Nat.add_mul]; omega, flat_drop hs L k]
theorem flat_elem (hs : ∀ x, (enc x).length = s) {w : World} {b off : Nat} {L : List α} (h : w.rangeAt b off (L.flatMap enc)) (i : Nat) (hi : i < L.length) : w.rangeAt b (off + i * s) (enc L[i]) := fun j v hv => by
 have hj : j < s := by have := (List.getElem?_eq_some_iff.1 hv).1; rw [hs] at this; exact this
 have := h (i * s + j) v (by rw [flat_get hs L i hi j hj]; exact hv)
 rw [show off + (i * s + j) = off + i * s + j by omega] at this
 exact this
theorem flat_set (hs : ∀ x, (enc x).length = s) (L : List α) (k : Nat) (x : α) (hk : k < L.length) : (L.flatMap enc).take (k * s) ++ enc x ++ (L.flatMap enc).drop (k * s + s) = (L.set k x).flatMap enc := by
 rw [flat_take hs, show k * s + s = (k + 1) * s by rw [Nat.add_mul]; omega, flat_drop hs, List.set_eq_take_append_cons_drop, if_pos hk, List.flatMap_append, List.flatMap_cons, List.append_assoc]
end
/-! ### Lists of vertices. -/
/-- A vertex and its parents' slice. -/
abbrev VP := VX × Value
def encV (q : VP) : List Value := (vtx q.1.id.f q.1.ck q.2).toList
theorem encV_len (q : VP) : (encV q).length = 34 := by rw [encV, Array.length_toList, vtx_size]
/-- v is a slice of these vertices. -/
def VRow (w : World) (v : Value) (L : List VP) : Prop :=
 ((∃ a c, v = .slice a 0 c ∧ L = []) ∨ ∃ b off c, v = .slice (some ⟨b, off, none⟩) L.length c ∧ L.length ≤ c ∧ w.rangeAt b off (L.flatMap encV)) ∧ ∀ q ∈ L, HRow w q.2 q.1.ps ∧ q.1.ps.length ≤ 4398046511104
theorem VRow.form {w : World} {v : Value} {L : List VP} (h : VRow w v L) : ∃ a c, v = .slice a L.length c := by
 rcases h.1 with ⟨a, c, rfl, rfl⟩ | ⟨b, off, c, rfl, _⟩
 ·exact ⟨a, c, rfl⟩
 ·exact ⟨_, c, rfl⟩
theorem VRow.at {w : World} {a : Option Addr} {n c : Nat} {L : List VP} (h : VRow w (.slice a n c) L) (hL : 0 < L.length) : ∃ b off, a = some ⟨b, off, none⟩ ∧ L.length ≤ c ∧ w.rangeAt b off (L.flatMap encV) := by
 rcases h.1 with ⟨a, c, _, rfl⟩ | ⟨b, off, c, e, h1, h2⟩
 ·simp at hL
 ·injection e with e1 e2 e3
  subst e1 e3
  exact ⟨b, off, rfl, h1, h2⟩
theorem flatV_lt {w : World} {b off : Nat} {L : List VP} (h : w.rangeAt b off (L.flatMap encV)) (hL : 0 < L.length) : b < w.heap.size := by
 have h0 := flat_elem encV_len h 0 hL
 have h1 : (encV L[0])[32]? = some (.int .i64 L[0].1.ck) := by rw [encV, Array.getElem?_toList, vtx_ck]
 exact cell_lt (h0 32 _ h1)
theorem VRow.below {w w' : World} {v : Value} {L : List VP} (h : VRow w v L) (hb : Below w.heap.size w w') : VRow w' v L := by
 refine ⟨?_, fun q hq => ⟨(h.2 q hq).1.below hb, (h.2 q hq).2⟩⟩
 rcases h.1 with h1 | ⟨b, off, c, rfl, h2, h3⟩
 ·exact .inl h1
 ·by_cases h0 : 0 < L.length
  ·exact .inr ⟨b, off, c, rfl, h2, rangeAt_below h3 hb (flatV_lt h3 h0)⟩
  ·have : L = [] := List.eq_nil_of_length_eq_zero (by omega)
   subst this
   exact .inl ⟨_, c, rfl, rfl⟩
/-! ### Below a mark. -/
end Go.Proofs.Ytogmdfhicbmplaa
namespace Go.Proofs.Ytogmdfhicbmplaa
open Go.RowKit
set_option linter.unusedSimpArgs false
set_option linter.unusedVariables false

theorem Try.in19 (w : World) (vs : Array Value) : (callFunc 19 vs).run Try.prog w = .ok (.enter 19 vs) w := by kernel_rfl
theorem Try.in62 (w : World) (vs : Array Value) : (callFunc 62 vs).run Try.prog w = .ok (.enter 62 vs) w := by kernel_rfl
theorem Try.in12 (w : World) (vs : Array Value) : (callFunc 12 vs).run Try.prog w = .ok (.enter 12 vs) w := by kernel_rfl
theorem smH_any (v1 v2 : Value) (L M : List Hs) (w : World) (h1 : HRow w v1 L) (h2 : HRow w v2 M) (hn : (L.length : Int) ≤ 9223372036854775807) : Calls Try.prog 19 #[v1, v2] w fun e w' => e = .returned (.bool (decide (L = M))) ∧ Below w.heap.size w w' := by
 have H1 := Keep.mk h1
 have H2 := Keep.mk h2
 have HN := Keep.mk hn
 clear h1 h2 hn
 go_enter Try.func19, Try.ntmps19
 refine wp_seq_k fun K1 hK1 => rgn ?_
 refine VlS (.bool false) ?_
 refine WL.nil (hK1 _ _ ?_)
 refine wp_seq_k fun K2 hK2 => rgn ?_
 refine VlS (v1) ?_
 refine VlS (v2) ?_
 refine WL.callF (by kernel_rfl) 62 _ _ rfl Try.in62 #[v1, v2] (by simp [Act.eval]) ?_
 refine (same_any v1 v2 L M w H1.out H2.out HN.out).mono ?_
 rintro e w1 ⟨rfl, q, hq⟩
 refine ⟨_, rfl, ?_⟩
 have B1 : Keep (Below w.heap.size w w1) := ⟨by rw [hq]; exact ⟨rfl, rfl, rfl, Nat.le_refl _, fun _ _ => rfl⟩⟩
 clear hq
 simp only [Act.put, pqA, pqB, pqC]
 refine VlS (.bool (decide (L = M))) ?_
 refine WL.nil (hK2 _ _ ?_)
 refine wp_ret ?_
 go_ret
 exact ⟨rfl, B1.out⟩
set_option maxRecDepth 8000 in
theorem plN_any (i : Int) (n : Nat) (w : World) (hn : 0 < n) (hm : (n : Int) ≤ 9223372036854775807) : Calls Try.prog 12 #[.int .i64 i, .int .i64 (n : Int)] w fun e w' => ∃ k : Nat, k < n ∧ e = .returned (.int .i64 (k : Int)) ∧ w' = w := by
 have hn0 : ¬ (n : Int) = 0 := by omega
 have hn1 : ¬ n = 0 := by omega
 have hlo : -(n : Int) < i.tmod (n : Int) := by have := Int.tmod_lt_of_pos (-i) (b := (n : Int)) (by omega); rw [Int.neg_tmod] at this; omega
 have hhi : i.tmod (n : Int) < (n : Int) := Int.tmod_lt_of_pos i (by omega)
 have hw0 : IntKind.i64.wrap (i.tmod (n : Int)) = i.tmod (n : Int) := by rw [IntKind.wrap_i64]; omega
 have hw1 : i.tmod (n : Int) < 0 → IntKind.i64.wrap (i.tmod (n : Int) + (n : Int)) = i.tmod (n : Int) + (n : Int) := fun h => by rw [IntKind.wrap_i64]; omega
 go_enter Try.func12, Try.ntmps12
 refine wp_seq_k fun K1 hK1 => rgn ?_
 refine VlS (.int .i64 0) ?_
 refine WL.nil (hK1 _ _ ?_)
 refine wp_seq_k fun K2 hK2 => rgn ?_
 refine VlS (.int .i64 i) ?_
 refine VlS (.int .i64 (n : Int)) ?_
 refine VlS (.int .i64 (i.tmod (n : Int))) ?_
 refine VlS (.int .i64 (i.tmod (n : Int))) ?_
 refine WL.nil (hK2 _ _ ?_)
 refine wp_seq_k fun K3 hK3 => ?_
 refine wp_seq_k fun K4 hK4 => rgn ?_
 refine VlS (.int .i64 (i.tmod (n : Int))) ?_
 by_cases h2_1 : i.tmod (n : Int) < 0
 ·skip
  refine VlS (.bool true) ?_
  refine WL.nil (hK4 _ _ ?_)
  refine wp_cond_true rfl ?_
  refine rgn ?_
  refine VlS (.int .i64 (i.tmod (n : Int))) ?_
  refine VlS (.int .i64 (n : Int)) ?_
  refine VlS (.int .i64 (i.tmod (n : Int) + (n : Int))) ?_
  refine VlS (.int .i64 (i.tmod (n : Int) + (n : Int))) ?_
  refine WL.nil (hK3 _ _ ?_)
  refine wp_seq_k fun K5 hK5 => rgn ?_
  refine VlS (.int .i64 (i.tmod (n : Int) + (n : Int))) ?_
  refine VlS (.int .i64 (i.tmod (n : Int) + (n : Int))) ?_
  refine WL.nil (hK5 _ _ ?_)
  refine wp_ret ?_
  go_ret
  exact ⟨(i.tmod (n : Int) + (n : Int)).toNat, by omega, by rw [Int.toNat_of_nonneg (by omega)]; rfl, rfl⟩
 ·skip
  refine VlS (.bool false) ?_
  refine WL.nil (hK4 _ _ ?_)
  refine wp_cond_false rfl ?_
  refine wp_skip ?_
  refine hK3 _ _ ?_
  refine wp_seq_k fun K6 hK6 => rgn ?_
  refine VlS (.int .i64 (i.tmod (n : Int))) ?_
  refine VlS (.int .i64 (i.tmod (n : Int))) ?_
  refine WL.nil (hK6 _ _ ?_)
  refine wp_ret ?_
  go_ret
  exact ⟨(i.tmod (n : Int)).toNat, by omega, by rw [Int.toNat_of_nonneg (by omega)]; rfl, rfl⟩
end Go.Proofs.Ytogmdfhicbmplaa
namespace Go.Proofs.Ytogmdfhicbmplaa
open Go.RowKit
set_option linter.unusedSimpArgs false
set_option linter.unusedVariables false

end Go.Proofs.Ytogmdfhicbmplaa
namespace Go.Proofs.Ytogmdfhicbmplaa
open Go.RowKit Go.Sort

/-- What a Sort tells. -/
def SortPost (L : List Hs) (w : World) (e : Ending) (w' : World) : Prop :=
 ∃ v' L', e = .returned v' ∧ w'.ownsRow w.heap.size 36 32 v' L'.length (flatH L') ∧ L'.Pairwise Lt ∧ (∀ x, x ∈ L' ↔ x ∈ L) ∧ L'.length ≤ L.length ∧ Below w.heap.size w w'

theorem short_rising : ∀ (L : List Hs), L.length < 2 → L.Pairwise Lt
 | [], _ => by simp
 | [_], _ => by simp
 | _ :: _ :: _, h => by simp only [List.length_cons] at h; omega

set_option maxRecDepth 8000 in
set_option maxHeartbeats 1000000 in
theorem refSort_short (v : Value) (L : List Hs) (w : World) (h : HRow w v L) (hl : L.length < 2) : Calls Try.prog 16 #[v] w (SortPost L w) := by
 have HR : Keep (HRow w v L) := ⟨h⟩
 obtain ⟨a, c, hv⟩ := h.form
 have HV : Keep (v = .slice a L.length c) := ⟨hv⟩
 have hl' : ((L.length : Nat) : Int) < 2 := by omega
 rw [hv]
 clear h hv
 go_enter Try.func16, Try.ntmps16
 go_wp2_with (refine wpList_appH rfl (.const (.slice none 0 0)) (.tmp 10) rfl w.heap.size (.slice none 0 0) v [] L rfl (by rw [HV.out]; rfl) (ownsH_nil _ _) HR.out (by simp; omega) (Nat.le_refl _) ?_; intro v5 w5 hown5 hgr5)
 go_ret
 exact ⟨_, L, rfl, hown5, short_rising L hl, fun x => Iff.rfl, Nat.le_refl _, (Below.refl _ _).grown hgr5 (Nat.le_refl _) (fun k hk => by cases hk)⟩

/-- A slice's length. -/
def lenV : Value → Nat
 | .slice _ n _ => n
 | _ => 0
theorem HRow.tail {w : World} {b off c : Nat} {x : Hs} {A : List Hs} (hc : (x :: A).length ≤ c) (h : w.rangeAt b off (flatH (x :: A))) : HRow w (.slice (if c = 1 then some ⟨b, off, none⟩ else some ⟨b, off + 32, none⟩) A.length (c - 1)) A := by
 simp only [List.length_cons] at hc
 by_cases h1 : c = 1
 ·rw [if_pos h1]
  have : A = [] := List.eq_nil_of_length_eq_zero (by omega)
  subst this
  exact .inl ⟨_, _, rfl, rfl, fun h => by cases h⟩
 ·rw [if_neg h1]
  have h2 := rangeAt_drop h 1 (by simp)
  rw [Nat.one_mul] at h2
  exact HRow.mk rfl (by omega) h2

set_option maxRecDepth 8000 in
set_option maxHeartbeats 1000000 in
set_option maxRecDepth 20000 in
theorem refSort_step (n b off cap : Nat) (L : List Hs) (w : World) (hL : L.length = n) (h : w.rangeAt b off (flatH L)) (h2 : 2 ≤ n) (hn : n ≤ 4398046511104) (hc : n ≤ cap)
  (ih : ∀ (v : Value) (M : List Hs) (w : World), M.length < n → HRow w v M → Calls Try.prog 16 #[v] w (SortPost M w)) :
  Calls Try.prog 16 #[.slice (some ⟨b, off, none⟩) n cap] w (SortPost L w) := by
 have HL : Keep (L.length = n) := ⟨hL⟩
 have HX : Keep (w.rangeAt b off (flatH L)) := ⟨h⟩
 have HI : Keep (∀ (v : Value) (M : List Hs) (w : World), M.length < n → HRow w v M → Calls Try.prog 16 #[v] w (SortPost M w)) := ⟨ih⟩
 have hblt := rangeAt_lt h (by omega)
 clear hL h ih
 obtain ⟨k, hk⟩ : ∃ k, Keep (n / 2 = k) := ⟨_, ⟨rfl⟩⟩
 have hkn : k < n := by have := hk.out; omega
 have hk0 : 0 < k := by have := hk.out; omega
 have q1 : (n : Int) / 2 = (k : Int) := by have := hk.out; omega
 have q2 : IntKind.i64.wrap (k : Int) = (k : Int) := by rw [IntKind.wrap_i64]; omega
 have q3 : (k : Int) ≤ (cap : Int) := by omega
 have q4 : ¬ ((n : Int) < 2) := by omega
 have q5 : (k : Int) ≤ (n : Int) := by omega
 have q6 : (n : Int) ≤ (cap : Int) := by omega
 go_enter Try.func16, Try.ntmps16
 go_wp2_with fail
 refine (HI.out _ (L.take k) w (by rw [List.length_take]; omega) (HRow.mk (by rw [List.length_take, HL.out]; omega) (by omega) (rangeAt_take HX.out k))).mono ?_
 rintro e w1 ⟨va, A0, rfl, hoA, hpA, hmA, hlA, hb1⟩
 have hrA := HRow.of_owns hoA
 clear hoA
 have hX1 := rangeAt_below HX.out hb1 hblt
 rw [List.length_take, HL.out, Nat.min_eq_left (by omega)] at hlA
 go_wp2_with fail
 refine (HI.out _ (L.drop k) w1 (by rw [List.length_drop, HL.out]; omega) (HRow.mk (by rw [List.length_drop, HL.out]) (by omega) (rangeAt_drop hX1 k (by rw [HL.out]; omega)))).mono ?_
 rintro e w2 ⟨vb, B0, rfl, hoB, hpB, hmB, hlB, hb2⟩
 have hrB := HRow.of_owns hoB
 clear hoB
 rw [List.length_drop, HL.out] at hlB
 have hrA2 := hrA.below hb2
 have hb12 : Below w.heap.size w w2 := hb1.trans (hb2.mono hb1.size)
 have HFin : Keep ((mrg A0 B0).Pairwise Lt ∧ (∀ x, x ∈ mrg A0 B0 ↔ x ∈ L) ∧ (mrg A0 B0).length ≤ n) := ⟨mrg_rising A0 B0 hpA hpB, fun x => by
  rw [mrg_mem, hmA, hmB]
  conv => rhs; rw [← List.take_append_drop k L, List.mem_append], by have := mrg_length A0 B0; omega⟩
 obtain ⟨F, hF⟩ : ∃ F, Keep (F = mrg A0 B0) := ⟨_, ⟨rfl⟩⟩
 rw [← hF.out] at HFin
 have HA0 : Keep (HRow w2 va A0) := ⟨hrA2⟩
 have HB0 : Keep (HRow w2 vb B0) := ⟨hrB⟩
 have hsum : A0.length + B0.length ≤ n := by omega
 have HB12 : Keep (Below w.heap.size w w2) := ⟨hb12⟩
 have hown0 : (w2.alloc (.cells #[] 36)).ownsRow w2.heap.size 36 32 (.slice (some ⟨w2.heap.size, 0, none⟩) 0 0) ([] : List Hs).length (flatH []) :=
  ⟨rfl, .inr ⟨w2.heap.size, 0, #[], rfl, Nat.le_refl _, heap_alloc_new w2 _, Nat.le_refl _, by unfold maxLen; omega, rfl, rfl⟩⟩
 have hBel0 := below_new w2 (.cells #[] 36)
 clear hrA hrB hrA2 hpA hpB hmA hmB hb1 hb2 hb12 hX1 hlA hlB
 go_wp2_with (refine wpList_bs rfl 37 0 #[] rfl #[] rfl _ _ (Try.bs0 _) ?_)
 generalize w2.alloc (.cells #[] 36) = w3 at *
 go_loopw [3, 4, 5, 6] (fun a b vo _ wr => ∃ A B O : List Hs, HRow w2 a A ∧ HRow w2 b B ∧ wr.ownsRow w2.heap.size 36 32 vo O.length (flatH O) ∧ O ++ mrg A B = F ∧ O.length + A.length + B.length ≤ n ∧ Below w2.heap.size w2 wr) (fun a b _ _ _ => lenV a + lenV b)
 case atStart => exact ⟨A0, B0, [], HA0.out, HB0.out, hown0, by rw [hF.out]; rfl, by simp only [List.length_nil]; omega, hBel0⟩
 case round =>
  clear hown0 hBel0 HA0 HB0 hsum hF
  obtain ⟨A, B, O, hrA, hrB, hown, hm, hlen, hBel⟩ := hrel
  have hsz := hBel.size
  have HM : Keep (O ++ mrg A B = F) := ⟨hm⟩
  have HRA : Keep (HRow w2 u3 A) := ⟨hrA⟩
  have HRB : Keep (HRow w2 u4 B) := ⟨hrB⟩
  obtain ⟨pa, ca, hua⟩ := hrA.form
  obtain ⟨pb, cb, hub⟩ := hrB.form
  clear hrA hrB hm
  by_cases hAB : A = [] ∨ B = []
  ·have HM2 : Keep (O ++ A ++ B = F) := ⟨by
    rw [← HM.out, List.append_assoc]
    rcases hAB with rfl | rfl
    ·rw [mrg]; rfl
    ·rw [mrg_nil, List.append_nil]⟩
   have HO : Keep (wr.ownsRow w2.heap.size 36 32 u5 O.length (flatH O)) := ⟨hown⟩
   have hblk := ownsH_block hown
   have HBel : Keep (Below w2.heap.size w2 wr) := ⟨hBel⟩
   have HUA : Keep (u3 = .slice pa A.length ca) := ⟨hua⟩
   have HUB : Keep (u4 = .slice pb B.length cb) := ⟨hub⟩
   rw [hua, hub]
   have fin : ∀ v5 w5, w5.ownsRow w2.heap.size 36 32 v5 (O ++ A).length (flatH (O ++ A)) → wr.grownBy w5 u5.ownBlock → Below w2.heap.size w2 w5 ∧ HRow w5 u4 B ∧ w2.heap.size ≤ w5.heap.size ∧ ∀ k, v5.ownBlock = some k → w2.heap.size ≤ k := fun v5 w5 h1 h2 => by
    have h3 := HBel.out.grown h2 hsz hblk
    exact ⟨h3, HRB.out.below h3, h3.size, ownsH_block h1⟩
   have HFN : Keep (∀ v5 w5, w5.ownsRow w2.heap.size 36 32 v5 (O ++ A).length (flatH (O ++ A)) → wr.grownBy w5 u5.ownBlock → Below w2.heap.size w2 w5 ∧ HRow w5 u4 B ∧ w2.heap.size ≤ w5.heap.size ∧ ∀ k, v5.ownBlock = some k → w2.heap.size ≤ k) := ⟨fin⟩
   have hRA2 : HRow wr u3 A := HRA.out.below hBel
   have HRA2 : Keep (HRow wr u3 A) := ⟨hRA2⟩
   clear fin hRA2 hua hub hown hBel
   have hz : ¬ (0 < A.length ∧ 0 < B.length) := by rcases hAB with rfl | rfl <;> simp
   have END : ∀ v5 w5 v7 w7, w5.ownsRow w2.heap.size 36 32 v5 (O ++ A).length (flatH (O ++ A)) → wr.grownBy w5 u5.ownBlock → w7.ownsRow w2.heap.size 36 32 v7 (O ++ A ++ B).length (flatH (O ++ A ++ B)) → w5.grownBy w7 v5.ownBlock → SortPost L w (.returned v7) w7 := fun v5 w5 v7 w7 g1 g2 g3 g4 => by
    obtain ⟨f1, f2, f3, f4⟩ := HFN.out v5 w5 g1 g2
    rw [HM2.out] at g3
    exact ⟨v7, F, rfl, ownsH_mono g3 HB12.out.size, HFin.out.1, HFin.out.2.1, by rw [HL.out]; exact HFin.out.2.2, HB12.out.trans ((f1.grown g4 f3 f4).mono HB12.out.size)⟩
   have HEND : Keep (∀ v5 w5 v7 w7, w5.ownsRow w2.heap.size 36 32 v5 (O ++ A).length (flatH (O ++ A)) → wr.grownBy w5 u5.ownBlock → w7.ownsRow w2.heap.size 36 32 v7 (O ++ A ++ B).length (flatH (O ++ A ++ B)) → w5.grownBy w7 v5.ownBlock → SortPost L w (.returned v7) w7) := ⟨END⟩
   clear END
   by_cases hA0 : A.length = 0
   ·have z1 : ¬ (0 < ((A.length : Nat) : Int)) := by omega
    go_wp2_with (first | (refine wpList_appH rfl (.tmp 60) (.tmp 61) rfl w2.heap.size u5 u3 O A rfl (by rw [HUA.out]; rfl) HO.out HRA2.out (by omega) hsz ?_; intro v5 w5 hown5 hgr5) | (refine wpList_appH rfl (.tmp 63) (.tmp 64) rfl w2.heap.size v5 u4 (O ++ A) B rfl (by rw [HUB.out]; rfl) hown5 (HFN.out v5 w5 hown5 hgr5).2.1 (by rw [List.length_append]; omega) (HFN.out v5 w5 hown5 hgr5).2.2.1 ?_; intro v7 w7 hown7 hgr7))
    go_ret
    exact HEND.out v5 w5 v7 w7 hown5 hgr5 hown7 hgr7
   ·have z1 : (0 < ((A.length : Nat) : Int)) := by omega
    have z2 : ¬ (0 < ((B.length : Nat) : Int)) := by omega
    go_wp2_with (first | (refine wpList_appH rfl (.tmp 60) (.tmp 61) rfl w2.heap.size u5 u3 O A rfl (by rw [HUA.out]; rfl) HO.out HRA2.out (by omega) hsz ?_; intro v5 w5 hown5 hgr5) | (refine wpList_appH rfl (.tmp 63) (.tmp 64) rfl w2.heap.size v5 u4 (O ++ A) B rfl (by rw [HUB.out]; rfl) hown5 (HFN.out v5 w5 hown5 hgr5).2.1 (by rw [List.length_append]; omega) (HFN.out v5 w5 hown5 hgr5).2.2.1 ?_; intro v7 w7 hown7 hgr7))
    go_ret
    exact HEND.out v5 w5 v7 w7 hown5 hgr5 hown7 hgr7
  ·obtain ⟨x, A, rfl⟩ : ∃ x A', A = x :: A' := by cases A with | nil => simp at hAB | cons x A' => exact ⟨x, A', rfl⟩
   obtain ⟨y, B, rfl⟩ : ∃ y B', B = y :: B' := by cases B with | nil => simp at hAB | cons y B' => exact ⟨y, B', rfl⟩
   clear hAB
   subst hua hub
   obtain ⟨ba, oa, rfl, _, hca, rA⟩ := HRA.out.at (by simp)
   obtain ⟨bb, ob, rfl, _, hcb, rB⟩ := HRB.out.at (by simp)
   have HS : Keep (∀ wx, Below wr.heap.size wr wx → wx.rangeAt ba oa (encH x) ∧ wx.rangeAt bb ob (encH y)) := ⟨fun wx hx => by
    have hb := hBel.trans (hx.mono hsz)
    have e1 := rangeAt_below (rangeAt_elem rA 0 (by simp)) hb (rangeAt_lt rA (by simp))
    have e2 := rangeAt_below (rangeAt_elem rB 0 (by simp)) hb (rangeAt_lt rB (by simp))
    rw [Nat.zero_mul, Nat.add_zero] at e1 e2
    exact ⟨e1, e2⟩⟩
   have HTA : Keep (HRow w2 (.slice (if ca = 1 then some ⟨ba, oa, none⟩ else some ⟨ba, oa + 32, none⟩) A.length (ca - 1)) A) := ⟨HRow.tail hca rA⟩
   have HTB : Keep (HRow w2 (.slice (if cb = 1 then some ⟨bb, ob, none⟩ else some ⟨bb, ob + 32, none⟩) B.length (cb - 1)) B) := ⟨HRow.tail hcb rB⟩
   clear rA rB
   have HC : Keep (∀ w, Calls Try.prog 57 #[.agg (encH x).toArray, .agg (encH y).toArray] w fun e w' => e = .returned (.int .i64 (cf x y)) ∧ Below w.heap.size w w') := ⟨fun w => by
    rw [encH_arr, encH_arr]
    refine (refCompare_any _ _ w).mono fun e w' h => ⟨h.1, ?_⟩
    obtain ⟨q, os, rfl⟩ := h.2
    exact grown_below w q os⟩
   have hi1 := Try.size36L x
   have hi2 := Try.size36L y
   have hu := Try.underlying36
   have hbsA : ∀ w, (Instr.buildSlice 37 1 #[(0, .agg (encH x).toArray)]).run Try.prog w = .ok (.slice (some ⟨w.heap.size, 0, none⟩) 1 1) (w.alloc (.cells (encH x).toArray 36)) := fun w => by rw [encH_arr]; exact Try.bs1 _ w
   have hbsB : ∀ w, (Instr.buildSlice 37 1 #[(0, .agg (encH y).toArray)]).run Try.prog w = .ok (.slice (some ⟨w.heap.size, 0, none⟩) 1 1) (w.alloc (.cells (encH y).toArray 36)) := fun w => by rw [encH_arr]; exact Try.bs1 _ w
   have hone : ∀ (z : Hs) (w : World), HRow (w.alloc (.cells (encH z).toArray 36)) (.slice (some ⟨w.heap.size, 0, none⟩) 1 1) [z] := fun z w => HRow.mk rfl (Nat.le_refl _) fun j v hv => by
    rw [Nat.zero_add, (Blk.new w 36 _).cell]; simpa [flatH] using hv
   have HOA : Keep (∀ w : World, HRow (w.alloc (.cells (encH x).toArray 36)) (.slice (some ⟨w.heap.size, 0, none⟩) 1 1) [x]) := ⟨hone x⟩
   have HOB : Keep (∀ w : World, HRow (w.alloc (.cells (encH y).toArray 36)) (.slice (some ⟨w.heap.size, 0, none⟩) 1 1) [y]) := ⟨hone y⟩
   obtain ⟨r, hr⟩ : ∃ r, Keep (r = cf x y) := ⟨_, ⟨rfl⟩⟩
   rw [← hr.out] at HC
   have HM1 : Keep (r < 0 → O ++ [x] ++ mrg A (y :: B) = F) := ⟨fun h => by rw [← HM.out, mrg, if_pos (by rw [← hr.out]; exact h)]; simp⟩
   have HM2 : Keep (r = 0 → O ++ [x] ++ mrg A B = F) := ⟨fun h => by rw [← HM.out, mrg, if_neg (by rw [← hr.out]; omega), if_pos (by rw [← hr.out]; exact h)]; simp⟩
   have HM3 : Keep (0 < r → O ++ [y] ++ mrg (x :: A) B = F) := ⟨fun h => by rw [← HM.out, mrg, if_neg (by rw [← hr.out]; omega), if_neg (by rw [← hr.out]; omega)]; simp⟩
   simp only [List.length_cons] at hca hcb hlen
   generalize encH x = CA at *
   generalize encH y = CB at *
   clear hone hr HM
   have HBel : Keep (Below w2.heap.size w2 wr) := ⟨hBel⟩
   have hD0 : Below wr.heap.size wr wr.drew := (Below.refl _ _).drew
   have HO5 : Keep (∀ w5 o, Below wr.heap.size wr w5 → (w5.alloc o).ownsRow w2.heap.size 36 32 u5 O.length (flatH O)) := ⟨fun w5 o h => World.ownsRow.alloc (w := w5) (ownsH_below hown h) o⟩
   have hblk := ownsH_block hown
   clear hown hBel
   simp only [List.length_cons]
   have p1 : (0 : Int) < ((A.length + 1 : Nat) : Int) := by omega
   have p2 : (0 : Int) < ((B.length + 1 : Nat) : Int) := by omega
   have p3 : (1 : Int) ≤ ((A.length + 1 : Nat) : Int) := by omega
   have p4 : (1 : Int) ≤ ((B.length + 1 : Nat) : Int) := by omega
   go_wp2
   refine wp_region_held_drew (S := fun w' => w'.rangeAt ba oa CA ∧ w'.rangeAt bb ob CB) (by kernel_rfl) (HS.out _ hD0) (fun hHeld => ?_)
   refine tkS (i := 0) (oi := ⟨some 33, Op.move (Operand.tmp 3), 37, _, _, none⟩) (v := Value.slice (some ⟨ba, oa, none⟩) (A.length + 1) ca) rfl (Or.inl ⟨by rfl, fun w hS => by go_simp⟩) hHeld ?_
   refine tkS (i := 1) (oi := ⟨some 34, Op.indexAddr 37 (Operand.tmp 33) (Operand.const (Value.int IntKind.i64 0)), 0, _, _, none⟩) (v := .pointer (some ⟨ba, oa, none⟩)) rfl (Or.inl ⟨by rfl, fun w hS => by go_simp⟩) hHeld ?_
   refine tkS (i := 2) (oi := ⟨some 35, Op.load 36 (Operand.tmp 34), 36, _, _, none⟩) (v := .agg (CA).toArray) rfl (yieldsIf_load_mid (by rfl) 36 (Operand.tmp 34) rfl ba oa rfl CA _ (fun w hS => hS.1) hu rfl hi1) hHeld ?_
   refine tkS (i := 3) (oi := ⟨some 36, Op.move (Operand.tmp 4), 37, _, _, none⟩) (v := Value.slice (some ⟨bb, ob, none⟩) (B.length + 1) cb) rfl (Or.inl ⟨by rfl, fun w hS => by go_simp⟩) hHeld ?_
   refine tkS (i := 4) (oi := ⟨some 37, Op.indexAddr 37 (Operand.tmp 36) (Operand.const (Value.int IntKind.i64 0)), 0, _, _, none⟩) (v := .pointer (some ⟨bb, ob, none⟩)) rfl (Or.inl ⟨by rfl, fun w hS => by go_simp⟩) hHeld ?_
   refine tkS (i := 5) (oi := ⟨some 38, Op.load 36 (Operand.tmp 37), 36, _, _, none⟩) (v := .agg (CB).toArray) rfl (yieldsIf_load_mid (by rfl) 36 (Operand.tmp 37) rfl bb ob rfl CB _ (fun w hS => hS.2) hu rfl hi2) hHeld ?_
   refine wpAnyH_ready (rs := [6]) (by kernel_rfl) (by simp) ?_
   refine AllReadyH.cons (o := ⟨some 39, Op.call { callee := Callee.value (Operand.func 57), args := #[Operand.tmp 35, Operand.tmp 38], argTypes := #[36, 36] }, 3, _, _, none⟩) rfl (fun K hK => ?_) AllReadyH.nil
   rw [if_pos (by rfl)]
   refine wp_callF 57 #[.tmp 35, .tmp 38] #[36, 36] rfl Try.enter57 #[.agg CA.toArray, .agg CB.toArray] (by simp [Act.eval]) (fun v w' => v = .int .i64 r ∧ Below wr.drew.heap.size wr.drew w') ((HC.out wr.drew).mono fun e w' h => ⟨_, h.1, rfl, h.2⟩) ?_
   rintro v w5 ⟨rfl, hb5⟩
   have hB5 : Below wr.heap.size wr w5 := hD0.trans (hb5.mono hD0.size)
   refine hK.out _ _ (HS.out _ hB5) fun hHeld5 => ?_
   clear hK
   simp only [Act.put, pqA, pqB, pqC]
   refine tkS (i := 7) (oi := ⟨some 6, Op.assign (Operand.tmp 39), 3, _, _, none⟩) (v := .int .i64 r) rfl (Or.inl ⟨by rfl, fun w hS => by go_simp⟩) hHeld5 ?_
   refine wpAnyH_done (by kernel_rfl) ?_ _
   have HZ : Keep (∀ o, w2.heap.size ≤ (w5.alloc o).heap.size) := ⟨fun o => by have := hB5.size; simp; omega⟩
   have HBE : Keep (∀ o w7, (w5.alloc o).grownBy w7 u5.ownBlock → Below w2.heap.size w2 w7) := ⟨fun o w7 hg => by
    have h5 := HBel.out.trans (hB5.mono hsz)
    exact (h5.alloc h5.size o).grown hg (HZ.out o) hblk⟩
   rcases Int.lt_trichotomy r 0 with hr | hr | hr
   ·have m1 := HM1.out hr
    have HMM : Keep (O ++ [x] ++ mrg A (y :: B) = F) := ⟨m1⟩
    clear HM1 HM2 HM3 m1
    have d1 : r ≤ 0 := by omega
    have d2 : ¬ (0 ≤ r) := by omega
    go_wp2_with (first | (refine wpList_load_mid rfl 36 (.tmp 44) rfl ba oa rfl CA (.array 32 5) (HS.out _ hB5).1 hu rfl hi1 ?_; refine wpList_bs rfl 37 1 #[(0, .tmp 45)] rfl #[(0, .agg CA.toArray)] (by simp [Act.eval, Act.put]) _ _ (hbsA _) ?_; refine wpList_appH rfl (.tmp 42) (.tmp 46) rfl w2.heap.size u5 _ O [x] rfl rfl (HO5.out _ _ hB5) (HOA.out _) (by simp only [List.length_cons, List.length_nil]; omega) (HZ.out _) ?_; intro v7 w7 hown7 hgr7))
    refine ⟨⟨A, y :: B, O ++ [x], HTA.out, HRB.out, hown7, HMM.out, (by simp only [List.length_append, List.length_cons, List.length_nil]; omega), (HBE.out _ _ hgr7)⟩, by simp only [lenV]; omega⟩
   ·have m1 := HM2.out hr
    have HMM : Keep (O ++ [x] ++ mrg A B = F) := ⟨m1⟩
    clear HM1 HM2 HM3 m1
    have d1 : r ≤ 0 := by omega
    have d2 : 0 ≤ r := by omega
    clear hr
    go_wp2_with (first | (refine wpList_load_mid rfl 36 (.tmp 44) rfl ba oa rfl CA (.array 32 5) (HS.out _ hB5).1 hu rfl hi1 ?_; refine wpList_bs rfl 37 1 #[(0, .tmp 45)] rfl #[(0, .agg CA.toArray)] (by simp [Act.eval, Act.put]) _ _ (hbsA _) ?_; refine wpList_appH rfl (.tmp 42) (.tmp 46) rfl w2.heap.size u5 _ O [x] rfl rfl (HO5.out _ _ hB5) (HOA.out _) (by simp only [List.length_cons, List.length_nil]; omega) (HZ.out _) ?_; intro v7 w7 hown7 hgr7))
    refine ⟨⟨A, B, O ++ [x], HTA.out, HTB.out, hown7, HMM.out, (by simp only [List.length_append, List.length_cons, List.length_nil]; omega), (HBE.out _ _ hgr7)⟩, by simp only [lenV]; omega⟩
   ·have m1 := HM3.out hr
    have HMM : Keep (O ++ [y] ++ mrg (x :: A) B = F) := ⟨m1⟩
    clear HM1 HM2 HM3 m1
    have d1 : ¬ (r ≤ 0) := by omega
    have d2 : 0 ≤ r := by omega
    go_wp2_with (first | (refine wpList_load_mid rfl 36 (.tmp 52) rfl bb ob rfl CB (.array 32 5) (HS.out _ hB5).2 hu rfl hi2 ?_; refine wpList_bs rfl 37 1 #[(0, .tmp 53)] rfl #[(0, .agg CB.toArray)] (by simp [Act.eval, Act.put]) _ _ (hbsB _) ?_; refine wpList_appH rfl (.tmp 50) (.tmp 54) rfl w2.heap.size u5 _ O [y] rfl rfl (HO5.out _ _ hB5) (HOB.out _) (by simp only [List.length_cons, List.length_nil]; omega) (HZ.out _) ?_; intro v7 w7 hown7 hgr7))
    refine ⟨⟨x :: A, B, O ++ [y], HRA.out, HTB.out, hown7, HMM.out, (by simp only [List.length_append, List.length_cons, List.length_nil]; omega), (HBE.out _ _ hgr7)⟩, by simp only [lenV]; omega⟩

/-- The document's Sort. -/
theorem refSort_any : ∀ (n : Nat) (v : Value) (L : List Hs) (w : World), L.length = n → HRow w v L → n ≤ 4398046511104 → Calls Try.prog 16 #[v] w (SortPost L w) := by
 intro n
 induction n using Nat.strongRecOn with
 | _ n ih =>
  intro v L w hL hr hn
  by_cases h2 : L.length < 2
  ·exact refSort_short v L w hr h2
  ·obtain ⟨a, c, rfl⟩ := hr.form
   obtain ⟨b, off, rfl, _, hc, hx⟩ := hr.at (by omega)
   subst hL
   exact refSort_step L.length b off c L w rfl hx (by omega) hn hc fun v M w hM hr => ih M.length hM v M w rfl hr (by omega)
end Go.Proofs.Ytogmdfhicbmplaa
namespace Go.Proofs.Ytogmdfhicbmplaa
open Go.Shelf

def Try.sortH_ren : Go.Shelf.Ren := ⟨fun | 6 => 89 | 15 => 96 | 14 => 95 | 28 => 107 | 29 => 108 | 20 => 99 | 21 => 100 | 22 => 101 | 23 => 102 | 24 => 103 | 25 => 104 | 26 => 105 | 27 => 106 | 46 => 110 | 47 => 111 | 48 => 112 | 49 => 113 | 50 => 114 | 57 => 115 | n => n, fun | 22 => 37 | 24 => 36 | 25 => 84 | 3 => 3 | 39 => 83 | 0 => 0 | 53 => 117 | 55 => 119 | 4 => 4 | 46 => 111 | 45 => 110 | 50 => 99 | 5 => 5 | 9 => 9 | 66 => 120 | 70 => 124 | 76 => 126 | 77 => 127 | n => n, fun | n => n⟩
theorem Try.sortH : Go.Proofs.SlLaysF0.n6 Try.prog Try.sortH_ren := {
 mixed := by kernel_rfl
 f6 := ⟨Try.f89.name, by decide, Try.func89.trans (congrArg some (by kernel_rfl))⟩
 f14 := ⟨Try.f95.name, by decide, Try.func95.trans (congrArg some (by kernel_rfl))⟩
 f15 := Try.func96.trans (congrArg some (by kernel_rfl))
 f20 := ⟨Try.f99.name, by decide, Try.func99.trans (congrArg some (by kernel_rfl))⟩
 f21 := ⟨Try.f100.name, by decide, Try.func100.trans (congrArg some (by kernel_rfl))⟩
 f22 := ⟨Try.f101.name, by decide, Try.func101.trans (congrArg some (by kernel_rfl))⟩
 f23 := ⟨Try.f102.name, by decide, Try.func102.trans (congrArg some (by kernel_rfl))⟩
 f24 := ⟨Try.f103.name, by decide, Try.func103.trans (congrArg some (by kernel_rfl))⟩
 f25 := ⟨Try.f104.name, by decide, Try.func104.trans (congrArg some (by kernel_rfl))⟩
 f26 := ⟨Try.f105.name, by decide, Try.func105.trans (congrArg some (by kernel_rfl))⟩
 f27 := ⟨Try.f106.name, by decide, Try.func106.trans (congrArg some (by kernel_rfl))⟩
 f28 := Try.func107.trans (congrArg some (by kernel_rfl))
 f29 := Try.func108.trans (congrArg some (by kernel_rfl))
 f46 := ⟨Try.f110.name, by decide, Try.func110.trans (congrArg some (by kernel_rfl))⟩
 f47 := Try.func111.trans (congrArg some (by kernel_rfl))
 f48 := Try.func112.trans (congrArg some (by kernel_rfl))
 f49 := ⟨Try.f113.name, by decide, Try.func113.trans (congrArg some (by kernel_rfl))⟩
 f50 := ⟨Try.f114.name, by decide, Try.func114.trans (congrArg some (by kernel_rfl))⟩
 f57 := ⟨Try.f115.name, by decide, Try.func115.trans (congrArg some (by kernel_rfl))⟩
 t0 := Try.underlying0
 a0 := Try.isAgg0
 z0 := Try.sizeOf0
 v0 := Try.zeroValue0
 t3 := Try.underlying3
 a3 := Try.isAgg3
 z3 := Try.sizeOf3
 v3 := Try.zeroValue3
 t4 := Try.underlying4
 a4 := Try.isAgg4
 z4 := Try.sizeOf4
 v4 := Try.zeroValue4
 t5 := Try.underlying5
 a5 := Try.isAgg5
 z5 := Try.sizeOf5
 v5 := Try.zeroValue5
 t9 := Try.underlying9
 a9 := Try.isAgg9
 z9 := Try.sizeOf9
 v9 := Try.zeroValue9
 t22 := Try.underlying37
 a22 := Try.isAgg37
 z22 := Try.sizeOf37
 v22 := Try.zeroValue37
 t25 := Try.underlying84
 a25 := Try.isAgg84
 z25 := Try.sizeOf84
 v25 := Try.zeroValue84
 t39 := Try.underlying83
 a39 := Try.isAgg83
 z39 := Try.sizeOf83
 v39 := Try.zeroValue83
 t45 := Try.underlying110
 a45 := Try.isAgg110
 z45 := Try.sizeOf110
 v45 := Try.zeroValue110
 t46 := Try.underlying111
 a46 := Try.isAgg111
 z46 := Try.sizeOf111
 v46 := Try.zeroValue111
 t50 := Try.underlying99
 a50 := Try.isAgg99
 z50 := Try.sizeOf99
 v50 := Try.zeroValue99
 t53 := Try.underlying117
 a53 := Try.isAgg117
 z53 := Try.sizeOf117
 v53 := Try.zeroValue117
 t55 := Try.underlying119
 a55 := Try.isAgg119
 z55 := Try.sizeOf119
 v55 := Try.zeroValue119
 t66 := Try.underlying120
 a66 := Try.isAgg120
 z66 := Try.sizeOf120
 v66 := Try.zeroValue120
 t70 := Try.underlying124
 a70 := Try.isAgg124
 z70 := Try.sizeOf124
 v70 := Try.zeroValue124
 t76 := Try.underlying126
 a76 := Try.isAgg126
 z76 := Try.sizeOf126
 v76 := Try.zeroValue126
 t77 := Try.underlying127
 a77 := Try.isAgg127
 z77 := Try.sizeOf127
 v77 := Try.zeroValue127 }

end Go.Proofs.Ytogmdfhicbmplaa
namespace Go.Proofs.Ytogmdfhicbmplaa
open Go.RowKit Go.Sort Go.Shelf

theorem ltOf_iff (x y : Hs) : ltOf cf x y = true ↔ Lt x y := by unfold ltOf Lt; exact decide_eq_true_iff
theorem ltOf_not (x y : Hs) : ltOf cf x y = false ↔ ¬ Lt x y := by unfold ltOf Lt; exact decide_eq_false_iff_not
theorem cf_swo : SWO (ltOf cf) where
 irrefl x := (ltOf_not _ _).2 (Lt.irrefl x)
 trans x y z h1 h2 := (ltOf_iff _ _).2 (((ltOf_iff _ _).1 h1).trans ((ltOf_iff _ _).1 h2))
 ntrans x y z h1 h2 := (ltOf_not _ _).2 fun h3 => by
  have h1 := (ltOf_not _ _).1 h1
  have h2 := (ltOf_not _ _).1 h2
  rcases Lt.tri x y with h | h | h
  ·exact h1 h
  ·subst h; exact h2 h3
  ·exact h2 (h.trans h3)
theorem cf_total (x y : Hs) (h1 : ltOf cf x y = false) (h2 : ltOf cf y x = false) : x = y := by
 rcases Lt.tri x y with h | h | h
 ·exact absurd h ((ltOf_not _ _).1 h1)
 ·exact h
 ·exact absurd h ((ltOf_not _ _).1 h2)

theorem cmpLays22 (blk off size : Nat) (w : World) : CmpLays Try.prog 86 #[] encH 32 cf blk off size w := fun m os dk _ x y => by
 have h := compare_any x y (sortWorldK encH 32 w blk off m dk os)
 rw [← encH_arr, ← encH_arr] at h
 exact h

theorem flatK_flatH (d : Array Hs) : flatK encH 32 d = (flatH d.toList).toArray := by
 refine ext_get! (by simp [flatH_len]) fun t ht => ?_
 rw [size_flatK] at ht
 rw [get_flatK _ _ _ _ ht]
 have hi : t / 32 < d.size := by omega
 have hj : t % 32 < 32 := by omega
 have h1 := flatH_get d.toList (t / 32) (by simpa using hi) (t % 32) hj
 rw [show t / 32 * 32 + t % 32 = t by omega, encH_get _ _ hj] at h1
 have e1 : (flatH d.toList).toArray[t]? = some (.int .u8 (d.toList[t / 32].f (t % 32))) := by rw [List.getElem?_toArray]; exact h1
 have e2 := encH_get d[t / 32]! (t % 32) hj
 simp only [Array.getElem!_eq_getD, Array.getD_eq_getD_getElem?, List.getElem!_eq_getElem?_getD, e1, Option.getD_some]
 simp only [Array.getElem!_eq_getD, Array.getD_eq_getD_getElem?] at e2
 rw [e2]
 simp [hi]

theorem blk_putRow {w : World} {g : Nat} {D E : List Hs} (h : Blk w g 36 (flatH D).toArray) (hl : E.length = D.length) (m : Nat) (os : Array Obj) : Blk (sortWorldK encH 32 w g 0 m E.toArray os) g 36 (flatH E).toArray := by
 unfold sortWorldK putRowK
 rw [show flatK encH 32 E.toArray = (flatH E).toArray from flatK_flatH E.toArray]
 show (grow (putRow id (Go.Sort.ahead w m) g 0 _) os).heap[g]? = _
 rw [heap_grow_old _ _ (by simp [putRow, mapBlock, Go.Sort.ahead]; exact h.lt)]
 unfold putRow mapBlock
 show (w.heap.modify g _)[g]? = _
 rw [Array.getElem?_modify, if_pos rfl]
 have h' : w.heap[g]? = some (.cells (flatH D).toArray 36 (0, 0)) := h
 rw [h']
 simp only [Option.map_some, onCells]
 congr 2
 apply Array.ext_getElem?
 intro k
 unfold putCells
 rw [Array.getElem?_mapIdx]
 have hs : (flatH E).toArray.size = (flatH D).toArray.size := by simp [flatH_len, hl]
 by_cases hk : k < (flatH D).toArray.size
 ·rw [Array.getElem?_eq_getElem hk, Option.map_some, if_pos ⟨by omega, by omega⟩]
  rw [getElem!_pos _ (k - 0) (by omega)]
  simp only [id, Nat.sub_zero]
  exact (Array.getElem?_eq_getElem (xs := (flatH E).toArray) (by simp only [List.size_toArray, flatH_len] at hk ⊢; omega)).symm
 ·rw [Array.getElem?_eq_none (by omega), Array.getElem?_eq_none (by simp only [List.size_toArray, flatH_len] at hk ⊢; omega)]; rfl

theorem below_sort {w : World} {g B : Nat} (E : Array Hs) (hg : B ≤ g) (hB : B ≤ w.heap.size) (m : Nat) (os : Array Obj) : Below B w (sortWorldK encH 32 w g 0 m E os) where
 os := rfl
 tape := rfl
 output := rfl
 size := by
  have := size_sortWorldK_c encH 32 w g 0 m E os
  omega
 block i hi := by
  unfold sortWorldK putRowK
  rw [heap_grow_old _ _ (by simp [putRow, mapBlock, Go.Sort.ahead]; omega)]
  unfold putRow mapBlock
  show (w.heap.modify g _)[i]? = _
  rw [Array.getElem?_modify, if_neg (by omega)]

/-- slices.SortFunc at hashes. -/
theorem sortFunc_any (g cap : Nat) (D : List Hs) (w : World) (h : Blk w g 36 (flatH D).toArray) (hn : D.length ≤ 4398046511104) :
  Calls Try.prog 89 #[.slice (some ⟨g, 0, none⟩) D.length cap, .func (.func 86) #[] #[]] w fun e w' =>
   e = .returned (.tuple #[]) ∧ ∃ E : List Hs, E.length = D.length ∧ E.Pairwise (fun x y => ¬ Lt y x) ∧ (∀ x, x ∈ E ↔ x ∈ D) ∧ Blk w' g 36 (flatH E).toArray ∧ ∀ B, B ≤ g → Below B w w' := by
 have eg : ∀ args w, (callFunc 86 args).run Try.prog w = .ok (.enter 86 args) w := fun args w => Try.enter86 w args
 have hH : HoldsK encH 32 w g 0 D.toArray := by
  unfold HoldsK
  rw [flatK_flatH]
  intro j hj
  rw [Nat.zero_add]
  refine ⟨?_, h.frozen j⟩
  rw [h.cell]
  show (flatH D).toArray[j]? = some (id (flatH D).toArray[j]!)
  rw [getElem!_pos _ j hj]
  exact Array.getElem?_eq_getElem hj
 have hcon := AnyQ.slices_SortFunc_total Try.sortH 32 Try.isAgg36 Try.sizeOf36 encH encH_len (fun x v hv => encH_one x v hv) cf cf_swo 86 #[] g 0 cap D.toArray w eg (cmpLays22 g 0 D.toArray.size w) hH h.lt (by simp; omega) cf_total
 refine Calls.mono (show Calls Try.prog 89 _ _ _ from hcon) fun e w' hh => ?_
 obtain ⟨he, m, os, rfl⟩ := hh
 refine ⟨he, _, ?_, ?_, ?_, blk_putRow h ?_ m os, fun B hB => below_sort _ hB (by have := h.lt; omega) m os⟩
 ·simp
 ·have hs := List.pairwise_mergeSort (le := fun x y : Hs => !(ltOf cf) y x) (fun a b c h1 h2 => by
   have h1 : ltOf cf b a = false := by simpa using h1
   have h2 : ltOf cf c b = false := by simpa using h2
   have h3 := cf_swo.ntrans c b a h2 h1
   simp only [h3, Bool.not_false]) (fun a b => by
   by_cases hx : Lt b a
   ·have h3 := (ltOf_not a b).2 hx.asymm
    simp only [h3, Bool.not_false, Bool.or_true]
   ·have h3 := (ltOf_not b a).2 hx
    simp only [h3, Bool.not_false, Bool.true_or]) D
  exact hs.imp fun {a b} hab => (ltOf_not _ _).1 (by simpa using hab)
 ·intro x
  simp [List.mem_mergeSort]
 ·simp
end Go.Proofs.Ytogmdfhicbmplaa
namespace Go.Proofs.Ytogmdfhicbmplaa
open Go.RowKit Go.Sort

/-- clear of the hashes behind the first k. -/
theorem run_clearH (w : World) (g k m c : Nat) (E : List Hs) (ty : TypeId) (hg : Blk w g 36 (flatH E).toArray) (hl : E.length = k + m) (hm : 0 < m) :
  (Builtin.clear_ #[37] ty #[.slice (some ⟨g, k * 32, none⟩) m c]).run Try.prog w = .ok (.tuple #[]) (w.setRow g (flatH (E.take k ++ List.replicate m default)).toArray) := by
 have hst := run_storeCells_at Try.prog g (k * 32) 36 (flatH (List.replicate m default)) 0 _ w hg (by rw [flatH_len, flatH_arr_size, List.length_replicate]; omega) (flatH_one _)
 have hcur : ((flatH E).toArray.toList.take (k * 32 + 0) ++ flatH (List.replicate m default) ++ (flatH E).toArray.toList.drop (k * 32 + 0 + (flatH (List.replicate m default)).length)).toArray = (flatH (E.take k ++ List.replicate m default)).toArray := by
  rw [flatH_len, List.length_replicate, Nat.add_zero, flatH_app]
  show ((flatH E).take (k * 32) ++ _ ++ (flatH E).drop _).toArray = _
  rw [flatH_take, List.drop_of_length_le (by rw [flatH_len]; omega), List.append_nil]
 rw [hcur] at hst
 obtain ⟨i, hi, hzz⟩ := Option.map_eq_some_iff.1 Try.info36
 simp only [Prod.mk.injEq] at hzz
 obtain ⟨n, rfl⟩ : ∃ n, m = n + 1 := ⟨m - 1, by omega⟩
 simp [Builtin.clear_, run_underlying Try.underlying37, zeroValue, typeInfo, hi, hzz.1, Value.cells, zeroCellsH, hst]

end Go.Proofs.Ytogmdfhicbmplaa
namespace Go.Proofs.Ytogmdfhicbmplaa
open Go.RowKit Go.Sort

theorem grown_below' (w : World) (q B : Nat) : Below B w (w.drewN q) := ⟨rfl, rfl, rfl, Nat.le_refl _, fun _ _ => rfl⟩
theorem take_setH (E : List Hs) (k : Nat) (x : Hs) (hk : k < E.length) : (E.set k x).take (k + 1) = E.take k ++ [x] := by
 rw [List.set_eq_take_append_cons_drop, if_pos hk, List.take_append, List.take_of_length_le (by rw [List.length_take]; omega), List.length_take, Nat.min_eq_left (by omega), show k + 1 - k = 1 by omega]
 simp
theorem once_snoc : ∀ (l : List Hs) (y x : Hs), once (l ++ [y] ++ [x]) = if y = x then once (l ++ [y]) else once (l ++ [y]) ++ [x]
 | [], y, x => by
  by_cases h : y = x
  ·subst h; simp [once]
  ·simp [once, h]
 | [z], y, x => by
  by_cases h1 : z = y
  ·subst h1
   by_cases h : z = x
   ·subst h; simp [once]
   ·simp [once, h]
  ·by_cases h : y = x
   ·subst h; simp [once, h1]
   ·simp [once, h, h1]
 | z :: z2 :: l, y, x => by
  have ih := once_snoc (z2 :: l) y x
  simp only [List.cons_append] at ih ⊢
  rw [once, ih, once]
  by_cases h1 : z = z2
  ·rw [if_pos h1, if_pos h1]
  ·rw [if_neg h1, if_neg h1]
   by_cases h : y = x
   ·rw [if_pos h, if_pos h]
   ·rw [if_neg h, if_neg h]; rfl
theorem once_take (D : List Hs) (s : Nat) (h : s + 1 < D.length) : once (D.take (s + 2)) = if D[s] = D[s + 1] then once (D.take (s + 1)) else once (D.take (s + 1)) ++ [D[s + 1]] := by
 have h1 : D.take (s + 1) = D.take s ++ [D[s]] := (List.take_append_getElem (by omega)).symm
 have h2 : D.take (s + 2) = D.take (s + 1) ++ [D[s + 1]] := (List.take_append_getElem h).symm
 rw [h2, h1, once_snoc]
theorem once_short : ∀ (D : List Hs), D.length < 2 → once D = D
 | [], _ => rfl
 | [_], _ => rfl
 | _ :: _ :: _, h => by simp only [List.length_cons] at h; omega
theorem once_length : ∀ (D : List Hs), (once D).length ≤ D.length
 | [] => Nat.le_refl _
 | [_] => Nat.le_refl _
 | x :: y :: r => by
  have ih := once_length (y :: r)
  rw [once]
  by_cases h : x = y
  ·rw [if_pos h]; simp only [List.length_cons] at ih ⊢; omega
  ·rw [if_neg h]; simp only [List.length_cons] at ih ⊢; omega

theorem blk_rangeH {w : World} {g : Nat} {E : List Hs} (h : Blk w g 36 (flatH E).toArray) (i : Nat) (hi : i < E.length) : w.rangeAt g (i * 32) (encH E[i]) := fun j v hv => by
 have hj : j < 32 := by have := (List.getElem?_eq_some_iff.1 hv).1; rwa [encH_len] at this
 rw [h.cell, List.getElem?_toArray, flatH_get E i hi j hj]; exact hv
theorem blk_range_of {w : World} {g : Nat} {E D : List Hs} (h : Blk w g 36 (flatH E).toArray) (i : Nat) (hi : i < D.length) (he : E[i]? = D[i]?) : w.rangeAt g (i * 32) (encH D[i]) := by
 rw [List.getElem?_eq_getElem hi] at he
 obtain ⟨hi2, he2⟩ := List.getElem?_eq_some_iff.1 he
 rw [← he2]
 exact blk_rangeH h i hi2

theorem wpList_clearH {ops : Array Oper} {rest : List Oper} {o : Oper} {a : Act} {w : World} {Q : Exit → Act → World → Prop} (hgd : o.guard = none) (x : Operand)
  (ho : o.op = .call { callee := .builtin .clear, args := #[x], argTypes := #[37] }) (g k m c : Nat) (E : List Hs) (hx : a.eval x = .slice (some ⟨g, k * 32, none⟩) m c)
  (hg : Blk w g 36 (flatH E).toArray) (hl : E.length = k + m) (hm : 0 < m)
  (h : wpList Try.prog ops Q rest (a.put o.dst (.tuple #[])) (w.setRow g (flatH (E.take k ++ List.replicate m default)).toArray)) : wpList Try.prog ops Q (o :: rest) a w := by
 have hrun := run_clearH w g k m c E o.type hg hl hm
 generalize (flatH (E.take k ++ List.replicate m default)).toArray = G at *
 refine wpList_plain hgd fun K hK => ?_
 unfold Oper.wp
 simp only [execOp, ho, resolve, invoke, builtin, List.map_toArray, List.map_cons, List.map_nil, hx, Sem.run_bind, Sem.run_pure, hrun, Result.andThen_ok]
 exact hK _ _ h

/-- What Compact leaves. -/
def CompPost (g n : Nat) (D : List Hs) (w : World) (e : Ending) (w' : World) : Prop :=
 ∃ (k : Nat) (E : List Hs), e = .returned (.slice (some ⟨g, 0, none⟩) k n) ∧ k ≤ n ∧ E.length = n ∧ E.take k = once D ∧ Blk w' g 36 (flatH E).toArray ∧ ∀ B, B ≤ g → Below B w w'

set_option maxRecDepth 8000 in
set_option maxHeartbeats 400000 in
theorem compact_short (g n : Nat) (D : List Hs) (w : World) (h : Blk w g 36 (flatH D).toArray) (hD : D.length = n) (h2 : n < 2) : Calls Try.prog 90 #[.slice (some ⟨g, 0, none⟩) n n] w (CompPost g n D w) := by
 have H : Keep (Blk w g 36 (flatH D).toArray) := ⟨h⟩
 have HD : Keep (D.length = n) := ⟨hD⟩
 clear h hD
 have h2' : (n : Int) < 2 := by omega
 go_enter Try.func90, Try.ntmps90
 go_wp2
 go_ret
 exact ⟨n, D, rfl, Nat.le_refl _, HD.out, by rw [List.take_of_length_le (by rw [HD.out]; omega), once_short D (by rw [HD.out]; exact h2)], H.out, fun B hB => Below.refl _ _⟩

set_option maxRecDepth 8000 in
set_option maxHeartbeats 1000000 in
theorem compact_walk (g n : Nat) (D : List Hs) (w : World) (h : Blk w g 36 (flatH D).toArray) (hD : D.length = n) (h2 : 2 ≤ n) (hn : n ≤ 4398046511104) : Calls Try.prog 90 #[.slice (some ⟨g, 0, none⟩) n n] w (CompPost g n D w) := by
 have H : Keep (Blk w g 36 (flatH D).toArray) := ⟨h⟩
 have HD : Keep (D.length = n) := ⟨hD⟩
 have hu := Try.underlying36
 clear h hD
 have h2' : ¬ ((n : Int) < 2) := by omega
 go_enter Try.func90, Try.ntmps90
 go_wp2
 go_loopw [3] (fun i wr => ∃ k q : Nat, 1 ≤ k ∧ k ≤ n ∧ i = .int .i64 (k : Int) ∧ once (D.take k) = D.take k ∧ wr = w.drewN q) (fun i _ => n - (intOf i).toNat)
 case atStart => exact ⟨1, 0, by omega, by omega, rfl, once_short _ (by rw [List.length_take]; omega), by rw [World.drewN_zero]⟩
 case round =>
  obtain ⟨k0, q, hk1, hkn, rfl, hon, rfl⟩ := hrel
  have HON : Keep (once (D.take k0) = D.take k0) := ⟨hon⟩
  clear hon
  by_cases hlt : k0 < n
  ·obtain ⟨s, hs⟩ : ∃ s, Keep (k0 = s + 1) := ⟨k0 - 1, ⟨by omega⟩⟩
   have l1 : k0 < D.length := by rw [HD.out]; exact hlt
   have l2 : s < D.length := by have := hs.out; omega
   have heq := run_eqlL D[k0] D[s]
   have cA : (w.drewN q).drew.rangeAt g (k0 * 32) (encH D[k0]) := rangeAt_drew (rangeAt_drewN (blk_rangeH H.out k0 l1))
   have cB : (w.drewN q).drew.rangeAt g (s * 32) (encH D[s]) := rangeAt_drew (rangeAt_drewN (blk_rangeH H.out s l2))
   have hi1 := Try.size36L D[k0]
   have hi2 := Try.size36L D[s]
   obtain ⟨E, hE⟩ : ∃ E, Keep (E = decide (D[k0] = D[s])) := ⟨_, ⟨rfl⟩⟩
   rw [← hE.out] at heq
   have HE : Keep (E = false → once (D.take (k0 + 1)) = D.take (k0 + 1)) := ⟨fun h => by
    have h1 := hE.out; rw [h] at h1
    have h3 := hs.out
    subst h3
    rw [once_take D s l1, if_neg (fun e => of_decide_eq_false h1.symm e.symm), HON.out]
    exact List.take_append_getElem l1⟩
   have HF : Keep (E = true → once (D.take (k0 + 1)) = D.take k0) := ⟨fun h => by
    have h1 := hE.out; rw [h] at h1
    have h3 := hs.out
    subst h3
    rw [once_take D s l1, if_pos (of_decide_eq_true h1.symm).symm, HON.out]⟩
   clear hE
   generalize encH D[k0] = CA at *
   generalize encH D[s] = CB at *
   obtain ⟨wn, hwn⟩ : ∃ wn, Keep (w.drewN q = wn) := ⟨_, ⟨rfl⟩⟩
   rw [hwn.out] at cA cB ⊢
   have hsn : s < n := by have := hs.out; omega
   have f1 : (k0 : Int) < (n : Int) := by omega
   have f2 : (k0 : Int) - 1 = (s : Int) := by have := hs.out; omega
   have f3 : IntKind.i64.wrap (s : Int) = (s : Int) := by rw [IntKind.wrap_i64]; omega
   have f4 : (s : Int) < (n : Int) := by omega
   clear l1 l2
   go_wp2
   refine wp_region_held_drew (S := fun w' => w'.rangeAt g (k0 * 32) CA ∧ w'.rangeAt g (s * 32) CB) (by kernel_rfl) ⟨cA, cB⟩ (fun hHeld => ?_)
   refine tkS (i := 0) (oi := ⟨some 16, Op.move (Operand.tmp 0), 37, _, _, none⟩) (v := Value.slice (some ⟨g, 0, none⟩) n n) rfl (Or.inl ⟨by rfl, fun w hS => by go_simp⟩) hHeld ?_
   refine tkS (i := 1) (oi := ⟨some 17, Op.move (Operand.tmp 3), 3, _, _, none⟩) (v := .int .i64 (k0 : Int)) rfl (Or.inl ⟨by rfl, fun w hS => by go_simp⟩) hHeld ?_
   refine tkS (i := 2) (oi := ⟨some 18, Op.indexAddr 37 (Operand.tmp 16) (Operand.tmp 17), 0, _, _, none⟩) (v := .pointer (some ⟨g, k0 * 32, none⟩)) rfl (Or.inl ⟨by rfl, fun w hS => by go_simp⟩) hHeld ?_
   refine tkS (i := 3) (oi := ⟨some 19, Op.load 36 (Operand.tmp 18), 36, _, _, none⟩) (v := .agg (CA).toArray) rfl (yieldsIf_load_mid (by rfl) 36 (Operand.tmp 18) rfl g (k0 * 32) rfl CA _ (fun w hS => hS.1) hu rfl hi1) hHeld ?_
   refine tkS (i := 4) (oi := ⟨some 20, Op.move (Operand.tmp 0), 37, _, _, none⟩) (v := Value.slice (some ⟨g, 0, none⟩) n n) rfl (Or.inl ⟨by rfl, fun w hS => by go_simp⟩) hHeld ?_
   refine tkS (i := 5) (oi := ⟨some 21, Op.move (Operand.tmp 3), 3, _, _, none⟩) (v := .int .i64 (k0 : Int)) rfl (Or.inl ⟨by rfl, fun w hS => by go_simp⟩) hHeld ?_
   refine tkS (i := 6) (oi := ⟨some 22, Op.binOp BinOp.sub 3 (Operand.tmp 21) (Operand.const (Value.int IntKind.i64 1)) 3, 3, _, _, none⟩) (v := .int .i64 (s : Int)) rfl (Or.inl ⟨by rfl, fun w hS => by go_simp⟩) hHeld ?_
   refine tkS (i := 7) (oi := ⟨some 23, Op.indexAddr 37 (Operand.tmp 20) (Operand.tmp 22), 0, _, _, none⟩) (v := .pointer (some ⟨g, s * 32, none⟩)) rfl (Or.inl ⟨by rfl, fun w hS => by go_simp⟩) hHeld ?_
   refine tkS (i := 8) (oi := ⟨some 24, Op.load 36 (Operand.tmp 23), 36, _, _, none⟩) (v := .agg (CB).toArray) rfl (yieldsIf_load_mid (by rfl) 36 (Operand.tmp 23) rfl g (s * 32) rfl CB _ (fun w hS => hS.2) hu rfl hi2) hHeld ?_
   refine tkS (i := 9) (oi := ⟨some 25, Op.binOp BinOp.eql 36 (Operand.tmp 19) (Operand.tmp 24) 36, 4, _, _, none⟩) (v := .bool E) rfl (Or.inl ⟨by rfl, fun w hS => by go_simp⟩) hHeld ?_
   refine wpAnyH_done (by kernel_rfl) ?_ _
   have HD1 : Keep (∃ k, wn.drew = w.drewN k) := ⟨_, by rw [← hwn.out, World.drew_drewN]⟩
   cases E with
   | false =>
    have HE2 : Keep (once (D.take (k0 + 1)) = D.take (k0 + 1)) := ⟨HE.out rfl⟩
    clear HF HE
    go_wp2
    go_roundw
    case rel =>
     obtain ⟨k, hk⟩ := HD1.out
     exact ⟨k0 + 1, k, by omega, by omega, by go_num, HE2.out, hk⟩
    case measure => simp [intOf]; omega
   | true =>
    have HF2 : Keep (once (D.take (k0 + 1)) = D.take k0) := ⟨HF.out rfl⟩
    clear HF HE
    have f5 : (k0 : Int) ≤ (n : Int) := by omega
    have f6 : ¬ (n - k0 = 0) := by omega
    go_wp2
    have hstart : Blk wn.drew g 36 (flatH D).toArray := by rw [← hwn.out]; exact H.out
    have hstB : ∀ B, B ≤ g → Below B w wn.drew := fun B _ => by rw [← hwn.out]; rw [World.drew_drewN]; exact grown_below' w _ B
    go_loopw [3, 5] (fun a b wr => ∃ (k c d : Nat) (E : List Hs), c = d + 1 ∧ c ≤ n - k0 ∧ 1 ≤ k ∧ k ≤ k0 + d ∧ a = .int .i64 (k : Int) ∧ b = .int .i64 (c : Int) ∧ E.length = n ∧ E.take k = once (D.take (k0 + c)) ∧ (∀ i, k0 + d ≤ i → E[i]? = D[i]?) ∧ Blk wr g 36 (flatH E).toArray ∧ ∀ B, B ≤ g → Below B w wr) (fun _ b _ => n - (intOf b).toNat)
    case atStart => exact ⟨k0, 1, 0, D, rfl, by omega, hk1, by omega, rfl, rfl, HD.out, HF2.out.symm, fun i _ => rfl, hstart, hstB⟩
    case round =>
     clear hstart hstB
     obtain ⟨k, c, d, E, hcd, hc, hk1', hkd, rfl, rfl, hEl, hEt, hEd, hEb, hEB⟩ := hrel
     have HCD : Keep (c = d + 1) := ⟨hcd⟩
     have HEl : Keep (E.length = n) := ⟨hEl⟩
     have HEt : Keep (E.take k = once (D.take (k0 + c))) := ⟨hEt⟩
     have HEd : Keep (∀ i, k0 + d ≤ i → E[i]? = D[i]?) := ⟨hEd⟩
     have HEb : Keep (Blk wr g 36 (flatH E).toArray) := ⟨hEb⟩
     have HEB : Keep (∀ B, B ≤ g → Below B w wr) := ⟨hEB⟩
     have hdn : d + 1 ≤ n - k0 := by omega
     clear hcd hEl hEt hEd hEb hEB
     have g1 : (c : Int) - 1 = (d : Int) := by have := HCD.out; omega
     have g2 : IntKind.i64.wrap (d : Int) = (d : Int) := by rw [IntKind.wrap_i64]; omega
     have g3 : (d : Int) < ((n - k0 : Nat) : Int) := by omega
     have gkn : (k : Int) < (n : Int) := by omega
     obtain ⟨r, hr⟩ : ∃ r, Keep (n - k0 = r) := ⟨_, ⟨rfl⟩⟩
     rw [hr.out] at g3 hc hdn ⊢
     by_cases hcl : c < r
     ·have m1 : k0 + c < D.length := by have := hr.out; rw [HD.out]; omega
      have m2 : k0 + d < D.length := by have := hr.out; rw [HD.out]; omega
      have g4 : (c : Int) < (r : Int) := by omega
      have hneq := run_neqL D[k0 + c] D[k0 + d]
      have cA : wr.drew.rangeAt g (k0 * 32 + c * 32) (encH D[k0 + c]) := by
       rw [← Nat.add_mul]; exact rangeAt_drew (blk_range_of HEb.out (k0 + c) m1 (HEd.out _ (by have := HCD.out; omega)))
      have cB : wr.drew.rangeAt g (k0 * 32 + d * 32) (encH D[k0 + d]) := by
       rw [← Nat.add_mul]; exact rangeAt_drew (blk_range_of HEb.out (k0 + d) m2 (HEd.out _ (Nat.le_refl _)))
      have hi1 := Try.size36L D[k0 + c]
      have hi2 := Try.size36L D[k0 + d]
      obtain ⟨x, hx⟩ : ∃ x, Keep (x = D[k0 + c]) := ⟨_, ⟨rfl⟩⟩
      obtain ⟨T, hT⟩ : ∃ T, Keep (T = !decide (D[k0 + c] = D[k0 + d])) := ⟨_, ⟨rfl⟩⟩
      rw [← hT.out] at hneq
      have HT0 : Keep (T = false → once (D.take (k0 + (c + 1))) = once (D.take (k0 + c))) := ⟨fun h => by
       have h1 := hT.out; rw [h] at h1
       have h3 := HCD.out
       subst h3
       have := once_take D (k0 + d) (by omega)
       have h2 : D[k0 + d + 1] = D[k0 + d] := of_decide_eq_true ((Bool.not_eq_false' _).mp h1.symm)
       rw [show k0 + (d + 1 + 1) = k0 + d + 2 by omega, this, if_pos h2.symm]
       rfl⟩
      have HT1 : Keep (T = true → once (D.take (k0 + (c + 1))) = once (D.take (k0 + c)) ++ [x]) := ⟨fun h => by
       have h1 := hT.out; rw [h] at h1
       have h3 := HCD.out
       subst h3
       have := once_take D (k0 + d) (by omega)
       have h2 : ¬ D[k0 + d + 1] = D[k0 + d] := of_decide_eq_false ((Bool.not_eq_true' _).mp h1.symm)
       rw [show k0 + (d + 1 + 1) = k0 + d + 2 by omega, this, if_neg (fun e => h2 e.symm), hx.out]
       rfl⟩
      have HX : Keep (E[k0 + c]? = some x) := ⟨by rw [HEd.out _ (by have := HCD.out; omega), List.getElem?_eq_getElem m1, hx.out]⟩
      rw [← hx.out] at hneq cA hi1
      clear hT hx
      obtain ⟨CA, hCA⟩ : ∃ CA, Keep (encH x = CA) := ⟨_, ⟨rfl⟩⟩
      rw [hCA.out] at hneq cA hi1
      generalize encH D[k0 + d] = CB at *
      have hrn : r ≤ n := by have := hr.out; omega
      clear m1 m2
      go_wp2
      refine wp_region_held_drew (S := fun w' => w'.rangeAt g (k0 * 32 + c * 32) CA ∧ w'.rangeAt g (k0 * 32 + d * 32) CB) (by kernel_rfl) ⟨cA, cB⟩ (fun hHeld => ?_)
      refine tkS (i := 0) (oi := ⟨some 35, Op.move (Operand.tmp 4), 37, _, _, none⟩) (v := Value.slice (some ⟨g, k0 * 32, none⟩) r r) rfl (Or.inl ⟨by rfl, fun w hS => by go_simp⟩) hHeld ?_
      refine tkS (i := 1) (oi := ⟨some 36, Op.move (Operand.tmp 5), 3, _, _, none⟩) (v := .int .i64 (c : Int)) rfl (Or.inl ⟨by rfl, fun w hS => by go_simp⟩) hHeld ?_
      refine tkS (i := 2) (oi := ⟨some 37, Op.indexAddr 37 (Operand.tmp 35) (Operand.tmp 36), 0, _, _, none⟩) (v := .pointer (some ⟨g, k0 * 32 + c * 32, none⟩)) rfl (Or.inl ⟨by rfl, fun w hS => by go_simp⟩) hHeld ?_
      refine tkS (i := 3) (oi := ⟨some 38, Op.load 36 (Operand.tmp 37), 36, _, _, none⟩) (v := .agg (CA).toArray) rfl (yieldsIf_load_mid (by rfl) 36 (Operand.tmp 37) rfl g (k0 * 32 + c * 32) rfl CA _ (fun w hS => hS.1) hu rfl hi1) hHeld ?_
      refine tkS (i := 4) (oi := ⟨some 39, Op.move (Operand.tmp 4), 37, _, _, none⟩) (v := Value.slice (some ⟨g, k0 * 32, none⟩) r r) rfl (Or.inl ⟨by rfl, fun w hS => by go_simp⟩) hHeld ?_
      refine tkS (i := 5) (oi := ⟨some 40, Op.move (Operand.tmp 5), 3, _, _, none⟩) (v := .int .i64 (c : Int)) rfl (Or.inl ⟨by rfl, fun w hS => by go_simp⟩) hHeld ?_
      refine tkS (i := 6) (oi := ⟨some 41, Op.binOp BinOp.sub 3 (Operand.tmp 40) (Operand.const (Value.int IntKind.i64 1)) 3, 3, _, _, none⟩) (v := .int .i64 (d : Int)) rfl (Or.inl ⟨by rfl, fun w hS => by go_simp⟩) hHeld ?_
      refine tkS (i := 7) (oi := ⟨some 42, Op.indexAddr 37 (Operand.tmp 39) (Operand.tmp 41), 0, _, _, none⟩) (v := .pointer (some ⟨g, k0 * 32 + d * 32, none⟩)) rfl (Or.inl ⟨by rfl, fun w hS => by go_simp⟩) hHeld ?_
      refine tkS (i := 8) (oi := ⟨some 43, Op.load 36 (Operand.tmp 42), 36, _, _, none⟩) (v := .agg (CB).toArray) rfl (yieldsIf_load_mid (by rfl) 36 (Operand.tmp 42) rfl g (k0 * 32 + d * 32) rfl CB _ (fun w hS => hS.2) hu rfl hi2) hHeld ?_
      refine tkS (i := 9) (oi := ⟨some 44, Op.binOp BinOp.neq 36 (Operand.tmp 38) (Operand.tmp 43) 36, 4, _, _, none⟩) (v := .bool T) rfl (Or.inl ⟨by rfl, fun w hS => by go_simp⟩) hHeld ?_
      refine wpAnyH_done (by kernel_rfl) ?_ _
      cases T with
      | false =>
       have HT2 : Keep (once (D.take (k0 + (c + 1))) = once (D.take (k0 + c))) := ⟨HT0.out rfl⟩
       clear HT0 HT1
       go_wp2
       go_roundw
       case rel => exact ⟨k, c + 1, c, E, rfl, by omega, hk1', by have := HCD.out; omega, rfl, by go_num, HEl.out, by rw [HT2.out]; exact HEt.out, fun i hi => HEd.out i (by have := HCD.out; omega), HEb.out, fun B hB => (HEB.out B hB).drew⟩
       case measure => simp [intOf]; omega
      | true =>
       have HT2 : Keep (once (D.take (k0 + (c + 1))) = once (D.take (k0 + c)) ++ [x]) := ⟨HT1.out rfl⟩
       clear HT0 HT1
       have HBW : Keep (Blk wr.drew g 36 (flatH E).toArray) := HEb
       have cA2 : wr.drew.rangeAt g (k0 * 32 + c * 32) CA := cA
       go_wp2_with (first | (refine wpList_load_mid rfl 36 (.tmp 49) rfl g (k0 * 32 + c * 32) rfl CA (.array 32 5) cA2 hu rfl hi1 ?_) | (refine wpList_storeH rfl (.tmp 51) (.tmp 50) rfl g k x E rfl (by rw [hCA.out]; rfl) HBW.out (by rw [HEl.out]; omega) ?_))
       have HBn : Keep (Blk (wr.drew.setRow g (flatH (E.set k x)).toArray) g 36 (flatH (E.set k x)).toArray) := ⟨HBW.out.setRow _⟩
       have HBB : Keep (∀ B, B ≤ g → Below B w (wr.drew.setRow g (flatH (E.set k x)).toArray)) := ⟨fun B hB => below_setRow (HEB.out B hB).drew hB _⟩
       refine ⟨⟨k + 1, c + 1, c, E.set k x, rfl, by omega, by omega, by have := HCD.out; omega, by go_num, by go_num, by rw [List.length_set]; exact HEl.out, ?_, ?_, HBn.out, HBB.out⟩, by simp [intOf]; omega⟩
       ·rw [HT2.out, ← HEt.out, take_setH E k x (by rw [HEl.out]; omega)]
       ·intro i hi
        rw [List.getElem?_set_ne (by have := HCD.out; omega)]
        exact HEd.out i (by have := HCD.out; omega)
     ·have hce : c = r := by omega
      have HFin : Keep (E.take k = once D) := ⟨by
       rw [HEt.out, List.take_of_length_le (by have := hr.out; rw [HD.out]; omega)]⟩
      have g4 : ¬ ((c : Int) < (r : Int)) := by omega
      have hkn : k < n := by have := hr.out; omega
      have g5 : (k : Int) ≤ (n : Int) := by omega
      have g6 : ¬ (n - k = 0) := by omega
      have HBn : Keep (Blk (wr.setRow g (flatH (E.take k ++ List.replicate (n - k) default)).toArray) g 36 (flatH (E.take k ++ List.replicate (n - k) default)).toArray) := ⟨HEb.out.setRow _⟩
      have HBB : Keep (∀ B, B ≤ g → Below B w (wr.setRow g (flatH (E.take k ++ List.replicate (n - k) default)).toArray)) := ⟨fun B hB => below_setRow (HEB.out B hB) hB _⟩
      have hlk : E.length = k + (n - k) := by rw [HEl.out]; omega
      have HLK : Keep (E.length = k + (n - k)) := ⟨hlk⟩
      clear hlk
      go_wp2_with (refine wpList_clearH rfl (.tmp 56) rfl g k (n - k) (n - k) E rfl HEb.out HLK.out (by omega) ?_)
      go_ret
      have hlt2 : (E.take k).length = k := by rw [List.length_take, HEl.out]; omega
      refine ⟨k, E.take k ++ List.replicate (n - k) default, rfl, by omega, by rw [List.length_append, hlt2, List.length_replicate]; omega, ?_, HBn.out, HBB.out⟩
      rw [List.take_append, hlt2, Nat.sub_self, List.take_zero, List.append_nil, List.take_of_length_le (by omega), HFin.out]
  ·obtain rfl : k0 = n := by omega
   have HBB : Keep (∀ B, B ≤ g → Below B w (w.drewN q)) := ⟨fun B _ => grown_below' w q B⟩
   go_wp2
   go_ret
   refine ⟨k0, D, rfl, Nat.le_refl _, HD.out, ?_, H.out, HBB.out⟩
   have h := HON.out
   rw [List.take_of_length_le (by rw [HD.out]; exact Nat.le_refl _)] at h
   rw [List.take_of_length_le (by rw [HD.out]; exact Nat.le_refl _), h]

/-- slices.Compact at hashes. -/
theorem compact_any (g n : Nat) (D : List Hs) (w : World) (h : Blk w g 36 (flatH D).toArray) (hD : D.length = n) (hn : n ≤ 4398046511104) : Calls Try.prog 90 #[.slice (some ⟨g, 0, none⟩) n n] w (CompPost g n D w) := by
 by_cases h2 : n < 2
 ·exact compact_short g n D w h hD h2
 ·exact compact_walk g n D w h hD (by omega) hn
end Go.Proofs.Ytogmdfhicbmplaa
namespace Go.Proofs.Ytogmdfhicbmplaa
open Go.RowKit Go.Sort

set_option maxRecDepth 8000 in
set_option maxHeartbeats 1000000 in
/-- sha.Sort. -/
theorem sort_any (v : Value) (L : List Hs) (w : World) (h : HRow w v L) (hn : L.length ≤ 4398046511104) : Calls Try.prog 77 #[v] w (SortPost L w) := by
 obtain ⟨a, c, hv⟩ := h.form
 obtain ⟨n, hL⟩ : ∃ n, Keep (L.length = n) := ⟨_, ⟨rfl⟩⟩
 have hn' : n ≤ 4398046511104 := by rw [← hL.out]; exact hn
 obtain ⟨M, hM⟩ : ∃ M, Keep (madeCells (bytesA 32 fun _ => 0) (n * 32) = M) := ⟨_, ⟨rfl⟩⟩
 have HMS : Keep (M.size = L.length * 32) := ⟨by rw [← hM.out, size_madeCells, hL.out]⟩
 have HV : Keep (v = .slice a n c) := ⟨by rw [← hL.out]; exact hv⟩
 have HR : Keep (HRow (w.alloc (.cells M 36)) v L) := ⟨h.below (below_new w _)⟩
 have HB0 : Keep (Blk (w.alloc (.cells M 36)) w.heap.size 36 M) := ⟨Blk.new _ _ _⟩
 have HBel : Keep (Below w.heap.size w (w.alloc (.cells M 36))) := ⟨below_new w _⟩
 rw [HV.out]
 clear h hv hn
 go_enter Try.func77, Try.ntmps77
 go_wp2_with (first | (refine wpList_makeH rfl (.tmp 5) (.tmp 5) rfl n hn' rfl rfl ?_; rw [hM.out]) | (refine wpList_copyH rfl (.tmp 7) (.tmp 8) rfl w.heap.size n v L M (by rw [hL.out]; rfl) (by rw [HV.out]; rfl) HB0.out HMS.out HR.out ?_))
 have HB1 : Keep (Blk ((w.alloc (.cells M 36)).setRow w.heap.size (flatH L).toArray) w.heap.size 36 (flatH L).toArray) := ⟨HB0.out.setRow _⟩
 have HBel1 : Keep (Below w.heap.size w ((w.alloc (.cells M 36)).setRow w.heap.size (flatH L).toArray)) := ⟨below_setRow HBel.out (Nat.le_refl _) _⟩
 generalize (w.alloc (.cells M 36)).setRow w.heap.size (flatH L).toArray = w1 at *
 have hs := sortFunc_any w.heap.size n L w1 HB1.out (by rw [hL.out]; exact hn')
 rw [hL.out] at hs
 go_wp2_with fail
 refine hs.mono ?_
 rintro e w2 ⟨rfl, E, hEl, hEs, hEm, hEb, hEB⟩
 have HE : Keep (E.length = L.length ∧ E.Pairwise (fun x y => ¬ Lt y x) ∧ (∀ x, x ∈ E ↔ x ∈ L)) := ⟨by rw [hEl, hL.out], hEs, hEm⟩
 have HEb : Keep (Blk w2 w.heap.size 36 (flatH E).toArray) := ⟨hEb⟩
 have HBel2 : Keep (Below w.heap.size w w2) := ⟨HBel1.out.trans (hEB _ (Nat.le_refl _))⟩
 clear hEl hEs hEm hEb hEB hs
 go_wp2_with fail
 refine (compact_any w.heap.size n E w2 HEb.out (by rw [HE.out.1, hL.out]) hn').mono ?_
 rintro e w3 ⟨k, F, rfl, hkn, hFl, hFt, hFb, hFB⟩
 have HK : Keep (SortPost L w (.returned (.slice (some ⟨w.heap.size, 0, none⟩) k n)) w3) := ⟨by
  have hk : (once E).length = k := by rw [← hFt, List.length_take, hFl]; omega
  refine ⟨_, once E, rfl, ?_, once_rising E HE.out.2.1, fun x => by rw [once_mem, HE.out.2.2], by have := once_length E; rw [HE.out.1] at this; exact this, HBel2.out.trans (hFB _ (Nat.le_refl _))⟩
  refine ⟨by rw [flatH_len], .inr ⟨w.heap.size, n, (flatH F).toArray, by rw [hk], Nat.le_refl _, hFb, by rw [hk]; exact hkn, by unfold maxLen; omega, by rw [flatH_arr_size, hFl], ?_⟩⟩
  rw [hk, ← hFt]
  exact flatH_take F k⟩
 clear hkn hFl hFt hFb hFB
 go_wp2
 go_ret
 exact HK.out
end Go.Proofs.Ytogmdfhicbmplaa
