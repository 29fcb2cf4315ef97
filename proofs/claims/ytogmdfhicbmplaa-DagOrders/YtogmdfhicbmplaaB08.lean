import Derived.Test.YtogmdfhicbmplaaB07
import Derived.Test.YtogmdfhicbmplaaB02
import Derived.Shelf.SlSortCmp.NoneTotal
namespace Go.Proofs.Ytogmdfhicbmplaa
open Go.RowKit
set_option linter.unusedSimpArgs false
set_option linter.unusedVariables false

/-! ### The calls of a Dag of which DI holds. -/
theorem DI.ol {g : DG} (h : DI g) : g.order.length = g.held.length := by
  have hp : g.order.Perm (g.held.map (·.id)) := (List.perm_ext_iff_of_nodup h.oo.nd h.hn).2 fun x => by
    rw [h.om, hasB_iff, List.mem_map]
  rw [hp.length_eq, List.length_map]
theorem DI.hdl {g : DG} (h : DI g) : g.heads.length ≤ g.held.length := by
  have : g.heads ⊆ g.order := fun x hx => (h.om x).2 ((h.hm x).1 hx).1
  have := (pw_nodup h.hd).length_le_of_subset this
  rw [h.ol] at this; exact this
theorem DI.hM {g : DG} (h : DI g) : ∀ v ∈ g.held, 0 ≤ v.ck ∧ v.ck ≤ 4096 := fun v hv => by have := chk_ok (h.hc v hv); omega
theorem DI.wl {g : DG} (h : DI g) : g.wait.length ≤ 64 := by have := h.ql; have := h.room; omega
theorem DI.qlen {g : DG} (h : DI g) : g.queue.length = g.wait.length := by rw [h.q, List.length_map]
theorem take_any (d : Nat) (v : VX) (p : Value) (Av : Nat → Prop) (g : DG) (w : World) (hD : DagAt w Av d g) (hI : DI g) (hr : HRow w p v.ps) (hk : ∀ k, p.ownBlock = some k → k < w.heap.size ∧ ¬ Av k) (hF : hasB g.held v.id = false) (hc : chkV v = 0) :
    Calls Try.prog 58 #[ptr d, .agg (vtx v.id.f v.ck p)] w fun e w' => e = .returned (.tuple #[]) ∧ ∃ g', Ste w w' Av d g g' ∧ tookG g v g' := by
  have hv := chk_ok hc
  have hol := hI.ol
  have hhl := hI.hdl
  have hl := hI.hl
  have hfl : (g.heads.filter (outB v.ps)).length ≤ g.heads.length := List.length_filter_le _ _
  refine (take_gen d v p Av g w (plc v g.order g.order.length g.order.length) (insL g.order (plc v g.order g.order.length g.order.length) v.id) (g.heads.filter (outB v.ps)) (hdsOf g.heads v) hD hr hk (find_none hF) ?_ (insOk_any _ _ _ (plc_spec v g.order).1 (by omega)) (delOk_any _ _ (pw_inc hv.2.1) (by omega) (by omega)) (pw_inc (hI.hd.filter _)) (by omega) ?_).mono ?_
  · intro w1 Av1 p1 g1 h1 h2 h3
    have := place_any d v p1 Av1 g1 w1 h1 h3 (pw_inc hv.2.1) (by omega) (by rw [h2]; omega)
    rw [h2] at this
    exact this
  · intro i hi h1 h2
    unfold hdsOf
    rw [cnt_at hi h1 h2]
    exact insOk_any _ _ _ hi (by omega)
  · rintro e w' ⟨h1, g', h2, h3⟩
    exact ⟨h1, g', h2, h3⟩
theorem fit_cases (l m : List VX) (v : VX) :
    ((hasB l v.id = true ∨ hasB m v.id = true) ∧ fitV l m v = (1, 0)) ∨ (hasB l v.id = false ∧ hasB m v.id = false ∧ chkV v ≠ 0 ∧ fitV l m v = (0, chkV v)) ∨
    (hasB l v.id = false ∧ hasB m v.id = false ∧ chkV v = 0 ∧ v.ps.all (hasB l) = false ∧ fitV l m v = (3, 0)) ∨ (hasB l v.id = false ∧ hasB m v.id = false ∧ chkV v = 0 ∧ v.ps.all (hasB l) = true ∧ nextE l v ≠ 0 ∧ fitV l m v = (0, nextE l v)) ∨
    (hasB l v.id = false ∧ hasB m v.id = false ∧ chkV v = 0 ∧ v.ps.all (hasB l) = true ∧ nextE l v = 0 ∧ fitV l m v = (2, 0)) := by
  unfold fitV
  by_cases h1 : hasB l v.id = true ∨ hasB m v.id = true
  · rw [if_pos h1]; exact .inl ⟨h1, rfl⟩
  · rw [if_neg h1]
    rw [not_or, Bool.not_eq_true, Bool.not_eq_true] at h1
    by_cases h2 : chkV v ≠ 0
    · rw [if_pos h2]; exact .inr (.inl ⟨h1.1, h1.2, h2, rfl⟩)
    · rw [if_neg h2]
      have h2 := Classical.not_not.1 h2
      by_cases h3 : v.ps.all (hasB l) = false
      · rw [if_pos h3]; exact .inr (.inr (.inl ⟨h1.1, h1.2, h2, h3, rfl⟩))
      · rw [if_neg h3]
        have h3 : v.ps.all (hasB l) = true := by simpa using h3
        by_cases h4 : nextE l v ≠ 0
        · rw [if_pos h4]; exact .inr (.inr (.inr (.inl ⟨h1.1, h1.2, h2, h3, h4, rfl⟩)))
        · rw [if_neg h4]; exact .inr (.inr (.inr (.inr ⟨h1.1, h1.2, h2, h3, Classical.not_not.1 h4, rfl⟩)))
/-- What Add makes of a Dag; ol: those that wait no more. -/
def addG (g : DG) (v : VX) (ol : List Hs) (g' : DG) : Prop :=
  (fitV g.held g.wait v = (2, 0) ∧ tookG g v g' ∧ ol = []) ∨
  (fitV g.held g.wait v = (3, 0) ∧ (g.wait.length : Int) + 1 ≤ g.room ∧ (g'.room = g.room ∧ g'.held = g.held ∧ g'.wait = g.wait ++ [v] ∧ g'.order = g.order ∧ g'.heads = g.heads) ∧ ol = []) ∨
  (fitV g.held g.wait v = (3, 0) ∧ g.room < (g.wait.length : Int) + 1 ∧ ∃ v0, g.wait ++ [v] = v0 :: g'.wait ∧ (g'.room = g.room ∧ g'.held = g.held ∧ g'.order = g.order ∧ g'.heads = g.heads) ∧ ol = [v0.id]) ∨
  ((fitV g.held g.wait v).1 ≠ 2 ∧ (fitV g.held g.wait v).1 ≠ 3 ∧ g' = g ∧ ol = [])
theorem all_iff {l : List VX} {ps : List Hs} : ps.all (hasB l) = true ↔ ∀ p ∈ ps, hasB l p = true := List.all_eq_true
theorem DI.sheds {g g' : DG} {v v0 : VX} (h : DI g) (hc : chkV v = 0) (h1 : hasB g.held v.id = false) (h2 : hasB g.wait v.id = false) (hw : g.wait ++ [v] = v0 :: g'.wait) (hq : g'.queue = g'.wait.map (·.id)) (t : g'.room = g.room ∧ g'.held = g.held ∧ g'.order = g.order ∧ g'.heads = g.heads) : DI g' := by
  obtain ⟨e1, e2, e5, e6⟩ := t
  have hmem : ∀ u ∈ g'.wait, u ∈ g.wait ∨ u = v := fun u hu => by
    have : u ∈ g.wait ++ [v] := by rw [hw]; exact List.mem_cons_of_mem _ hu
    rcases List.mem_append.1 this with h | h
    · exact .inl h
    · exact .inr (List.mem_singleton.1 h)
  have hlen : g'.wait.length = g.wait.length := by
    have := congrArg List.length hw
    simp only [List.length_append, List.length_cons, List.length_nil] at this
    omega
  have hnd : ((g.wait ++ [v]).map (·.id)).Nodup := by
    rw [List.map_append, List.nodup_append]
    refine ⟨h.wn, by simp, fun a ha b hb => ?_⟩
    simp only [List.map_cons, List.map_nil, List.mem_singleton] at hb
    subst hb
    obtain ⟨u, hu, rfl⟩ := List.mem_map.1 ha
    exact hasB_no.1 h2 u hu
  refine ⟨by rw [e1]; exact h.room, by rw [e2]; exact h.hl, by rw [e2]; exact h.hn, ?_, ?_, by rw [e2]; exact h.hc, ?_, hq, by rw [hlen, e1]; exact h.ql, by rw [e2]; exact h.ck, by rw [e2]; exact h.cl, by rw [e5, e2]; exact h.om, by rw [e5, e2]; exact h.oo, by rw [e6]; exact h.hd, by rw [e6, e2]; exact h.hm⟩
  · rw [hw, List.map_cons, List.nodup_cons] at hnd; exact hnd.2
  · rw [e2]
    intro u hu
    rcases hmem u hu with hu | rfl
    · exact h.dj u hu
    · exact h1
  · intro u hu
    rcases hmem u hu with hu | rfl
    · exact h.wc u hu
    · exact hc
theorem add_any (d : Nat) (v : VX) (p : Value) (Av : Nat → Prop) (g : DG) (w : World) (hD : DagAt w Av d g) (hI : DI g) (hr : HRow w p v.ps) (hL : (v.ps.length : Int) ≤ 9223372036854775806) :
    Calls Try.prog 17 #[ptr d, .agg (vtx v.id.f v.ck p)] w fun e w' => ∃ u g' ol, e = .returned (.tuple #[.int .i64 (fitV g.held g.wait v).1, u, .int .i64 (fitV g.held g.wait v).2]) ∧ Ste w w' Av d g g' ∧ DI g' ∧ addG g v ol g' ∧ OwnH w' u ol ∧ (∀ k, u.ownBlock = some k → w.heap.size ≤ k ∧ ¬ DgS d g' k) := by
  have hql := hI.qlen
  have hwl := hI.wl
  have hother : ∀ hw ee, fitV g.held g.wait v = (hw, ee) → ¬ hw = 2 → ¬ hw = 3 → Calls Try.prog 17 #[ptr d, .agg (vtx v.id.f v.ck p)] w fun e w' => ∃ u g' ol, e = .returned (.tuple #[.int .i64 (fitV g.held g.wait v).1, u, .int .i64 (fitV g.held g.wait v).2]) ∧ Ste w w' Av d g g' ∧ DI g' ∧ addG g v ol g' ∧ OwnH w' u ol ∧ (∀ k, u.ownBlock = some k → w.heap.size ≤ k ∧ ¬ DgS d g' k) := by
    intro hw ee hf h1 h2
    refine (add_other d v p Av g w hw ee hD hr hI.hM hL hf ⟨h1, h2⟩).mono ?_
    rintro e w' ⟨rfl, hb⟩
    rw [hf]
    exact ⟨_, g, [], rfl, Ste.refl hD hb, hI, .inr (.inr (.inr ⟨by rw [hf]; exact h1, by rw [hf]; exact h2, rfl, rfl⟩)), ownH_nil _, fun k hk => by cases hk⟩
  rcases fit_cases g.held g.wait v with ⟨_, hf⟩ | ⟨_, _, _, hf⟩ | ⟨h1, h2, h3, h4, hf⟩ | ⟨_, _, _, _, _, hf⟩ | ⟨h1, h2, h3, h4, h5, hf⟩
  · exact hother _ _ hf (by decide) (by decide)
  · exact hother _ _ hf (by decide) (by decide)
  · have hv := chk_ok h3
    by_cases hroom : (g.wait.length : Int) + 1 ≤ g.room
    · refine (add_waits d v p Av g w hD hr hI.hM hL (by omega) hf (find_none h2) (by rw [hql]; exact hroom) (by omega)).mono ?_
      rintro e w' ⟨rfl, g', hs, hg⟩
      rw [hf]
      exact ⟨_, g', [], rfl, hs, hI.waits h3 h1 h2 hroom hg, .inr (.inl ⟨hf, hroom, ⟨hg.1, hg.2.1, hg.2.2.1, hg.2.2.2.2⟩, rfl⟩), ownH_nil _, fun k hk => by cases hk⟩
    · have hre : g.room = (g.wait.length : Int) := by have := hI.ql; omega
      obtain ⟨v0, r, hvr⟩ : ∃ v0 r, g.wait ++ [v] = v0 :: r := by cases hg : g.wait with
        | nil => exact ⟨v, [], rfl⟩
        | cons a b => exact ⟨a, b ++ [v], rfl⟩
      have hrl : r.length = g.wait.length := by
        have := congrArg List.length hvr
        simp only [List.length_append, List.length_cons, List.length_nil] at this
        omega
      refine (add_waitsG d v p Av g w (fun g' => g'.room = g.room ∧ g'.held = g.held ∧ g'.wait = r ∧ g'.queue = r.map (·.id) ∧ g'.order = g.order ∧ g'.heads = g.heads) [v0.id] hD hr hI.hM hL (by omega) hf (find_none h2) (by omega) ?_).mono ?_
      · rintro w1 Av1 g1 hD1 ⟨e1, e2, e3, e4, e5, e6⟩
        refine (shed_one d v0 r Av1 g1 w1 hD1 (by rw [e4, e3, hI.q, List.map_append]; rfl) (by rw [e3, hvr]) (by rw [e1, hre, hrl]) (by rw [e4, List.length_append]; simp; omega)).mono ?_
        rintro e w' ⟨u, g', rfl, hs, ⟨f1, f2, f3, f4, f5, f6⟩, ho, hn⟩
        exact ⟨u, g', rfl, hs, ⟨f1.trans e1, f2.trans e2, f3, f4, f5.trans e5, f6.trans e6⟩, ho, hn⟩
      · rintro e w' ⟨u, g', rfl, hs, ⟨f1, f2, f3, f4, f5, f6⟩, ho, hn⟩
        rw [hf]
        exact ⟨u, g', [v0.id], rfl, hs, hI.sheds h3 h1 h2 (by rw [f3]; exact hvr) (by rw [f3, f4]) ⟨f1, f2, f5, f6⟩, .inr (.inr (.inl ⟨hf, by omega, v0, by rw [f3]; exact hvr, ⟨f1, f2, f5, f6⟩, rfl⟩)), ho, hn⟩
  · exact hother _ _ hf (by decide) (by decide)
  · have hv := chk_ok h3
    refine (add_took d v p Av g w (tookG g v) hD hr hI.hM hL (by omega) hf ?_).mono ?_
    · intro w1 p1 h6 h7 h8
      exact take_any d v p1 Av g w1 h6 hI h7 h8 h1 h3
    · rintro e w' ⟨rfl, g', hs, ht⟩
      rw [hf]
      exact ⟨_, g', [], rfl, hs, hI.took h3 h1 h2 (all_iff.1 h4) h5 ht, .inl ⟨hf, ht, rfl⟩, ownH_nil _, fun k hk => by cases hk⟩
/-- What Settle makes of a Dag. -/
def setG (g : DG) (x : Hs) (g' : DG) : Prop :=
  ((rdyE g.held g.wait x = 6 ∨ rdyE g.held g.wait x = 9) ∧ g' = g) ∨
  (rdyE g.held g.wait x = 0 ∧ ∃ v, g.wait.find? (isV x) = some v ∧ g'.room = g.room ∧ g'.held = g.held ++ [v] ∧ g'.wait = g.wait.eraseP (isV x) ∧ g'.order = insL g.order (plc v g.order g.order.length g.order.length) v.id ∧ g'.heads = hdsOf g.heads v) ∨
  ((rdyE g.held g.wait x = 3 ∨ rdyE g.held g.wait x = 51) ∧ ∃ v, g.wait.find? (isV x) = some v ∧ g'.room = g.room ∧ g'.held = g.held ∧ g'.wait = g.wait.eraseP (isV x) ∧ g'.order = g.order ∧ g'.heads = g.heads)
theorem rdy_cases (l m : List VX) (x : Hs) :
    (m.find? (isV x) = none ∧ rdyE l m x = 6) ∨ ∃ v, m.find? (isV x) = some v ∧ ((v.ps.all (hasB l) = false ∧ rdyE l m x = 9) ∨ (v.ps.all (hasB l) = true ∧ rdyE l m x = nextE l v ∧ (nextE l v = 0 ∨ nextE l v = 3 ∨ nextE l v = 51))) := by
  unfold rdyE
  cases h : m.find? (isV x) with
  | none => exact .inl ⟨rfl, rfl⟩
  | some v =>
    refine .inr ⟨v, rfl, ?_⟩
    by_cases h1 : v.ps.all (hasB l) = true
    · refine .inr ⟨h1, by simp only [h1, if_true], ?_⟩
      unfold nextE
      split
      · exact .inr (.inr rfl)
      · split
        · exact .inr (.inl rfl)
        · exact .inl rfl
    · exact .inl ⟨by simpa using h1, by simp only [h1]; rfl⟩
theorem settle_any (d : Nat) (x : Hs) (Av : Nat → Prop) (g : DG) (w : World) (hD : DagAt w Av d g) (hI : DI g) :
    Calls Try.prog 29 #[ptr d, .agg (bytesA 32 x.f)] w fun e w' => ∃ g', e = .returned (.tuple #[.int .i64 (if rdyE g.held g.wait x = 0 then 2 else 0), .int .i64 (rdyE g.held g.wait x)]) ∧ Ste w w' Av d g g' ∧ DI g' ∧ setG g x g' := by
  have hL : ∀ v, g.wait.find? (isV x) = some v → v.ps.length ≤ 4398046511104 := fun v hv => by have := chk_ok (hI.wc v (List.mem_of_find?_eq_some hv)); omega
  have hQl : g.queue.length ≤ 1000000000 := by have := hI.qlen; have := hI.wl; omega
  rcases rdy_cases g.held g.wait x with ⟨h1, h2⟩ | ⟨v, h1, ⟨h2, h3⟩ | ⟨h2, h3, h4⟩⟩
  · refine (settle_absent d x Av g w hD hI.hM hL h2).mono ?_
    rintro e w' ⟨rfl, hb⟩
    rw [h2]
    exact ⟨g, rfl, Ste.refl hD hb, hI, .inl ⟨.inl h2, rfl⟩⟩
  · refine (settle_state d x Av g w hD hI.hM hL h3).mono ?_
    rintro e w' ⟨rfl, hb⟩
    rw [h3]
    exact ⟨g, rfl, Ste.refl hD hb, hI, .inl ⟨.inr h3, rfl⟩⟩
  · have hx : v.id = x := isV_iff.1 (List.find?_some h1)
    have hwx : hasB g.wait x = true := by unfold hasB; rw [h1]; rfl
    have hvm : v ∈ g.wait := List.mem_of_find?_eq_some h1
    rcases h4 with h4 | h4
    · rw [h4] at h3
      refine (settle_took d x Av g w (fun g' => DI g' ∧ setG g x g') hD hI.hM hL v h1 (hI.ix x) hQl h3 ?_).mono ?_
      · intro w1 p1 Av1 g1 hD1 i hi hg1 hr1 hk1
        have hI1 := hI.forgets hwx hi hg1
        obtain ⟨e1, e2, e3, e4, e5, e6⟩ := hg1
        have hF : hasB g1.held v.id = false := by rw [e2]; exact hI.dj v hvm
        have hW : hasB g1.wait v.id = false := by
          rw [e3, hasB_no, hx]
          exact fun u hu => ((erase_mem hI.wn).1 hu).2
        refine (take_any d v p1 Av1 g1 w1 hD1 hI1 hr1 hk1 hF (hI.wc v hvm)).mono ?_
        rintro e w' ⟨h, g', hs, ht⟩
        refine ⟨h, g', hs, hI1.took (hI.wc v hvm) hF hW (by rw [e2]; exact all_iff.1 h2) (by rw [e2]; exact h4) ht, .inr (.inl ⟨h3, v, h1, ?_⟩)⟩
        obtain ⟨f1, f2, f3, f4, f5, f6⟩ := ht
        exact ⟨f1.trans e1, by rw [f2, e2], by rw [f3, e3], by rw [f5, e5], by rw [f6, e6]⟩
      · rintro e w' ⟨rfl, g', hs, hx⟩
        rw [h3]
        exact ⟨g', rfl, hs, hx.1, hx.2⟩
    · have h5 : nextE g.held v ≠ 6 ∧ nextE g.held v ≠ 9 ∧ nextE g.held v ≠ 0 := by rcases h4 with h4 | h4 <;> rw [h4] <;> decide
      refine (settle_goes d x Av g w (nextE g.held v) hD hI.hM hL v h1 (hI.ix x) hQl h3 h5).mono ?_
      rintro e w' ⟨rfl, i, g', hi, hs, hg⟩
      rw [h3, if_neg h5.2.2]
      exact ⟨g', rfl, hs, hI.forgets hwx hi hg, .inr (.inr ⟨by rw [h3]; exact h4, v, h1, hg.1, hg.2.1, hg.2.2.1, hg.2.2.2.2⟩)⟩
/-- What Forget makes of a Dag. -/
def fgtG (g : DG) (x : Hs) (g' : DG) : Prop := (hasB g.wait x = false ∧ g' = g) ∨ (hasB g.wait x = true ∧ g'.room = g.room ∧ g'.held = g.held ∧ g'.wait = g.wait.eraseP (isV x) ∧ g'.order = g.order ∧ g'.heads = g.heads)
theorem forgets_any (d : Nat) (x : Hs) (Av : Nat → Prop) (g : DG) (w : World) (hD : DagAt w Av d g) (hI : DI g) :
    Calls Try.prog 43 #[ptr d, .agg (bytesA 32 x.f)] w fun e w' => ∃ g', e = .returned (.bool (hasB g.wait x)) ∧ Ste w w' Av d g g' ∧ DI g' ∧ fgtG g x g' := by
  have hQl : g.queue.length ≤ 1000000000 := by have := hI.qlen; have := hI.wl; omega
  refine (forget_any d x Av g w hD (hI.ix x) hQl).mono ?_
  rintro e w' (⟨h1, rfl, hb⟩ | ⟨h1, rfl, i, _, hi, g', hs, hg⟩)
  · rw [h1]; exact ⟨g, rfl, Ste.refl hD hb, hI, .inl ⟨h1, rfl⟩⟩
  · rw [h1]; exact ⟨g', rfl, hs, hI.forgets h1 hi hg, .inr ⟨h1, hg.1, hg.2.1, hg.2.2.1, hg.2.2.2.2⟩⟩
/-! ### A Dag that lies above B. -/
structure DS (B : Nat) (w : World) (d : Nat) (g : DG) : Prop where
  at' : DagAt w (DgS d g) d g
  di : DI g
  lo : ∀ k, DgS d g k → B ≤ k
theorem Ste.ds {B : Nat} {w w' : World} {d : Nat} {g g' : DG} (h : Ste w w' (DgS d g) d g g') (hI : DI g') (hs : DS B w d g) (hB : B ≤ w.heap.size) : DS B w' d g' ∧ Below B w w' :=
  ⟨⟨h.at'.avInto (fun k hk => .inr hk) (fun k hk => hk), hI, fun k hk => (h.sub k hk).elim (hs.lo k) fun h => Nat.le_trans hB h⟩, h.grown.to_below (fun k hk hd => by have := hs.lo k hd; omega) hB⟩
theorem DS.below {B : Nat} {w w' : World} {d : Nat} {g : DG} (h : DS B w d g) (hb : Below w.heap.size w w') : DS B w' d g := ⟨h.at'.below hb, h.di, h.lo⟩
theorem new_ds (r : Int) (w : World) : Calls Try.prog 10 #[.int .i64 r] w fun e w' =>
    ((r < 0 ∨ 64 < r) ∧ e = .returned (.tuple #[.pointer none, .int .i64 1]) ∧ Below w.heap.size w w') ∨ (0 ≤ r ∧ r ≤ 64 ∧ ∃ d g, e = .returned (.tuple #[.pointer (some ⟨d, 0, none⟩), .int .i64 0]) ∧ DS w.heap.size w' d g ∧ Below w.heap.size w w' ∧ g.room = r ∧ g.held = [] ∧ g.wait = [] ∧ g.order = [] ∧ g.heads = []) := by
  refine (new_any r w).mono ?_
  rintro e w' (⟨h, rfl, rfl⟩ | ⟨h, d, g, rfl, hD, h1, h2, h3, h4, h5, h6, hB, hl⟩)
  · exact .inl ⟨h, rfl, Below.refl _ _⟩
  · refine .inr ⟨by omega, by omega, d, g, rfl, ⟨hD, ?_, hl⟩, hB, h1, h2, h3, h5, h4⟩
    refine ⟨by rw [h1]; omega, by rw [h2]; simp, by rw [h2]; simp, by rw [h3]; simp, by rw [h3]; simp, by rw [h2]; simp, by rw [h3]; simp, by rw [h6, h3]; rfl, by rw [h3, h1]; simp; omega, by rw [h2]; simp, by rw [h2]; simp, by rw [h5, h2]; simp [hasB], ?_, by rw [h4]; simp, by rw [h4, h2]; simp [hasB]⟩
    rw [h5]
    exact ⟨List.nodup_nil, by simp, by simp, by simp⟩
end Go.Proofs.Ytogmdfhicbmplaa
namespace Go.Proofs.Ytogmdfhicbmplaa
open Go.RowKit
set_option linter.unusedSimpArgs false
set_option linter.unusedVariables false

/-! ### Vertices that came, each followed by all that could be settled then. -/
/-- l: those that came so far. -/
structure FedJ (l : List VX) (g : DG) : Prop where
  rm : g.room = 64
  hs : ∀ v ∈ g.held, v ∈ l
  ws : ∀ v ∈ g.wait, v ∈ l
  ft : ∀ v ∈ l, v ∈ g.held ∨ v ∈ g.wait ∨ chkV v ≠ 0 ∨ (v.ps.all (hasB g.held) = true ∧ v.ck ≠ mxC g.held v.ps + 1)
  cn : g.held.length + g.wait.length ≤ l.length
  ll : l.length ≤ 64
theorem hasB_more {l : List VX} {v : VX} {x : Hs} (h : hasB l x = true) : hasB (l ++ [v]) x = true := by rw [hasB_app, h]; rfl
theorem fate_more {l : List VX} {u v : VX} (h : u.ps.all (hasB l) = true ∧ u.ck ≠ mxC l u.ps + 1) : u.ps.all (hasB (l ++ [v])) = true ∧ u.ck ≠ mxC (l ++ [v]) u.ps + 1 :=
  ⟨all_iff.2 fun p hp => hasB_more (all_iff.1 h.1 p hp), by rw [mxC_app (all_iff.1 h.1)]; exact h.2⟩
theorem FedJ.add {l : List VX} {v : VX} {g g' : DG} {ol : List Hs} (h : FedJ l g) (hv : ∀ u ∈ l, u.id ≠ v.id) (hl : l.length + 1 ≤ 64) (a : addG g v ol g') : FedJ (l ++ [v]) g' := by
  have hn1 : hasB g.held v.id = false := hasB_no.2 fun u hu => hv u (h.hs u hu)
  have hn2 : hasB g.wait v.id = false := hasB_no.2 fun u hu => hv u (h.ws u hu)
  have hcn := h.cn
  have same : g' = g → (chkV v ≠ 0 ∨ (v.ps.all (hasB g.held) = true ∧ v.ck ≠ mxC g.held v.ps + 1)) → FedJ (l ++ [v]) g' := by
    rintro rfl hw
    refine ⟨h.rm, fun u hu => List.mem_append_left _ (h.hs u hu), fun u hu => List.mem_append_left _ (h.ws u hu), fun u hu => ?_, by rw [List.length_append]; simp; omega, by rw [List.length_append]; simp; omega⟩
    rcases List.mem_append.1 hu with hu | hu
    · exact h.ft u hu
    · rw [List.mem_singleton] at hu; subst hu; exact .inr (.inr hw)
  rcases a with ⟨hf, ⟨e1, e2, e3, e4, e5, e6⟩, _⟩ | ⟨hf, hr, ⟨e1, e2, e3, e5, e6⟩, _⟩ | ⟨hf, hr, _⟩ | ⟨hf2, hf3, rfl, _⟩
  · refine ⟨e1.trans h.rm, ?_, ?_, ?_, by rw [e2, e3]; simp only [List.length_append, List.length_cons, List.length_nil]; omega, by rw [List.length_append]; simp; omega⟩
    · rw [e2]
      intro u hu
      rcases List.mem_append.1 hu with hu | hu
      · exact List.mem_append_left _ (h.hs u hu)
      · exact List.mem_append_right _ hu
    · rw [e3]; exact fun u hu => List.mem_append_left _ (h.ws u hu)
    · rw [e2, e3]
      intro u hu
      rcases List.mem_append.1 hu with hu | hu
      · rcases h.ft u hu with h1 | h1 | h1 | h1
        · exact .inl (List.mem_append_left _ h1)
        · exact .inr (.inl h1)
        · exact .inr (.inr (.inl h1))
        · exact .inr (.inr (.inr (fate_more h1)))
      · exact .inl (List.mem_append_right _ hu)
  · refine ⟨e1.trans h.rm, ?_, ?_, ?_, by rw [e2, e3]; simp only [List.length_append, List.length_cons, List.length_nil]; omega, by rw [List.length_append]; simp; omega⟩
    · rw [e2]; exact fun u hu => List.mem_append_left _ (h.hs u hu)
    · rw [e3]
      intro u hu
      rcases List.mem_append.1 hu with hu | hu
      · exact List.mem_append_left _ (h.ws u hu)
      · exact List.mem_append_right _ hu
    · rw [e2, e3]
      intro u hu
      rcases List.mem_append.1 hu with hu | hu
      · rcases h.ft u hu with h1 | h1 | h1
        · exact .inl h1
        · exact .inr (.inl (List.mem_append_left _ h1))
        · exact .inr (.inr h1)
      · exact .inr (.inl (List.mem_append_right _ hu))
  · have := h.rm; omega
  · rcases fit_cases g'.held g'.wait v with ⟨h1, hf⟩ | ⟨_, _, h3, hf⟩ | ⟨_, _, _, _, hf⟩ | ⟨_, _, _, h4, h5, hf⟩ | ⟨_, _, _, _, _, hf⟩
    · rw [hn1, hn2] at h1; simp at h1
    · exact same rfl (.inl h3)
    · rw [hf] at hf3; exact absurd rfl hf3
    · refine same rfl (.inr ⟨h4, fun hc => h5 ?_⟩)
      unfold nextE
      rw [if_neg (fun h => h hc), if_neg (by omega)]
    · rw [hf] at hf2; exact absurd rfl hf2
theorem ck_lt {g : DG} (h : DI g) {v : VX} (hv : v ∈ g.held) {p : Hs} (hp : p ∈ v.ps) : ∃ u ∈ g.held, u.id = p ∧ u.ck < v.ck := by
  obtain ⟨u, hu, hum, hue⟩ := find_has (h.cl v hv p hp)
  refine ⟨u, hum, hue, ?_⟩
  have h1 := h.ck v hv
  have h2 := mxC_ge (l := g.held) hp
  have h3 : ckOf g.held p = u.ck := by unfold ckOf; rw [hu]
  omega
theorem OneO.congr {par par' : Hs → List Hs} {l : List Hs} (h : OneO par l) (e : ∀ x ∈ l, par' x = par x) : OneO par' l :=
  ⟨h.nd, fun i k x y hi hk hy => h.top i k x y hi hk (by rw [← e x (at_mem hi)]; exact hy), fun x hx p hp => h.all x hx p (by rw [← e x hx]; exact hp),
    fun i k x y hik hi hk hlt => by obtain ⟨j, z, h1, h2, h3⟩ := h.min i k x y hik hi hk hlt; exact ⟨j, z, h1, h2, by rw [e y (at_mem hk)]; exact h3⟩⟩
end Go.Proofs.Ytogmdfhicbmplaa
namespace Go.Proofs.Ytogmdfhicbmplaa
open Go.RowKit
set_option linter.unusedSimpArgs false
set_option linter.unusedVariables false

/-! ### Lists of things of s cells. -/
section
variable {α : Type} {enc : α → List Value} {s : Nat}
theorem flat_len (hs : ∀ x, (enc x).length = s) : ∀ L : List α, (L.flatMap enc).length = L.length * s
  | [] => by simp
  | x :: L => by rw [List.flatMap_cons, List.length_append, hs, flat_len hs L, List.length_cons, Nat.add_mul, Nat.one_mul, Nat.add_comm]
theorem flat_get (hs : ∀ x, (enc x).length = s) : ∀ (L : List α) (i : Nat) (hi : i < L.length) (j : Nat), j < s → (L.flatMap enc)[i * s + j]? = (enc L[i])[j]?
  | x :: L, 0, _, j, hj => by rw [List.flatMap_cons, Nat.zero_mul, Nat.zero_add, List.getElem?_append_left (by rw [hs]; exact hj)]; rfl
  | x :: L, i + 1, hi, j, hj => by
    rw [List.flatMap_cons, List.getElem?_append_right (by rw [hs, Nat.add_mul]; omega), hs, show (i + 1) * s + j - s = i * s + j by rw [Nat.add_mul]; omega]
    exact flat_get hs L i (by simpa using hi) j hj
theorem flat_take (hs : ∀ x, (enc x).length = s) : ∀ (L : List α) (k : Nat), (L.flatMap enc).take (k * s) = (L.take k).flatMap enc
  | L, 0 => by simp
  | [], k + 1 => by simp
  | x :: L, k + 1 => by
    rw [List.flatMap_cons, List.take_succ_cons, List.flatMap_cons, List.take_append, hs, List.take_of_length_le (by rw [hs, Nat.add_mul]; omega), show (k + 1) * s - s = k * s by rw [Nat.add_mul]; omega, flat_take hs L k]
theorem flat_drop (hs : ∀ x, (enc x).length = s) : ∀ (L : List α) (k : Nat), (L.flatMap enc).drop (k * s) = (L.drop k).flatMap enc
  | L, 0 => by simp
  | [], k + 1 => by simp
  | x :: L, k + 1 => by
    rw [List.flatMap_cons, List.drop_succ_cons, List.drop_append, hs, List.drop_of_length_le (by rw [hs, Nat.add_mul]; omega), List.nil_append, show (k + 1) * s - s = k * s by rw [Nat.add_mul]; omega, flat_drop hs L k]
theorem flat_elem (hs : ∀ x, (enc x).length = s) {w : World} {b off : Nat} {L : List α} (h : w.rangeAt b off (L.flatMap enc)) (i : Nat) (hi : i < L.length) : w.rangeAt b (off + i * s) (enc L[i]) := fun j v hv => by
  have hj : j < s := by have := (List.getElem?_eq_some_iff.1 hv).1; rw [hs] at this; exact this
  have := h (i * s + j) v (by rw [flat_get hs L i hi j hj]; exact hv)
  rw [show off + (i * s + j) = off + i * s + j by omega] at this
  exact this
theorem flat_set (hs : ∀ x, (enc x).length = s) (L : List α) (k : Nat) (x : α) (hk : k < L.length) : (L.flatMap enc).take (k * s) ++ enc x ++ (L.flatMap enc).drop (k * s + s) = (L.set k x).flatMap enc := by
  rw [flat_take hs, show k * s + s = (k + 1) * s by rw [Nat.add_mul]; omega, flat_drop hs, List.set_eq_take_append_cons_drop, if_pos hk, List.flatMap_append, List.flatMap_cons, List.append_assoc]
theorem flat_of_elems (hs : ∀ x, (enc x).length = s) {w : World} {b off : Nat} {L : List α} (h : ∀ i (hi : i < L.length), w.rangeAt b (off + i * s) (enc L[i])) : w.rangeAt b off (L.flatMap enc) := fun j v hv => by
  have hj := (List.getElem?_eq_some_iff.1 hv).1
  rw [flat_len hs] at hj
  have hs0 : 0 < s := by
    rcases Nat.eq_zero_or_pos s with h0 | h0
    · rw [h0] at hj; omega
    · exact h0
  have hi : j / s < L.length := by rw [Nat.div_lt_iff_lt_mul hs0]; exact hj
  have hm := Nat.mod_lt j hs0
  have he : j / s * s + j % s = j := by rw [Nat.mul_comm]; exact Nat.div_add_mod j s
  have hg := flat_get hs L (j / s) hi (j % s) hm
  rw [he, hv] at hg
  have := h (j / s) hi (j % s) v hg.symm
  rw [show off + j / s * s + j % s = off + j by omega] at this
  exact this
end
/-! ### Lists of vertices. -/
/-- A vertex and its parents' slice. -/
abbrev VP := VX × Value
def encV (q : VP) : List Value := (vtx q.1.id.f q.1.ck q.2).toList
theorem encV_len (q : VP) : (encV q).length = 34 := by rw [encV, Array.length_toList, vtx_size]
/-- v is a slice of these vertices. -/
def VRow (w : World) (v : Value) (L : List VP) : Prop :=
  ((∃ a c, v = .slice a 0 c ∧ L = []) ∨ ∃ b off c, v = .slice (some ⟨b, off, none⟩) L.length c ∧ L.length ≤ c ∧ w.rangeAt b off (L.flatMap encV)) ∧ ∀ q ∈ L, HRow w q.2 q.1.ps ∧ q.1.ps.length ≤ 4398046511104
theorem VRow.form {w : World} {v : Value} {L : List VP} (h : VRow w v L) : ∃ a c, v = .slice a L.length c := by
  rcases h.1 with ⟨a, c, rfl, rfl⟩ | ⟨b, off, c, rfl, _⟩
  · exact ⟨a, c, rfl⟩
  · exact ⟨_, c, rfl⟩
theorem VRow.at {w : World} {a : Option Addr} {n c : Nat} {L : List VP} (h : VRow w (.slice a n c) L) (hL : 0 < L.length) : ∃ b off, a = some ⟨b, off, none⟩ ∧ L.length ≤ c ∧ w.rangeAt b off (L.flatMap encV) := by
  rcases h.1 with ⟨a, c, _, rfl⟩ | ⟨b, off, c, e, h1, h2⟩
  · simp at hL
  · injection e with e1 e2 e3
    subst e1 e3
    exact ⟨b, off, rfl, h1, h2⟩
theorem flatV_lt {w : World} {b off : Nat} {L : List VP} (h : w.rangeAt b off (L.flatMap encV)) (hL : 0 < L.length) : b < w.heap.size := by
  have h0 := flat_elem encV_len h 0 hL
  have h1 : (encV L[0])[32]? = some (.int .i64 L[0].1.ck) := by rw [encV, Array.getElem?_toList, vtx_ck]
  exact cell_lt (h0 32 _ h1)
theorem VRow.below {w w' : World} {v : Value} {L : List VP} (h : VRow w v L) (hb : Below w.heap.size w w') : VRow w' v L := by
  refine ⟨?_, fun q hq => ⟨(h.2 q hq).1.below hb, (h.2 q hq).2⟩⟩
  rcases h.1 with h1 | ⟨b, off, c, rfl, h2, h3⟩
  · exact .inl h1
  · by_cases h0 : 0 < L.length
    · exact .inr ⟨b, off, c, rfl, h2, rangeAt_below h3 hb (flatV_lt h3 h0)⟩
    · have : L = [] := List.eq_nil_of_length_eq_zero (by omega)
      subst this
      exact .inl ⟨_, c, rfl, rfl⟩
/-! ### Below a mark. -/
theorem below_cut {B : Nat} {a b : World} (h : Below a.heap.size a b) (hB : B ≤ a.heap.size) : Below B a b := ⟨h.os, h.tape, h.output, h.size, fun k hk => h.block k (Nat.lt_of_lt_of_le hk hB)⟩
end Go.Proofs.Ytogmdfhicbmplaa
namespace Go.Proofs.Ytogmdfhicbmplaa
open Go.RowKit
set_option linter.unusedSimpArgs false
set_option linter.unusedVariables false

theorem Try.in19 (w : World) (vs : Array Value) : (callFunc 19 vs).run Try.prog w = .ok (.enter 19 vs) w := by kernel_rfl
theorem Try.in62 (w : World) (vs : Array Value) : (callFunc 62 vs).run Try.prog w = .ok (.enter 62 vs) w := by kernel_rfl
theorem smH_any (v1 v2 : Value) (L M : List Hs) (w : World) (h1 : HRow w v1 L) (h2 : HRow w v2 M) (hn : (L.length : Int) ≤ 9223372036854775807) : Calls Try.prog 19 #[v1, v2] w fun e w' => e = .returned (.bool (decide (L = M))) ∧ Below w.heap.size w w' := by
  have H1 := Keep.mk h1
  have H2 := Keep.mk h2
  have HN := Keep.mk hn
  clear h1 h2 hn
  go_enter Try.func19, Try.ntmps19
  refine wp_seq_k fun K1 hK1 => ?_
  refine wp_region_list (WL.out ?_)
  refine WL.val (by kernel_rfl) (.bool false) (by go_simp) ?_
  simp only [Act.put, pqA, pqB, pqC]
  refine WL.nil ?_
  refine hK1 _ _ ?_
  refine wp_seq_k fun K2 hK2 => ?_
  refine wp_region_list (WL.out ?_)
  refine WL.val (by kernel_rfl) (v1) (by go_simp) ?_
  simp only [Act.put, pqA, pqB, pqC]
  refine WL.val (by kernel_rfl) (v2) (by go_simp) ?_
  simp only [Act.put, pqA, pqB, pqC]
  refine WL.callF (by kernel_rfl) 62 _ _ rfl Try.in62 #[v1, v2] (by simp [Act.eval]) ?_
  refine (same_any v1 v2 L M w H1.out H2.out HN.out).mono ?_
  rintro e w1 ⟨rfl, q, hq⟩
  refine ⟨_, rfl, ?_⟩
  have B1 : Keep (Below w.heap.size w w1) := ⟨by rw [hq]; exact ⟨rfl, rfl, rfl, Nat.le_refl _, fun _ _ => rfl⟩⟩
  clear hq
  simp only [Act.put, pqA, pqB, pqC]
  refine WL.val (by kernel_rfl) (.bool (decide (L = M))) (by go_simp) ?_
  simp only [Act.put, pqA, pqB, pqC]
  refine WL.nil ?_
  refine hK2 _ _ ?_
  refine wp_ret ?_
  go_ret
  exact ⟨rfl, B1.out⟩
end Go.Proofs.Ytogmdfhicbmplaa
namespace Go.Proofs.Ytogmdfhicbmplaa
open Go.RowKit
set_option linter.unusedSimpArgs false
set_option linter.unusedVariables false

theorem Try.in63 (w : World) (vs : Array Value) : (callFunc 63 vs).run Try.prog w = .ok (.enter 63 vs) w := by kernel_rfl
theorem Try.in22 (w : World) (vs : Array Value) : (callFunc 22 vs).run Try.prog w = .ok (.enter 22 vs) w := by kernel_rfl
set_option maxRecDepth 8000 in
set_option maxHeartbeats 400000 in
theorem refIx_any (v : Value) (l : List Hs) (x : Hs) (w : World) (hr : HRow w v l) (hL : l.length ≤ 4398046511104) : Calls Try.prog 63 #[v, .agg (bytesA 32 x.f)] w fun e w' => e = .returned (.int .i64 (ixF x l 0)) ∧ Below w.heap.size w w' := by
  obtain ⟨pa, pc, rfl⟩ := hr.form
  have HR := Keep.mk hr
  have HL := Keep.mk hL
  clear hr hL
  go_enter Try.func63, Try.ntmps63
  refine wp_seq_k fun K1 hK1 => ?_
  refine wp_region_list (WL.out ?_)
  refine WL.box (by kernel_rfl) 36 (.tmp 1) rfl (bytesA 32 x.f) rfl ?_
  obtain ⟨w1, hwn⟩ : ∃ wx, Keep (wx = w.alloc (.cells (bytesA 32 x.f) 36)) := ⟨_, ⟨rfl⟩⟩
  rw [← hwn.out]
  have HX1 : Keep (Blk w1 w.heap.size 36 (bytesA 32 x.f)) := ⟨by rw [hwn.out]; exact Blk.new _ _ _⟩
  have LB1 : Keep (Below w.heap.size w w1) := ⟨by rw [hwn.out]; exact below_new _ _⟩
  clear hwn
  have HR1 := Keep.mk (HR.out.below LB1.out)
  simp only [Act.put, pqA, pqB, pqC]
  refine WL.val (by kernel_rfl) (.int .i64 0) (by go_simp) ?_
  simp only [Act.put, pqA, pqB, pqC]
  refine WL.nil ?_
  refine hK1 _ _ ?_
  refine wp_seq_k fun K2 hK2 => ?_
  refine wp_seq_k fun K3 hK3 => ?_
  refine wp_region_list (WL.out ?_)
  refine WL.val (by kernel_rfl) (.int .i64 0) (by go_simp) ?_
  simp only [Act.put, pqA, pqB, pqC]
  refine WL.nil ?_
  refine hK3 _ _ ?_
  refine wp_block ?_
  refine wp_loop (fun ac wr => ∃ (t : Nat) (u4 u6 u7 u8 u9 u10 u11 u12 u13 u14 u15 u16 u17 u18 : Value), ac = { tmps := #[.slice pa l.length pc, .agg (bytesA 32 x.f), undef, .pointer (some ⟨w.heap.size, 0, none⟩), u4, .int .i64 (t : Int), u6, u7, u8, u9, u10, u11, u12, u13, u14, u15, u16, u17, u18], defers := [] } ∧ t ≤ l.length ∧ ixF x l 0 = ixF x (l.drop t) t ∧ Below w1.heap.size w1 wr) (fun a _ => l.length - (intOf (a.tmps.getD 5 undef)).toNat) ⟨0, .int .i64 0, undef, undef, undef, undef, undef, undef, undef, undef, undef, undef, undef, undef, undef, rfl, by omega, rfl, Below.refl _ _⟩ ?_
  rintro ac wr ⟨t, u4, u6, u7, u8, u9, u10, u11, u12, u13, u14, u15, u16, u17, u18, rfl, ht, hP, hB⟩
  have JB := Keep.mk hB
  have JP := Keep.mk hP
  clear hB hP
  have HRr := Keep.mk (HR1.out.below JB.out)
  have HXr := Keep.mk (HX1.out.below JB.out HX1.out.lt)
  by_cases htl : t < l.length
  · have htl' : (t : Int) < (l.length : Int) := by omega
    have hwr1 : IntKind.i64.wrap ((t : Int) + 1) = (t : Int) + 1 := by rw [IntKind.wrap_i64]; have := HL.out; omega
    obtain ⟨gp, op, hpa, -, -, hrg⟩ := (HRr.out).at (by omega)
    have hel := rangeAt_elem hrg t htl
    obtain ⟨hh, hhh⟩ : ∃ hh, hh = l[t] := ⟨_, rfl⟩
    rw [← hhh] at hel
    have Jhh := Keep.mk hhh
    have Hel := Keep.mk hel
    subst hpa
    clear hrg hhh hel
    refine wp_seq_k fun K4 hK4 => ?_
    refine wp_seq_k fun K5 hK5 => ?_
    refine wp_region_list (WL.out ?_)
    refine WL.val (by kernel_rfl) (.int .i64 (t : Int)) (by go_simp) ?_
    simp only [Act.put, pqA, pqB, pqC]
    refine WL.val (by kernel_rfl) (.slice (some ⟨gp, op, none⟩) l.length pc) (by go_simp) ?_
    simp only [Act.put, pqA, pqB, pqC]
    refine WL.val (by kernel_rfl) (.int .i64 (l.length : Int)) (by go_simp) ?_
    simp only [Act.put, pqA, pqB, pqC]
    refine WL.val (by kernel_rfl) (.bool true) (by go_simp) ?_
    simp only [Act.put, pqA, pqB, pqC]
    refine WL.nil ?_
    refine hK5 _ _ ?_
    refine wp_cond_true rfl ?_
    refine wp_skip ?_
    refine hK4 _ _ ?_
    refine wp_seq_k fun K6 hK6 => ?_
    refine wp_block ?_
    refine wp_seq_k fun K7 hK7 => ?_
    have hS0 : Keep ((fun wx => wx.rangeAt gp (op + t * 32) (encH hh) ∧ wx.rangeAt w.heap.size 0 (bytesA 32 x.f).toList) wr.drew) := ⟨⟨rangeAt_drew Hel.out, blk_rng HXr.out.drew⟩⟩
    obtain ⟨cb, hcb⟩ : ∃ b, decide (hh = x) = b := ⟨_, rfl⟩
    have Hcb := Keep.mk hcb
    clear hcb
    refine wp_region_held_drew (S := fun wx => wx.rangeAt gp (op + t * 32) (encH hh) ∧ wx.rangeAt w.heap.size 0 (bytesA 32 x.f).toList) (by kernel_rfl) (hS0.out) (fun hHeld => ?_)
    refine wpAnyH_take (i := 0) (oi := ⟨some 12, Op.move (Operand.tmp 0), 37, _, _, none⟩) (v := .slice (some ⟨gp, op, none⟩) l.length pc) rfl (by kernel_rfl) (by kernel_rfl) (by kernel_rfl) (fun _ _ _ h => h) (Or.inl ⟨by rfl, fun w hS => by clear hS; go_simp⟩) hHeld ?_
    simp only [Act.put, pqA, pqB, pqC]
    refine wpAnyH_take (i := 1) (oi := ⟨some 13, Op.move (Operand.tmp 5), 3, _, _, none⟩) (v := .int .i64 (t : Int)) rfl (by kernel_rfl) (by kernel_rfl) (by kernel_rfl) (fun _ _ _ h => h) (Or.inl ⟨by rfl, fun w hS => by clear hS; go_simp⟩) hHeld ?_
    simp only [Act.put, pqA, pqB, pqC]
    refine wpAnyH_take (i := 2) (oi := ⟨some 14, Op.indexAddr 37 (Operand.tmp 12) (Operand.tmp 13), 0, _, _, none⟩) (v := .pointer (some ⟨gp, op + t * 32, none⟩)) rfl (by kernel_rfl) (by kernel_rfl) (by kernel_rfl) (fun _ _ _ h => h) (Or.inl ⟨by rfl, fun w hS => by go_simp⟩) hHeld ?_
    simp only [Act.put, pqA, pqB, pqC]
    refine wpAnyH_take (i := 3) (oi := ⟨some 15, Op.load 36 (Operand.tmp 14), 36, _, _, none⟩) (v := .agg (bytesA 32 hh.f)) rfl (by kernel_rfl) (by kernel_rfl) (by kernel_rfl) (fun _ _ _ h => h) (yieldsIf_ldE (by rfl) (Operand.tmp 14) rfl gp (op + t * 32) rfl hh fun w hS => hS.1) hHeld ?_
    simp only [Act.put, pqA, pqB, pqC]
    refine wpAnyH_take (i := 4) (oi := ⟨some 16, Op.load 36 (Operand.tmp 3), 36, _, _, none⟩) (v := .agg (bytesA 32 x.f)) rfl (by kernel_rfl) (by kernel_rfl) (by kernel_rfl) (fun _ _ _ h => h) (yieldsIf_ld (by rfl) (Operand.tmp 3) 36 rfl w.heap.size 0 rfl (bytesA 32 x.f) _ Try.underlying36 rfl (size36A _) fun w hS => hS.2) hHeld ?_
    simp only [Act.put, pqA, pqB, pqC]
    refine wpAnyH_take (i := 5) (oi := ⟨some 17, Op.binOp BinOp.eql 36 (Operand.tmp 15) (Operand.tmp 16) 36, 4, _, _, none⟩) (v := .bool cb) rfl (by kernel_rfl) (by kernel_rfl) (by kernel_rfl) (fun _ _ _ h => h) (Or.inl ⟨by rfl, fun w hS => by go_simp; rw [run_equal_arr2, all_eq_iff, Hcb.out]; rfl⟩) hHeld ?_
    simp only [Act.put, pqA, pqB, pqC]
    refine wpAnyH_done (by kernel_rfl) ?_ _
    refine hK7 _ _ ?_
    rcases Bool.eq_false_or_eq_true cb with hcq | hcq
    · subst hcq
      refine wp_cond_true rfl ?_
      refine wp_seq_k fun K8 hK8 => ?_
      refine wp_region_list (WL.out ?_)
      refine WL.val (by kernel_rfl) (.int .i64 (t : Int)) (by go_simp) ?_
      simp only [Act.put, pqA, pqB, pqC]
      refine WL.val (by kernel_rfl) (.int .i64 (t : Int)) (by go_simp) ?_
      simp only [Act.put, pqA, pqB, pqC]
      refine WL.nil ?_
      refine hK8 _ _ ?_
      refine wp_ret ?_
      go_ret
      have heq : x = hh := (of_decide_eq_true Hcb.out).symm
      refine ⟨?_, belowT LB1.out (belowT JB.out (Below.refl _ _).drew)⟩
      rw [JP.out, List.drop_eq_getElem_cons htl, ixF, ← Jhh.out, if_pos heq]; rfl
    · subst hcq
      refine wp_cond_false rfl ?_
      refine wp_skip ?_
      refine hK6 _ _ ?_
      refine wp_region_list (WL.out ?_)
      refine WL.val (by kernel_rfl) (.int .i64 (t : Int)) (by go_simp) ?_
      simp only [Act.put, pqA, pqB, pqC]
      refine WL.val (by kernel_rfl) (.int .i64 ((t : Int) + 1)) (by go_simp) ?_
      simp only [Act.put, pqA, pqB, pqC]
      refine WL.val (by kernel_rfl) (.int .i64 ((t : Int) + 1)) (by go_simp) ?_
      simp only [Act.put, pqA, pqB, pqC]
      refine WL.nil ?_
      have hne : ¬ x = hh := fun e => of_decide_eq_false Hcb.out e.symm
      refine ⟨⟨t + 1, u4, .int .i64 (t : Int), .slice (some ⟨gp, op, none⟩) l.length pc, .int .i64 (l.length : Int), .bool true, .int .i64 (t : Int), .int .i64 ((t : Int) + 1), .slice (some ⟨gp, op, none⟩) l.length pc, .int .i64 (t : Int), .pointer (some ⟨gp, op + t * 32, none⟩), .agg (bytesA 32 hh.f), .agg (bytesA 32 x.f), .bool false, u18, rfl, by omega, ?_, belowT JB.out (Below.refl _ _).drew⟩, ?_⟩
      · rw [JP.out, List.drop_eq_getElem_cons htl, ixF, ← Jhh.out, if_neg hne]
      · simp only [intOf]; show l.length - ((t : Int) + 1).toNat < l.length - ((t : Int)).toNat; omega
  · have hte : Keep (t = l.length) := ⟨by omega⟩
    have htl' : ¬ (t : Int) < (l.length : Int) := by omega
    refine wp_seq_k fun K9 hK9 => ?_
    refine wp_seq_k fun K10 hK10 => ?_
    refine wp_region_list (WL.out ?_)
    refine WL.val (by kernel_rfl) (.int .i64 (t : Int)) (by go_simp) ?_
    simp only [Act.put, pqA, pqB, pqC]
    refine WL.val (by kernel_rfl) (.slice pa l.length pc) (by go_simp) ?_
    simp only [Act.put, pqA, pqB, pqC]
    refine WL.val (by kernel_rfl) (.int .i64 (l.length : Int)) (by go_simp) ?_
    simp only [Act.put, pqA, pqB, pqC]
    refine WL.val (by kernel_rfl) (.bool false) (by go_simp) ?_
    simp only [Act.put, pqA, pqB, pqC]
    refine WL.nil ?_
    refine hK10 _ _ ?_
    refine wp_cond_false rfl ?_
    refine wp_exit ?_
    refine hK2 _ _ ?_
    refine wp_seq_k fun K11 hK11 => ?_
    refine wp_region_list (WL.out ?_)
    refine WL.val (by kernel_rfl) (.int .i64 (-1)) (by go_simp) ?_
    simp only [Act.put, pqA, pqB, pqC]
    refine WL.nil ?_
    refine hK11 _ _ ?_
    refine wp_ret ?_
    go_ret
    refine ⟨?_, belowT LB1.out JB.out⟩
    rw [JP.out, hte.out, List.drop_length]; rfl
theorem sub_step {x y : Hs} {s r : List Hs} (h : (y :: s).Sublist (x :: r)) : s.Sublist r ∧ (y ≠ x → (y :: s).Sublist r) := by
  cases h with
  | cons _ h => exact ⟨(List.sublist_cons_self _ _).trans h, fun _ => h⟩
  | cons_cons _ h => exact ⟨h, fun e => absurd rfl e⟩
set_option maxRecDepth 8000 in
set_option maxHeartbeats 400000 in
theorem within_any (u v : Value) (l m : List Hs) (w : World) (hl : HRow w u l) (hm : HRow w v m) (hS : l.Sublist m) (hLl : l.length ≤ 4398046511104) (hLm : m.length ≤ 4398046511104) : Calls Try.prog 22 #[u, v] w fun e w' => e = .returned (.bool true) ∧ Below w.heap.size w w' := by
  obtain ⟨pa, pc, rfl⟩ := hl.form
  obtain ⟨qa, qc, rfl⟩ := hm.form
  have HRl := Keep.mk hl
  have HRm := Keep.mk hm
  have HSub := Keep.mk hS
  have HLl := Keep.mk hLl
  have HLm := Keep.mk hLm
  clear hl hm hS hLl hLm
  go_enter Try.func22, Try.ntmps22
  refine wp_seq_k fun K1 hK1 => ?_
  refine wp_region_list (WL.out ?_)
  refine WL.val (by kernel_rfl) (.bool false) (by go_simp) ?_
  simp only [Act.put, pqA, pqB, pqC]
  refine WL.nil ?_
  refine hK1 _ _ ?_
  refine wp_seq_k fun K2 hK2 => ?_
  refine wp_region_list (WL.out ?_)
  refine WL.val (by kernel_rfl) (.int .i64 0) (by go_simp) ?_
  simp only [Act.put, pqA, pqB, pqC]
  refine WL.nil ?_
  refine hK2 _ _ ?_
  refine wp_seq_k fun K3 hK3 => ?_
  refine wp_seq_k fun K4 hK4 => ?_
  refine wp_region_list (WL.out ?_)
  refine WL.val (by kernel_rfl) (.int .i64 0) (by go_simp) ?_
  simp only [Act.put, pqA, pqB, pqC]
  refine WL.nil ?_
  refine hK4 _ _ ?_
  refine wp_block ?_
  refine wp_loop (fun ac wr => ∃ (t : Nat) (u7 u8 u9 u10 u11 u12 u13 u14 u15 u16 u17 u18 u19 u20 u21 u22 u23 u24 u25 u26 u27 u28 u29 : Value) (at_ : Nat), ac = { tmps := #[.slice pa l.length pc, .slice qa m.length qc, undef, undef, .bool false, .int .i64 (at_ : Int), .int .i64 (t : Int), u7, u8, u9, u10, u11, u12, u13, u14, u15, u16, u17, u18, u19, u20, u21, u22, u23, u24, u25, u26, u27, u28, u29, undef, undef, undef, undef], defers := [] } ∧ t ≤ m.length ∧ at_ ≤ l.length ∧ (l.drop at_).Sublist (m.drop t) ∧ Below w.heap.size w wr) (fun a _ => m.length - (intOf (a.tmps.getD 6 undef)).toNat) ⟨0, undef, undef, undef, undef, undef, undef, undef, undef, undef, undef, undef, undef, undef, undef, undef, undef, undef, undef, undef, undef, undef, undef, undef, 0, rfl, by omega, by omega, HSub.out, Below.refl _ _⟩ ?_
  rintro ac wr ⟨t, u7, u8, u9, u10, u11, u12, u13, u14, u15, u16, u17, u18, u19, u20, u21, u22, u23, u24, u25, u26, u27, u28, u29, at_, rfl, ht, hat, hS, hB⟩
  have JB := Keep.mk hB
  have JS := Keep.mk hS
  clear hB hS
  by_cases htl : t < m.length
  · have htl' : (t : Int) < (m.length : Int) := by omega
    by_cases hal : at_ < l.length
    · have hal' : (at_ : Int) < (l.length : Int) := by omega
      have hwr1 : IntKind.i64.wrap ((t : Int) + 1) = ((t + 1 : Nat) : Int) := by rw [IntKind.wrap_i64]; have := HLm.out; omega
      have hwr2 : IntKind.i64.wrap ((at_ : Int) + 1) = ((at_ + 1 : Nat) : Int) := by rw [IntKind.wrap_i64]; have := HLl.out; omega
      obtain ⟨gp, op, hpa, -, -, hrg⟩ := (HRl.out.below JB.out).at (by omega : 0 < l.length)
      obtain ⟨gq, oq, hqa, -, -, hrq⟩ := (HRm.out.below JB.out).at (by omega : 0 < m.length)
      have he1 := rangeAt_elem hrg at_ hal
      have he2 := rangeAt_elem hrq t htl
      obtain ⟨x1, hx1⟩ : ∃ x, Keep (x = l[at_]) := ⟨_, ⟨rfl⟩⟩
      obtain ⟨x2, hx2⟩ : ∃ x, Keep (x = m[t]) := ⟨_, ⟨rfl⟩⟩
      have E1 : Keep (wr.rangeAt gp (op + at_ * 32) (encH x1)) := ⟨by rw [hx1.out]; exact he1⟩
      have E2 : Keep (wr.rangeAt gq (oq + t * 32) (encH x2)) := ⟨by rw [hx2.out]; exact he2⟩
      have hss := JS.out
      rw [List.drop_eq_getElem_cons hal, List.drop_eq_getElem_cons htl, ← hx1.out, ← hx2.out] at hss
      have Hss := Keep.mk (sub_step hss)
      subst hpa
      subst hqa
      clear hrg hrq he1 he2 hss
      refine wp_seq_k fun K5 hK5 => ?_
      refine wp_seq_k fun K6 hK6 => ?_
      refine wp_region_list (WL.out ?_)
      refine WL.val (by kernel_rfl) (.int .i64 (t : Int)) (by go_simp) ?_
      simp only [Act.put, pqA, pqB, pqC]
      refine WL.val (by kernel_rfl) (.slice (some ⟨gq, oq, none⟩) m.length qc) (by go_simp) ?_
      simp only [Act.put, pqA, pqB, pqC]
      refine WL.val (by kernel_rfl) (.int .i64 (m.length : Int)) (by go_simp) ?_
      simp only [Act.put, pqA, pqB, pqC]
      refine WL.val (by kernel_rfl) (.bool true) (by go_simp) ?_
      simp only [Act.put, pqA, pqB, pqC]
      refine WL.val (by kernel_rfl) (.bool true) (by go_simp) ?_
      simp only [Act.put, pqA, pqB, pqC]
      refine WL.val (by kernel_rfl) (.int .i64 (at_ : Int)) (by go_simp) ?_
      simp only [Act.put, pqA, pqB, pqC]
      refine WL.val (by kernel_rfl) (.slice (some ⟨gp, op, none⟩) l.length pc) (by go_simp) ?_
      simp only [Act.put, pqA, pqB, pqC]
      refine WL.val (by kernel_rfl) (.int .i64 (l.length : Int)) (by go_simp) ?_
      simp only [Act.put, pqA, pqB, pqC]
      refine WL.val (by kernel_rfl) (.bool true) (by go_simp) ?_
      simp only [Act.put, pqA, pqB, pqC]
      refine WL.val (by kernel_rfl) (.bool true) (by go_simp) ?_
      simp only [Act.put, pqA, pqB, pqC]
      refine WL.nil ?_
      refine hK6 _ _ ?_
      refine wp_cond_true rfl ?_
      refine wp_skip ?_
      refine hK5 _ _ ?_
      refine wp_seq_k fun K7 hK7 => ?_
      refine wp_block ?_
      refine wp_seq_k fun K8 hK8 => ?_
      have hS0 : Keep ((fun wx => wx.rangeAt gq (oq + t * 32) (encH x2) ∧ wx.rangeAt gp (op + at_ * 32) (encH x1)) wr.drew) := ⟨⟨rangeAt_drew E2.out, rangeAt_drew E1.out⟩⟩
      obtain ⟨cb, hcb⟩ : ∃ b, Keep (decide (x2 = x1) = b) := ⟨_, ⟨rfl⟩⟩
      refine wp_region_held_drew (S := fun wx => wx.rangeAt gq (oq + t * 32) (encH x2) ∧ wx.rangeAt gp (op + at_ * 32) (encH x1)) (by kernel_rfl) (hS0.out) (fun hHeld => ?_)
      refine wpAnyH_take (i := 0) (oi := ⟨some 19, Op.move (Operand.tmp 1), 37, _, _, none⟩) (v := .slice (some ⟨gq, oq, none⟩) m.length qc) rfl (by kernel_rfl) (by kernel_rfl) (by kernel_rfl) (fun _ _ _ h => h) (Or.inl ⟨by rfl, fun w hS => by clear hS; go_simp⟩) hHeld ?_
      simp only [Act.put, pqA, pqB, pqC]
      refine wpAnyH_take (i := 1) (oi := ⟨some 20, Op.move (Operand.tmp 6), 3, _, _, none⟩) (v := .int .i64 (t : Int)) rfl (by kernel_rfl) (by kernel_rfl) (by kernel_rfl) (fun _ _ _ h => h) (Or.inl ⟨by rfl, fun w hS => by clear hS; go_simp⟩) hHeld ?_
      simp only [Act.put, pqA, pqB, pqC]
      refine wpAnyH_take (i := 2) (oi := ⟨some 21, Op.indexAddr 37 (Operand.tmp 19) (Operand.tmp 20), 0, _, _, none⟩) (v := .pointer (some ⟨gq, oq + t * 32, none⟩)) rfl (by kernel_rfl) (by kernel_rfl) (by kernel_rfl) (fun _ _ _ h => h) (Or.inl ⟨by rfl, fun w hS => by clear hS; go_simp⟩) hHeld ?_
      simp only [Act.put, pqA, pqB, pqC]
      refine wpAnyH_take (i := 3) (oi := ⟨some 22, Op.load 36 (Operand.tmp 21), 36, _, _, none⟩) (v := .agg (bytesA 32 x2.f)) rfl (by kernel_rfl) (by kernel_rfl) (by kernel_rfl) (fun _ _ _ h => h) (yieldsIf_ldE (by rfl) (Operand.tmp 21) rfl gq (oq + t * 32) rfl x2 fun w hS => hS.1) hHeld ?_
      simp only [Act.put, pqA, pqB, pqC]
      refine wpAnyH_take (i := 4) (oi := ⟨some 23, Op.move (Operand.tmp 0), 37, _, _, none⟩) (v := .slice (some ⟨gp, op, none⟩) l.length pc) rfl (by kernel_rfl) (by kernel_rfl) (by kernel_rfl) (fun _ _ _ h => h) (Or.inl ⟨by rfl, fun w hS => by clear hS; go_simp⟩) hHeld ?_
      simp only [Act.put, pqA, pqB, pqC]
      refine wpAnyH_take (i := 5) (oi := ⟨some 24, Op.move (Operand.tmp 5), 3, _, _, none⟩) (v := .int .i64 (at_ : Int)) rfl (by kernel_rfl) (by kernel_rfl) (by kernel_rfl) (fun _ _ _ h => h) (Or.inl ⟨by rfl, fun w hS => by clear hS; go_simp⟩) hHeld ?_
      simp only [Act.put, pqA, pqB, pqC]
      refine wpAnyH_take (i := 6) (oi := ⟨some 25, Op.indexAddr 37 (Operand.tmp 23) (Operand.tmp 24), 0, _, _, none⟩) (v := .pointer (some ⟨gp, op + at_ * 32, none⟩)) rfl (by kernel_rfl) (by kernel_rfl) (by kernel_rfl) (fun _ _ _ h => h) (Or.inl ⟨by rfl, fun w hS => by clear hS; go_simp⟩) hHeld ?_
      simp only [Act.put, pqA, pqB, pqC]
      refine wpAnyH_take (i := 7) (oi := ⟨some 26, Op.load 36 (Operand.tmp 25), 36, _, _, none⟩) (v := .agg (bytesA 32 x1.f)) rfl (by kernel_rfl) (by kernel_rfl) (by kernel_rfl) (fun _ _ _ h => h) (yieldsIf_ldE (by rfl) (Operand.tmp 25) rfl gp (op + at_ * 32) rfl x1 fun w hS => hS.2) hHeld ?_
      simp only [Act.put, pqA, pqB, pqC]
      refine wpAnyH_take (i := 8) (oi := ⟨some 27, Op.binOp BinOp.eql 36 (Operand.tmp 22) (Operand.tmp 26) 36, 4, _, _, none⟩) (v := .bool cb) rfl (by kernel_rfl) (by kernel_rfl) (by kernel_rfl) (fun _ _ _ h => h) (Or.inl ⟨by rfl, fun w hS => by clear hS; go_simp; rw [run_equal_arr2, all_eq_iff, hcb.out]; rfl⟩) hHeld ?_
      simp only [Act.put, pqA, pqB, pqC]
      refine wpAnyH_done (by kernel_rfl) ?_ _
      refine hK8 _ _ ?_
      rcases Bool.eq_false_or_eq_true cb with hcq | hcq
      · subst hcq
        refine wp_cond_true rfl ?_
        refine wp_region_list (WL.out ?_)
        refine WL.val (by kernel_rfl) (.int .i64 (at_ : Int)) (by go_simp) ?_
        simp only [Act.put, pqA, pqB, pqC]
        refine WL.val (by kernel_rfl) (.int .i64 ((at_ + 1 : Nat) : Int)) (by go_simp) ?_
        simp only [Act.put, pqA, pqB, pqC]
        refine WL.val (by kernel_rfl) (.int .i64 ((at_ + 1 : Nat) : Int)) (by go_simp) ?_
        simp only [Act.put, pqA, pqB, pqC]
        refine WL.nil ?_
        refine hK7 _ _ ?_
        refine wp_region_list (WL.out ?_)
        refine WL.val (by kernel_rfl) (.int .i64 (t : Int)) (by go_simp) ?_
        simp only [Act.put, pqA, pqB, pqC]
        refine WL.val (by kernel_rfl) (.int .i64 ((t + 1 : Nat) : Int)) (by go_simp) ?_
        simp only [Act.put, pqA, pqB, pqC]
        refine WL.val (by kernel_rfl) (.int .i64 ((t + 1 : Nat) : Int)) (by go_simp) ?_
        simp only [Act.put, pqA, pqB, pqC]
        refine WL.nil ?_
        refine ⟨⟨t + 1, .int .i64 (t : Int), .slice (some ⟨gq, oq, none⟩) m.length qc, .int .i64 (m.length : Int), .bool true, .bool true, .int .i64 (at_ : Int), .slice (some ⟨gp, op, none⟩) l.length pc, .int .i64 (l.length : Int), .bool true, .bool true, .int .i64 (t : Int), .int .i64 ((t + 1 : Nat) : Int), .slice (some ⟨gq, oq, none⟩) m.length qc, .int .i64 (t : Int), .pointer (some ⟨gq, oq + t * 32, none⟩), .agg (bytesA 32 x2.f), .slice (some ⟨gp, op, none⟩) l.length pc, .int .i64 (at_ : Int), .pointer (some ⟨gp, op + at_ * 32, none⟩), .agg (bytesA 32 x1.f), .bool true, .int .i64 (at_ : Int), .int .i64 ((at_ + 1 : Nat) : Int), at_ + 1, rfl, by omega, by omega, Hss.out.1, belowT JB.out (Below.refl _ _).drew⟩, ?_⟩
        simp only [intOf]; show m.length - (((t + 1 : Nat) : Int)).toNat < m.length - ((t : Int)).toNat; omega
      · subst hcq
        refine wp_cond_false rfl ?_
        refine wp_skip ?_
        refine hK7 _ _ ?_
        refine wp_region_list (WL.out ?_)
        refine WL.val (by kernel_rfl) (.int .i64 (t : Int)) (by go_simp) ?_
        simp only [Act.put, pqA, pqB, pqC]
        refine WL.val (by kernel_rfl) (.int .i64 ((t + 1 : Nat) : Int)) (by go_simp) ?_
        simp only [Act.put, pqA, pqB, pqC]
        refine WL.val (by kernel_rfl) (.int .i64 ((t + 1 : Nat) : Int)) (by go_simp) ?_
        simp only [Act.put, pqA, pqB, pqC]
        refine WL.nil ?_
        have hne : ¬ x2 = x1 := of_decide_eq_false hcb.out
        refine ⟨⟨t + 1, .int .i64 (t : Int), .slice (some ⟨gq, oq, none⟩) m.length qc, .int .i64 (m.length : Int), .bool true, .bool true, .int .i64 (at_ : Int), .slice (some ⟨gp, op, none⟩) l.length pc, .int .i64 (l.length : Int), .bool true, .bool true, .int .i64 (t : Int), .int .i64 ((t + 1 : Nat) : Int), .slice (some ⟨gq, oq, none⟩) m.length qc, .int .i64 (t : Int), .pointer (some ⟨gq, oq + t * 32, none⟩), .agg (bytesA 32 x2.f), .slice (some ⟨gp, op, none⟩) l.length pc, .int .i64 (at_ : Int), .pointer (some ⟨gp, op + at_ * 32, none⟩), .agg (bytesA 32 x1.f), .bool false, u28, u29, at_, rfl, by omega, by omega, by rw [List.drop_eq_getElem_cons hal, ← hx1.out]; exact Hss.out.2 (fun e => hne e.symm), belowT JB.out (Below.refl _ _).drew⟩, ?_⟩
        simp only [intOf]; show m.length - (((t + 1 : Nat) : Int)).toNat < m.length - ((t : Int)).toNat; omega
    · have hal' : ¬ (at_ : Int) < (l.length : Int) := by omega
      have hae : at_ = l.length := by omega
      have hae' : (at_ : Int) = (l.length : Int) := by omega
      refine wp_seq_k fun K9 hK9 => ?_
      refine wp_seq_k fun K10 hK10 => ?_
      refine wp_region_list (WL.out ?_)
      refine WL.val (by kernel_rfl) (.int .i64 (t : Int)) (by go_simp) ?_
      simp only [Act.put, pqA, pqB, pqC]
      refine WL.val (by kernel_rfl) (.slice qa m.length qc) (by go_simp) ?_
      simp only [Act.put, pqA, pqB, pqC]
      refine WL.val (by kernel_rfl) (.int .i64 (m.length : Int)) (by go_simp) ?_
      simp only [Act.put, pqA, pqB, pqC]
      refine WL.val (by kernel_rfl) (.bool true) (by go_simp) ?_
      simp only [Act.put, pqA, pqB, pqC]
      refine WL.val (by kernel_rfl) (.bool true) (by go_simp) ?_
      simp only [Act.put, pqA, pqB, pqC]
      refine WL.val (by kernel_rfl) (.int .i64 (at_ : Int)) (by go_simp) ?_
      simp only [Act.put, pqA, pqB, pqC]
      refine WL.val (by kernel_rfl) (.slice pa l.length pc) (by go_simp) ?_
      simp only [Act.put, pqA, pqB, pqC]
      refine WL.val (by kernel_rfl) (.int .i64 (l.length : Int)) (by go_simp) ?_
      simp only [Act.put, pqA, pqB, pqC]
      refine WL.val (by kernel_rfl) (.bool false) (by go_simp) ?_
      simp only [Act.put, pqA, pqB, pqC]
      refine WL.val (by kernel_rfl) (.bool false) (by go_simp) ?_
      simp only [Act.put, pqA, pqB, pqC]
      refine WL.nil ?_
      refine hK10 _ _ ?_
      refine wp_cond_false rfl ?_
      refine wp_exit ?_
      refine hK3 _ _ ?_
      refine wp_seq_k fun K11 hK11 => ?_
      refine wp_region_list (WL.out ?_)
      refine WL.val (by kernel_rfl) (.int .i64 (at_ : Int)) (by go_simp) ?_
      simp only [Act.put, pqA, pqB, pqC]
      refine WL.val (by kernel_rfl) (.slice pa l.length pc) (by go_simp) ?_
      simp only [Act.put, pqA, pqB, pqC]
      refine WL.val (by kernel_rfl) (.int .i64 (l.length : Int)) (by go_simp) ?_
      simp only [Act.put, pqA, pqB, pqC]
      refine WL.val (by kernel_rfl) (.bool true) (by go_simp) ?_
      simp only [Act.put, pqA, pqB, pqC]
      refine WL.val (by kernel_rfl) (.bool true) (by go_simp) ?_
      simp only [Act.put, pqA, pqB, pqC]
      refine WL.nil ?_
      refine hK11 _ _ ?_
      refine wp_ret ?_
      go_ret
      exact ⟨rfl, JB.out⟩
  · have htl' : ¬ (t : Int) < (m.length : Int) := by omega
    have hae : at_ = l.length := by
      have h := JS.out
      rw [List.drop_of_length_le (by omega : m.length ≤ t)] at h
      have := congrArg List.length (List.sublist_nil.1 h)
      rw [List.length_drop, List.length_nil] at this
      omega
    have hae' : (at_ : Int) = (l.length : Int) := by omega
    refine wp_seq_k fun K12 hK12 => ?_
    refine wp_seq_k fun K13 hK13 => ?_
    refine wp_region_list (WL.out ?_)
    refine WL.val (by kernel_rfl) (.int .i64 (t : Int)) (by go_simp) ?_
    simp only [Act.put, pqA, pqB, pqC]
    refine WL.val (by kernel_rfl) (.slice qa m.length qc) (by go_simp) ?_
    simp only [Act.put, pqA, pqB, pqC]
    refine WL.val (by kernel_rfl) (.int .i64 (m.length : Int)) (by go_simp) ?_
    simp only [Act.put, pqA, pqB, pqC]
    refine WL.val (by kernel_rfl) (.bool false) (by go_simp) ?_
    simp only [Act.put, pqA, pqB, pqC]
    refine WL.val (by kernel_rfl) (.bool false) (by go_simp) ?_
    simp only [Act.put, pqA, pqB, pqC]
    refine WL.skip (by kernel_rfl) ?_
    simp only [Act.put, pqA, pqB, pqC]
    refine WL.skip (by kernel_rfl) ?_
    simp only [Act.put, pqA, pqB, pqC]
    refine WL.skip (by kernel_rfl) ?_
    simp only [Act.put, pqA, pqB, pqC]
    refine WL.skip (by kernel_rfl) ?_
    simp only [Act.put, pqA, pqB, pqC]
    refine WL.val (by kernel_rfl) (.bool false) (by go_simp) ?_
    simp only [Act.put, pqA, pqB, pqC]
    refine WL.nil ?_
    refine hK13 _ _ ?_
    refine wp_cond_false rfl ?_
    refine wp_exit ?_
    refine hK3 _ _ ?_
    refine wp_seq_k fun K14 hK14 => ?_
    refine wp_region_list (WL.out ?_)
    refine WL.val (by kernel_rfl) (.int .i64 (at_ : Int)) (by go_simp) ?_
    simp only [Act.put, pqA, pqB, pqC]
    refine WL.val (by kernel_rfl) (.slice pa l.length pc) (by go_simp) ?_
    simp only [Act.put, pqA, pqB, pqC]
    refine WL.val (by kernel_rfl) (.int .i64 (l.length : Int)) (by go_simp) ?_
    simp only [Act.put, pqA, pqB, pqC]
    refine WL.val (by kernel_rfl) (.bool true) (by go_simp) ?_
    simp only [Act.put, pqA, pqB, pqC]
    refine WL.val (by kernel_rfl) (.bool true) (by go_simp) ?_
    simp only [Act.put, pqA, pqB, pqC]
    refine WL.nil ?_
    refine hK14 _ _ ?_
    refine wp_ret ?_
    go_ret
    exact ⟨rfl, JB.out⟩
end Go.Proofs.Ytogmdfhicbmplaa
namespace Go.Proofs.Ytogmdfhicbmplaa
open Go.RowKit
set_option linter.unusedSimpArgs false
set_option linter.unusedVariables false

theorem Try.in66 (w : World) (vs : Array Value) : (callFunc 66 vs).run Try.prog w = .ok (.enter 66 vs) w := by kernel_rfl
theorem Try.in57 (w : World) (vs : Array Value) : (callFunc 57 vs).run Try.prog w = .ok (.enter 57 vs) w := by kernel_rfl
theorem ix_at : ∀ (l : List Hs) (t j : Nat) (x : Hs), l.Nodup → l[j]? = some x → ixF x l t = ((t + j : Nat) : Int)
  | [], t, j, x, _, h => by simp at h
  | y :: r, t, 0, x, hn, h => by
    simp at h
    rw [ixF, if_pos h.symm]; rfl
  | y :: r, t, j + 1, x, hn, h => by
    rw [List.nodup_cons] at hn
    simp at h
    have hx : x ∈ r := List.mem_iff_getElem?.2 ⟨j, h⟩
    rw [ixF, if_neg (fun e => hn.1 (by rw [← e]; exact hx)), ix_at r (t + 1) j x hn.2 h]
    congr 1; omega
/-- Does it stand ahead of place i? -/
def ahP (l : List Hs) (i : Nat) (p : Hs) : Bool := decide (0 ≤ ixF p l 0) && decide (ixF p l 0 < (i : Int))
theorem cmpR_any (x y : Hs) (w : World) : Calls Try.prog 57 #[.agg (bytesA 32 x.f), .agg (bytesA 32 y.f)] w fun e w' => e = .returned (.int .i64 (cf x y)) ∧ Below w.heap.size w w' :=
  (refCompare_any x y w).mono fun e w' ⟨h1, h2⟩ => ⟨h1, by obtain ⟨q, os, rfl⟩ := h2; exact grown_below w q os⟩
theorem not_ready {g : DG} (h : DI g) {i k : Nat} {x y : Hs} (hik : i < k) (hi : g.order[i]? = some x) (hk : g.order[k]? = some y) (hc : ¬ 0 < cf y x) {v : VX} (hv : g.held.find? (isV y) = some v) : v.ps.all (ahP g.order i) = false := by
  have hne : y ≠ x := fun e => by subst e; have := nodup_at h.oo.nd hi hk; omega
  have hlt : Lt y x := by
    rcases Lt.tri y x with h1 | h1 | h1
    · exact h1
    · exact absurd h1 hne
    · rw [cf_pos] at hc; exact absurd h1 hc
  obtain ⟨j, z, hj, hz, hzp⟩ := h.oo.min i k x y hik hi hk hlt
  have hp : z ∈ v.ps := by unfold parH at hzp; rw [hv] at hzp; exact hzp
  rw [Bool.eq_false_iff]
  intro ha
  have := List.all_eq_true.1 ha z hp
  unfold ahP at this
  rw [ix_at g.order 0 j z h.oo.nd hz] at this
  simp at this
  omega
theorem par_at {g : DG} (h : DI g) {v : VX} (hv : v ∈ g.held) {p : Hs} (hp : p ∈ v.ps) : ∃ j : Nat, j < g.order.length ∧ g.order[j]? = some p ∧ ixF p g.order 0 = (j : Int) := by
  obtain ⟨j, hj⟩ := mem_at ((h.om p).2 (h.cl v hv p hp))
  refine ⟨j, (List.getElem?_eq_some_iff.1 hj).1, hj, ?_⟩
  rw [ix_at g.order 0 j p h.oo.nd hj, Nat.zero_add]
set_option maxRecDepth 8000 in
set_option maxHeartbeats 2000000 in
theorem ordered_any (B0 d : Nat) (v : Value) (g : DG) (w : World) (hD : DS B0 w d g) (hr : HRow w v g.order) : Calls Try.prog 66 #[ptr d, v] w fun e w' => e = .returned (.bool true) ∧ Below w.heap.size w w' := by
  obtain ⟨la, lc, rfl⟩ := hr.form
  have HD := Keep.mk hD
  have HR := Keep.mk hr
  have HL : Keep (g.order.length ≤ 4096) := ⟨by have := hD.di.ol; have := hD.di.hl; omega⟩
  clear hD hr
  go_enter Try.func66, Try.ntmps66
  refine wp_seq_k fun K1 hK1 => ?_
  refine wp_region_list (WL.out ?_)
  refine WL.val (by kernel_rfl) (.bool false) (by go_simp) ?_
  simp only [Act.put, pqA, pqB, pqC]
  refine WL.nil ?_
  refine hK1 _ _ ?_
  refine wp_seq_k fun K2 hK2 => ?_
  refine wp_seq_k fun K3 hK3 => ?_
  refine wp_region_list (WL.out ?_)
  refine WL.val (by kernel_rfl) (.int .i64 0) (by go_simp) ?_
  simp only [Act.put, pqA, pqB, pqC]
  refine WL.nil ?_
  refine hK3 _ _ ?_
  refine wp_block ?_
  refine wp_loop (fun ac wr => ∃ (t : Nat) (u4 u6 u7 u8 u9 u10 u11 u12 u13 u14 u15 u16 u17 u18 u19 u20 u21 u22 u23 u24 u25 u26 u27 u28 u29 u30 u31 u32 u33 u34 u35 u36 u37 u38 u39 u40 u41 u42 u43 u44 u45 u46 u47 u48 u49 u50 u51 u52 u53 u54 u55 u56 u57 u58 u59 u60 u61 u62 u63 u64 u65 u66 u67 : Value), ac = { tmps := #[.pointer (some ⟨d, 0, none⟩), .slice la g.order.length lc, undef, undef, u4, .int .i64 (t : Int), u6, u7, u8, u9, u10, u11, u12, u13, u14, u15, u16, u17, u18, u19, u20, u21, u22, u23, u24, u25, u26, u27, u28, u29, u30, u31, u32, u33, u34, u35, u36, u37, u38, u39, u40, u41, u42, u43, u44, u45, u46, u47, u48, u49, u50, u51, u52, u53, u54, u55, u56, u57, u58, u59, u60, u61, u62, u63, u64, u65, u66, u67], defers := [] } ∧ t ≤ g.order.length ∧ Below w.heap.size w wr) (fun a _ => g.order.length - (intOf (a.tmps.getD 5 undef)).toNat) ⟨0, .bool false, undef, undef, undef, undef, undef, undef, undef, undef, undef, undef, undef, undef, undef, undef, undef, undef, undef, undef, undef, undef, undef, undef, undef, undef, undef, undef, undef, undef, undef, undef, undef, undef, undef, undef, undef, undef, undef, undef, undef, undef, undef, undef, undef, undef, undef, undef, undef, undef, undef, undef, undef, undef, undef, undef, undef, undef, undef, undef, undef, undef, undef, undef, rfl, by omega, Below.refl _ _⟩ ?_
  rintro ac wr ⟨t, u4, u6, u7, u8, u9, u10, u11, u12, u13, u14, u15, u16, u17, u18, u19, u20, u21, u22, u23, u24, u25, u26, u27, u28, u29, u30, u31, u32, u33, u34, u35, u36, u37, u38, u39, u40, u41, u42, u43, u44, u45, u46, u47, u48, u49, u50, u51, u52, u53, u54, u55, u56, u57, u58, u59, u60, u61, u62, u63, u64, u65, u66, u67, rfl, ht, hB⟩
  have JB := Keep.mk hB
  clear hB
  by_cases htl : t < g.order.length
  · have htl' : (t : Int) < (g.order.length : Int) := by omega
    have hwt : IntKind.i64.wrap ((t : Int) + 1) = ((t + 1 : Nat) : Int) := by rw [IntKind.wrap_i64]; have := HL.out; omega
    obtain ⟨b, off, hla, -, -, hrg⟩ := HR.out.at (by omega)
    have Hrg := Keep.mk hrg
    have Hlt := Keep.mk (rangeAt_lt hrg (by omega))
    subst hla
    obtain ⟨x, hx⟩ : ∃ x, Keep (g.order[t]? = some x) := ⟨_, ⟨List.getElem?_eq_getElem htl⟩⟩
    clear hrg
    refine wp_seq_k fun K4 hK4 => ?_
    refine wp_seq_k fun K5 hK5 => ?_
    refine wp_region_list (WL.out ?_)
    refine WL.val (by kernel_rfl) (.int .i64 (t : Int)) (by go_simp) ?_
    simp only [Act.put, pqA, pqB, pqC]
    refine WL.val (by kernel_rfl) (.slice (some ⟨b, off, none⟩) g.order.length lc) (by go_simp) ?_
    simp only [Act.put, pqA, pqB, pqC]
    refine WL.val (by kernel_rfl) (.int .i64 (g.order.length : Int)) (by go_simp) ?_
    simp only [Act.put, pqA, pqB, pqC]
    refine WL.val (by kernel_rfl) (.bool true) (by go_simp) ?_
    simp only [Act.put, pqA, pqB, pqC]
    refine WL.nil ?_
    refine hK5 _ _ ?_
    refine wp_cond_true rfl ?_
    refine wp_skip ?_
    refine hK4 _ _ ?_
    refine wp_seq_k fun K6 hK6 => ?_
    refine wp_block ?_
    refine wp_seq_k fun K7 hK7 => ?_
    refine wp_region_list (WL.out ?_)
    refine WL.val (by kernel_rfl) (.int .i64 (t : Int)) (by go_simp) ?_
    simp only [Act.put, pqA, pqB, pqC]
    refine WL.val (by kernel_rfl) (.int .i64 ((t + 1 : Nat) : Int)) (by go_simp) ?_
    simp only [Act.put, pqA, pqB, pqC]
    refine WL.val (by kernel_rfl) (.int .i64 ((t + 1 : Nat) : Int)) (by go_simp) ?_
    simp only [Act.put, pqA, pqB, pqC]
    refine WL.nil ?_
    refine hK7 _ _ ?_
    refine wp_block ?_
    refine wp_loop (fun ac wi => ∃ (k0 : Nat) (z4 z7 z8 z9 z10 z11 z20 z21 z22 z23 z24 z25 z26 z27 z28 z29 z30 z31 z32 z33 z34 z35 z36 z37 z38 z39 z40 z41 z42 z43 z44 z45 z46 z47 z48 z49 z50 z51 z52 z53 z54 z55 z56 z57 z58 z59 z60 z61 z62 z63 z64 z65 z66 z67 : Value) (k : Nat), ac = { tmps := #[.pointer (some ⟨d, 0, none⟩), .slice (some ⟨b, off, none⟩) g.order.length lc, undef, undef, z4, .int .i64 (t : Int), .int .i64 (k : Int), z7, z8, z9, z10, z11, .int .i64 (t : Int), .slice (some ⟨b, off, none⟩) g.order.length lc, .int .i64 (g.order.length : Int), .bool true, u16, u17, .int .i64 (t : Int), .int .i64 ((t + 1 : Nat) : Int), z20, z21, z22, z23, z24, z25, z26, z27, z28, z29, z30, z31, z32, z33, z34, z35, z36, z37, z38, z39, z40, z41, z42, z43, z44, z45, z46, z47, z48, z49, z50, z51, z52, z53, z54, z55, z56, z57, z58, z59, z60, z61, z62, z63, z64, z65, z66, z67], defers := [] } ∧ t < k ∧ k ≤ g.order.length ∧ Below w.heap.size w wi) (fun a _ => g.order.length - (intOf (a.tmps.getD 6 undef)).toNat) ⟨0, u4, u7, u8, u9, u10, u11, u20, u21, u22, u23, u24, u25, u26, u27, u28, u29, u30, u31, u32, u33, u34, u35, u36, u37, u38, u39, u40, u41, u42, u43, u44, u45, u46, u47, u48, u49, u50, u51, u52, u53, u54, u55, u56, u57, u58, u59, u60, u61, u62, u63, u64, u65, u66, u67, t + 1, rfl, by omega, by omega, JB.out⟩ ?_
    rintro ac wi ⟨k0, z4, z7, z8, z9, z10, z11, z20, z21, z22, z23, z24, z25, z26, z27, z28, z29, z30, z31, z32, z33, z34, z35, z36, z37, z38, z39, z40, z41, z42, z43, z44, z45, z46, z47, z48, z49, z50, z51, z52, z53, z54, z55, z56, z57, z58, z59, z60, z61, z62, z63, z64, z65, z66, z67, k, rfl, htk, hk, hC⟩
    have KC := Keep.mk hC
    clear hC
    by_cases hkl : k < g.order.length
    · have hkl' : (k : Int) < (g.order.length : Int) := by omega
      have hwk : IntKind.i64.wrap ((k : Int) + 1) = ((k + 1 : Nat) : Int) := by rw [IntKind.wrap_i64]; have := HL.out; omega
      obtain ⟨y, hy⟩ : ∃ y, Keep (g.order[k]? = some y) := ⟨_, ⟨List.getElem?_eq_getElem hkl⟩⟩
      have Hrx : Keep (∀ wx, Below w.heap.size w wx → wx.rangeAt b (off + t * 32) (encH x)) := ⟨fun wx hb => by have h := rangeAt_elem (rangeAt_below Hrg.out hb Hlt.out) t htl; rw [(List.getElem?_eq_some_iff.1 hx.out).2] at h; exact h⟩
      have Hry : Keep (∀ wx, Below w.heap.size w wx → wx.rangeAt b (off + k * 32) (encH y)) := ⟨fun wx hb => by have h := rangeAt_elem (rangeAt_below Hrg.out hb Hlt.out) k hkl; rw [(List.getElem?_eq_some_iff.1 hy.out).2] at h; exact h⟩
      refine wp_seq_k fun K8 hK8 => ?_
      refine wp_seq_k fun K9 hK9 => ?_
      refine wp_region_list (WL.out ?_)
      refine WL.val (by kernel_rfl) (.int .i64 (k : Int)) (by go_simp) ?_
      simp only [Act.put, pqA, pqB, pqC]
      refine WL.val (by kernel_rfl) (.slice (some ⟨b, off, none⟩) g.order.length lc) (by go_simp) ?_
      simp only [Act.put, pqA, pqB, pqC]
      refine WL.val (by kernel_rfl) (.int .i64 (g.order.length : Int)) (by go_simp) ?_
      simp only [Act.put, pqA, pqB, pqC]
      refine WL.val (by kernel_rfl) (.bool true) (by go_simp) ?_
      simp only [Act.put, pqA, pqB, pqC]
      refine WL.nil ?_
      refine hK9 _ _ ?_
      refine wp_cond_true rfl ?_
      refine wp_skip ?_
      refine hK8 _ _ ?_
      refine wp_seq_k fun K10 hK10 => ?_
      refine wp_block ?_
      refine wp_seq_k fun K11 hK11 => ?_
      refine wp_seq_k fun K12 hK12 => ?_
      have BD : Keep (Below w.heap.size w wi.drew) := ⟨KC.out.drew⟩
      obtain ⟨cc, hcc⟩ : ∃ c, Keep (cf y x = c) := ⟨_, ⟨rfl⟩⟩
      by_cases hc0 : 0 < cc
      · skip
        refine wp_region_held_drew (S := fun wx => wx.rangeAt b (off + k * 32) (encH y) ∧ wx.rangeAt b (off + t * 32) (encH x)) (by kernel_rfl) (⟨Hry.out _ BD.out, Hrx.out _ BD.out⟩) (fun hHeld => ?_)
        refine wpAnyH_take (i := 0) (oi := ⟨some 26, Op.move (Operand.tmp 1), 37, _, _, none⟩) (v := .slice (some ⟨b, off, none⟩) g.order.length lc) rfl (by kernel_rfl) (by kernel_rfl) (by kernel_rfl) (fun _ _ _ h => h) (Or.inl ⟨by rfl, fun w hS => by clear hS; go_simp⟩) hHeld ?_
        simp only [Act.put, pqA, pqB, pqC]
        refine wpAnyH_take (i := 1) (oi := ⟨some 27, Op.move (Operand.tmp 6), 3, _, _, none⟩) (v := .int .i64 (k : Int)) rfl (by kernel_rfl) (by kernel_rfl) (by kernel_rfl) (fun _ _ _ h => h) (Or.inl ⟨by rfl, fun w hS => by clear hS; go_simp⟩) hHeld ?_
        simp only [Act.put, pqA, pqB, pqC]
        refine wpAnyH_take (i := 2) (oi := ⟨some 28, Op.indexAddr 37 (Operand.tmp 26) (Operand.tmp 27), 0, _, _, none⟩) (v := .pointer (some ⟨b, off + k * 32, none⟩)) rfl (by kernel_rfl) (by kernel_rfl) (by kernel_rfl) (fun _ _ _ h => h) (Or.inl ⟨by rfl, fun w hS => by clear hS; go_simp⟩) hHeld ?_
        simp only [Act.put, pqA, pqB, pqC]
        refine wpAnyH_take (i := 3) (oi := ⟨some 29, Op.load 36 (Operand.tmp 28), 36, _, _, none⟩) (v := .agg (bytesA 32 y.f)) rfl (by kernel_rfl) (by kernel_rfl) (by kernel_rfl) (fun _ _ _ h => h) (yieldsIf_ldE (by rfl) (Operand.tmp 28) rfl b (off + k * 32) rfl y fun w hS => hS.1) hHeld ?_
        simp only [Act.put, pqA, pqB, pqC]
        refine wpAnyH_take (i := 4) (oi := ⟨some 30, Op.move (Operand.tmp 1), 37, _, _, none⟩) (v := .slice (some ⟨b, off, none⟩) g.order.length lc) rfl (by kernel_rfl) (by kernel_rfl) (by kernel_rfl) (fun _ _ _ h => h) (Or.inl ⟨by rfl, fun w hS => by clear hS; go_simp⟩) hHeld ?_
        simp only [Act.put, pqA, pqB, pqC]
        refine wpAnyH_take (i := 5) (oi := ⟨some 31, Op.move (Operand.tmp 5), 3, _, _, none⟩) (v := .int .i64 (t : Int)) rfl (by kernel_rfl) (by kernel_rfl) (by kernel_rfl) (fun _ _ _ h => h) (Or.inl ⟨by rfl, fun w hS => by clear hS; go_simp⟩) hHeld ?_
        simp only [Act.put, pqA, pqB, pqC]
        refine wpAnyH_take (i := 6) (oi := ⟨some 32, Op.indexAddr 37 (Operand.tmp 30) (Operand.tmp 31), 0, _, _, none⟩) (v := .pointer (some ⟨b, off + t * 32, none⟩)) rfl (by kernel_rfl) (by kernel_rfl) (by kernel_rfl) (fun _ _ _ h => h) (Or.inl ⟨by rfl, fun w hS => by clear hS; go_simp⟩) hHeld ?_
        simp only [Act.put, pqA, pqB, pqC]
        refine wpAnyH_take (i := 7) (oi := ⟨some 33, Op.load 36 (Operand.tmp 32), 36, _, _, none⟩) (v := .agg (bytesA 32 x.f)) rfl (by kernel_rfl) (by kernel_rfl) (by kernel_rfl) (fun _ _ _ h => h) (yieldsIf_ldE (by rfl) (Operand.tmp 32) rfl b (off + t * 32) rfl x fun w hS => hS.2) hHeld ?_
        simp only [Act.put, pqA, pqB, pqC]
        refine wpAnyH_ready (rs := [8]) (by kernel_rfl) (by simp) ?_
        refine AllReadyH.cons (o := ⟨some 34, Op.call { callee := Callee.value (Operand.func 57), args := #[Operand.tmp 29, Operand.tmp 33], argTypes := #[36, 36] }, 3, _, _, none⟩) rfl (fun K hK => ?_) AllReadyH.nil
        rw [if_pos (by rfl)]
        have hcp := cmpR_any y x wi.drew
        rw [hcc.out] at hcp
        refine wp_callF 57 _ _ rfl Try.in57 #[.agg (bytesA 32 y.f), .agg (bytesA 32 x.f)] (by simp [Act.eval]) (fun u wx => u = .int .i64 cc ∧ Below wi.drew.heap.size wi.drew wx) (hcp.mono fun e w' ⟨h1, h2⟩ => ⟨_, h1, rfl, h2⟩) ?_
        clear hcp
        rintro _ w5 ⟨rfl, hb⟩
        have K5 : Keep (Below w.heap.size w w5) := ⟨belowT BD.out hb⟩
        refine hK _ _ ⟨Hry.out _ K5.out, Hrx.out _ K5.out⟩ fun hH1 => ?_
        clear hK hb
        simp only [Act.put, pqA, pqB, pqC]
        refine wpAnyH_take (i := 9) (oi := ⟨some 35, Op.binOp BinOp.gtr 3 (Operand.tmp 34) (Operand.const (Value.int IntKind.i64 0)) 3, 4, _, _, none⟩) (v := .bool true) rfl (by kernel_rfl) (by kernel_rfl) (by kernel_rfl) (fun _ _ _ h => h) (Or.inl ⟨by rfl, fun w hS => by clear hS; go_simp⟩) hH1 ?_
        simp only [Act.put, pqA, pqB, pqC]
        refine wpAnyH_done (by kernel_rfl) ?_ _
        refine hK12 _ _ ?_
        refine wp_cond_true rfl ?_
        refine wp_exit ?_
        refine hK10 _ _ ?_
        refine wp_region_list (WL.out ?_)
        refine WL.val (by kernel_rfl) (.int .i64 (k : Int)) (by go_simp) ?_
        simp only [Act.put, pqA, pqB, pqC]
        refine WL.val (by kernel_rfl) (.int .i64 ((k + 1 : Nat) : Int)) (by go_simp) ?_
        simp only [Act.put, pqA, pqB, pqC]
        refine WL.val (by kernel_rfl) (.int .i64 ((k + 1 : Nat) : Int)) (by go_simp) ?_
        simp only [Act.put, pqA, pqB, pqC]
        refine WL.nil ?_
        refine ⟨⟨0, z4, z7, z8, z9, z10, z11, .int .i64 (k : Int), .slice (some ⟨b, off, none⟩) g.order.length lc, .int .i64 (g.order.length : Int), .bool true, .int .i64 (k : Int), .int .i64 ((k + 1 : Nat) : Int), .slice (some ⟨b, off, none⟩) g.order.length lc, .int .i64 (k : Int), .pointer (some ⟨b, off + k * 32, none⟩), .agg (bytesA 32 y.f), .slice (some ⟨b, off, none⟩) g.order.length lc, .int .i64 (t : Int), .pointer (some ⟨b, off + t * 32, none⟩), .agg (bytesA 32 x.f), .int .i64 cc, .bool true, z36, z37, z38, z39, z40, z41, z42, z43, z44, z45, z46, z47, z48, z49, z50, z51, z52, z53, z54, z55, z56, z57, z58, z59, z60, z61, z62, z63, z64, z65, z66, z67, k + 1, rfl, by omega, by omega, K5.out⟩, ?_⟩
        simp only [intOf]; show g.order.length - (((k + 1 : Nat) : Int)).toNat < g.order.length - ((k : Int)).toNat; omega
      · skip
        refine wp_region_held_drew (S := fun wx => wx.rangeAt b (off + k * 32) (encH y) ∧ wx.rangeAt b (off + t * 32) (encH x)) (by kernel_rfl) (⟨Hry.out _ BD.out, Hrx.out _ BD.out⟩) (fun hHeld => ?_)
        refine wpAnyH_take (i := 0) (oi := ⟨some 26, Op.move (Operand.tmp 1), 37, _, _, none⟩) (v := .slice (some ⟨b, off, none⟩) g.order.length lc) rfl (by kernel_rfl) (by kernel_rfl) (by kernel_rfl) (fun _ _ _ h => h) (Or.inl ⟨by rfl, fun w hS => by clear hS; go_simp⟩) hHeld ?_
        simp only [Act.put, pqA, pqB, pqC]
        refine wpAnyH_take (i := 1) (oi := ⟨some 27, Op.move (Operand.tmp 6), 3, _, _, none⟩) (v := .int .i64 (k : Int)) rfl (by kernel_rfl) (by kernel_rfl) (by kernel_rfl) (fun _ _ _ h => h) (Or.inl ⟨by rfl, fun w hS => by clear hS; go_simp⟩) hHeld ?_
        simp only [Act.put, pqA, pqB, pqC]
        refine wpAnyH_take (i := 2) (oi := ⟨some 28, Op.indexAddr 37 (Operand.tmp 26) (Operand.tmp 27), 0, _, _, none⟩) (v := .pointer (some ⟨b, off + k * 32, none⟩)) rfl (by kernel_rfl) (by kernel_rfl) (by kernel_rfl) (fun _ _ _ h => h) (Or.inl ⟨by rfl, fun w hS => by clear hS; go_simp⟩) hHeld ?_
        simp only [Act.put, pqA, pqB, pqC]
        refine wpAnyH_take (i := 3) (oi := ⟨some 29, Op.load 36 (Operand.tmp 28), 36, _, _, none⟩) (v := .agg (bytesA 32 y.f)) rfl (by kernel_rfl) (by kernel_rfl) (by kernel_rfl) (fun _ _ _ h => h) (yieldsIf_ldE (by rfl) (Operand.tmp 28) rfl b (off + k * 32) rfl y fun w hS => hS.1) hHeld ?_
        simp only [Act.put, pqA, pqB, pqC]
        refine wpAnyH_take (i := 4) (oi := ⟨some 30, Op.move (Operand.tmp 1), 37, _, _, none⟩) (v := .slice (some ⟨b, off, none⟩) g.order.length lc) rfl (by kernel_rfl) (by kernel_rfl) (by kernel_rfl) (fun _ _ _ h => h) (Or.inl ⟨by rfl, fun w hS => by clear hS; go_simp⟩) hHeld ?_
        simp only [Act.put, pqA, pqB, pqC]
        refine wpAnyH_take (i := 5) (oi := ⟨some 31, Op.move (Operand.tmp 5), 3, _, _, none⟩) (v := .int .i64 (t : Int)) rfl (by kernel_rfl) (by kernel_rfl) (by kernel_rfl) (fun _ _ _ h => h) (Or.inl ⟨by rfl, fun w hS => by clear hS; go_simp⟩) hHeld ?_
        simp only [Act.put, pqA, pqB, pqC]
        refine wpAnyH_take (i := 6) (oi := ⟨some 32, Op.indexAddr 37 (Operand.tmp 30) (Operand.tmp 31), 0, _, _, none⟩) (v := .pointer (some ⟨b, off + t * 32, none⟩)) rfl (by kernel_rfl) (by kernel_rfl) (by kernel_rfl) (fun _ _ _ h => h) (Or.inl ⟨by rfl, fun w hS => by clear hS; go_simp⟩) hHeld ?_
        simp only [Act.put, pqA, pqB, pqC]
        refine wpAnyH_take (i := 7) (oi := ⟨some 33, Op.load 36 (Operand.tmp 32), 36, _, _, none⟩) (v := .agg (bytesA 32 x.f)) rfl (by kernel_rfl) (by kernel_rfl) (by kernel_rfl) (fun _ _ _ h => h) (yieldsIf_ldE (by rfl) (Operand.tmp 32) rfl b (off + t * 32) rfl x fun w hS => hS.2) hHeld ?_
        simp only [Act.put, pqA, pqB, pqC]
        refine wpAnyH_ready (rs := [8]) (by kernel_rfl) (by simp) ?_
        refine AllReadyH.cons (o := ⟨some 34, Op.call { callee := Callee.value (Operand.func 57), args := #[Operand.tmp 29, Operand.tmp 33], argTypes := #[36, 36] }, 3, _, _, none⟩) rfl (fun K hK => ?_) AllReadyH.nil
        rw [if_pos (by rfl)]
        have hcp := cmpR_any y x wi.drew
        rw [hcc.out] at hcp
        refine wp_callF 57 _ _ rfl Try.in57 #[.agg (bytesA 32 y.f), .agg (bytesA 32 x.f)] (by simp [Act.eval]) (fun u wx => u = .int .i64 cc ∧ Below wi.drew.heap.size wi.drew wx) (hcp.mono fun e w' ⟨h1, h2⟩ => ⟨_, h1, rfl, h2⟩) ?_
        clear hcp
        rintro _ w5 ⟨rfl, hb⟩
        have K5 : Keep (Below w.heap.size w w5) := ⟨belowT BD.out hb⟩
        refine hK _ _ ⟨Hry.out _ K5.out, Hrx.out _ K5.out⟩ fun hH1 => ?_
        clear hK hb
        simp only [Act.put, pqA, pqB, pqC]
        refine wpAnyH_take (i := 9) (oi := ⟨some 35, Op.binOp BinOp.gtr 3 (Operand.tmp 34) (Operand.const (Value.int IntKind.i64 0)) 3, 4, _, _, none⟩) (v := .bool false) rfl (by kernel_rfl) (by kernel_rfl) (by kernel_rfl) (fun _ _ _ h => h) (Or.inl ⟨by rfl, fun w hS => by clear hS; go_simp⟩) hH1 ?_
        simp only [Act.put, pqA, pqB, pqC]
        refine wpAnyH_done (by kernel_rfl) ?_ _
        refine hK12 _ _ ?_
        refine wp_cond_false rfl ?_
        refine wp_skip ?_
        refine hK11 _ _ ?_
        refine wp_seq_k fun K13 hK13 => ?_
        refine wp_region_list (WL.out ?_)
        refine WL.val (by kernel_rfl) (.pointer (some ⟨d, 0, none⟩)) (by go_simp) ?_
        simp only [Act.put, pqA, pqB, pqC]
        refine WL.val (by kernel_rfl) (.slice (some ⟨b, off, none⟩) g.order.length lc) (by go_simp) ?_
        simp only [Act.put, pqA, pqB, pqC]
        refine WL.val (by kernel_rfl) (.int .i64 (k : Int)) (by go_simp) ?_
        simp only [Act.put, pqA, pqB, pqC]
        refine WL.val (by kernel_rfl) (.pointer (some ⟨b, off + k * 32, none⟩)) (by go_simp) ?_
        simp only [Act.put, pqA, pqB, pqC]
        refine WL.mid (by kernel_rfl) 36 (.tmp 40) rfl b (off + k * 32) rfl (encH y) _ (Hry.out _ K5.out) Try.underlying36 rfl (Try.size36L y) ?_
        rw [enc_load]
        simp only [Act.put, pqA, pqB, pqC]
        obtain ⟨v, hv1, hvm⟩ : ∃ v, g.held.find? (isV y) = some v ∧ v ∈ g.held := by
          obtain ⟨v, h1, h2, _⟩ := find_has ((HD.out.di.om _).1 (at_mem hy.out))
          exact ⟨v, h1, h2⟩
        have HV1 := Keep.mk hv1
        have HVm := Keep.mk hvm
        have HVl := Keep.mk (chk_ok (HD.out.di.hc v hvm)).1
        have HNr := Keep.mk (not_ready HD.out.di htk hx.out hy.out (by rw [hcc.out]; exact hc0) hv1)
        clear hv1 hvm
        have hpa := parents_any d y (DgS d g) g w5 (HD.out.below K5.out).at' (fun u hu => by have h := HV1.out; rw [hu] at h; cases h; have := HVl.out; omega)
        refine WL.callF (by kernel_rfl) 26 _ _ rfl Try.in26 #[ptr d, .agg (bytesA 32 y.f)] (by simp [Act.eval]) ?_
        refine (hpa.mono (R' := fun e w' => ∃ v', e = .returned (.tuple #[v', .int .i64 0]) ∧ Fresh w5 w' v' v.ps) (fun e w' h => h.elim (fun h => by have h1 := h.1; rw [HV1.out] at h1; cases h1) fun ⟨u, h1, h2⟩ => by rw [HV1.out] at h1; cases h1; exact h2)).mono ?_
        rintro e w6 ⟨v7, rfl, hf⟩
        refine ⟨_, rfl, ?_⟩
        clear hpa
        obtain ⟨pa, pc, e7⟩ := hf.own.sl
        subst e7
        have O6 := Keep.mk hf.own
        have K6 : Keep (Below w.heap.size w w6) := ⟨belowT K5.out hf.bel⟩
        clear hf
        simp only [Act.put, pqA, pqB, pqC]
        refine WL.val (by kernel_rfl) (.tuple #[.slice pa v.ps.length pc, .int .i64 0]) (by go_simp) ?_
        simp only [Act.put, pqA, pqB, pqC]
        refine WL.val (by kernel_rfl) (.slice pa v.ps.length pc) (by go_simp) ?_
        simp only [Act.put, pqA, pqB, pqC]
        refine WL.val (by kernel_rfl) (.int .i64 0) (by go_simp) ?_
        simp only [Act.put, pqA, pqB, pqC]
        refine WL.val (by kernel_rfl) (.slice pa v.ps.length pc) (by go_simp) ?_
        simp only [Act.put, pqA, pqB, pqC]
        refine WL.val (by kernel_rfl) (.int .i64 0) (by go_simp) ?_
        simp only [Act.put, pqA, pqB, pqC]
        refine WL.nil ?_
        refine hK13 _ _ ?_
        refine wp_seq_k fun K14 hK14 => ?_
        refine wp_region_list (WL.out ?_)
        refine WL.val (by kernel_rfl) (.bool true) (by go_simp) ?_
        simp only [Act.put, pqA, pqB, pqC]
        refine WL.nil ?_
        refine hK14 _ _ ?_
        refine wp_seq_k fun K15 hK15 => ?_
        refine wp_seq_k fun K16 hK16 => ?_
        refine wp_region_list (WL.out ?_)
        refine WL.val (by kernel_rfl) (.int .i64 0) (by go_simp) ?_
        simp only [Act.put, pqA, pqB, pqC]
        refine WL.nil ?_
        refine hK16 _ _ ?_
        refine wp_block ?_
        refine wp_loop (fun ac wj => ∃ (j : Nat) (y11 y45 y46 y47 y48 y49 y50 y51 y52 y53 y54 y55 y56 y57 y58 y59 y60 y61 y62 y63 y64 y65 y66 : Value) (rb : Bool), ac = { tmps := #[.pointer (some ⟨d, 0, none⟩), .slice (some ⟨b, off, none⟩) g.order.length lc, undef, undef, z4, .int .i64 (t : Int), .int .i64 (k : Int), .slice pa v.ps.length pc, .int .i64 0, .bool rb, .int .i64 (j : Int), y11, .int .i64 (t : Int), .slice (some ⟨b, off, none⟩) g.order.length lc, .int .i64 (g.order.length : Int), .bool true, u16, u17, .int .i64 (t : Int), .int .i64 ((t + 1 : Nat) : Int), .int .i64 (k : Int), .slice (some ⟨b, off, none⟩) g.order.length lc, .int .i64 (g.order.length : Int), .bool true, z24, z25, .slice (some ⟨b, off, none⟩) g.order.length lc, .int .i64 (k : Int), .pointer (some ⟨b, off + k * 32, none⟩), .agg (bytesA 32 y.f), .slice (some ⟨b, off, none⟩) g.order.length lc, .int .i64 (t : Int), .pointer (some ⟨b, off + t * 32, none⟩), .agg (bytesA 32 x.f), .int .i64 cc, .bool false, .tuple #[.slice pa v.ps.length pc, .int .i64 0], .pointer (some ⟨d, 0, none⟩), .slice (some ⟨b, off, none⟩) g.order.length lc, .int .i64 (k : Int), .pointer (some ⟨b, off + k * 32, none⟩), .agg (bytesA 32 y.f), .tuple #[.slice pa v.ps.length pc, .int .i64 0], .slice pa v.ps.length pc, .int .i64 0, y45, y46, y47, y48, y49, y50, y51, y52, y53, y54, y55, y56, y57, y58, y59, y60, y61, y62, y63, y64, y65, y66, z67], defers := [] } ∧ j ≤ v.ps.length ∧ (v.ps.take j).all (ahP g.order t) = rb ∧ Below w6.heap.size w6 wj) (fun a _ => v.ps.length - (intOf (a.tmps.getD 10 undef)).toNat) ⟨0, z11, z45, z46, z47, z48, z49, z50, z51, z52, z53, z54, z55, z56, z57, z58, z59, z60, z61, z62, z63, z64, z65, z66, true, rfl, by omega, rfl, Below.refl _ _⟩ ?_
        rintro ac wj ⟨j, y11, y45, y46, y47, y48, y49, y50, y51, y52, y53, y54, y55, y56, y57, y58, y59, y60, y61, y62, y63, y64, y65, y66, rb, rfl, hj, hR, hE⟩
        have MR := Keep.mk hR
        have ME := Keep.mk hE
        clear hR hE
        have K9 : Keep (Below w.heap.size w wj) := ⟨belowT K6.out ME.out⟩
        by_cases hjl : j < v.ps.length
        · have hjl' : (j : Int) < (v.ps.length : Int) := by omega
          have hwj : IntKind.i64.wrap ((j : Int) + 1) = ((j + 1 : Nat) : Int) := by rw [IntKind.wrap_i64]; have := HVl.out; omega
          obtain ⟨gq, oq, hqa, -, -, hrq⟩ := (O6.out.below ME.out).row.at (by omega)
          have hel := rangeAt_elem hrq j hjl
          obtain ⟨p, hp⟩ : ∃ p, Keep (p = v.ps[j]) := ⟨_, ⟨rfl⟩⟩
          rw [← hp.out] at hel
          have Hel := Keep.mk hel
          subst hqa
          obtain ⟨ja, hja, hjb, hjc⟩ := par_at HD.out.di HVm.out (show p ∈ v.ps by rw [hp.out]; exact List.getElem_mem hjl)
          have HJ := Keep.mk hjc
          have hja' : (0 : Int) ≤ (ja : Int) := by omega
          have hfa : Keep ((v.ps.take (j + 1)).all (ahP g.order t) = (rb && decide (ja < t))) := ⟨by rw [List.take_succ_eq_append_getElem hjl, List.all_append, MR.out, ← hp.out]; unfold ahP; simp [hjc]⟩
          clear hel hrq hjb hjc
          refine wp_seq_k fun K17 hK17 => ?_
          refine wp_seq_k fun K18 hK18 => ?_
          refine wp_region_list (WL.out ?_)
          refine WL.val (by kernel_rfl) (.int .i64 (j : Int)) (by go_simp) ?_
          simp only [Act.put, pqA, pqB, pqC]
          refine WL.val (by kernel_rfl) (.slice (some ⟨gq, oq, none⟩) v.ps.length pc) (by go_simp) ?_
          simp only [Act.put, pqA, pqB, pqC]
          refine WL.val (by kernel_rfl) (.int .i64 (v.ps.length : Int)) (by go_simp) ?_
          simp only [Act.put, pqA, pqB, pqC]
          refine WL.val (by kernel_rfl) (.bool true) (by go_simp) ?_
          simp only [Act.put, pqA, pqB, pqC]
          refine WL.nil ?_
          refine hK18 _ _ ?_
          refine wp_cond_true rfl ?_
          refine wp_skip ?_
          refine hK17 _ _ ?_
          refine wp_seq_k fun K19 hK19 => ?_
          refine wp_block ?_
          refine wp_seq_k fun K20 hK20 => ?_
          refine wp_region_list (WL.out ?_)
          refine WL.val (by kernel_rfl) (.slice (some ⟨b, off, none⟩) g.order.length lc) (by go_simp) ?_
          simp only [Act.put, pqA, pqB, pqC]
          refine WL.val (by kernel_rfl) (.slice (some ⟨gq, oq, none⟩) v.ps.length pc) (by go_simp) ?_
          simp only [Act.put, pqA, pqB, pqC]
          refine WL.val (by kernel_rfl) (.int .i64 (j : Int)) (by go_simp) ?_
          simp only [Act.put, pqA, pqB, pqC]
          refine WL.val (by kernel_rfl) (.pointer (some ⟨gq, oq + j * 32, none⟩)) (by go_simp) ?_
          simp only [Act.put, pqA, pqB, pqC]
          refine WL.mid (by kernel_rfl) 36 (.tmp 54) rfl gq (oq + j * 32) rfl (encH p) _ Hel.out Try.underlying36 rfl (Try.size36L p) ?_
          rw [enc_load]
          simp only [Act.put, pqA, pqB, pqC]
          have hix := refIx_any (.slice (some ⟨b, off, none⟩) g.order.length lc) g.order p wj (HR.out.below K9.out) (by have := HL.out; omega)
          rw [HJ.out] at hix
          refine WL.callF (by kernel_rfl) 63 _ _ rfl Try.in63 #[.slice (some ⟨b, off, none⟩) g.order.length lc, .agg (bytesA 32 p.f)] (by simp [Act.eval]) ?_
          refine (hix).mono ?_
          rintro e w7 ⟨rfl, hz⟩
          refine ⟨_, rfl, ?_⟩
          clear hix
          have ME7 := Keep.mk (belowT ME.out hz)
          clear hz
          simp only [Act.put, pqA, pqB, pqC]
          refine WL.val (by kernel_rfl) (.int .i64 (ja : Int)) (by go_simp) ?_
          simp only [Act.put, pqA, pqB, pqC]
          refine WL.nil ?_
          refine hK20 _ _ ?_
          rcases Bool.eq_false_or_eq_true rb with hrb | hrb
          · subst hrb
            refine wp_region_list (WL.out ?_)
            refine WL.val (by kernel_rfl) (.bool true) (by go_simp) ?_
            simp only [Act.put, pqA, pqB, pqC]
            refine WL.val (by kernel_rfl) (.bool true) (by go_simp) ?_
            simp only [Act.put, pqA, pqB, pqC]
            refine WL.val (by kernel_rfl) (.int .i64 (ja : Int)) (by go_simp) ?_
            simp only [Act.put, pqA, pqB, pqC]
            refine WL.val (by kernel_rfl) (.bool true) (by go_simp) ?_
            simp only [Act.put, pqA, pqB, pqC]
            refine WL.val (by kernel_rfl) (.bool true) (by go_simp) ?_
            simp only [Act.put, pqA, pqB, pqC]
            refine WL.val (by kernel_rfl) (.bool true) (by go_simp) ?_
            simp only [Act.put, pqA, pqB, pqC]
            refine WL.val (by kernel_rfl) (.int .i64 (ja : Int)) (by go_simp) ?_
            simp only [Act.put, pqA, pqB, pqC]
            refine WL.val (by kernel_rfl) (.int .i64 (t : Int)) (by go_simp) ?_
            simp only [Act.put, pqA, pqB, pqC]
            by_cases h14_8 : ja < t
            · have hjt' : (ja : Int) < (t : Int) := by omega
              refine WL.val (by kernel_rfl) (.bool true) (by go_simp) ?_
              simp only [Act.put, pqA, pqB, pqC]
              refine WL.val (by kernel_rfl) (.bool true) (by go_simp) ?_
              simp only [Act.put, pqA, pqB, pqC]
              refine WL.val (by kernel_rfl) (.bool true) (by go_simp) ?_
              simp only [Act.put, pqA, pqB, pqC]
              refine WL.nil ?_
              refine hK19 _ _ ?_
              refine wp_region_list (WL.out ?_)
              refine WL.val (by kernel_rfl) (.int .i64 (j : Int)) (by go_simp) ?_
              simp only [Act.put, pqA, pqB, pqC]
              refine WL.val (by kernel_rfl) (.int .i64 ((j + 1 : Nat) : Int)) (by go_simp) ?_
              simp only [Act.put, pqA, pqB, pqC]
              refine WL.val (by kernel_rfl) (.int .i64 ((j + 1 : Nat) : Int)) (by go_simp) ?_
              simp only [Act.put, pqA, pqB, pqC]
              refine WL.nil ?_
              refine ⟨⟨j + 1, .int .i64 (ja : Int), .int .i64 (j : Int), .slice (some ⟨gq, oq, none⟩) v.ps.length pc, .int .i64 (v.ps.length : Int), .bool true, .int .i64 (j : Int), .int .i64 ((j + 1 : Nat) : Int), .slice (some ⟨b, off, none⟩) g.order.length lc, .slice (some ⟨gq, oq, none⟩) v.ps.length pc, .int .i64 (j : Int), .pointer (some ⟨gq, oq + j * 32, none⟩), .agg (bytesA 32 p.f), .int .i64 (ja : Int), .bool true, .bool true, .int .i64 (ja : Int), .bool true, .bool true, .bool true, .int .i64 (ja : Int), .int .i64 (t : Int), .bool true, .bool true, true, rfl, by omega, by rw [hfa.out]; simp; try omega, ME7.out⟩, ?_⟩
              simp only [intOf]; show v.ps.length - (((j + 1 : Nat) : Int)).toNat < v.ps.length - ((j : Int)).toNat; omega
            · have hjt' : ¬ (ja : Int) < (t : Int) := by omega
              refine WL.val (by kernel_rfl) (.bool false) (by go_simp) ?_
              simp only [Act.put, pqA, pqB, pqC]
              refine WL.val (by kernel_rfl) (.bool false) (by go_simp) ?_
              simp only [Act.put, pqA, pqB, pqC]
              refine WL.val (by kernel_rfl) (.bool false) (by go_simp) ?_
              simp only [Act.put, pqA, pqB, pqC]
              refine WL.nil ?_
              refine hK19 _ _ ?_
              refine wp_region_list (WL.out ?_)
              refine WL.val (by kernel_rfl) (.int .i64 (j : Int)) (by go_simp) ?_
              simp only [Act.put, pqA, pqB, pqC]
              refine WL.val (by kernel_rfl) (.int .i64 ((j + 1 : Nat) : Int)) (by go_simp) ?_
              simp only [Act.put, pqA, pqB, pqC]
              refine WL.val (by kernel_rfl) (.int .i64 ((j + 1 : Nat) : Int)) (by go_simp) ?_
              simp only [Act.put, pqA, pqB, pqC]
              refine WL.nil ?_
              refine ⟨⟨j + 1, .int .i64 (ja : Int), .int .i64 (j : Int), .slice (some ⟨gq, oq, none⟩) v.ps.length pc, .int .i64 (v.ps.length : Int), .bool true, .int .i64 (j : Int), .int .i64 ((j + 1 : Nat) : Int), .slice (some ⟨b, off, none⟩) g.order.length lc, .slice (some ⟨gq, oq, none⟩) v.ps.length pc, .int .i64 (j : Int), .pointer (some ⟨gq, oq + j * 32, none⟩), .agg (bytesA 32 p.f), .int .i64 (ja : Int), .bool true, .bool true, .int .i64 (ja : Int), .bool true, .bool true, .bool true, .int .i64 (ja : Int), .int .i64 (t : Int), .bool false, .bool false, false, rfl, by omega, by rw [hfa.out]; simp; try omega, ME7.out⟩, ?_⟩
              simp only [intOf]; show v.ps.length - (((j + 1 : Nat) : Int)).toNat < v.ps.length - ((j : Int)).toNat; omega
          · subst hrb
            refine wp_region_list (WL.out ?_)
            refine WL.val (by kernel_rfl) (.bool false) (by go_simp) ?_
            simp only [Act.put, pqA, pqB, pqC]
            refine WL.val (by kernel_rfl) (.bool false) (by go_simp) ?_
            simp only [Act.put, pqA, pqB, pqC]
            refine WL.skip (by kernel_rfl) ?_
            simp only [Act.put, pqA, pqB, pqC]
            refine WL.skip (by kernel_rfl) ?_
            simp only [Act.put, pqA, pqB, pqC]
            refine WL.val (by kernel_rfl) (.bool false) (by go_simp) ?_
            simp only [Act.put, pqA, pqB, pqC]
            refine WL.val (by kernel_rfl) (.bool false) (by go_simp) ?_
            simp only [Act.put, pqA, pqB, pqC]
            refine WL.skip (by kernel_rfl) ?_
            simp only [Act.put, pqA, pqB, pqC]
            refine WL.skip (by kernel_rfl) ?_
            simp only [Act.put, pqA, pqB, pqC]
            refine WL.skip (by kernel_rfl) ?_
            simp only [Act.put, pqA, pqB, pqC]
            refine WL.val (by kernel_rfl) (.bool false) (by go_simp) ?_
            simp only [Act.put, pqA, pqB, pqC]
            refine WL.val (by kernel_rfl) (.bool false) (by go_simp) ?_
            simp only [Act.put, pqA, pqB, pqC]
            refine WL.nil ?_
            refine hK19 _ _ ?_
            refine wp_region_list (WL.out ?_)
            refine WL.val (by kernel_rfl) (.int .i64 (j : Int)) (by go_simp) ?_
            simp only [Act.put, pqA, pqB, pqC]
            refine WL.val (by kernel_rfl) (.int .i64 ((j + 1 : Nat) : Int)) (by go_simp) ?_
            simp only [Act.put, pqA, pqB, pqC]
            refine WL.val (by kernel_rfl) (.int .i64 ((j + 1 : Nat) : Int)) (by go_simp) ?_
            simp only [Act.put, pqA, pqB, pqC]
            refine WL.nil ?_
            refine ⟨⟨j + 1, .int .i64 (ja : Int), .int .i64 (j : Int), .slice (some ⟨gq, oq, none⟩) v.ps.length pc, .int .i64 (v.ps.length : Int), .bool true, .int .i64 (j : Int), .int .i64 ((j + 1 : Nat) : Int), .slice (some ⟨b, off, none⟩) g.order.length lc, .slice (some ⟨gq, oq, none⟩) v.ps.length pc, .int .i64 (j : Int), .pointer (some ⟨gq, oq + j * 32, none⟩), .agg (bytesA 32 p.f), .int .i64 (ja : Int), .bool false, .bool false, undef, undef, .bool false, .bool false, undef, undef, undef, .bool false, false, rfl, by omega, by rw [hfa.out]; simp; try omega, ME7.out⟩, ?_⟩
            simp only [intOf]; show v.ps.length - (((j + 1 : Nat) : Int)).toNat < v.ps.length - ((j : Int)).toNat; omega
        · have hje : j = v.ps.length := by omega
          have hjl' : ¬ (j : Int) < (v.ps.length : Int) := by omega
          have hrb : rb = false := by rw [← MR.out, hje, List.take_length]; exact HNr.out
          subst hrb
          refine wp_seq_k fun K21 hK21 => ?_
          refine wp_seq_k fun K22 hK22 => ?_
          refine wp_region_list (WL.out ?_)
          refine WL.val (by kernel_rfl) (.int .i64 (j : Int)) (by go_simp) ?_
          simp only [Act.put, pqA, pqB, pqC]
          refine WL.val (by kernel_rfl) (.slice pa v.ps.length pc) (by go_simp) ?_
          simp only [Act.put, pqA, pqB, pqC]
          refine WL.val (by kernel_rfl) (.int .i64 (v.ps.length : Int)) (by go_simp) ?_
          simp only [Act.put, pqA, pqB, pqC]
          refine WL.val (by kernel_rfl) (.bool false) (by go_simp) ?_
          simp only [Act.put, pqA, pqB, pqC]
          refine WL.nil ?_
          refine hK22 _ _ ?_
          refine wp_cond_false rfl ?_
          refine wp_exit ?_
          refine hK15 _ _ ?_
          refine wp_seq_k fun K23 hK23 => ?_
          refine wp_region_list (WL.out ?_)
          refine WL.val (by kernel_rfl) (.bool false) (by go_simp) ?_
          simp only [Act.put, pqA, pqB, pqC]
          refine WL.nil ?_
          refine hK23 _ _ ?_
          refine wp_cond_false rfl ?_
          refine wp_skip ?_
          refine hK10 _ _ ?_
          refine wp_region_list (WL.out ?_)
          refine WL.val (by kernel_rfl) (.int .i64 (k : Int)) (by go_simp) ?_
          simp only [Act.put, pqA, pqB, pqC]
          refine WL.val (by kernel_rfl) (.int .i64 ((k + 1 : Nat) : Int)) (by go_simp) ?_
          simp only [Act.put, pqA, pqB, pqC]
          refine WL.val (by kernel_rfl) (.int .i64 ((k + 1 : Nat) : Int)) (by go_simp) ?_
          simp only [Act.put, pqA, pqB, pqC]
          refine WL.nil ?_
          refine ⟨⟨0, z4, .slice pa v.ps.length pc, .int .i64 0, .bool false, .int .i64 (j : Int), y11, .int .i64 (k : Int), .slice (some ⟨b, off, none⟩) g.order.length lc, .int .i64 (g.order.length : Int), .bool true, .int .i64 (k : Int), .int .i64 ((k + 1 : Nat) : Int), .slice (some ⟨b, off, none⟩) g.order.length lc, .int .i64 (k : Int), .pointer (some ⟨b, off + k * 32, none⟩), .agg (bytesA 32 y.f), .slice (some ⟨b, off, none⟩) g.order.length lc, .int .i64 (t : Int), .pointer (some ⟨b, off + t * 32, none⟩), .agg (bytesA 32 x.f), .int .i64 cc, .bool false, .tuple #[.slice pa v.ps.length pc, .int .i64 0], .pointer (some ⟨d, 0, none⟩), .slice (some ⟨b, off, none⟩) g.order.length lc, .int .i64 (k : Int), .pointer (some ⟨b, off + k * 32, none⟩), .agg (bytesA 32 y.f), .tuple #[.slice pa v.ps.length pc, .int .i64 0], .slice pa v.ps.length pc, .int .i64 0, .int .i64 (j : Int), .slice pa v.ps.length pc, .int .i64 (v.ps.length : Int), .bool false, y49, y50, y51, y52, y53, y54, y55, y56, y57, y58, y59, y60, y61, y62, y63, y64, y65, y66, .bool false, k + 1, rfl, by omega, by omega, K9.out⟩, ?_⟩
          simp only [intOf]; show g.order.length - (((k + 1 : Nat) : Int)).toNat < g.order.length - ((k : Int)).toNat; omega
    · have hkl' : ¬ (k : Int) < (g.order.length : Int) := by omega
      refine wp_seq_k fun K24 hK24 => ?_
      refine wp_seq_k fun K25 hK25 => ?_
      refine wp_region_list (WL.out ?_)
      refine WL.val (by kernel_rfl) (.int .i64 (k : Int)) (by go_simp) ?_
      simp only [Act.put, pqA, pqB, pqC]
      refine WL.val (by kernel_rfl) (.slice (some ⟨b, off, none⟩) g.order.length lc) (by go_simp) ?_
      simp only [Act.put, pqA, pqB, pqC]
      refine WL.val (by kernel_rfl) (.int .i64 (g.order.length : Int)) (by go_simp) ?_
      simp only [Act.put, pqA, pqB, pqC]
      refine WL.val (by kernel_rfl) (.bool false) (by go_simp) ?_
      simp only [Act.put, pqA, pqB, pqC]
      refine WL.nil ?_
      refine hK25 _ _ ?_
      refine wp_cond_false rfl ?_
      refine wp_exit ?_
      refine hK6 _ _ ?_
      refine wp_region_list (WL.out ?_)
      refine WL.val (by kernel_rfl) (.int .i64 (t : Int)) (by go_simp) ?_
      simp only [Act.put, pqA, pqB, pqC]
      refine WL.val (by kernel_rfl) (.int .i64 ((t + 1 : Nat) : Int)) (by go_simp) ?_
      simp only [Act.put, pqA, pqB, pqC]
      refine WL.val (by kernel_rfl) (.int .i64 ((t + 1 : Nat) : Int)) (by go_simp) ?_
      simp only [Act.put, pqA, pqB, pqC]
      refine WL.nil ?_
      refine ⟨⟨t + 1, z4, .int .i64 (k : Int), z7, z8, z9, z10, z11, .int .i64 (t : Int), .slice (some ⟨b, off, none⟩) g.order.length lc, .int .i64 (g.order.length : Int), .bool true, .int .i64 (t : Int), .int .i64 ((t + 1 : Nat) : Int), .int .i64 (t : Int), .int .i64 ((t + 1 : Nat) : Int), .int .i64 (k : Int), .slice (some ⟨b, off, none⟩) g.order.length lc, .int .i64 (g.order.length : Int), .bool false, z24, z25, z26, z27, z28, z29, z30, z31, z32, z33, z34, z35, z36, z37, z38, z39, z40, z41, z42, z43, z44, z45, z46, z47, z48, z49, z50, z51, z52, z53, z54, z55, z56, z57, z58, z59, z60, z61, z62, z63, z64, z65, z66, z67, rfl, by omega, KC.out⟩, ?_⟩
      simp only [intOf]; show g.order.length - (((t + 1 : Nat) : Int)).toNat < g.order.length - ((t : Int)).toNat; omega
  · have htl' : ¬ (t : Int) < (g.order.length : Int) := by omega
    refine wp_seq_k fun K26 hK26 => ?_
    refine wp_seq_k fun K27 hK27 => ?_
    refine wp_region_list (WL.out ?_)
    refine WL.val (by kernel_rfl) (.int .i64 (t : Int)) (by go_simp) ?_
    simp only [Act.put, pqA, pqB, pqC]
    refine WL.val (by kernel_rfl) (.slice la g.order.length lc) (by go_simp) ?_
    simp only [Act.put, pqA, pqB, pqC]
    refine WL.val (by kernel_rfl) (.int .i64 (g.order.length : Int)) (by go_simp) ?_
    simp only [Act.put, pqA, pqB, pqC]
    refine WL.val (by kernel_rfl) (.bool false) (by go_simp) ?_
    simp only [Act.put, pqA, pqB, pqC]
    refine WL.nil ?_
    refine hK27 _ _ ?_
    refine wp_cond_false rfl ?_
    refine wp_exit ?_
    refine hK2 _ _ ?_
    refine wp_seq_k fun K28 hK28 => ?_
    refine wp_region_list (WL.out ?_)
    refine WL.val (by kernel_rfl) (.bool true) (by go_simp) ?_
    simp only [Act.put, pqA, pqB, pqC]
    refine WL.nil ?_
    refine hK28 _ _ ?_
    refine wp_ret ?_
    go_ret
    exact ⟨rfl, JB.out⟩
end Go.Proofs.Ytogmdfhicbmplaa
namespace Go.Proofs.Ytogmdfhicbmplaa
open Go.RowKit Go.Sort

/-- What a Sort tells. -/
def SortPost (L : List Hs) (w : World) (e : Ending) (w' : World) : Prop :=
  ∃ v' L', e = .returned v' ∧ w'.ownsRow w.heap.size 36 32 v' L'.length (flatH L') ∧ L'.Pairwise Lt ∧ (∀ x, x ∈ L' ↔ x ∈ L) ∧ L'.length ≤ L.length ∧ Below w.heap.size w w'

theorem short_rising : ∀ (L : List Hs), L.length < 2 → L.Pairwise Lt
  | [], _ => by simp
  | [_], _ => by simp
  | _ :: _ :: _, h => by simp only [List.length_cons] at h; omega

set_option maxRecDepth 8000 in
set_option maxHeartbeats 1000000 in
theorem refSort_short (v : Value) (L : List Hs) (w : World) (h : HRow w v L) (hl : L.length < 2) : Calls Try.prog 16 #[v] w (SortPost L w) := by
  have HR : Keep (HRow w v L) := ⟨h⟩
  obtain ⟨a, c, hv⟩ := h.form
  have HV : Keep (v = .slice a L.length c) := ⟨hv⟩
  have hl' : ((L.length : Nat) : Int) < 2 := by omega
  rw [hv]
  clear h hv
  go_enter Try.func16, Try.ntmps16
  go_wp2_with (refine wpList_appH rfl (.const (.slice none 0 0)) (.tmp 10) rfl w.heap.size (.slice none 0 0) v [] L rfl (by rw [HV.out]; rfl) (ownsH_nil _ _) HR.out (by simp; omega) (Nat.le_refl _) ?_; intro v5 w5 hown5 hgr5)
  go_ret
  exact ⟨_, L, rfl, hown5, short_rising L hl, fun x => Iff.rfl, Nat.le_refl _, (Below.refl _ _).grown hgr5 (Nat.le_refl _) (fun k hk => by cases hk)⟩

/-- A slice's length. -/
def lenV : Value → Nat
  | .slice _ n _ => n
  | _ => 0
theorem HRow.tail {w : World} {b off c : Nat} {x : Hs} {A : List Hs} (hc : (x :: A).length ≤ c) (h : w.rangeAt b off (flatH (x :: A))) : HRow w (.slice (if c = 1 then some ⟨b, off, none⟩ else some ⟨b, off + 32, none⟩) A.length (c - 1)) A := by
  simp only [List.length_cons] at hc
  by_cases h1 : c = 1
  · rw [if_pos h1]
    have : A = [] := List.eq_nil_of_length_eq_zero (by omega)
    subst this
    exact .inl ⟨_, _, rfl, rfl, fun h => by cases h⟩
  · rw [if_neg h1]
    have h2 := rangeAt_drop h 1 (by simp)
    rw [Nat.one_mul] at h2
    exact HRow.mk rfl (by omega) h2

set_option maxRecDepth 8000 in
set_option maxHeartbeats 1000000 in
set_option maxRecDepth 20000 in
theorem refSort_step (n b off cap : Nat) (L : List Hs) (w : World) (hL : L.length = n) (h : w.rangeAt b off (flatH L)) (h2 : 2 ≤ n) (hn : n ≤ 4398046511104) (hc : n ≤ cap)
    (ih : ∀ (v : Value) (M : List Hs) (w : World), M.length < n → HRow w v M → Calls Try.prog 16 #[v] w (SortPost M w)) :
    Calls Try.prog 16 #[.slice (some ⟨b, off, none⟩) n cap] w (SortPost L w) := by
  have HL : Keep (L.length = n) := ⟨hL⟩
  have HX : Keep (w.rangeAt b off (flatH L)) := ⟨h⟩
  have HI : Keep (∀ (v : Value) (M : List Hs) (w : World), M.length < n → HRow w v M → Calls Try.prog 16 #[v] w (SortPost M w)) := ⟨ih⟩
  have hblt := rangeAt_lt h (by omega)
  clear hL h ih
  obtain ⟨k, hk⟩ : ∃ k, Keep (n / 2 = k) := ⟨_, ⟨rfl⟩⟩
  have hkn : k < n := by have := hk.out; omega
  have hk0 : 0 < k := by have := hk.out; omega
  have q1 : (n : Int) / 2 = (k : Int) := by have := hk.out; omega
  have q2 : IntKind.i64.wrap (k : Int) = (k : Int) := by rw [IntKind.wrap_i64]; omega
  have q3 : (k : Int) ≤ (cap : Int) := by omega
  have q4 : ¬ ((n : Int) < 2) := by omega
  have q5 : (k : Int) ≤ (n : Int) := by omega
  have q6 : (n : Int) ≤ (cap : Int) := by omega
  go_enter Try.func16, Try.ntmps16
  go_wp2_with fail
  refine (HI.out _ (L.take k) w (by rw [List.length_take]; omega) (HRow.mk (by rw [List.length_take, HL.out]; omega) (by omega) (rangeAt_take HX.out k))).mono ?_
  rintro e w1 ⟨va, A0, rfl, hoA, hpA, hmA, hlA, hb1⟩
  have hrA := HRow.of_owns hoA
  clear hoA
  have hX1 := rangeAt_below HX.out hb1 hblt
  rw [List.length_take, HL.out, Nat.min_eq_left (by omega)] at hlA
  go_wp2_with fail
  refine (HI.out _ (L.drop k) w1 (by rw [List.length_drop, HL.out]; omega) (HRow.mk (by rw [List.length_drop, HL.out]) (by omega) (rangeAt_drop hX1 k (by rw [HL.out]; omega)))).mono ?_
  rintro e w2 ⟨vb, B0, rfl, hoB, hpB, hmB, hlB, hb2⟩
  have hrB := HRow.of_owns hoB
  clear hoB
  rw [List.length_drop, HL.out] at hlB
  have hrA2 := hrA.below hb2
  have hb12 : Below w.heap.size w w2 := hb1.trans (hb2.mono hb1.size)
  have HFin : Keep ((mrg A0 B0).Pairwise Lt ∧ (∀ x, x ∈ mrg A0 B0 ↔ x ∈ L) ∧ (mrg A0 B0).length ≤ n) := ⟨mrg_rising A0 B0 hpA hpB, fun x => by
    rw [mrg_mem, hmA, hmB]
    conv => rhs; rw [← List.take_append_drop k L, List.mem_append], by have := mrg_length A0 B0; omega⟩
  obtain ⟨F, hF⟩ : ∃ F, Keep (F = mrg A0 B0) := ⟨_, ⟨rfl⟩⟩
  rw [← hF.out] at HFin
  have HA0 : Keep (HRow w2 va A0) := ⟨hrA2⟩
  have HB0 : Keep (HRow w2 vb B0) := ⟨hrB⟩
  have hsum : A0.length + B0.length ≤ n := by omega
  have HB12 : Keep (Below w.heap.size w w2) := ⟨hb12⟩
  have hown0 : (w2.alloc (.cells #[] 36)).ownsRow w2.heap.size 36 32 (.slice (some ⟨w2.heap.size, 0, none⟩) 0 0) ([] : List Hs).length (flatH []) :=
    ⟨rfl, .inr ⟨w2.heap.size, 0, #[], rfl, Nat.le_refl _, heap_alloc_new w2 _, Nat.le_refl _, by unfold maxLen; omega, rfl, rfl⟩⟩
  have hBel0 := below_new w2 (.cells #[] 36)
  clear hrA hrB hrA2 hpA hpB hmA hmB hb1 hb2 hb12 hX1 hlA hlB
  go_wp2_with (refine wpList_bs rfl 37 0 #[] rfl #[] rfl _ _ (Try.bs0 _) ?_)
  generalize w2.alloc (.cells #[] 36) = w3 at *
  go_loopw [3, 4, 5, 6] (fun a b vo _ wr => ∃ A B O : List Hs, HRow w2 a A ∧ HRow w2 b B ∧ wr.ownsRow w2.heap.size 36 32 vo O.length (flatH O) ∧ O ++ mrg A B = F ∧ O.length + A.length + B.length ≤ n ∧ Below w2.heap.size w2 wr) (fun a b _ _ _ => lenV a + lenV b)
  case atStart => exact ⟨A0, B0, [], HA0.out, HB0.out, hown0, by rw [hF.out]; rfl, by simp only [List.length_nil]; omega, hBel0⟩
  case round =>
    clear hown0 hBel0 HA0 HB0 hsum hF
    obtain ⟨A, B, O, hrA, hrB, hown, hm, hlen, hBel⟩ := hrel
    have hsz := hBel.size
    have HM : Keep (O ++ mrg A B = F) := ⟨hm⟩
    have HRA : Keep (HRow w2 u3 A) := ⟨hrA⟩
    have HRB : Keep (HRow w2 u4 B) := ⟨hrB⟩
    obtain ⟨pa, ca, hua⟩ := hrA.form
    obtain ⟨pb, cb, hub⟩ := hrB.form
    clear hrA hrB hm
    by_cases hAB : A = [] ∨ B = []
    · have HM2 : Keep (O ++ A ++ B = F) := ⟨by
        rw [← HM.out, List.append_assoc]
        rcases hAB with rfl | rfl
        · rw [mrg]; rfl
        · rw [mrg_nil, List.append_nil]⟩
      have HO : Keep (wr.ownsRow w2.heap.size 36 32 u5 O.length (flatH O)) := ⟨hown⟩
      have hblk := ownsH_block hown
      have HBel : Keep (Below w2.heap.size w2 wr) := ⟨hBel⟩
      have HUA : Keep (u3 = .slice pa A.length ca) := ⟨hua⟩
      have HUB : Keep (u4 = .slice pb B.length cb) := ⟨hub⟩
      rw [hua, hub]
      have fin : ∀ v5 w5, w5.ownsRow w2.heap.size 36 32 v5 (O ++ A).length (flatH (O ++ A)) → wr.grownBy w5 u5.ownBlock → Below w2.heap.size w2 w5 ∧ HRow w5 u4 B ∧ w2.heap.size ≤ w5.heap.size ∧ ∀ k, v5.ownBlock = some k → w2.heap.size ≤ k := fun v5 w5 h1 h2 => by
        have h3 := HBel.out.grown h2 hsz hblk
        exact ⟨h3, HRB.out.below h3, h3.size, ownsH_block h1⟩
      have HFN : Keep (∀ v5 w5, w5.ownsRow w2.heap.size 36 32 v5 (O ++ A).length (flatH (O ++ A)) → wr.grownBy w5 u5.ownBlock → Below w2.heap.size w2 w5 ∧ HRow w5 u4 B ∧ w2.heap.size ≤ w5.heap.size ∧ ∀ k, v5.ownBlock = some k → w2.heap.size ≤ k) := ⟨fin⟩
      have hRA2 : HRow wr u3 A := HRA.out.below hBel
      have HRA2 : Keep (HRow wr u3 A) := ⟨hRA2⟩
      clear fin hRA2 hua hub hown hBel
      have hz : ¬ (0 < A.length ∧ 0 < B.length) := by rcases hAB with rfl | rfl <;> simp
      have END : ∀ v5 w5 v7 w7, w5.ownsRow w2.heap.size 36 32 v5 (O ++ A).length (flatH (O ++ A)) → wr.grownBy w5 u5.ownBlock → w7.ownsRow w2.heap.size 36 32 v7 (O ++ A ++ B).length (flatH (O ++ A ++ B)) → w5.grownBy w7 v5.ownBlock → SortPost L w (.returned v7) w7 := fun v5 w5 v7 w7 g1 g2 g3 g4 => by
        obtain ⟨f1, f2, f3, f4⟩ := HFN.out v5 w5 g1 g2
        rw [HM2.out] at g3
        exact ⟨v7, F, rfl, ownsH_mono g3 HB12.out.size, HFin.out.1, HFin.out.2.1, by rw [HL.out]; exact HFin.out.2.2, HB12.out.trans ((f1.grown g4 f3 f4).mono HB12.out.size)⟩
      have HEND : Keep (∀ v5 w5 v7 w7, w5.ownsRow w2.heap.size 36 32 v5 (O ++ A).length (flatH (O ++ A)) → wr.grownBy w5 u5.ownBlock → w7.ownsRow w2.heap.size 36 32 v7 (O ++ A ++ B).length (flatH (O ++ A ++ B)) → w5.grownBy w7 v5.ownBlock → SortPost L w (.returned v7) w7) := ⟨END⟩
      clear END
      by_cases hA0 : A.length = 0
      · have z1 : ¬ (0 < ((A.length : Nat) : Int)) := by omega
        go_wp2_with (first | (refine wpList_appH rfl (.tmp 60) (.tmp 61) rfl w2.heap.size u5 u3 O A rfl (by rw [HUA.out]; rfl) HO.out HRA2.out (by omega) hsz ?_; intro v5 w5 hown5 hgr5) | (refine wpList_appH rfl (.tmp 63) (.tmp 64) rfl w2.heap.size v5 u4 (O ++ A) B rfl (by rw [HUB.out]; rfl) hown5 (HFN.out v5 w5 hown5 hgr5).2.1 (by rw [List.length_append]; omega) (HFN.out v5 w5 hown5 hgr5).2.2.1 ?_; intro v7 w7 hown7 hgr7))
        go_ret
        exact HEND.out v5 w5 v7 w7 hown5 hgr5 hown7 hgr7
      · have z1 : (0 < ((A.length : Nat) : Int)) := by omega
        have z2 : ¬ (0 < ((B.length : Nat) : Int)) := by omega
        go_wp2_with (first | (refine wpList_appH rfl (.tmp 60) (.tmp 61) rfl w2.heap.size u5 u3 O A rfl (by rw [HUA.out]; rfl) HO.out HRA2.out (by omega) hsz ?_; intro v5 w5 hown5 hgr5) | (refine wpList_appH rfl (.tmp 63) (.tmp 64) rfl w2.heap.size v5 u4 (O ++ A) B rfl (by rw [HUB.out]; rfl) hown5 (HFN.out v5 w5 hown5 hgr5).2.1 (by rw [List.length_append]; omega) (HFN.out v5 w5 hown5 hgr5).2.2.1 ?_; intro v7 w7 hown7 hgr7))
        go_ret
        exact HEND.out v5 w5 v7 w7 hown5 hgr5 hown7 hgr7
    · obtain ⟨x, A, rfl⟩ : ∃ x A', A = x :: A' := by cases A with | nil => simp at hAB | cons x A' => exact ⟨x, A', rfl⟩
      obtain ⟨y, B, rfl⟩ : ∃ y B', B = y :: B' := by cases B with | nil => simp at hAB | cons y B' => exact ⟨y, B', rfl⟩
      clear hAB
      subst hua hub
      obtain ⟨ba, oa, rfl, _, hca, rA⟩ := HRA.out.at (by simp)
      obtain ⟨bb, ob, rfl, _, hcb, rB⟩ := HRB.out.at (by simp)
      have HS : Keep (∀ wx, Below wr.heap.size wr wx → wx.rangeAt ba oa (encH x) ∧ wx.rangeAt bb ob (encH y)) := ⟨fun wx hx => by
        have hb := hBel.trans (hx.mono hsz)
        have e1 := rangeAt_below (rangeAt_elem rA 0 (by simp)) hb (rangeAt_lt rA (by simp))
        have e2 := rangeAt_below (rangeAt_elem rB 0 (by simp)) hb (rangeAt_lt rB (by simp))
        rw [Nat.zero_mul, Nat.add_zero] at e1 e2
        exact ⟨e1, e2⟩⟩
      have HTA : Keep (HRow w2 (.slice (if ca = 1 then some ⟨ba, oa, none⟩ else some ⟨ba, oa + 32, none⟩) A.length (ca - 1)) A) := ⟨HRow.tail hca rA⟩
      have HTB : Keep (HRow w2 (.slice (if cb = 1 then some ⟨bb, ob, none⟩ else some ⟨bb, ob + 32, none⟩) B.length (cb - 1)) B) := ⟨HRow.tail hcb rB⟩
      clear rA rB
      have HC : Keep (∀ w, Calls Try.prog 57 #[.agg (encH x).toArray, .agg (encH y).toArray] w fun e w' => e = .returned (.int .i64 (cf x y)) ∧ Below w.heap.size w w') := ⟨fun w => by
        rw [encH_arr, encH_arr]
        refine (refCompare_any _ _ w).mono fun e w' h => ⟨h.1, ?_⟩
        obtain ⟨q, os, rfl⟩ := h.2
        exact grown_below w q os⟩
      have hi1 := Try.size36L x
      have hi2 := Try.size36L y
      have hu := Try.underlying36
      have hbsA : ∀ w, (Instr.buildSlice 37 1 #[(0, .agg (encH x).toArray)]).run Try.prog w = .ok (.slice (some ⟨w.heap.size, 0, none⟩) 1 1) (w.alloc (.cells (encH x).toArray 36)) := fun w => by rw [encH_arr]; exact Try.bs1 _ w
      have hbsB : ∀ w, (Instr.buildSlice 37 1 #[(0, .agg (encH y).toArray)]).run Try.prog w = .ok (.slice (some ⟨w.heap.size, 0, none⟩) 1 1) (w.alloc (.cells (encH y).toArray 36)) := fun w => by rw [encH_arr]; exact Try.bs1 _ w
      have hone : ∀ (z : Hs) (w : World), HRow (w.alloc (.cells (encH z).toArray 36)) (.slice (some ⟨w.heap.size, 0, none⟩) 1 1) [z] := fun z w => HRow.mk rfl (Nat.le_refl _) fun j v hv => by
        rw [Nat.zero_add, (Blk.new w 36 _).cell]; simpa [flatH] using hv
      have HOA : Keep (∀ w : World, HRow (w.alloc (.cells (encH x).toArray 36)) (.slice (some ⟨w.heap.size, 0, none⟩) 1 1) [x]) := ⟨hone x⟩
      have HOB : Keep (∀ w : World, HRow (w.alloc (.cells (encH y).toArray 36)) (.slice (some ⟨w.heap.size, 0, none⟩) 1 1) [y]) := ⟨hone y⟩
      obtain ⟨r, hr⟩ : ∃ r, Keep (r = cf x y) := ⟨_, ⟨rfl⟩⟩
      rw [← hr.out] at HC
      have HM1 : Keep (r < 0 → O ++ [x] ++ mrg A (y :: B) = F) := ⟨fun h => by rw [← HM.out, mrg, if_pos (by rw [← hr.out]; exact h)]; simp⟩
      have HM2 : Keep (r = 0 → O ++ [x] ++ mrg A B = F) := ⟨fun h => by rw [← HM.out, mrg, if_neg (by rw [← hr.out]; omega), if_pos (by rw [← hr.out]; exact h)]; simp⟩
      have HM3 : Keep (0 < r → O ++ [y] ++ mrg (x :: A) B = F) := ⟨fun h => by rw [← HM.out, mrg, if_neg (by rw [← hr.out]; omega), if_neg (by rw [← hr.out]; omega)]; simp⟩
      simp only [List.length_cons] at hca hcb hlen
      generalize encH x = CA at *
      generalize encH y = CB at *
      clear hone hr HM
      have HBel : Keep (Below w2.heap.size w2 wr) := ⟨hBel⟩
      have hD0 : Below wr.heap.size wr wr.drew := (Below.refl _ _).drew
      have HO5 : Keep (∀ w5 o, Below wr.heap.size wr w5 → (w5.alloc o).ownsRow w2.heap.size 36 32 u5 O.length (flatH O)) := ⟨fun w5 o h => World.ownsRow.alloc (w := w5) (ownsH_below hown h) o⟩
      have hblk := ownsH_block hown
      clear hown hBel
      simp only [List.length_cons]
      have p1 : (0 : Int) < ((A.length + 1 : Nat) : Int) := by omega
      have p2 : (0 : Int) < ((B.length + 1 : Nat) : Int) := by omega
      have p3 : (1 : Int) ≤ ((A.length + 1 : Nat) : Int) := by omega
      have p4 : (1 : Int) ≤ ((B.length + 1 : Nat) : Int) := by omega
      go_wp2
      refine wp_region_held_drew (S := fun w' => w'.rangeAt ba oa CA ∧ w'.rangeAt bb ob CB) (by kernel_rfl) (HS.out _ hD0) (fun hHeld => ?_)
      refine wpAnyH_take (i := 0) (oi := ⟨some 33, Op.move (Operand.tmp 3), 37, _, _, none⟩) (v := Value.slice (some ⟨ba, oa, none⟩) (A.length + 1) ca) rfl (by kernel_rfl) (by kernel_rfl) (by kernel_rfl) (fun _ _ _ h => h) (Or.inl ⟨by rfl, fun w hS => by go_simp⟩) hHeld ?_
      simp only [Act.put, pqA, pqB, pqC]
      refine wpAnyH_take (i := 1) (oi := ⟨some 34, Op.indexAddr 37 (Operand.tmp 33) (Operand.const (Value.int IntKind.i64 0)), 0, _, _, none⟩) (v := .pointer (some ⟨ba, oa, none⟩)) rfl (by kernel_rfl) (by kernel_rfl) (by kernel_rfl) (fun _ _ _ h => h) (Or.inl ⟨by rfl, fun w hS => by go_simp⟩) hHeld ?_
      simp only [Act.put, pqA, pqB, pqC]
      refine wpAnyH_take (i := 2) (oi := ⟨some 35, Op.load 36 (Operand.tmp 34), 36, _, _, none⟩) (v := .agg (CA).toArray) rfl (by kernel_rfl) (by kernel_rfl) (by kernel_rfl) (fun _ _ _ h => h) (yieldsIf_load_mid (by rfl) 36 (Operand.tmp 34) rfl ba oa rfl CA _ (fun w hS => hS.1) hu rfl hi1) hHeld ?_
      simp only [Act.put, pqA, pqB, pqC]
      refine wpAnyH_take (i := 3) (oi := ⟨some 36, Op.move (Operand.tmp 4), 37, _, _, none⟩) (v := Value.slice (some ⟨bb, ob, none⟩) (B.length + 1) cb) rfl (by kernel_rfl) (by kernel_rfl) (by kernel_rfl) (fun _ _ _ h => h) (Or.inl ⟨by rfl, fun w hS => by go_simp⟩) hHeld ?_
      simp only [Act.put, pqA, pqB, pqC]
      refine wpAnyH_take (i := 4) (oi := ⟨some 37, Op.indexAddr 37 (Operand.tmp 36) (Operand.const (Value.int IntKind.i64 0)), 0, _, _, none⟩) (v := .pointer (some ⟨bb, ob, none⟩)) rfl (by kernel_rfl) (by kernel_rfl) (by kernel_rfl) (fun _ _ _ h => h) (Or.inl ⟨by rfl, fun w hS => by go_simp⟩) hHeld ?_
      simp only [Act.put, pqA, pqB, pqC]
      refine wpAnyH_take (i := 5) (oi := ⟨some 38, Op.load 36 (Operand.tmp 37), 36, _, _, none⟩) (v := .agg (CB).toArray) rfl (by kernel_rfl) (by kernel_rfl) (by kernel_rfl) (fun _ _ _ h => h) (yieldsIf_load_mid (by rfl) 36 (Operand.tmp 37) rfl bb ob rfl CB _ (fun w hS => hS.2) hu rfl hi2) hHeld ?_
      simp only [Act.put, pqA, pqB, pqC]
      refine wpAnyH_ready (rs := [6]) (by kernel_rfl) (by simp) ?_
      refine AllReadyH.cons (o := ⟨some 39, Op.call { callee := Callee.value (Operand.func 57), args := #[Operand.tmp 35, Operand.tmp 38], argTypes := #[36, 36] }, 3, _, _, none⟩) rfl (fun K hK => ?_) AllReadyH.nil
      rw [if_pos (by rfl)]
      refine wp_callF 57 #[.tmp 35, .tmp 38] #[36, 36] rfl Try.enter57 #[.agg CA.toArray, .agg CB.toArray] (by simp [Act.eval]) (fun v w' => v = .int .i64 r ∧ Below wr.drew.heap.size wr.drew w') ((HC.out wr.drew).mono fun e w' h => ⟨_, h.1, rfl, h.2⟩) ?_
      rintro v w5 ⟨rfl, hb5⟩
      have hB5 : Below wr.heap.size wr w5 := hD0.trans (hb5.mono hD0.size)
      refine hK.out _ _ (HS.out _ hB5) fun hHeld5 => ?_
      clear hK
      simp only [Act.put, pqA, pqB, pqC]
      refine wpAnyH_take (i := 7) (oi := ⟨some 6, Op.assign (Operand.tmp 39), 3, _, _, none⟩) (v := .int .i64 r) rfl (by kernel_rfl) (by kernel_rfl) (by kernel_rfl) (fun _ _ _ h => h) (Or.inl ⟨by rfl, fun w hS => by go_simp⟩) hHeld5 ?_
      simp only [Act.put, pqA, pqB, pqC]
      refine wpAnyH_done (by kernel_rfl) ?_ _
      have HZ : Keep (∀ o, w2.heap.size ≤ (w5.alloc o).heap.size) := ⟨fun o => by have := hB5.size; simp; omega⟩
      have HBE : Keep (∀ o w7, (w5.alloc o).grownBy w7 u5.ownBlock → Below w2.heap.size w2 w7) := ⟨fun o w7 hg => by
        have h5 := HBel.out.trans (hB5.mono hsz)
        exact (h5.alloc h5.size o).grown hg (HZ.out o) hblk⟩
      rcases Int.lt_trichotomy r 0 with hr | hr | hr
      · have m1 := HM1.out hr
        have HMM : Keep (O ++ [x] ++ mrg A (y :: B) = F) := ⟨m1⟩
        clear HM1 HM2 HM3 m1
        have d1 : r ≤ 0 := by omega
        have d2 : ¬ (0 ≤ r) := by omega
        go_wp2_with (first | (refine wpList_load_mid rfl 36 (.tmp 44) rfl ba oa rfl CA (.array 32 5) (HS.out _ hB5).1 hu rfl hi1 ?_; refine wpList_bs rfl 37 1 #[(0, .tmp 45)] rfl #[(0, .agg CA.toArray)] (by simp [Act.eval, Act.put]) _ _ (hbsA _) ?_; refine wpList_appH rfl (.tmp 42) (.tmp 46) rfl w2.heap.size u5 _ O [x] rfl rfl (HO5.out _ _ hB5) (HOA.out _) (by simp only [List.length_cons, List.length_nil]; omega) (HZ.out _) ?_; intro v7 w7 hown7 hgr7))
        refine ⟨⟨A, y :: B, O ++ [x], HTA.out, HRB.out, hown7, HMM.out, (by simp only [List.length_append, List.length_cons, List.length_nil]; omega), (HBE.out _ _ hgr7)⟩, by simp only [lenV]; omega⟩
      · have m1 := HM2.out hr
        have HMM : Keep (O ++ [x] ++ mrg A B = F) := ⟨m1⟩
        clear HM1 HM2 HM3 m1
        have d1 : r ≤ 0 := by omega
        have d2 : 0 ≤ r := by omega
        clear hr
        go_wp2_with (first | (refine wpList_load_mid rfl 36 (.tmp 44) rfl ba oa rfl CA (.array 32 5) (HS.out _ hB5).1 hu rfl hi1 ?_; refine wpList_bs rfl 37 1 #[(0, .tmp 45)] rfl #[(0, .agg CA.toArray)] (by simp [Act.eval, Act.put]) _ _ (hbsA _) ?_; refine wpList_appH rfl (.tmp 42) (.tmp 46) rfl w2.heap.size u5 _ O [x] rfl rfl (HO5.out _ _ hB5) (HOA.out _) (by simp only [List.length_cons, List.length_nil]; omega) (HZ.out _) ?_; intro v7 w7 hown7 hgr7))
        refine ⟨⟨A, B, O ++ [x], HTA.out, HTB.out, hown7, HMM.out, (by simp only [List.length_append, List.length_cons, List.length_nil]; omega), (HBE.out _ _ hgr7)⟩, by simp only [lenV]; omega⟩
      · have m1 := HM3.out hr
        have HMM : Keep (O ++ [y] ++ mrg (x :: A) B = F) := ⟨m1⟩
        clear HM1 HM2 HM3 m1
        have d1 : ¬ (r ≤ 0) := by omega
        have d2 : 0 ≤ r := by omega
        go_wp2_with (first | (refine wpList_load_mid rfl 36 (.tmp 52) rfl bb ob rfl CB (.array 32 5) (HS.out _ hB5).2 hu rfl hi2 ?_; refine wpList_bs rfl 37 1 #[(0, .tmp 53)] rfl #[(0, .agg CB.toArray)] (by simp [Act.eval, Act.put]) _ _ (hbsB _) ?_; refine wpList_appH rfl (.tmp 50) (.tmp 54) rfl w2.heap.size u5 _ O [y] rfl rfl (HO5.out _ _ hB5) (HOB.out _) (by simp only [List.length_cons, List.length_nil]; omega) (HZ.out _) ?_; intro v7 w7 hown7 hgr7))
        refine ⟨⟨x :: A, B, O ++ [y], HRA.out, HTB.out, hown7, HMM.out, (by simp only [List.length_append, List.length_cons, List.length_nil]; omega), (HBE.out _ _ hgr7)⟩, by simp only [lenV]; omega⟩

/-- The document's Sort. -/
theorem refSort_any : ∀ (n : Nat) (v : Value) (L : List Hs) (w : World), L.length = n → HRow w v L → n ≤ 4398046511104 → Calls Try.prog 16 #[v] w (SortPost L w) := by
  intro n
  induction n using Nat.strongRecOn with
  | _ n ih =>
    intro v L w hL hr hn
    by_cases h2 : L.length < 2
    · exact refSort_short v L w hr h2
    · obtain ⟨a, c, rfl⟩ := hr.form
      obtain ⟨b, off, rfl, _, hc, hx⟩ := hr.at (by omega)
      subst hL
      exact refSort_step L.length b off c L w rfl hx (by omega) hn hc fun v M w hM hr => ih M.length hM v M w rfl hr (by omega)
end Go.Proofs.Ytogmdfhicbmplaa
namespace Go.Proofs.Ytogmdfhicbmplaa
open Go.Shelf

def Try.sortH_ren : Go.Shelf.Ren := ⟨fun | 6 => 89 | 15 => 96 | 14 => 95 | 28 => 107 | 29 => 108 | 20 => 99 | 21 => 100 | 22 => 101 | 23 => 102 | 24 => 103 | 25 => 104 | 26 => 105 | 27 => 106 | 46 => 110 | 47 => 111 | 48 => 112 | 49 => 113 | 50 => 114 | 57 => 115 | n => n, fun | 22 => 37 | 24 => 36 | 25 => 84 | 3 => 3 | 39 => 83 | 0 => 0 | 53 => 117 | 55 => 119 | 4 => 4 | 46 => 111 | 45 => 110 | 50 => 99 | 5 => 5 | 9 => 9 | 66 => 120 | 70 => 124 | 76 => 126 | 77 => 127 | n => n, fun | n => n⟩
theorem Try.sortH : Go.Proofs.SlLaysF0.n6 Try.prog Try.sortH_ren := {
  mixed := by kernel_rfl
  f6 := ⟨Try.f89.name, by decide, Try.func89.trans (congrArg some (by kernel_rfl))⟩
  f14 := ⟨Try.f95.name, by decide, Try.func95.trans (congrArg some (by kernel_rfl))⟩
  f15 := Try.func96.trans (congrArg some (by kernel_rfl))
  f20 := ⟨Try.f99.name, by decide, Try.func99.trans (congrArg some (by kernel_rfl))⟩
  f21 := ⟨Try.f100.name, by decide, Try.func100.trans (congrArg some (by kernel_rfl))⟩
  f22 := ⟨Try.f101.name, by decide, Try.func101.trans (congrArg some (by kernel_rfl))⟩
  f23 := ⟨Try.f102.name, by decide, Try.func102.trans (congrArg some (by kernel_rfl))⟩
  f24 := ⟨Try.f103.name, by decide, Try.func103.trans (congrArg some (by kernel_rfl))⟩
  f25 := ⟨Try.f104.name, by decide, Try.func104.trans (congrArg some (by kernel_rfl))⟩
  f26 := ⟨Try.f105.name, by decide, Try.func105.trans (congrArg some (by kernel_rfl))⟩
  f27 := ⟨Try.f106.name, by decide, Try.func106.trans (congrArg some (by kernel_rfl))⟩
  f28 := Try.func107.trans (congrArg some (by kernel_rfl))
  f29 := Try.func108.trans (congrArg some (by kernel_rfl))
  f46 := ⟨Try.f110.name, by decide, Try.func110.trans (congrArg some (by kernel_rfl))⟩
  f47 := Try.func111.trans (congrArg some (by kernel_rfl))
  f48 := Try.func112.trans (congrArg some (by kernel_rfl))
  f49 := ⟨Try.f113.name, by decide, Try.func113.trans (congrArg some (by kernel_rfl))⟩
  f50 := ⟨Try.f114.name, by decide, Try.func114.trans (congrArg some (by kernel_rfl))⟩
  f57 := ⟨Try.f115.name, by decide, Try.func115.trans (congrArg some (by kernel_rfl))⟩
  t0 := Try.underlying0
  a0 := Try.isAgg0
  z0 := Try.sizeOf0
  v0 := Try.zeroValue0
  t3 := Try.underlying3
  a3 := Try.isAgg3
  z3 := Try.sizeOf3
  v3 := Try.zeroValue3
  t4 := Try.underlying4
  a4 := Try.isAgg4
  z4 := Try.sizeOf4
  v4 := Try.zeroValue4
  t5 := Try.underlying5
  a5 := Try.isAgg5
  z5 := Try.sizeOf5
  v5 := Try.zeroValue5
  t9 := Try.underlying9
  a9 := Try.isAgg9
  z9 := Try.sizeOf9
  v9 := Try.zeroValue9
  t22 := Try.underlying37
  a22 := Try.isAgg37
  z22 := Try.sizeOf37
  v22 := Try.zeroValue37
  t25 := Try.underlying84
  a25 := Try.isAgg84
  z25 := Try.sizeOf84
  v25 := Try.zeroValue84
  t39 := Try.underlying83
  a39 := Try.isAgg83
  z39 := Try.sizeOf83
  v39 := Try.zeroValue83
  t45 := Try.underlying110
  a45 := Try.isAgg110
  z45 := Try.sizeOf110
  v45 := Try.zeroValue110
  t46 := Try.underlying111
  a46 := Try.isAgg111
  z46 := Try.sizeOf111
  v46 := Try.zeroValue111
  t50 := Try.underlying99
  a50 := Try.isAgg99
  z50 := Try.sizeOf99
  v50 := Try.zeroValue99
  t53 := Try.underlying117
  a53 := Try.isAgg117
  z53 := Try.sizeOf117
  v53 := Try.zeroValue117
  t55 := Try.underlying119
  a55 := Try.isAgg119
  z55 := Try.sizeOf119
  v55 := Try.zeroValue119
  t66 := Try.underlying120
  a66 := Try.isAgg120
  z66 := Try.sizeOf120
  v66 := Try.zeroValue120
  t70 := Try.underlying124
  a70 := Try.isAgg124
  z70 := Try.sizeOf124
  v70 := Try.zeroValue124
  t76 := Try.underlying126
  a76 := Try.isAgg126
  z76 := Try.sizeOf126
  v76 := Try.zeroValue126
  t77 := Try.underlying127
  a77 := Try.isAgg127
  z77 := Try.sizeOf127
  v77 := Try.zeroValue127 }

end Go.Proofs.Ytogmdfhicbmplaa
