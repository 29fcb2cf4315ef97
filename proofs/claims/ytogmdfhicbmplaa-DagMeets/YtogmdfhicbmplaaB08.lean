import Derived.Test.YtogmdfhicbmplaaB07
import Derived.Test.YtogmdfhicbmplaaB05
namespace Go.Proofs.Ytogmdfhicbmplaa
open Go.RowKit
set_option linter.unusedSimpArgs false
set_option linter.unusedVariables false

/-! ### The calls of a Dag of which DI holds. -/
theorem DI.ol {g : DG} (h : DI g) : g.order.length = g.held.length := by
  have hp : g.order.Perm (g.held.map (·.id)) := (List.perm_ext_iff_of_nodup h.oo.nd h.hn).2 fun x => by
    rw [h.om, hasB_iff, List.mem_map]
  rw [hp.length_eq, List.length_map]
theorem DI.hdl {g : DG} (h : DI g) : g.heads.length ≤ g.held.length := by
  have : g.heads ⊆ g.order := fun x hx => (h.om x).2 ((h.hm x).1 hx).1
  have := (pw_nodup h.hd).length_le_of_subset this
  rw [h.ol] at this; exact this
theorem DI.hM {g : DG} (h : DI g) : ∀ v ∈ g.held, 0 ≤ v.ck ∧ v.ck ≤ 4096 := fun v hv => by have := chk_ok (h.hc v hv); omega
theorem DI.wl {g : DG} (h : DI g) : g.wait.length ≤ 64 := by have := h.ql; have := h.room; omega
theorem DI.qlen {g : DG} (h : DI g) : g.queue.length = g.wait.length := by rw [h.q, List.length_map]
theorem take_any (d : Nat) (v : VX) (p : Value) (Av : Nat → Prop) (g : DG) (w : World) (hD : DagAt w Av d g) (hI : DI g) (hr : HRow w p v.ps) (hk : ∀ k, p.ownBlock = some k → k < w.heap.size ∧ ¬ Av k) (hF : hasB g.held v.id = false) (hc : chkV v = 0) :
    Calls Try.prog 58 #[ptr d, .agg (vtx v.id.f v.ck p)] w fun e w' => e = .returned (.tuple #[]) ∧ ∃ g', Ste w w' Av d g g' ∧ tookG g v g' := by
  have hv := chk_ok hc
  have hol := hI.ol
  have hhl := hI.hdl
  have hl := hI.hl
  have hfl : (g.heads.filter (outB v.ps)).length ≤ g.heads.length := List.length_filter_le _ _
  refine (take_gen d v p Av g w (plc v g.order g.order.length g.order.length) (insL g.order (plc v g.order g.order.length g.order.length) v.id) (g.heads.filter (outB v.ps)) (hdsOf g.heads v) hD hr hk (find_none hF) ?_ (insOk_any _ _ _ (plc_spec v g.order).1 (by omega)) (delOk_any _ _ (pw_inc hv.2.1) (by omega) (by omega)) (pw_inc (hI.hd.filter _)) (by omega) ?_).mono ?_
  · intro w1 Av1 p1 g1 h1 h2 h3
    have := place_any d v p1 Av1 g1 w1 h1 h3 (pw_inc hv.2.1) (by omega) (by rw [h2]; omega)
    rw [h2] at this
    exact this
  · intro i hi h1 h2
    unfold hdsOf
    rw [cnt_at hi h1 h2]
    exact insOk_any _ _ _ hi (by omega)
  · rintro e w' ⟨h1, g', h2, h3⟩
    exact ⟨h1, g', h2, h3⟩
theorem fit_cases (l m : List VX) (v : VX) :
    ((hasB l v.id = true ∨ hasB m v.id = true) ∧ fitV l m v = (1, 0)) ∨ (hasB l v.id = false ∧ hasB m v.id = false ∧ chkV v ≠ 0 ∧ fitV l m v = (0, chkV v)) ∨
    (hasB l v.id = false ∧ hasB m v.id = false ∧ chkV v = 0 ∧ v.ps.all (hasB l) = false ∧ fitV l m v = (3, 0)) ∨ (hasB l v.id = false ∧ hasB m v.id = false ∧ chkV v = 0 ∧ v.ps.all (hasB l) = true ∧ nextE l v ≠ 0 ∧ fitV l m v = (0, nextE l v)) ∨
    (hasB l v.id = false ∧ hasB m v.id = false ∧ chkV v = 0 ∧ v.ps.all (hasB l) = true ∧ nextE l v = 0 ∧ fitV l m v = (2, 0)) := by
  unfold fitV
  by_cases h1 : hasB l v.id = true ∨ hasB m v.id = true
  · rw [if_pos h1]; exact .inl ⟨h1, rfl⟩
  · rw [if_neg h1]
    rw [not_or, Bool.not_eq_true, Bool.not_eq_true] at h1
    by_cases h2 : chkV v ≠ 0
    · rw [if_pos h2]; exact .inr (.inl ⟨h1.1, h1.2, h2, rfl⟩)
    · rw [if_neg h2]
      have h2 := Classical.not_not.1 h2
      by_cases h3 : v.ps.all (hasB l) = false
      · rw [if_pos h3]; exact .inr (.inr (.inl ⟨h1.1, h1.2, h2, h3, rfl⟩))
      · rw [if_neg h3]
        have h3 : v.ps.all (hasB l) = true := by simpa using h3
        by_cases h4 : nextE l v ≠ 0
        · rw [if_pos h4]; exact .inr (.inr (.inr (.inl ⟨h1.1, h1.2, h2, h3, h4, rfl⟩)))
        · rw [if_neg h4]; exact .inr (.inr (.inr (.inr ⟨h1.1, h1.2, h2, h3, Classical.not_not.1 h4, rfl⟩)))
/-- What Add makes of a Dag; ol: those that wait no more. -/
def addG (g : DG) (v : VX) (ol : List Hs) (g' : DG) : Prop :=
  (fitV g.held g.wait v = (2, 0) ∧ tookG g v g' ∧ ol = []) ∨
  (fitV g.held g.wait v = (3, 0) ∧ (g.wait.length : Int) + 1 ≤ g.room ∧ (g'.room = g.room ∧ g'.held = g.held ∧ g'.wait = g.wait ++ [v] ∧ g'.order = g.order ∧ g'.heads = g.heads) ∧ ol = []) ∨
  (fitV g.held g.wait v = (3, 0) ∧ g.room < (g.wait.length : Int) + 1 ∧ ∃ v0, g.wait ++ [v] = v0 :: g'.wait ∧ (g'.room = g.room ∧ g'.held = g.held ∧ g'.order = g.order ∧ g'.heads = g.heads) ∧ ol = [v0.id]) ∨
  ((fitV g.held g.wait v).1 ≠ 2 ∧ (fitV g.held g.wait v).1 ≠ 3 ∧ g' = g ∧ ol = [])
theorem all_iff {l : List VX} {ps : List Hs} : ps.all (hasB l) = true ↔ ∀ p ∈ ps, hasB l p = true := List.all_eq_true
theorem DI.sheds {g g' : DG} {v v0 : VX} (h : DI g) (hc : chkV v = 0) (h1 : hasB g.held v.id = false) (h2 : hasB g.wait v.id = false) (hw : g.wait ++ [v] = v0 :: g'.wait) (hq : g'.queue = g'.wait.map (·.id)) (t : g'.room = g.room ∧ g'.held = g.held ∧ g'.order = g.order ∧ g'.heads = g.heads) : DI g' := by
  obtain ⟨e1, e2, e5, e6⟩ := t
  have hmem : ∀ u ∈ g'.wait, u ∈ g.wait ∨ u = v := fun u hu => by
    have : u ∈ g.wait ++ [v] := by rw [hw]; exact List.mem_cons_of_mem _ hu
    rcases List.mem_append.1 this with h | h
    · exact .inl h
    · exact .inr (List.mem_singleton.1 h)
  have hlen : g'.wait.length = g.wait.length := by
    have := congrArg List.length hw
    simp only [List.length_append, List.length_cons, List.length_nil] at this
    omega
  have hnd : ((g.wait ++ [v]).map (·.id)).Nodup := by
    rw [List.map_append, List.nodup_append]
    refine ⟨h.wn, by simp, fun a ha b hb => ?_⟩
    simp only [List.map_cons, List.map_nil, List.mem_singleton] at hb
    subst hb
    obtain ⟨u, hu, rfl⟩ := List.mem_map.1 ha
    exact hasB_no.1 h2 u hu
  refine ⟨by rw [e1]; exact h.room, by rw [e2]; exact h.hl, by rw [e2]; exact h.hn, ?_, ?_, by rw [e2]; exact h.hc, ?_, hq, by rw [hlen, e1]; exact h.ql, by rw [e2]; exact h.ck, by rw [e2]; exact h.cl, by rw [e5, e2]; exact h.om, by rw [e5, e2]; exact h.oo, by rw [e6]; exact h.hd, by rw [e6, e2]; exact h.hm⟩
  · rw [hw, List.map_cons, List.nodup_cons] at hnd; exact hnd.2
  · rw [e2]
    intro u hu
    rcases hmem u hu with hu | rfl
    · exact h.dj u hu
    · exact h1
  · intro u hu
    rcases hmem u hu with hu | rfl
    · exact h.wc u hu
    · exact hc
theorem add_any (d : Nat) (v : VX) (p : Value) (Av : Nat → Prop) (g : DG) (w : World) (hD : DagAt w Av d g) (hI : DI g) (hr : HRow w p v.ps) (hL : (v.ps.length : Int) ≤ 9223372036854775806) :
    Calls Try.prog 17 #[ptr d, .agg (vtx v.id.f v.ck p)] w fun e w' => ∃ u g' ol, e = .returned (.tuple #[.int .i64 (fitV g.held g.wait v).1, u, .int .i64 (fitV g.held g.wait v).2]) ∧ Ste w w' Av d g g' ∧ DI g' ∧ addG g v ol g' ∧ OwnH w' u ol ∧ (∀ k, u.ownBlock = some k → w.heap.size ≤ k ∧ ¬ DgS d g' k) := by
  have hql := hI.qlen
  have hwl := hI.wl
  have hother : ∀ hw ee, fitV g.held g.wait v = (hw, ee) → ¬ hw = 2 → ¬ hw = 3 → Calls Try.prog 17 #[ptr d, .agg (vtx v.id.f v.ck p)] w fun e w' => ∃ u g' ol, e = .returned (.tuple #[.int .i64 (fitV g.held g.wait v).1, u, .int .i64 (fitV g.held g.wait v).2]) ∧ Ste w w' Av d g g' ∧ DI g' ∧ addG g v ol g' ∧ OwnH w' u ol ∧ (∀ k, u.ownBlock = some k → w.heap.size ≤ k ∧ ¬ DgS d g' k) := by
    intro hw ee hf h1 h2
    refine (add_other d v p Av g w hw ee hD hr hI.hM hL hf ⟨h1, h2⟩).mono ?_
    rintro e w' ⟨rfl, hb⟩
    rw [hf]
    exact ⟨_, g, [], rfl, Ste.refl hD hb, hI, .inr (.inr (.inr ⟨by rw [hf]; exact h1, by rw [hf]; exact h2, rfl, rfl⟩)), ownH_nil _, fun k hk => by cases hk⟩
  rcases fit_cases g.held g.wait v with ⟨_, hf⟩ | ⟨_, _, _, hf⟩ | ⟨h1, h2, h3, h4, hf⟩ | ⟨_, _, _, _, _, hf⟩ | ⟨h1, h2, h3, h4, h5, hf⟩
  · exact hother _ _ hf (by decide) (by decide)
  · exact hother _ _ hf (by decide) (by decide)
  · have hv := chk_ok h3
    by_cases hroom : (g.wait.length : Int) + 1 ≤ g.room
    · refine (add_waits d v p Av g w hD hr hI.hM hL (by omega) hf (find_none h2) (by rw [hql]; exact hroom) (by omega)).mono ?_
      rintro e w' ⟨rfl, g', hs, hg⟩
      rw [hf]
      exact ⟨_, g', [], rfl, hs, hI.waits h3 h1 h2 hroom hg, .inr (.inl ⟨hf, hroom, ⟨hg.1, hg.2.1, hg.2.2.1, hg.2.2.2.2⟩, rfl⟩), ownH_nil _, fun k hk => by cases hk⟩
    · have hre : g.room = (g.wait.length : Int) := by have := hI.ql; omega
      obtain ⟨v0, r, hvr⟩ : ∃ v0 r, g.wait ++ [v] = v0 :: r := by cases hg : g.wait with
        | nil => exact ⟨v, [], rfl⟩
        | cons a b => exact ⟨a, b ++ [v], rfl⟩
      have hrl : r.length = g.wait.length := by
        have := congrArg List.length hvr
        simp only [List.length_append, List.length_cons, List.length_nil] at this
        omega
      refine (add_waitsG d v p Av g w (fun g' => g'.room = g.room ∧ g'.held = g.held ∧ g'.wait = r ∧ g'.queue = r.map (·.id) ∧ g'.order = g.order ∧ g'.heads = g.heads) [v0.id] hD hr hI.hM hL (by omega) hf (find_none h2) (by omega) ?_).mono ?_
      · rintro w1 Av1 g1 hD1 ⟨e1, e2, e3, e4, e5, e6⟩
        refine (shed_one d v0 r Av1 g1 w1 hD1 (by rw [e4, e3, hI.q, List.map_append]; rfl) (by rw [e3, hvr]) (by rw [e1, hre, hrl]) (by rw [e4, List.length_append]; simp; omega)).mono ?_
        rintro e w' ⟨u, g', rfl, hs, ⟨f1, f2, f3, f4, f5, f6⟩, ho, hn⟩
        exact ⟨u, g', rfl, hs, ⟨f1.trans e1, f2.trans e2, f3, f4, f5.trans e5, f6.trans e6⟩, ho, hn⟩
      · rintro e w' ⟨u, g', rfl, hs, ⟨f1, f2, f3, f4, f5, f6⟩, ho, hn⟩
        rw [hf]
        exact ⟨u, g', [v0.id], rfl, hs, hI.sheds h3 h1 h2 (by rw [f3]; exact hvr) (by rw [f3, f4]) ⟨f1, f2, f5, f6⟩, .inr (.inr (.inl ⟨hf, by omega, v0, by rw [f3]; exact hvr, ⟨f1, f2, f5, f6⟩, rfl⟩)), ho, hn⟩
  · exact hother _ _ hf (by decide) (by decide)
  · have hv := chk_ok h3
    refine (add_took d v p Av g w (tookG g v) hD hr hI.hM hL (by omega) hf ?_).mono ?_
    · intro w1 p1 h6 h7 h8
      exact take_any d v p1 Av g w1 h6 hI h7 h8 h1 h3
    · rintro e w' ⟨rfl, g', hs, ht⟩
      rw [hf]
      exact ⟨_, g', [], rfl, hs, hI.took h3 h1 h2 (all_iff.1 h4) h5 ht, .inl ⟨hf, ht, rfl⟩, ownH_nil _, fun k hk => by cases hk⟩
/-- What Settle makes of a Dag. -/
def setG (g : DG) (x : Hs) (g' : DG) : Prop :=
  ((rdyE g.held g.wait x = 6 ∨ rdyE g.held g.wait x = 9) ∧ g' = g) ∨
  (rdyE g.held g.wait x = 0 ∧ ∃ v, g.wait.find? (isV x) = some v ∧ g'.room = g.room ∧ g'.held = g.held ++ [v] ∧ g'.wait = g.wait.eraseP (isV x) ∧ g'.order = insL g.order (plc v g.order g.order.length g.order.length) v.id ∧ g'.heads = hdsOf g.heads v) ∨
  ((rdyE g.held g.wait x = 3 ∨ rdyE g.held g.wait x = 51) ∧ ∃ v, g.wait.find? (isV x) = some v ∧ g'.room = g.room ∧ g'.held = g.held ∧ g'.wait = g.wait.eraseP (isV x) ∧ g'.order = g.order ∧ g'.heads = g.heads)
theorem rdy_cases (l m : List VX) (x : Hs) :
    (m.find? (isV x) = none ∧ rdyE l m x = 6) ∨ ∃ v, m.find? (isV x) = some v ∧ ((v.ps.all (hasB l) = false ∧ rdyE l m x = 9) ∨ (v.ps.all (hasB l) = true ∧ rdyE l m x = nextE l v ∧ (nextE l v = 0 ∨ nextE l v = 3 ∨ nextE l v = 51))) := by
  unfold rdyE
  cases h : m.find? (isV x) with
  | none => exact .inl ⟨rfl, rfl⟩
  | some v =>
    refine .inr ⟨v, rfl, ?_⟩
    by_cases h1 : v.ps.all (hasB l) = true
    · refine .inr ⟨h1, by simp only [h1, if_true], ?_⟩
      unfold nextE
      split
      · exact .inr (.inr rfl)
      · split
        · exact .inr (.inl rfl)
        · exact .inl rfl
    · exact .inl ⟨by simpa using h1, by simp only [h1]; rfl⟩
theorem settle_any (d : Nat) (x : Hs) (Av : Nat → Prop) (g : DG) (w : World) (hD : DagAt w Av d g) (hI : DI g) :
    Calls Try.prog 29 #[ptr d, .agg (bytesA 32 x.f)] w fun e w' => ∃ g', e = .returned (.tuple #[.int .i64 (if rdyE g.held g.wait x = 0 then 2 else 0), .int .i64 (rdyE g.held g.wait x)]) ∧ Ste w w' Av d g g' ∧ DI g' ∧ setG g x g' := by
  have hL : ∀ v, g.wait.find? (isV x) = some v → v.ps.length ≤ 4398046511104 := fun v hv => by have := chk_ok (hI.wc v (List.mem_of_find?_eq_some hv)); omega
  have hQl : g.queue.length ≤ 1000000000 := by have := hI.qlen; have := hI.wl; omega
  rcases rdy_cases g.held g.wait x with ⟨h1, h2⟩ | ⟨v, h1, ⟨h2, h3⟩ | ⟨h2, h3, h4⟩⟩
  · refine (settle_absent d x Av g w hD hI.hM hL h2).mono ?_
    rintro e w' ⟨rfl, hb⟩
    rw [h2]
    exact ⟨g, rfl, Ste.refl hD hb, hI, .inl ⟨.inl h2, rfl⟩⟩
  · refine (settle_state d x Av g w hD hI.hM hL h3).mono ?_
    rintro e w' ⟨rfl, hb⟩
    rw [h3]
    exact ⟨g, rfl, Ste.refl hD hb, hI, .inl ⟨.inr h3, rfl⟩⟩
  · have hx : v.id = x := isV_iff.1 (List.find?_some h1)
    have hwx : hasB g.wait x = true := by unfold hasB; rw [h1]; rfl
    have hvm : v ∈ g.wait := List.mem_of_find?_eq_some h1
    rcases h4 with h4 | h4
    · rw [h4] at h3
      refine (settle_took d x Av g w (fun g' => DI g' ∧ setG g x g') hD hI.hM hL v h1 (hI.ix x) hQl h3 ?_).mono ?_
      · intro w1 p1 Av1 g1 hD1 i hi hg1 hr1 hk1
        have hI1 := hI.forgets hwx hi hg1
        obtain ⟨e1, e2, e3, e4, e5, e6⟩ := hg1
        have hF : hasB g1.held v.id = false := by rw [e2]; exact hI.dj v hvm
        have hW : hasB g1.wait v.id = false := by
          rw [e3, hasB_no, hx]
          exact fun u hu => ((erase_mem hI.wn).1 hu).2
        refine (take_any d v p1 Av1 g1 w1 hD1 hI1 hr1 hk1 hF (hI.wc v hvm)).mono ?_
        rintro e w' ⟨h, g', hs, ht⟩
        refine ⟨h, g', hs, hI1.took (hI.wc v hvm) hF hW (by rw [e2]; exact all_iff.1 h2) (by rw [e2]; exact h4) ht, .inr (.inl ⟨h3, v, h1, ?_⟩)⟩
        obtain ⟨f1, f2, f3, f4, f5, f6⟩ := ht
        exact ⟨f1.trans e1, by rw [f2, e2], by rw [f3, e3], by rw [f5, e5], by rw [f6, e6]⟩
      · rintro e w' ⟨rfl, g', hs, hx⟩
        rw [h3]
        exact ⟨g', rfl, hs, hx.1, hx.2⟩
    · have h5 : nextE g.held v ≠ 6 ∧ nextE g.held v ≠ 9 ∧ nextE g.held v ≠ 0 := by rcases h4 with h4 | h4 <;> rw [h4] <;> decide
      refine (settle_goes d x Av g w (nextE g.held v) hD hI.hM hL v h1 (hI.ix x) hQl h3 h5).mono ?_
      rintro e w' ⟨rfl, i, g', hi, hs, hg⟩
      rw [h3, if_neg h5.2.2]
      exact ⟨g', rfl, hs, hI.forgets hwx hi hg, .inr (.inr ⟨by rw [h3]; exact h4, v, h1, hg.1, hg.2.1, hg.2.2.1, hg.2.2.2.2⟩)⟩
/-- What Forget makes of a Dag. -/
def fgtG (g : DG) (x : Hs) (g' : DG) : Prop := (hasB g.wait x = false ∧ g' = g) ∨ (hasB g.wait x = true ∧ g'.room = g.room ∧ g'.held = g.held ∧ g'.wait = g.wait.eraseP (isV x) ∧ g'.order = g.order ∧ g'.heads = g.heads)
theorem forgets_any (d : Nat) (x : Hs) (Av : Nat → Prop) (g : DG) (w : World) (hD : DagAt w Av d g) (hI : DI g) :
    Calls Try.prog 43 #[ptr d, .agg (bytesA 32 x.f)] w fun e w' => ∃ g', e = .returned (.bool (hasB g.wait x)) ∧ Ste w w' Av d g g' ∧ DI g' ∧ fgtG g x g' := by
  have hQl : g.queue.length ≤ 1000000000 := by have := hI.qlen; have := hI.wl; omega
  refine (forget_any d x Av g w hD (hI.ix x) hQl).mono ?_
  rintro e w' (⟨h1, rfl, hb⟩ | ⟨h1, rfl, i, _, hi, g', hs, hg⟩)
  · rw [h1]; exact ⟨g, rfl, Ste.refl hD hb, hI, .inl ⟨h1, rfl⟩⟩
  · rw [h1]; exact ⟨g', rfl, hs, hI.forgets h1 hi hg, .inr ⟨h1, hg.1, hg.2.1, hg.2.2.1, hg.2.2.2.2⟩⟩
/-! ### A Dag that lies above B. -/
structure DS (B : Nat) (w : World) (d : Nat) (g : DG) : Prop where
  at' : DagAt w (DgS d g) d g
  di : DI g
  lo : ∀ k, DgS d g k → B ≤ k
theorem Ste.ds {B : Nat} {w w' : World} {d : Nat} {g g' : DG} (h : Ste w w' (DgS d g) d g g') (hI : DI g') (hs : DS B w d g) (hB : B ≤ w.heap.size) : DS B w' d g' ∧ Below B w w' :=
  ⟨⟨h.at'.avInto (fun k hk => .inr hk) (fun k hk => hk), hI, fun k hk => (h.sub k hk).elim (hs.lo k) fun h => Nat.le_trans hB h⟩, h.grown.to_below (fun k hk hd => by have := hs.lo k hd; omega) hB⟩
theorem DS.below {B : Nat} {w w' : World} {d : Nat} {g : DG} (h : DS B w d g) (hb : Below w.heap.size w w') : DS B w' d g := ⟨h.at'.below hb, h.di, h.lo⟩
theorem new_ds (r : Int) (w : World) : Calls Try.prog 10 #[.int .i64 r] w fun e w' =>
    ((r < 0 ∨ 64 < r) ∧ e = .returned (.tuple #[.pointer none, .int .i64 1]) ∧ Below w.heap.size w w') ∨ (0 ≤ r ∧ r ≤ 64 ∧ ∃ d g, e = .returned (.tuple #[.pointer (some ⟨d, 0, none⟩), .int .i64 0]) ∧ DS w.heap.size w' d g ∧ Below w.heap.size w w' ∧ g.room = r ∧ g.held = [] ∧ g.wait = [] ∧ g.order = [] ∧ g.heads = []) := by
  refine (new_any r w).mono ?_
  rintro e w' (⟨h, rfl, rfl⟩ | ⟨h, d, g, rfl, hD, h1, h2, h3, h4, h5, h6, hB, hl⟩)
  · exact .inl ⟨h, rfl, Below.refl _ _⟩
  · refine .inr ⟨by omega, by omega, d, g, rfl, ⟨hD, ?_, hl⟩, hB, h1, h2, h3, h5, h4⟩
    refine ⟨by rw [h1]; omega, by rw [h2]; simp, by rw [h2]; simp, by rw [h3]; simp, by rw [h3]; simp, by rw [h2]; simp, by rw [h3]; simp, by rw [h6, h3]; rfl, by rw [h3, h1]; simp; omega, by rw [h2]; simp, by rw [h2]; simp, by rw [h5, h2]; simp [hasB], ?_, by rw [h4]; simp, by rw [h4, h2]; simp [hasB]⟩
    rw [h5]
    exact ⟨List.nodup_nil, by simp, by simp, by simp⟩
end Go.Proofs.Ytogmdfhicbmplaa
namespace Go.Proofs.Ytogmdfhicbmplaa
open Go.RowKit
set_option linter.unusedSimpArgs false
set_option linter.unusedVariables false

/-! ### Vertices that came, each followed by all that could be settled then. -/
/-- l: those that came so far. -/
structure FedJ (l : List VX) (g : DG) : Prop where
  rm : g.room = 64
  hs : ∀ v ∈ g.held, v ∈ l
  ws : ∀ v ∈ g.wait, v ∈ l
  ft : ∀ v ∈ l, v ∈ g.held ∨ v ∈ g.wait ∨ chkV v ≠ 0 ∨ (v.ps.all (hasB g.held) = true ∧ v.ck ≠ mxC g.held v.ps + 1)
  cn : g.held.length + g.wait.length ≤ l.length
  ll : l.length ≤ 64
theorem hasB_more {l : List VX} {v : VX} {x : Hs} (h : hasB l x = true) : hasB (l ++ [v]) x = true := by rw [hasB_app, h]; rfl
theorem fate_more {l : List VX} {u v : VX} (h : u.ps.all (hasB l) = true ∧ u.ck ≠ mxC l u.ps + 1) : u.ps.all (hasB (l ++ [v])) = true ∧ u.ck ≠ mxC (l ++ [v]) u.ps + 1 :=
  ⟨all_iff.2 fun p hp => hasB_more (all_iff.1 h.1 p hp), by rw [mxC_app (all_iff.1 h.1)]; exact h.2⟩
theorem FedJ.add {l : List VX} {v : VX} {g g' : DG} {ol : List Hs} (h : FedJ l g) (hv : ∀ u ∈ l, u.id ≠ v.id) (hl : l.length + 1 ≤ 64) (a : addG g v ol g') : FedJ (l ++ [v]) g' := by
  have hn1 : hasB g.held v.id = false := hasB_no.2 fun u hu => hv u (h.hs u hu)
  have hn2 : hasB g.wait v.id = false := hasB_no.2 fun u hu => hv u (h.ws u hu)
  have hcn := h.cn
  have same : g' = g → (chkV v ≠ 0 ∨ (v.ps.all (hasB g.held) = true ∧ v.ck ≠ mxC g.held v.ps + 1)) → FedJ (l ++ [v]) g' := by
    rintro rfl hw
    refine ⟨h.rm, fun u hu => List.mem_append_left _ (h.hs u hu), fun u hu => List.mem_append_left _ (h.ws u hu), fun u hu => ?_, by rw [List.length_append]; simp; omega, by rw [List.length_append]; simp; omega⟩
    rcases List.mem_append.1 hu with hu | hu
    · exact h.ft u hu
    · rw [List.mem_singleton] at hu; subst hu; exact .inr (.inr hw)
  rcases a with ⟨hf, ⟨e1, e2, e3, e4, e5, e6⟩, _⟩ | ⟨hf, hr, ⟨e1, e2, e3, e5, e6⟩, _⟩ | ⟨hf, hr, _⟩ | ⟨hf2, hf3, rfl, _⟩
  · refine ⟨e1.trans h.rm, ?_, ?_, ?_, by rw [e2, e3]; simp only [List.length_append, List.length_cons, List.length_nil]; omega, by rw [List.length_append]; simp; omega⟩
    · rw [e2]
      intro u hu
      rcases List.mem_append.1 hu with hu | hu
      · exact List.mem_append_left _ (h.hs u hu)
      · exact List.mem_append_right _ hu
    · rw [e3]; exact fun u hu => List.mem_append_left _ (h.ws u hu)
    · rw [e2, e3]
      intro u hu
      rcases List.mem_append.1 hu with hu | hu
      · rcases h.ft u hu with h1 | h1 | h1 | h1
        · exact .inl (List.mem_append_left _ h1)
        · exact .inr (.inl h1)
        · exact .inr (.inr (.inl h1))
        · exact .inr (.inr (.inr (fate_more h1)))
      · exact .inl (List.mem_append_right _ hu)
  · refine ⟨e1.trans h.rm, ?_, ?_, ?_, by rw [e2, e3]; simp only [List.length_append, List.length_cons, List.length_nil]; omega, by rw [List.length_append]; simp; omega⟩
    · rw [e2]; exact fun u hu => List.mem_append_left _ (h.hs u hu)
    · rw [e3]
      intro u hu
      rcases List.mem_append.1 hu with hu | hu
      · exact List.mem_append_left _ (h.ws u hu)
      · exact List.mem_append_right _ hu
    · rw [e2, e3]
      intro u hu
      rcases List.mem_append.1 hu with hu | hu
      · rcases h.ft u hu with h1 | h1 | h1
        · exact .inl h1
        · exact .inr (.inl (List.mem_append_left _ h1))
        · exact .inr (.inr h1)
      · exact .inr (.inl (List.mem_append_right _ hu))
  · have := h.rm; omega
  · rcases fit_cases g'.held g'.wait v with ⟨h1, hf⟩ | ⟨_, _, h3, hf⟩ | ⟨_, _, _, _, hf⟩ | ⟨_, _, _, h4, h5, hf⟩ | ⟨_, _, _, _, _, hf⟩
    · rw [hn1, hn2] at h1; simp at h1
    · exact same rfl (.inl h3)
    · rw [hf] at hf3; exact absurd rfl hf3
    · refine same rfl (.inr ⟨h4, fun hc => h5 ?_⟩)
      unfold nextE
      rw [if_neg (fun h => h hc), if_neg (by omega)]
    · rw [hf] at hf2; exact absurd rfl hf2
theorem FedJ.settle {l : List VX} {v : VX} {g g' : DG} {x : Hs} (h : FedJ l g) (hI : DI g) (hx : g.wait.find? (isV x) = some v) (ha : v.ps.all (hasB g.held) = true) (s : setG g x g') : FedJ l g' ∧ g'.wait.length + 1 = g.wait.length := by
  have hvm : v ∈ g.wait := List.mem_of_find?_eq_some hx
  have hvi : isV x v = true := List.find?_some hx
  have hlen : (g.wait.eraseP (isV x)).length + 1 = g.wait.length := by
    rw [List.length_eraseP_of_mem hvm hvi]
    have := List.length_pos_of_mem hvm
    omega
  have hrd : rdyE g.held g.wait x = nextE g.held v := by unfold rdyE; rw [hx]; simp only [ha, if_true]
  have hcn := h.cn
  have hll := h.ll
  have mem_or : ∀ u, u ∈ g.wait → u = v ∨ u ∈ g.wait.eraseP (isV x) := fun u hu => by
    by_cases e : u.id = x
    · left
      have h1 := find_mem hI.wn hu
      rw [e, hx] at h1
      exact (Option.some.inj h1).symm
    · exact .inr ((erase_mem hI.wn).2 ⟨hu, e⟩)
  rcases s with ⟨h1, _⟩ | ⟨_, v', hv', e1, e2, e3, e5, e6⟩ | ⟨h1, v', hv', e1, e2, e3, e5, e6⟩
  · rw [hrd] at h1
    unfold nextE at h1
    split at h1
    · rcases h1 with h1 | h1 <;> cases h1
    · split at h1
      · rcases h1 with h1 | h1 <;> cases h1
      · rcases h1 with h1 | h1 <;> cases h1
  · rw [hx] at hv'
    cases hv'
    refine ⟨⟨e1.trans h.rm, ?_, ?_, ?_, ?_, h.ll⟩, by rw [e3]; exact hlen⟩
    · rw [e2]
      intro u hu
      rcases List.mem_append.1 hu with hu | hu
      · exact h.hs u hu
      · rw [List.mem_singleton] at hu; subst hu; exact h.ws _ hvm
    · rw [e3]; exact fun u hu => h.ws u (List.mem_of_mem_eraseP hu)
    · rw [e2, e3]
      intro u hu
      rcases h.ft u hu with h1 | h1 | h1 | h1
      · exact .inl (List.mem_append_left _ h1)
      · rcases mem_or u h1 with rfl | h2
        · exact .inl (by simp)
        · exact .inr (.inl h2)
      · exact .inr (.inr (.inl h1))
      · exact .inr (.inr (.inr (fate_more h1)))
    · rw [e2, e3, List.length_append]; simp only [List.length_cons, List.length_nil]; omega
  · rw [hx] at hv'
    cases hv'
    have hck : v.ck ≠ mxC g.held v.ps + 1 := fun hc => by
      rw [hrd] at h1
      unfold nextE at h1
      rw [if_neg (fun h => h hc), if_neg (by omega)] at h1
      rcases h1 with h1 | h1 <;> cases h1
    refine ⟨⟨e1.trans h.rm, ?_, ?_, ?_, ?_, h.ll⟩, by rw [e3]; exact hlen⟩
    · rw [e2]; exact h.hs
    · rw [e3]; exact fun u hu => h.ws u (List.mem_of_mem_eraseP hu)
    · rw [e2, e3]
      intro u hu
      rcases h.ft u hu with h1 | h1 | h1 | h1
      · exact .inl h1
      · rcases mem_or u h1 with rfl | h2
        · exact .inr (.inr (.inr ⟨ha, hck⟩))
        · exact .inr (.inl h2)
      · exact .inr (.inr (.inl h1))
      · exact .inr (.inr (.inr h1))
    · rw [e2, e3]; omega
theorem nx_none {l m : List VX} : ∀ (q : List Hs), nxQ l m q = none → ∀ x ∈ q, ∀ v, m.find? (isV x) = some v → v.ps.all (hasB l) = false
  | [], _, x, hx, _, _ => by cases hx
  | y :: r, h, x, hx, v, hv => by
    unfold nxQ at h
    cases hy : m.find? (isV y) with
    | none =>
      rw [hy] at h
      rcases List.mem_cons.1 hx with rfl | hx
      · rw [hy] at hv; cases hv
      · exact nx_none r h x hx v hv
    | some u =>
      rw [hy] at h
      by_cases ha : u.ps.all (hasB l) = true
      · simp only [ha, if_true] at h; cases h
      · simp only [ha] at h
        rcases List.mem_cons.1 hx with rfl | hx
        · rw [hy] at hv; cases hv; simpa using ha
        · exact nx_none r h x hx v hv
theorem nx_some {l m : List VX} {v : VX} : ∀ (q : List Hs), nxQ l m q = some v → ∃ x ∈ q, m.find? (isV x) = some v ∧ v.ps.all (hasB l) = true
  | [], h => by cases h
  | y :: r, h => by
    unfold nxQ at h
    cases hy : m.find? (isV y) with
    | none =>
      rw [hy] at h
      obtain ⟨x, hx, h1⟩ := nx_some r h
      exact ⟨x, List.mem_cons_of_mem _ hx, h1⟩
    | some u =>
      rw [hy] at h
      by_cases ha : u.ps.all (hasB l) = true
      · simp only [ha, if_true] at h
        cases h
        exact ⟨y, List.mem_cons_self, hy, ha⟩
      · simp only [ha] at h
        obtain ⟨x, hx, h1⟩ := nx_some r h
        exact ⟨x, List.mem_cons_of_mem _ hx, h1⟩
/-- Nothing that waits could be settled. -/
def StD (g : DG) : Prop := ∀ v ∈ g.wait, v.ps.all (hasB g.held) = false
theorem DI.stable {g : DG} (h : DI g) (hn : nxQ g.held g.wait g.queue = none) : StD g := fun v hv =>
  nx_none g.queue hn v.id (by rw [h.q]; exact List.mem_map.2 ⟨v, hv, rfl⟩) v (find_mem h.wn hv)
theorem DI.nextOne {g : DG} {v : VX} (h : DI g) (hn : nxQ g.held g.wait g.queue = some v) : g.wait.find? (isV v.id) = some v ∧ v.ps.all (hasB g.held) = true ∧ v ∈ g.wait := by
  obtain ⟨x, hx, h1, h2⟩ := nx_some g.queue hn
  have := isV_iff.1 (List.find?_some h1)
  rw [this]
  exact ⟨h1, h2, List.mem_of_find?_eq_some h1⟩
theorem ck_lt {g : DG} (h : DI g) {v : VX} (hv : v ∈ g.held) {p : Hs} (hp : p ∈ v.ps) : ∃ u ∈ g.held, u.id = p ∧ u.ck < v.ck := by
  obtain ⟨u, hu, hum, hue⟩ := find_has (h.cl v hv p hp)
  refine ⟨u, hum, hue, ?_⟩
  have h1 := h.ck v hv
  have h2 := mxC_ge (l := g.held) hp
  have h3 : ckOf g.held p = u.ck := by unfold ckOf; rw [hu]
  omega
theorem mxC_congr {l m : List VX} {ps : List Hs} (h : ∀ p ∈ ps, ckOf l p = ckOf m p) : mxC l ps = mxC m ps := by
  unfold mxC
  suffices H : ∀ (ps : List Hs) (k : Int), (∀ p ∈ ps, ckOf l p = ckOf m p) → ps.foldl (fun m h => if ckOf l h > m then ckOf l h else m) k = ps.foldl (fun m' h => if ckOf m h > m' then ckOf m h else m') k from H ps 0 h
  intro ps
  induction ps with
  | nil => intros; rfl
  | cons x r ih =>
    intro k hk
    rw [List.foldl_cons, List.foldl_cons, hk x (by simp)]
    exact ih _ fun p hp => hk p (by simp [hp])
theorem meet_sub {l m : List VX} {g g' : DG} (h : FedJ l g) (hI : DI g) (h' : FedJ m g') (hI' : DI g') (hs : StD g') (hm : ∀ v, v ∈ l → v ∈ m) : ∀ v ∈ g.held, v ∈ g'.held := by
  have key : ∀ n : Nat, ∀ v ∈ g.held, v.ck ≤ n → v ∈ g'.held := by
    intro n
    induction n with
    | zero => intro v hv hc; have := chk_ok (hI.hc v hv); omega
    | succ n ih =>
      intro v hv hc
      have hpar : ∀ p ∈ v.ps, ∃ u, u ∈ g.held ∧ u ∈ g'.held ∧ u.id = p := fun p hp => by
        obtain ⟨u, hu, e, hlt⟩ := ck_lt hI hv hp
        exact ⟨u, hu, ih u hu (by omega), e⟩
      have hall : v.ps.all (hasB g'.held) = true := all_iff.2 fun p hp => by
        obtain ⟨u, _, h2, e⟩ := hpar p hp
        exact hasB_iff.2 ⟨u, h2, e⟩
      rcases h'.ft v (hm v (h.hs v hv)) with h1 | h1 | h1 | ⟨_, h1⟩
      · exact h1
      · have := hs v h1; rw [hall] at this; cases this
      · exact absurd (hI.hc v hv) h1
      · refine absurd ?_ h1
        rw [hI.ck v hv, mxC_congr (l := g.held) (m := g'.held) fun p hp => ?_]
        obtain ⟨u, h2, h3, e⟩ := hpar p hp
        unfold ckOf
        rw [← e, find_mem hI.hn h2, find_mem hI'.hn h3]
  intro v hv
  have := chk_ok (hI.hc v hv)
  exact key 4096 v hv (by omega)
theorem OneO.congr {par par' : Hs → List Hs} {l : List Hs} (h : OneO par l) (e : ∀ x ∈ l, par' x = par x) : OneO par' l :=
  ⟨h.nd, fun i k x y hi hk hy => h.top i k x y hi hk (by rw [← e x (at_mem hi)]; exact hy), fun x hx p hp => h.all x hx p (by rw [← e x hx]; exact hp),
    fun i k x y hik hi hk hlt => by obtain ⟨j, z, h1, h2, h3⟩ := h.min i k x y hik hi hk hlt; exact ⟨j, z, h1, h2, by rw [e y (at_mem hk)]; exact h3⟩⟩
theorem meet_eq {g g' : DG} (hI : DI g) (hI' : DI g') (h : ∀ v, v ∈ g.held ↔ v ∈ g'.held) : g.order = g'.order ∧ g.heads = g'.heads ∧ ∀ x, g.held.find? (isV x) = g'.held.find? (isV x) := by
  have hb : ∀ x, hasB g.held x = true ↔ hasB g'.held x = true := fun x => by
    rw [hasB_iff, hasB_iff]
    exact ⟨fun ⟨v, h1, h2⟩ => ⟨v, (h v).1 h1, h2⟩, fun ⟨v, h1, h2⟩ => ⟨v, (h v).2 h1, h2⟩⟩
  have hf : ∀ x, g.held.find? (isV x) = g'.held.find? (isV x) := fun x => by
    by_cases hx : hasB g.held x = true
    · obtain ⟨u, h1, h2, h3⟩ := find_has hx
      rw [h1, ← h3, find_mem hI'.hn ((h u).1 h2)]
    · have h1 : hasB g.held x = false := by simpa using hx
      have h2 : hasB g'.held x = false := by rw [Bool.eq_false_iff]; exact fun e => hx ((hb x).2 e)
      rw [find_none h1, find_none h2]
  refine ⟨?_, ?_, hf⟩
  · refine OneO.unique (par := parH g.held) hI.oo (hI'.oo.congr fun x _ => by unfold parH; rw [hf]) fun x => ?_
    rw [hI.om, hI'.om, hb]
  · refine rising_unique _ _ hI.hd hI'.hd fun x => ?_
    rw [hI.hm, hI'.hm, hb]
    exact ⟨fun ⟨h1, h2⟩ => ⟨h1, fun v hv => h2 v ((h v).2 hv)⟩, fun ⟨h1, h2⟩ => ⟨h1, fun v hv => h2 v ((h v).1 hv)⟩⟩
end Go.Proofs.Ytogmdfhicbmplaa
namespace Go.Proofs.Ytogmdfhicbmplaa
open Go.RowKit
set_option linter.unusedSimpArgs false
set_option linter.unusedVariables false

/-! ### Lists of things of s cells. -/
section
variable {α : Type} {enc : α → List Value} {s : Nat}
theorem flat_len (hs : ∀ x, (enc x).length = s) : ∀ L : List α, (L.flatMap enc).length = L.length * s
  | [] => by simp
  | x :: L => by rw [List.flatMap_cons, List.length_append, hs, flat_len hs L, List.length_cons, Nat.add_mul, Nat.one_mul, Nat.add_comm]
theorem flat_get (hs : ∀ x, (enc x).length = s) : ∀ (L : List α) (i : Nat) (hi : i < L.length) (j : Nat), j < s → (L.flatMap enc)[i * s + j]? = (enc L[i])[j]?
  | x :: L, 0, _, j, hj => by rw [List.flatMap_cons, Nat.zero_mul, Nat.zero_add, List.getElem?_append_left (by rw [hs]; exact hj)]; rfl
  | x :: L, i + 1, hi, j, hj => by
    rw [List.flatMap_cons, List.getElem?_append_right (by rw [hs, Nat.add_mul]; omega), hs, show (i + 1) * s + j - s = i * s + j by rw [Nat.add_mul]; omega]
    exact flat_get hs L i (by simpa using hi) j hj
theorem flat_take (hs : ∀ x, (enc x).length = s) : ∀ (L : List α) (k : Nat), (L.flatMap enc).take (k * s) = (L.take k).flatMap enc
  | L, 0 => by simp
  | [], k + 1 => by simp
  | x :: L, k + 1 => by
    rw [List.flatMap_cons, List.take_succ_cons, List.flatMap_cons, List.take_append, hs, List.take_of_length_le (by rw [hs, Nat.add_mul]; omega), show (k + 1) * s - s = k * s by rw [Nat.add_mul]; omega, flat_take hs L k]
theorem flat_drop (hs : ∀ x, (enc x).length = s) : ∀ (L : List α) (k : Nat), (L.flatMap enc).drop (k * s) = (L.drop k).flatMap enc
  | L, 0 => by simp
  | [], k + 1 => by simp
  | x :: L, k + 1 => by
    rw [List.flatMap_cons, List.drop_succ_cons, List.drop_append, hs, List.drop_of_length_le (by rw [hs, Nat.add_mul]; omega), List.nil_append, show (k + 1) * s - s = k * s by rw [Nat.add_mul]; omega, flat_drop hs L k]
theorem flat_elem (hs : ∀ x, (enc x).length = s) {w : World} {b off : Nat} {L : List α} (h : w.rangeAt b off (L.flatMap enc)) (i : Nat) (hi : i < L.length) : w.rangeAt b (off + i * s) (enc L[i]) := fun j v hv => by
  have hj : j < s := by have := (List.getElem?_eq_some_iff.1 hv).1; rw [hs] at this; exact this
  have := h (i * s + j) v (by rw [flat_get hs L i hi j hj]; exact hv)
  rw [show off + (i * s + j) = off + i * s + j by omega] at this
  exact this
theorem flat_set (hs : ∀ x, (enc x).length = s) (L : List α) (k : Nat) (x : α) (hk : k < L.length) : (L.flatMap enc).take (k * s) ++ enc x ++ (L.flatMap enc).drop (k * s + s) = (L.set k x).flatMap enc := by
  rw [flat_take hs, show k * s + s = (k + 1) * s by rw [Nat.add_mul]; omega, flat_drop hs, List.set_eq_take_append_cons_drop, if_pos hk, List.flatMap_append, List.flatMap_cons, List.append_assoc]
theorem flat_of_elems (hs : ∀ x, (enc x).length = s) {w : World} {b off : Nat} {L : List α} (h : ∀ i (hi : i < L.length), w.rangeAt b (off + i * s) (enc L[i])) : w.rangeAt b off (L.flatMap enc) := fun j v hv => by
  have hj := (List.getElem?_eq_some_iff.1 hv).1
  rw [flat_len hs] at hj
  have hs0 : 0 < s := by
    rcases Nat.eq_zero_or_pos s with h0 | h0
    · rw [h0] at hj; omega
    · exact h0
  have hi : j / s < L.length := by rw [Nat.div_lt_iff_lt_mul hs0]; exact hj
  have hm := Nat.mod_lt j hs0
  have he : j / s * s + j % s = j := by rw [Nat.mul_comm]; exact Nat.div_add_mod j s
  have hg := flat_get hs L (j / s) hi (j % s) hm
  rw [he, hv] at hg
  have := h (j / s) hi (j % s) v hg.symm
  rw [show off + j / s * s + j % s = off + j by omega] at this
  exact this
end
/-! ### Lists of vertices. -/
/-- A vertex and its parents' slice. -/
abbrev VP := VX × Value
def encV (q : VP) : List Value := (vtx q.1.id.f q.1.ck q.2).toList
theorem encV_len (q : VP) : (encV q).length = 34 := by rw [encV, Array.length_toList, vtx_size]
/-- v is a slice of these vertices. -/
def VRow (w : World) (v : Value) (L : List VP) : Prop :=
  ((∃ a c, v = .slice a 0 c ∧ L = []) ∨ ∃ b off c, v = .slice (some ⟨b, off, none⟩) L.length c ∧ L.length ≤ c ∧ w.rangeAt b off (L.flatMap encV)) ∧ ∀ q ∈ L, HRow w q.2 q.1.ps ∧ q.1.ps.length ≤ 4398046511104
theorem VRow.form {w : World} {v : Value} {L : List VP} (h : VRow w v L) : ∃ a c, v = .slice a L.length c := by
  rcases h.1 with ⟨a, c, rfl, rfl⟩ | ⟨b, off, c, rfl, _⟩
  · exact ⟨a, c, rfl⟩
  · exact ⟨_, c, rfl⟩
theorem VRow.at {w : World} {a : Option Addr} {n c : Nat} {L : List VP} (h : VRow w (.slice a n c) L) (hL : 0 < L.length) : ∃ b off, a = some ⟨b, off, none⟩ ∧ L.length ≤ c ∧ w.rangeAt b off (L.flatMap encV) := by
  rcases h.1 with ⟨a, c, _, rfl⟩ | ⟨b, off, c, e, h1, h2⟩
  · simp at hL
  · injection e with e1 e2 e3
    subst e1 e3
    exact ⟨b, off, rfl, h1, h2⟩
theorem flatV_lt {w : World} {b off : Nat} {L : List VP} (h : w.rangeAt b off (L.flatMap encV)) (hL : 0 < L.length) : b < w.heap.size := by
  have h0 := flat_elem encV_len h 0 hL
  have h1 : (encV L[0])[32]? = some (.int .i64 L[0].1.ck) := by rw [encV, Array.getElem?_toList, vtx_ck]
  exact cell_lt (h0 32 _ h1)
theorem VRow.below {w w' : World} {v : Value} {L : List VP} (h : VRow w v L) (hb : Below w.heap.size w w') : VRow w' v L := by
  refine ⟨?_, fun q hq => ⟨(h.2 q hq).1.below hb, (h.2 q hq).2⟩⟩
  rcases h.1 with h1 | ⟨b, off, c, rfl, h2, h3⟩
  · exact .inl h1
  · by_cases h0 : 0 < L.length
    · exact .inr ⟨b, off, c, rfl, h2, rangeAt_below h3 hb (flatV_lt h3 h0)⟩
    · have : L = [] := List.eq_nil_of_length_eq_zero (by omega)
      subst this
      exact .inl ⟨_, c, rfl, rfl⟩
/-! ### Below a mark. -/
theorem below_cut {B : Nat} {a b : World} (h : Below a.heap.size a b) (hB : B ≤ a.heap.size) : Below B a b := ⟨h.os, h.tape, h.output, h.size, fun k hk => h.block k (Nat.lt_of_lt_of_le hk hB)⟩
end Go.Proofs.Ytogmdfhicbmplaa
namespace Go.Proofs.Ytogmdfhicbmplaa
open Go.RowKit
set_option linter.unusedSimpArgs false
set_option linter.unusedVariables false

theorem Try.in19 (w : World) (vs : Array Value) : (callFunc 19 vs).run Try.prog w = .ok (.enter 19 vs) w := by kernel_rfl
theorem Try.in62 (w : World) (vs : Array Value) : (callFunc 62 vs).run Try.prog w = .ok (.enter 62 vs) w := by kernel_rfl
theorem Try.in12 (w : World) (vs : Array Value) : (callFunc 12 vs).run Try.prog w = .ok (.enter 12 vs) w := by kernel_rfl
theorem smH_any (v1 v2 : Value) (L M : List Hs) (w : World) (h1 : HRow w v1 L) (h2 : HRow w v2 M) (hn : (L.length : Int) ≤ 9223372036854775807) : Calls Try.prog 19 #[v1, v2] w fun e w' => e = .returned (.bool (decide (L = M))) ∧ Below w.heap.size w w' := by
  have H1 := Keep.mk h1
  have H2 := Keep.mk h2
  have HN := Keep.mk hn
  clear h1 h2 hn
  go_enter Try.func19, Try.ntmps19
  refine wp_seq_k fun K1 hK1 => ?_
  refine wp_region_list (WL.out ?_)
  refine WL.val (by kernel_rfl) (.bool false) (by go_simp) ?_
  simp only [Act.put, List.setIfInBounds_toArray, List.set_cons_zero, List.set_cons_succ]
  refine WL.nil ?_
  refine hK1 _ _ ?_
  refine wp_seq_k fun K2 hK2 => ?_
  refine wp_region_list (WL.out ?_)
  refine WL.val (by kernel_rfl) (v1) (by go_simp) ?_
  simp only [Act.put, List.setIfInBounds_toArray, List.set_cons_zero, List.set_cons_succ]
  refine WL.val (by kernel_rfl) (v2) (by go_simp) ?_
  simp only [Act.put, List.setIfInBounds_toArray, List.set_cons_zero, List.set_cons_succ]
  refine WL.callF (by kernel_rfl) 62 _ _ rfl Try.in62 #[v1, v2] (by simp [Act.eval]) ?_
  refine (same_any v1 v2 L M w H1.out H2.out HN.out).mono ?_
  rintro e w1 ⟨rfl, q, hq⟩
  refine ⟨_, rfl, ?_⟩
  have B1 : Keep (Below w.heap.size w w1) := ⟨by rw [hq]; exact ⟨rfl, rfl, rfl, Nat.le_refl _, fun _ _ => rfl⟩⟩
  clear hq
  simp only [Act.put, List.setIfInBounds_toArray, List.set_cons_zero, List.set_cons_succ]
  refine WL.val (by kernel_rfl) (.bool (decide (L = M))) (by go_simp) ?_
  simp only [Act.put, List.setIfInBounds_toArray, List.set_cons_zero, List.set_cons_succ]
  refine WL.nil ?_
  refine hK2 _ _ ?_
  refine wp_ret ?_
  go_ret
  exact ⟨rfl, B1.out⟩
set_option maxRecDepth 8000 in
theorem plN_any (i : Int) (n : Nat) (w : World) (hn : 0 < n) (hm : (n : Int) ≤ 9223372036854775807) : Calls Try.prog 12 #[.int .i64 i, .int .i64 (n : Int)] w fun e w' => ∃ k : Nat, k < n ∧ e = .returned (.int .i64 (k : Int)) ∧ w' = w := by
  have hn0 : ¬ (n : Int) = 0 := by omega
  have hn1 : ¬ n = 0 := by omega
  have hlo : -(n : Int) < i.tmod (n : Int) := by have := Int.tmod_lt_of_pos (-i) (b := (n : Int)) (by omega); rw [Int.neg_tmod] at this; omega
  have hhi : i.tmod (n : Int) < (n : Int) := Int.tmod_lt_of_pos i (by omega)
  have hw0 : IntKind.i64.wrap (i.tmod (n : Int)) = i.tmod (n : Int) := by rw [IntKind.wrap_i64]; omega
  have hw1 : i.tmod (n : Int) < 0 → IntKind.i64.wrap (i.tmod (n : Int) + (n : Int)) = i.tmod (n : Int) + (n : Int) := fun h => by rw [IntKind.wrap_i64]; omega
  go_enter Try.func12, Try.ntmps12
  refine wp_seq_k fun K1 hK1 => ?_
  refine wp_region_list (WL.out ?_)
  refine WL.val (by kernel_rfl) (.int .i64 0) (by go_simp) ?_
  simp only [Act.put, List.setIfInBounds_toArray, List.set_cons_zero, List.set_cons_succ]
  refine WL.nil ?_
  refine hK1 _ _ ?_
  refine wp_seq_k fun K2 hK2 => ?_
  refine wp_region_list (WL.out ?_)
  refine WL.val (by kernel_rfl) (.int .i64 i) (by go_simp) ?_
  simp only [Act.put, List.setIfInBounds_toArray, List.set_cons_zero, List.set_cons_succ]
  refine WL.val (by kernel_rfl) (.int .i64 (n : Int)) (by go_simp) ?_
  simp only [Act.put, List.setIfInBounds_toArray, List.set_cons_zero, List.set_cons_succ]
  refine WL.val (by kernel_rfl) (.int .i64 (i.tmod (n : Int))) (by go_simp) ?_
  simp only [Act.put, List.setIfInBounds_toArray, List.set_cons_zero, List.set_cons_succ]
  refine WL.val (by kernel_rfl) (.int .i64 (i.tmod (n : Int))) (by go_simp) ?_
  simp only [Act.put, List.setIfInBounds_toArray, List.set_cons_zero, List.set_cons_succ]
  refine WL.nil ?_
  refine hK2 _ _ ?_
  refine wp_seq_k fun K3 hK3 => ?_
  refine wp_seq_k fun K4 hK4 => ?_
  refine wp_region_list (WL.out ?_)
  refine WL.val (by kernel_rfl) (.int .i64 (i.tmod (n : Int))) (by go_simp) ?_
  simp only [Act.put, List.setIfInBounds_toArray, List.set_cons_zero, List.set_cons_succ]
  by_cases h2_1 : i.tmod (n : Int) < 0
  · skip
    refine WL.val (by kernel_rfl) (.bool true) (by go_simp) ?_
    simp only [Act.put, List.setIfInBounds_toArray, List.set_cons_zero, List.set_cons_succ]
    refine WL.nil ?_
    refine hK4 _ _ ?_
    refine wp_cond_true rfl ?_
    refine wp_region_list (WL.out ?_)
    refine WL.val (by kernel_rfl) (.int .i64 (i.tmod (n : Int))) (by go_simp) ?_
    simp only [Act.put, List.setIfInBounds_toArray, List.set_cons_zero, List.set_cons_succ]
    refine WL.val (by kernel_rfl) (.int .i64 (n : Int)) (by go_simp) ?_
    simp only [Act.put, List.setIfInBounds_toArray, List.set_cons_zero, List.set_cons_succ]
    refine WL.val (by kernel_rfl) (.int .i64 (i.tmod (n : Int) + (n : Int))) (by go_simp) ?_
    simp only [Act.put, List.setIfInBounds_toArray, List.set_cons_zero, List.set_cons_succ]
    refine WL.val (by kernel_rfl) (.int .i64 (i.tmod (n : Int) + (n : Int))) (by go_simp) ?_
    simp only [Act.put, List.setIfInBounds_toArray, List.set_cons_zero, List.set_cons_succ]
    refine WL.nil ?_
    refine hK3 _ _ ?_
    refine wp_seq_k fun K5 hK5 => ?_
    refine wp_region_list (WL.out ?_)
    refine WL.val (by kernel_rfl) (.int .i64 (i.tmod (n : Int) + (n : Int))) (by go_simp) ?_
    simp only [Act.put, List.setIfInBounds_toArray, List.set_cons_zero, List.set_cons_succ]
    refine WL.val (by kernel_rfl) (.int .i64 (i.tmod (n : Int) + (n : Int))) (by go_simp) ?_
    simp only [Act.put, List.setIfInBounds_toArray, List.set_cons_zero, List.set_cons_succ]
    refine WL.nil ?_
    refine hK5 _ _ ?_
    refine wp_ret ?_
    go_ret
    exact ⟨(i.tmod (n : Int) + (n : Int)).toNat, by omega, by rw [Int.toNat_of_nonneg (by omega)]; rfl, rfl⟩
  · skip
    refine WL.val (by kernel_rfl) (.bool false) (by go_simp) ?_
    simp only [Act.put, List.setIfInBounds_toArray, List.set_cons_zero, List.set_cons_succ]
    refine WL.nil ?_
    refine hK4 _ _ ?_
    refine wp_cond_false rfl ?_
    refine wp_skip ?_
    refine hK3 _ _ ?_
    refine wp_seq_k fun K6 hK6 => ?_
    refine wp_region_list (WL.out ?_)
    refine WL.val (by kernel_rfl) (.int .i64 (i.tmod (n : Int))) (by go_simp) ?_
    simp only [Act.put, List.setIfInBounds_toArray, List.set_cons_zero, List.set_cons_succ]
    refine WL.val (by kernel_rfl) (.int .i64 (i.tmod (n : Int))) (by go_simp) ?_
    simp only [Act.put, List.setIfInBounds_toArray, List.set_cons_zero, List.set_cons_succ]
    refine WL.nil ?_
    refine hK6 _ _ ?_
    refine wp_ret ?_
    go_ret
    exact ⟨(i.tmod (n : Int)).toNat, by omega, by rw [Int.toNat_of_nonneg (by omega)]; rfl, rfl⟩
end Go.Proofs.Ytogmdfhicbmplaa
namespace Go.Proofs.Ytogmdfhicbmplaa
open Go.RowKit
set_option linter.unusedSimpArgs false
set_option linter.unusedVariables false

theorem Try.in35 (w : World) (vs : Array Value) : (callFunc 35 vs).run Try.prog w = .ok (.enter 35 vs) w := by kernel_rfl
set_option maxRecDepth 8000 in
set_option maxHeartbeats 1000000 in
theorem next_first (d : Nat) (v : VX) (r : List Hs) (Av : Nat → Prop) (g : DG) (w : World) (hD : DagAt w Av d g) (hQ : g.queue = v.id :: r) (hF : g.wait.find? (isV v.id) = some v) (hA : v.ps.all (hasB g.held) = true) (hL : v.ps.length ≤ 4398046511104) : Calls Try.prog 35 #[ptr d] w fun e w' => ∃ a n c, e = .returned (.tuple #[.agg (vtx v.id.f v.ck (.slice a n c)), .bool true]) ∧ Below w.heap.size w w' := by
  have HD := Keep.mk hD
  have HQ := Keep.mk hQ
  have HF := Keep.mk hF
  have HA := Keep.mk hA
  have HL := Keep.mk hL
  clear hD hQ hF hA hL
  go_enter Try.func35, Try.ntmps35
  refine wp_seq_k fun K1 hK1 => ?_
  refine wp_region_list (WL.out ?_)
  refine WL.new (by kernel_rfl) 39 rfl _ Try.new39 ?_
  obtain ⟨vz, hvz⟩ : ∃ a : Array Value, Keep (a = vtx (fun _ => 0) 0 (.slice none 0 0)) := ⟨_, ⟨rfl⟩⟩
  rw [← hvz.out]
  have HZ1 := Keep.mk (Blk.new w 39 vz)
  have LB1 := Keep.mk (below_new w (.cells vz 39))
  generalize w.alloc (.cells vz 39) = w1 at *
  have HD1 := Keep.mk (HD.out.below LB1.out)
  obtain ⟨qa, qc, hqv⟩ := HD1.out.oq.sl
  have hql : 0 < g.queue.length := by rw [HQ.out]; simp
  have hql' : (0 : Int) < (g.queue.length : Int) := by omega
  have hrw : HRow w1 (.slice qa g.queue.length qc) g.queue := hqv ▸ HD1.out.oq.row
  obtain ⟨gp, op, hpa, _, _, hrg⟩ := hrw.at hql
  subst hpa
  have hel := rangeAt_elem hrg 0 hql
  rw [Nat.zero_mul, Nat.add_zero] at hel
  obtain ⟨hh, hhh⟩ : ∃ hh, hh = g.queue[0] := ⟨_, rfl⟩
  rw [← hhh] at hel
  have hhx : hh = v.id := by rw [hhh]; simp [HQ.out]
  subst hhx
  have c5 : w1.cell? ⟨d, 5, none⟩ = some (.slice (some ⟨gp, op, none⟩) g.queue.length qc) := by have h := HD1.out.blk.c 5 (by rfl : (dgA g)[5]? = some g.qv); rw [hqv] at h; exact h
  have Hel := Keep.mk hel
  clear hel hrg hrw hhh
  simp only [Act.put, List.setIfInBounds_toArray, List.set_cons_zero, List.set_cons_succ]
  refine WL.val (by kernel_rfl) (.bool false) (by go_simp) ?_
  simp only [Act.put, List.setIfInBounds_toArray, List.set_cons_zero, List.set_cons_succ]
  refine WL.nil ?_
  refine hK1 _ _ ?_
  refine wp_seq_k fun K2 hK2 => ?_
  refine wp_seq_k fun K3 hK3 => ?_
  refine wp_region_list (WL.out ?_)
  refine WL.val (by kernel_rfl) (.pointer (some ⟨d, 0, none⟩)) (by go_simp) ?_
  simp only [Act.put, List.setIfInBounds_toArray, List.set_cons_zero, List.set_cons_succ]
  refine WL.val (by kernel_rfl) (.pointer (some ⟨d, 0, none⟩)) (by go_simp) ?_
  simp only [Act.put, List.setIfInBounds_toArray, List.set_cons_zero, List.set_cons_succ]
  refine WL.val (by kernel_rfl) (.pointer (some ⟨d, 5, none⟩)) (by go_simp) ?_
  simp only [Act.put, List.setIfInBounds_toArray, List.set_cons_zero, List.set_cons_succ]
  refine WL.val (by kernel_rfl) (.slice (some ⟨gp, op, none⟩) g.queue.length qc) (by go_simp) ?_
  simp only [Act.put, List.setIfInBounds_toArray, List.set_cons_zero, List.set_cons_succ]
  refine WL.val (by kernel_rfl) (.int .i64 (g.queue.length : Int)) (by go_simp) ?_
  simp only [Act.put, List.setIfInBounds_toArray, List.set_cons_zero, List.set_cons_succ]
  refine WL.val (by kernel_rfl) (.int .i64 0) (by go_simp) ?_
  simp only [Act.put, List.setIfInBounds_toArray, List.set_cons_zero, List.set_cons_succ]
  refine WL.nil ?_
  refine hK3 _ _ ?_
  refine wp_block ?_
  refine wp_loop (fun ac wr => ∃ (t : Nat) (u3 u5 u6 u13 u14 u15 u16 u17 u18 u19 u20 u21 u22 u23 u24 u25 u26 u27 u28 : Value), ac = { tmps := #[.pointer (some ⟨d, 0, none⟩), undef, .pointer (some ⟨w.heap.size, 0, none⟩), u3, undef, u5, u6, .pointer (some ⟨d, 0, none⟩), .pointer (some ⟨d, 0, none⟩), .pointer (some ⟨d, 5, none⟩), .slice (some ⟨gp, op, none⟩) g.queue.length qc, .int .i64 (g.queue.length : Int), .int .i64 0, u13, u14, u15, u16, u17, u18, u19, u20, u21, u22, u23, u24, u25, u26, u27, u28, undef], defers := [] } ∧ w1 = wr) (fun a _ => 0) ⟨0, .bool false, undef, undef, undef, undef, undef, undef, undef, undef, undef, undef, undef, undef, undef, undef, undef, undef, undef, undef, rfl, rfl⟩ ?_
  rintro ac wr ⟨t, u3, u5, u6, u13, u14, u15, u16, u17, u18, u19, u20, u21, u22, u23, u24, u25, u26, u27, u28, rfl, hW⟩
  obtain rfl := hW
  refine wp_seq_k fun K4 hK4 => ?_
  refine wp_region_list (WL.out ?_)
  refine WL.val (by kernel_rfl) (.bool true) (by go_simp) ?_
  simp only [Act.put, List.setIfInBounds_toArray, List.set_cons_zero, List.set_cons_succ]
  refine WL.nil ?_
  refine hK4 _ _ ?_
  refine wp_seq_k fun K5 hK5 => ?_
  refine wp_cond_true rfl ?_
  refine wp_skip ?_
  refine hK5 _ _ ?_
  refine wp_seq_k fun K6 hK6 => ?_
  refine wp_block ?_
  refine wp_seq_k fun K7 hK7 => ?_
  refine wp_region_list (WL.out ?_)
  refine WL.val (by kernel_rfl) (.pointer (some ⟨gp, op, none⟩)) (by go_simp) ?_
  simp only [Act.put, List.setIfInBounds_toArray, List.set_cons_zero, List.set_cons_succ]
  refine WL.mid (by kernel_rfl) 36 (.tmp 14) rfl gp op rfl (encH v.id) _ Hel.out Try.underlying36 rfl (Try.size36L v.id) ?_
  rw [enc_load]
  simp only [Act.put, List.setIfInBounds_toArray, List.set_cons_zero, List.set_cons_succ]
  refine WL.new (by kernel_rfl) 36 rfl _ Try.new36 ?_
  simp only [Act.put, List.setIfInBounds_toArray, List.set_cons_zero, List.set_cons_succ]
  refine WL.storeR (by kernel_rfl) 36 (.tmp 5) (.tmp 15) rfl w1.heap.size (bytesA 32 v.id.f) rfl rfl 36 (bytesA 32 fun _ => 0) (Blk.new w1 36 _) (Try.size36B _) (bytesA_sizes _ _ _) (bytesA_one _ _) ?_
  have HX2 := Keep.mk ((Blk.new w1 36 (bytesA 32 fun _ => 0)).setRow (bytesA 32 v.id.f))
  have B2 : Keep (Below w1.heap.size w1 ((w1.alloc (.cells (bytesA 32 fun _ => 0) 36)).setRow w1.heap.size (bytesA 32 v.id.f))) := ⟨below_setRow (below_new w1 _) (Nat.le_refl _) _⟩
  generalize (w1.alloc (.cells (bytesA 32 fun _ => 0) 36)).setRow w1.heap.size (bytesA 32 v.id.f) = w2 at *
  have HD2 := Keep.mk (HD1.out.below B2.out)
  have HZ2 := Keep.mk (HZ1.out.below B2.out HZ1.out.lt)
  have LB2 := Keep.mk (belowT LB1.out B2.out)
  generalize w1.heap.size = bb at *
  clear Hel c5 HD1 HZ1
  simp only [Act.put]
  refine WL.nil ?_
  refine hK7 _ _ ?_
  refine wp_seq_k fun K8 hK8 => ?_
  obtain ⟨es, ck, c0, k0, pa, pn, pm, hes, hl1, hl2, hcs⟩ := look1 HD2.out.wait v.id
  obtain ⟨vv, hvv⟩ : ∃ a : Array Value, Keep (a = vtx c0 k0 (.slice pa pn pm)) := ⟨_, ⟨rfl⟩⟩
  rw [← hvv.out] at hl2
  have H1 := Keep.mk hl2
  have HC : Keep (c0 = v.id.f ∧ k0 = v.ck ∧ HRow w2 (.slice pa pn pm) v.ps) := ⟨hcs.elim (fun h => absurd (HF.out.symm.trans h.1) (by simp)) fun ⟨v', h, h2, h3, h4, _⟩ => by cases Option.some.inj (HF.out.symm.trans h); exact ⟨h2, h3, h4⟩⟩
  have hSB : Keep (∀ wx, Below w2.heap.size w2 wx → (fun wx => wx.cell? ⟨d, 4, none⟩ = some (.map (some g.wb)) ∧ wx.rangeAt bb 0 (bytesA 32 v.id.f).toList ∧ wx.heap[g.wb]? = some (.map es ck)) wx) := ⟨fun wx hb => ⟨(HD2.out.blk.below hb HD2.out.blk.lt).c 4 rfl, blk_rng (HX2.out.below hb HX2.out.lt), by rw [hb.block _ (Array.getElem?_eq_some_iff.1 hes).1]; exact hes⟩⟩
  have B3 : Keep (Below w2.heap.size w2 w2.drew) := ⟨(Below.refl _ _).drew⟩
  clear hl1 hl2 hcs hes
  refine wp_region_held_drew (S := fun wx => wx.cell? ⟨d, 4, none⟩ = some (.map (some g.wb)) ∧ wx.rangeAt bb 0 (bytesA 32 v.id.f).toList ∧ wx.heap[g.wb]? = some (.map es ck)) (by kernel_rfl) (hSB.out _ B3.out) (fun hHeld => ?_)
  refine wpAnyH_take (i := 0) (oi := ⟨some 16, Op.move (Operand.tmp 0), 27, _, _, none⟩) (v := .pointer (some ⟨d, 0, none⟩)) rfl (by kernel_rfl) (by kernel_rfl) (by kernel_rfl) (fun _ _ _ h => h) (Or.inl ⟨by rfl, fun w hS => by obtain ⟨hS1, hS2, hS3⟩ := hS; go_simp⟩) hHeld ?_
  simp only [Act.put, List.setIfInBounds_toArray, List.set_cons_zero, List.set_cons_succ]
  refine wpAnyH_take (i := 1) (oi := ⟨some 17, Op.nilCheck (Operand.tmp 16), 0, _, _, none⟩) (v := .pointer (some ⟨d, 0, none⟩)) rfl (by kernel_rfl) (by kernel_rfl) (by kernel_rfl) (fun _ _ _ h => h) (Or.inl ⟨by rfl, fun w hS => by obtain ⟨hS1, hS2, hS3⟩ := hS; go_simp⟩) hHeld ?_
  simp only [Act.put, List.setIfInBounds_toArray, List.set_cons_zero, List.set_cons_succ]
  refine wpAnyH_take (i := 2) (oi := ⟨some 18, Op.fieldAddr 77 (Operand.tmp 17) 4, 0, _, _, none⟩) (v := .pointer (some ⟨d, 4, none⟩)) rfl (by kernel_rfl) (by kernel_rfl) (by kernel_rfl) (fun _ _ _ h => h) (Or.inl ⟨by rfl, fun w hS => by obtain ⟨hS1, hS2, hS3⟩ := hS; go_simp⟩) hHeld ?_
  simp only [Act.put, List.setIfInBounds_toArray, List.set_cons_zero, List.set_cons_succ]
  refine wpAnyH_take (i := 3) (oi := ⟨some 19, Op.load 75 (Operand.tmp 18), 75, _, _, none⟩) (v := .map (some g.wb)) rfl (by kernel_rfl) (by kernel_rfl) (by kernel_rfl) (fun _ _ _ h => h) (Or.inl ⟨by rfl, fun w hS => by obtain ⟨hS1, hS2, hS3⟩ := hS; go_simp⟩) hHeld ?_
  simp only [Act.put, List.setIfInBounds_toArray, List.set_cons_zero, List.set_cons_succ]
  refine wpAnyH_take (i := 4) (oi := ⟨some 20, Op.load 36 (Operand.tmp 5), 36, _, _, none⟩) (v := .agg (bytesA 32 v.id.f)) rfl (by kernel_rfl) (by kernel_rfl) (by kernel_rfl) (fun _ _ _ h => h) (yieldsIf_ld (by rfl) (Operand.tmp 5) 36 rfl bb 0 rfl (bytesA 32 v.id.f) _ Try.underlying36 rfl (size36A _) fun w hS => hS.2.1) hHeld ?_
  simp only [Act.put, List.setIfInBounds_toArray, List.set_cons_zero, List.set_cons_succ]
  refine wpAnyH_take (i := 5) (oi := ⟨some 21, Op.lookup 75 (Operand.tmp 19) (Operand.tmp 20) false, 39, _, _, none⟩) (v := .agg vv) rfl (by kernel_rfl) (by kernel_rfl) (by kernel_rfl) (fun _ _ _ h => h) (yieldsIf_look (by rfl) (Operand.tmp 19) (Operand.tmp 20) false rfl g.wb v.id.f rfl rfl _ fun wx hS => H1.out wx hS.2.2) hHeld ?_
  simp only [Act.put, List.setIfInBounds_toArray, List.set_cons_zero, List.set_cons_succ]
  refine wpAnyH_ready (rs := [6]) (by kernel_rfl) (by simp) ?_
  refine AllReadyH.cons (o := ⟨some 6, Op.alloc 39, 0, _, _, none⟩) rfl (fun K hK => ?_) AllReadyH.nil
  rw [if_pos (by rfl)]
  refine wp_newA 39 rfl vz (by rw [hvz.out]; exact Try.new39) ?_
  have B4 := Keep.mk (B3.out.alloc (Nat.le_refl _) (.cells vz 39))
  obtain ⟨w4, hw4⟩ : ∃ wx, Keep (wx = w2.drew.alloc (.cells vz 39)) := ⟨_, ⟨rfl⟩⟩
  rw [← hw4.out]
  have HB4 : Keep (Blk w4 w2.drew.heap.size 39 vz) := ⟨by rw [hw4.out]; exact Blk.new _ _ _⟩
  have B4 : Keep (Below w2.heap.size w2 w4) := ⟨by rw [hw4.out]; exact B4.out⟩
  have hL4 : Keep (w2.heap.size ≤ w2.drew.heap.size) := ⟨Nat.le_refl _⟩
  clear hw4
  generalize w2.drew.heap.size = n1 at *
  refine hK _ _ (hSB.out _ B4.out) fun hH1 => ?_
  clear hK
  simp only [Act.put, List.setIfInBounds_toArray, List.set_cons_zero, List.set_cons_succ]
  refine wpAnyH_ready (rs := [7]) (by kernel_rfl) (by simp) ?_
  refine AllReadyH.cons (o := ⟨none, Op.store 39 (Operand.tmp 6) (Operand.tmp 21), 0, _, _, none⟩) rfl (fun K hK => ?_) AllReadyH.nil
  rw [if_pos (by rfl)]
  refine wp_store_row 39 (Operand.tmp 6) (Operand.tmp 21) rfl n1 vv rfl rfl 39 vz HB4.out (by rw [hvv.out]; exact Try.info39s _ _ _) (by rw [hvv.out, hvz.out, vtx_size, vtx_size]) (by rw [hvv.out]; exact vtx_one _ _ _ (slice_one _ _ _)) ?_
  have B5 := Keep.mk (below_setRow B4.out hL4.out vv)
  have HX5 := Keep.mk (HB4.out.setRow vv)
  refine hK _ _ (hSB.out _ B5.out) fun hH2 => ?_
  generalize w4.setRow n1 vv = w5 at *
  have HD5 := Keep.mk (HD2.out.below B5.out)
  have HZ5 := Keep.mk (HZ2.out.below B5.out HZ2.out.lt)
  have LB5 := Keep.mk (belowT LB2.out B5.out)
  have HR5 := Keep.mk (HC.out.2.2.below B5.out)
  obtain ⟨_, pm', hpf⟩ := HR5.out.form
  injection hpf with _ hpn _
  subst hpn
  have c33 : w5.cell? ⟨n1, 33, none⟩ = some (.slice pa v.ps.length pm) := HX5.out.c 33 (by rw [hvv.out]; exact vtx_ps _ _ _)
  clear hK hH1 HB4 B4 B3 hSB
  simp only [Act.put, List.setIfInBounds_toArray, List.set_cons_zero, List.set_cons_succ]
  refine wpAnyH_done (by kernel_rfl) ?_ _
  refine hK8 _ _ ?_
  refine wp_seq_k fun K9 hK9 => ?_
  refine wp_region_list (WL.out ?_)
  refine WL.val (by kernel_rfl) (.pointer (some ⟨d, 0, none⟩)) (by go_simp) ?_
  simp only [Act.put, List.setIfInBounds_toArray, List.set_cons_zero, List.set_cons_succ]
  refine WL.val (by kernel_rfl) (.pointer (some ⟨n1, 33, none⟩)) (by go_simp) ?_
  simp only [Act.put, List.setIfInBounds_toArray, List.set_cons_zero, List.set_cons_succ]
  refine WL.val (by kernel_rfl) (.slice pa v.ps.length pm) (by go_simp) ?_
  simp only [Act.put, List.setIfInBounds_toArray, List.set_cons_zero, List.set_cons_succ]
  clear c33
  have hal := hasAll_any d _ v.ps Av g w5 HD5.out HR5.out (by have := HL.out; omega)
  rw [HA.out] at hal
  refine WL.callF (by kernel_rfl) 68 _ _ rfl Try.in68 #[ptr d, .slice pa v.ps.length pm] (by simp [Act.eval]) ?_
  refine (hal).mono ?_
  rintro e w6 ⟨rfl, hz⟩
  refine ⟨_, rfl, ?_⟩
  clear hal
  have HX6 := Keep.mk (HX5.out.below hz HX5.out.lt)
  have HZ6 := Keep.mk (HZ5.out.below hz HZ5.out.lt)
  have LB6 := Keep.mk (belowT LB5.out hz)
  have HR6 := Keep.mk (HR5.out.below hz)
  clear hz
  simp only [Act.put, List.setIfInBounds_toArray, List.set_cons_zero, List.set_cons_succ]
  refine WL.nil ?_
  refine hK9 _ _ ?_
  refine wp_cond_true rfl ?_
  refine wp_seq_k fun K10 hK10 => ?_
  refine wp_region_list (WL.out ?_)
  refine WL.row (by kernel_rfl) 39 (.tmp 6) rfl n1 rfl 39 vv _ HX6.out Try.underlying39 rfl (by rw [hvv.out]; exact Try.info39s _ _ _) ?_
  simp only [Act.put, List.setIfInBounds_toArray, List.set_cons_zero, List.set_cons_succ]
  have how := own_any v _ w6 HR6.out (by have := HL.out; omega)
  rw [← HC.out.1, ← HC.out.2.1, ← hvv.out] at how
  refine WL.callF (by kernel_rfl) 59 _ _ rfl Try.in59 #[.agg vv] (by simp [Act.eval]) ?_
  refine (how).mono ?_
  rintro e w7 ⟨p7, rfl, hf⟩
  refine ⟨_, rfl, ?_⟩
  clear how
  have HF7 := Keep.mk hf
  have HZ7 := Keep.mk (HZ6.out.below hf.bel HZ6.out.lt)
  have LB7 := Keep.mk (belowT LB6.out hf.bel)
  obtain ⟨pa7, pc7, hp7⟩ := hf.own.sl
  have HP7 := Keep.mk hp7
  obtain ⟨vq, hvq⟩ : ∃ a : Array Value, Keep (a = vtx c0 k0 p7) := ⟨_, ⟨rfl⟩⟩
  have HI7 : Keep ((Try.prog.info? 39).map (·.size) = some vq.size) := ⟨by rw [hvq.out]; exact Try.info39s _ _ _⟩
  have HO7 : Keep (vq.all (·.oneCell') = true) := ⟨by rw [hvq.out, hp7]; exact vtx_one _ _ _ (slice_one _ _ _)⟩
  have HS7 : Keep (vz.size = vq.size) := ⟨by rw [hvq.out, hvz.out, vtx_size, vtx_size]⟩
  rw [← hvq.out]
  clear hf hp7 HX6 HR6
  simp only [Act.put, List.setIfInBounds_toArray, List.set_cons_zero, List.set_cons_succ]
  refine WL.storeR (by kernel_rfl) 39 (.tmp 2) (.tmp 27) rfl w.heap.size vq rfl rfl 39 vz HZ7.out HI7.out HS7.out HO7.out ?_
  have HZ8 := Keep.mk (HZ7.out.setRow vq)
  have LB8 := Keep.mk (below_setRow LB7.out (b := w.heap.size) (Nat.le_refl _) vq)
  generalize w7.setRow w.heap.size vq = w8 at *
  simp only [Act.put]
  refine WL.val (by kernel_rfl) (.bool true) (by go_simp) ?_
  simp only [Act.put, List.setIfInBounds_toArray, List.set_cons_zero, List.set_cons_succ]
  refine WL.nil ?_
  refine hK10 _ _ ?_
  refine wp_ret ?_
  try simp only [Exit.inBlock, Exit.then]
  refine bodyPost_ret (v := .tuple #[.agg vq, .bool true]) (results_cell_row2 Try.results35 _ _ w.heap.size 39 _ (0, 0) _ _ rfl rfl HZ8.out Try.underlying39 rfl HI7.out) rfl ?_
  exact ⟨pa7, _, pc7, by rw [hvq.out, HC.out.1, HC.out.2.1, HP7.out], LB8.out⟩
end Go.Proofs.Ytogmdfhicbmplaa
namespace Go.Proofs.Ytogmdfhicbmplaa
open Go.RowKit
set_option linter.unusedSimpArgs false
set_option linter.unusedVariables false

theorem Try.in24 (w : World) (vs : Array Value) : (callFunc 24 vs).run Try.prog w = .ok (.enter 24 vs) w := by kernel_rfl
theorem ids_take {l : List VX} (hn : (l.map (·.id)).Nodup) {t : Nat} (ht : t < l.length) : ∀ u ∈ l.take t, u.id ≠ l[t].id := by
  intro u hu
  obtain ⟨i, hi⟩ := List.mem_iff_getElem?.1 hu
  have hi' := (List.getElem?_eq_some_iff.1 hi).1
  rw [List.length_take] at hi'
  rw [List.getElem?_take, if_pos (by omega)] at hi
  obtain ⟨hil, rfl⟩ := List.getElem?_eq_some_iff.1 hi
  have := (List.pairwise_iff_getElem.1 hn) i t (by rw [List.length_map]; omega) (by rw [List.length_map]; omega) (by omega)
  simpa using this
theorem nx_facts {g : DG} (h : DI g) : (∀ x ∈ g.queue, ∃ v, g.wait.find? (isV x) = some v) ∧ (∀ v ∈ g.wait, v.ps.length ≤ 4398046511104) ∧ g.queue.length ≤ 1000000000 := by
  refine ⟨fun x hx => ?_, fun v hv => by have := chk_ok (h.wc v hv); omega, by have := h.qlen; have := h.wl; omega⟩
  rw [h.q] at hx
  obtain ⟨v, hv, rfl⟩ := List.mem_map.1 hx
  exact ⟨v, find_mem h.wn hv⟩
set_option maxRecDepth 8000 in
set_option maxHeartbeats 2000000 in
theorem fed_any (la : Option Addr) (lc : Nat) (L : List VP) (w : World) (hV : VRow w (.slice la L.length lc) L) (hN : ((L.map Prod.fst).map (·.id)).Nodup) (h64 : L.length ≤ 64) : Calls Try.prog 24 #[.slice la L.length lc] w fun e w' => ∃ d g, e = .returned (.tuple #[ptr d, .bool true]) ∧ DS w.heap.size w' d g ∧ Below w.heap.size w w' ∧ FedJ (L.map Prod.fst) g ∧ StD g := by
  have HV := Keep.mk hV
  have HN := Keep.mk hN
  have H64 := Keep.mk h64
  clear hV hN h64
  go_enter Try.func24, Try.ntmps24
  refine wp_seq_k fun K1 hK1 => ?_
  refine wp_region_list (WL.out ?_)
  refine WL.val (by kernel_rfl) (.pointer none) (by go_simp) ?_
  simp only [Act.put, List.setIfInBounds_toArray, List.set_cons_zero, List.set_cons_succ]
  refine WL.val (by kernel_rfl) (.bool false) (by go_simp) ?_
  simp only [Act.put, List.setIfInBounds_toArray, List.set_cons_zero, List.set_cons_succ]
  refine WL.nil ?_
  refine hK1 _ _ ?_
  refine wp_seq_k fun K2 hK2 => ?_
  refine wp_region_list (WL.out ?_)
  refine WL.callF (by kernel_rfl) 10 _ _ rfl Try.in10 #[.int .i64 64] (by simp [Act.eval]) ?_
  refine ((new_ds 64 w).mono (R' := fun e w' => ∃ d g, e = .returned (.tuple #[.pointer (some ⟨d, 0, none⟩), .int .i64 0]) ∧ DS w.heap.size w' d g ∧ Below w.heap.size w w' ∧ g.room = 64 ∧ g.held = [] ∧ g.wait = []) (fun e w' h => h.elim (fun h => absurd h.1 (by omega)) fun ⟨_, _, d, g, h1, h2, h3, h4, h5, h6, _⟩ => ⟨d, g, h1, h2, h3, h4, h5, h6⟩)).mono ?_
  rintro e w1 ⟨d, g0, rfl, hds, hb1, hr0, hh0, hw0⟩
  refine ⟨_, rfl, ?_⟩
  have HDS := Keep.mk hds
  have HB1 := Keep.mk hb1
  have HF0 : Keep (FedJ ((L.map Prod.fst).take 0) g0) := ⟨⟨hr0, by rw [hh0]; simp, by rw [hw0]; simp, by simp, by rw [hh0, hw0]; simp, by simp⟩⟩
  have HS0 : Keep (StD g0) := ⟨by unfold StD; rw [hw0]; simp⟩
  clear hds hb1 hr0 hh0 hw0
  simp only [Act.put, List.setIfInBounds_toArray, List.set_cons_zero, List.set_cons_succ]
  refine WL.val (by kernel_rfl) (.tuple #[.pointer (some ⟨d, 0, none⟩), .int .i64 0]) (by go_simp) ?_
  simp only [Act.put, List.setIfInBounds_toArray, List.set_cons_zero, List.set_cons_succ]
  refine WL.val (by kernel_rfl) (.pointer (some ⟨d, 0, none⟩)) (by go_simp) ?_
  simp only [Act.put, List.setIfInBounds_toArray, List.set_cons_zero, List.set_cons_succ]
  refine WL.val (by kernel_rfl) (.int .i64 0) (by go_simp) ?_
  simp only [Act.put, List.setIfInBounds_toArray, List.set_cons_zero, List.set_cons_succ]
  refine WL.val (by kernel_rfl) (.pointer (some ⟨d, 0, none⟩)) (by go_simp) ?_
  simp only [Act.put, List.setIfInBounds_toArray, List.set_cons_zero, List.set_cons_succ]
  refine WL.val (by kernel_rfl) (.int .i64 0) (by go_simp) ?_
  simp only [Act.put, List.setIfInBounds_toArray, List.set_cons_zero, List.set_cons_succ]
  refine WL.nil ?_
  refine hK2 _ _ ?_
  refine wp_seq_k fun K3 hK3 => ?_
  refine wp_seq_k fun K4 hK4 => ?_
  refine wp_region_list (WL.out ?_)
  refine WL.val (by kernel_rfl) (.pointer (some ⟨d, 0, none⟩)) (by go_simp) ?_
  simp only [Act.put, List.setIfInBounds_toArray, List.set_cons_zero, List.set_cons_succ]
  refine WL.val (by kernel_rfl) (.bool false) (by go_simp) ?_
  simp only [Act.put, List.setIfInBounds_toArray, List.set_cons_zero, List.set_cons_succ]
  refine WL.val (by kernel_rfl) (.bool false) (by go_simp) ?_
  simp only [Act.put, List.setIfInBounds_toArray, List.set_cons_zero, List.set_cons_succ]
  refine WL.val (by kernel_rfl) (.int .i64 0) (by go_simp) ?_
  simp only [Act.put, List.setIfInBounds_toArray, List.set_cons_zero, List.set_cons_succ]
  refine WL.val (by kernel_rfl) (.bool false) (by go_simp) ?_
  simp only [Act.put, List.setIfInBounds_toArray, List.set_cons_zero, List.set_cons_succ]
  refine WL.val (by kernel_rfl) (.bool false) (by go_simp) ?_
  simp only [Act.put, List.setIfInBounds_toArray, List.set_cons_zero, List.set_cons_succ]
  refine WL.nil ?_
  refine hK4 _ _ ?_
  refine wp_cond_false rfl ?_
  refine wp_skip ?_
  refine hK3 _ _ ?_
  refine wp_seq_k fun K5 hK5 => ?_
  refine wp_seq_k fun K6 hK6 => ?_
  refine wp_region_list (WL.out ?_)
  refine WL.val (by kernel_rfl) (.int .i64 0) (by go_simp) ?_
  simp only [Act.put, List.setIfInBounds_toArray, List.set_cons_zero, List.set_cons_succ]
  refine WL.nil ?_
  refine hK6 _ _ ?_
  refine wp_block ?_
  refine wp_loop (fun ac wr => ∃ (t : Nat) (u2 u3 u7 u8 u9 u20 u21 u22 u23 u24 u25 u26 u27 u28 u29 u30 u31 u32 u33 u34 u35 u36 u37 u38 u39 u40 u41 u42 u43 u44 u45 u46 u47 u48 u49 u50 u51 u52 : Value) (gr : DG), ac = { tmps := #[.slice la L.length lc, undef, u2, u3, .pointer (some ⟨d, 0, none⟩), .int .i64 0, .int .i64 (t : Int), u7, u8, u9, .tuple #[.pointer (some ⟨d, 0, none⟩), .int .i64 0], .tuple #[.pointer (some ⟨d, 0, none⟩), .int .i64 0], .pointer (some ⟨d, 0, none⟩), .int .i64 0, .pointer (some ⟨d, 0, none⟩), .bool false, .bool false, .int .i64 0, .bool false, .bool false, u20, u21, u22, u23, u24, u25, u26, u27, u28, u29, u30, u31, u32, u33, u34, u35, u36, u37, u38, u39, u40, u41, u42, u43, u44, u45, u46, u47, u48, u49, u50, u51, u52, undef], defers := [] } ∧ t ≤ L.length ∧ DS w.heap.size wr d gr ∧ Below w.heap.size w wr ∧ FedJ ((L.map Prod.fst).take t) gr ∧ StD gr) (fun a _ => L.length - (intOf (a.tmps.getD 6 undef)).toNat) ⟨0, .pointer none, .bool false, undef, undef, undef, undef, undef, undef, undef, undef, undef, undef, undef, undef, undef, undef, undef, undef, undef, undef, undef, undef, undef, undef, undef, undef, undef, undef, undef, undef, undef, undef, undef, undef, undef, undef, undef, undef, g0, rfl, by omega, HDS.out, HB1.out, HF0.out, HS0.out⟩ ?_
  rintro ac wr ⟨t, u2, u3, u7, u8, u9, u20, u21, u22, u23, u24, u25, u26, u27, u28, u29, u30, u31, u32, u33, u34, u35, u36, u37, u38, u39, u40, u41, u42, u43, u44, u45, u46, u47, u48, u49, u50, u51, u52, gr, rfl, ht, hD, hB, hF, hS⟩
  have JD := Keep.mk hD
  have JB := Keep.mk hB
  have JF := Keep.mk hF
  have JS := Keep.mk hS
  clear hD hB hF hS
  by_cases htl : t < L.length
  · have htl' : (t : Int) < (L.length : Int) := by omega
    have hwt : IntKind.i64.wrap ((t : Int) + 1) = ((t + 1 : Nat) : Int) := by rw [IntKind.wrap_i64]; have := H64.out; omega
    obtain ⟨b, off, hla, hlc, hrng⟩ := (HV.out.below JB.out).at (by omega : 0 < L.length)
    subst hla
    have hel := flat_elem encV_len hrng t htl
    obtain ⟨qq, hqq⟩ : ∃ q, q = L[t] := ⟨_, rfl⟩
    rw [← hqq] at hel
    obtain ⟨vv, hvv⟩ : ∃ a : Array Value, Keep (a = vtx qq.1.id.f qq.1.ck qq.2) := ⟨_, ⟨rfl⟩⟩
    have Hel : Keep (wr.rangeAt b (off + t * 34) vv.toList) := ⟨by rw [hvv.out]; exact hel⟩
    have HRq : Keep (HRow wr qq.2 qq.1.ps ∧ qq.1.ps.length ≤ 4398046511104) := ⟨⟨((HV.out.2 qq (hqq ▸ List.getElem_mem htl)).1).below JB.out, (HV.out.2 qq (hqq ▸ List.getElem_mem htl)).2⟩⟩
    have Htk : Keep ((L.map Prod.fst).take (t + 1) = (L.map Prod.fst).take t ++ [qq.1]) := ⟨by rw [List.take_succ_eq_append_getElem (by rw [List.length_map]; exact htl), List.getElem_map, hqq]⟩
    have Hni : Keep (∀ u ∈ (L.map Prod.fst).take t, u.id ≠ qq.1.id) := ⟨fun u hu => by have h := ids_take HN.out (t := t) (by rw [List.length_map]; exact htl) u hu; rw [List.getElem_map, ← hqq] at h; exact h⟩
    clear hel hqq hrng hlc
    refine wp_seq_k fun K7 hK7 => ?_
    refine wp_seq_k fun K8 hK8 => ?_
    refine wp_region_list (WL.out ?_)
    refine WL.val (by kernel_rfl) (.int .i64 (t : Int)) (by go_simp) ?_
    simp only [Act.put, List.setIfInBounds_toArray, List.set_cons_zero, List.set_cons_succ]
    refine WL.val (by kernel_rfl) (.slice (some ⟨b, off, none⟩) L.length lc) (by go_simp) ?_
    simp only [Act.put, List.setIfInBounds_toArray, List.set_cons_zero, List.set_cons_succ]
    refine WL.val (by kernel_rfl) (.int .i64 (L.length : Int)) (by go_simp) ?_
    simp only [Act.put, List.setIfInBounds_toArray, List.set_cons_zero, List.set_cons_succ]
    refine WL.val (by kernel_rfl) (.bool true) (by go_simp) ?_
    simp only [Act.put, List.setIfInBounds_toArray, List.set_cons_zero, List.set_cons_succ]
    refine WL.nil ?_
    refine hK8 _ _ ?_
    refine wp_cond_true rfl ?_
    refine wp_skip ?_
    refine hK7 _ _ ?_
    refine wp_seq_k fun K9 hK9 => ?_
    refine wp_block ?_
    refine wp_seq_k fun K10 hK10 => ?_
    refine wp_region_list (WL.out ?_)
    refine WL.val (by kernel_rfl) (.pointer (some ⟨d, 0, none⟩)) (by go_simp) ?_
    simp only [Act.put, List.setIfInBounds_toArray, List.set_cons_zero, List.set_cons_succ]
    refine WL.val (by kernel_rfl) (.slice (some ⟨b, off, none⟩) L.length lc) (by go_simp) ?_
    simp only [Act.put, List.setIfInBounds_toArray, List.set_cons_zero, List.set_cons_succ]
    refine WL.val (by kernel_rfl) (.int .i64 (t : Int)) (by go_simp) ?_
    simp only [Act.put, List.setIfInBounds_toArray, List.set_cons_zero, List.set_cons_succ]
    refine WL.val (by kernel_rfl) (.pointer (some ⟨b, off + t * 34, none⟩)) (by go_simp) ?_
    simp only [Act.put, List.setIfInBounds_toArray, List.set_cons_zero, List.set_cons_succ]
    refine WL.midA (by kernel_rfl) 39 (.tmp 29) rfl b (off + t * 34) rfl vv _ Hel.out Try.underlying39 rfl (by rw [hvv.out]; exact Try.info39s _ _ _) ?_
    simp only [Act.put, List.setIfInBounds_toArray, List.set_cons_zero, List.set_cons_succ]
    have had := add_any d qq.1 qq.2 (DgS d gr) gr wr JD.out.at' JD.out.di HRq.out.1 (by have := HRq.out.2; omega)
    rw [← hvv.out] at had
    refine WL.callF (by kernel_rfl) 17 _ _ rfl Try.in17 #[ptr d, .agg vv] (by simp [Act.eval]) ?_
    refine (had.mono (R' := fun e w' => ∃ r g', e = .returned r ∧ DS w.heap.size w' d g' ∧ Below w.heap.size wr w' ∧ FedJ ((L.map Prod.fst).take (t + 1)) g') (fun e w' ⟨u, g', ol, h1, h2, h3, h4, _⟩ => ⟨_, g', h1, (h2.ds h3 JD.out JB.out.size).1, (h2.ds h3 JD.out JB.out.size).2, by rw [Htk.out]; exact JF.out.add Hni.out (by rw [List.length_take]; have := H64.out; omega) h4⟩)).mono ?_
    rintro e w2 ⟨r31, g1, rfl, hd1, hb1, hf1⟩
    refine ⟨_, rfl, ?_⟩
    clear had
    have JD1 := Keep.mk hd1
    have JB1 : Keep (Below w.heap.size w w2) := ⟨JB.out.trans hb1⟩
    have JF1 := Keep.mk hf1
    clear hd1 hb1 hf1 Hel HRq
    simp only [Act.put, List.setIfInBounds_toArray, List.set_cons_zero, List.set_cons_succ]
    refine WL.nil ?_
    refine hK10 _ _ ?_
    refine wp_seq_k fun K11 hK11 => ?_
    refine wp_region_list (WL.out ?_)
    refine WL.val (by kernel_rfl) (.int .i64 0) (by go_simp) ?_
    simp only [Act.put, List.setIfInBounds_toArray, List.set_cons_zero, List.set_cons_succ]
    refine WL.nil ?_
    refine hK11 _ _ ?_
    refine wp_block ?_
    refine wp_loop (fun ac wi => ∃ (k : Nat) (z2 z3 z8 z9 z32 z33 z34 z35 z36 z37 z38 z39 z40 z41 z42 z43 z44 z45 z46 z47 z48 z49 z50 z51 z52 : Value) (gi : DG), ac = { tmps := #[.slice (some ⟨b, off, none⟩) L.length lc, undef, z2, z3, .pointer (some ⟨d, 0, none⟩), .int .i64 0, .int .i64 (t : Int), .int .i64 (k : Int), z8, z9, .tuple #[.pointer (some ⟨d, 0, none⟩), .int .i64 0], .tuple #[.pointer (some ⟨d, 0, none⟩), .int .i64 0], .pointer (some ⟨d, 0, none⟩), .int .i64 0, .pointer (some ⟨d, 0, none⟩), .bool false, .bool false, .int .i64 0, .bool false, .bool false, .int .i64 (t : Int), .slice (some ⟨b, off, none⟩) L.length lc, .int .i64 (L.length : Int), .bool true, u24, u25, .pointer (some ⟨d, 0, none⟩), .slice (some ⟨b, off, none⟩) L.length lc, .int .i64 (t : Int), .pointer (some ⟨b, off + t * 34, none⟩), .agg vv, r31, z32, z33, z34, z35, z36, z37, z38, z39, z40, z41, z42, z43, z44, z45, z46, z47, z48, z49, z50, z51, z52, undef], defers := [] } ∧ gi.wait.length + k ≤ t + 1 ∧ DS w.heap.size wi d gi ∧ Below w.heap.size w wi ∧ FedJ ((L.map Prod.fst).take (t + 1)) gi) (fun a _ => L.length + 1 - (intOf (a.tmps.getD 7 undef)).toNat) ⟨0, u2, u3, u8, u9, u32, u33, u34, u35, u36, u37, u38, u39, u40, u41, u42, u43, u44, u45, u46, u47, u48, u49, u50, u51, u52, g1, rfl, by have := JF1.out.cn; rw [List.length_take] at this; omega, JD1.out, JB1.out, JF1.out⟩ ?_
    rintro ac wi ⟨k, z2, z3, z8, z9, z32, z33, z34, z35, z36, z37, z38, z39, z40, z41, z42, z43, z44, z45, z46, z47, z48, z49, z50, z51, z52, gi, rfl, hk, hD, hB, hF⟩
    have KD := Keep.mk hD
    have KB := Keep.mk hB
    have KF := Keep.mk hF
    clear hD hB hF
    have hkl : (k : Int) ≤ (L.length : Int) := by omega
    have hkl' : k ≤ L.length := by omega
    have hwk : IntKind.i64.wrap ((k : Int) + 1) = ((k + 1 : Nat) : Int) := by rw [IntKind.wrap_i64]; have := H64.out; omega
    refine wp_seq_k fun K12 hK12 => ?_
    refine wp_seq_k fun K13 hK13 => ?_
    refine wp_region_list (WL.out ?_)
    refine WL.val (by kernel_rfl) (.int .i64 (k : Int)) (by go_simp) ?_
    simp only [Act.put, List.setIfInBounds_toArray, List.set_cons_zero, List.set_cons_succ]
    refine WL.val (by kernel_rfl) (.slice (some ⟨b, off, none⟩) L.length lc) (by go_simp) ?_
    simp only [Act.put, List.setIfInBounds_toArray, List.set_cons_zero, List.set_cons_succ]
    refine WL.val (by kernel_rfl) (.int .i64 (L.length : Int)) (by go_simp) ?_
    simp only [Act.put, List.setIfInBounds_toArray, List.set_cons_zero, List.set_cons_succ]
    refine WL.val (by kernel_rfl) (.bool true) (by go_simp) ?_
    simp only [Act.put, List.setIfInBounds_toArray, List.set_cons_zero, List.set_cons_succ]
    refine WL.nil ?_
    refine hK13 _ _ ?_
    refine wp_cond_true rfl ?_
    refine wp_skip ?_
    refine hK12 _ _ ?_
    refine wp_seq_k fun K14 hK14 => ?_
    refine wp_block ?_
    refine wp_seq_k fun K15 hK15 => ?_
    obtain ⟨vz, hvz⟩ : ∃ a : Array Value, Keep (a = vtx (fun _ => 0) 0 (.slice none 0 0)) := ⟨_, ⟨rfl⟩⟩
    have hnx := nextV_any d (DgS d gi) gi wi KD.out.at' (nx_facts KD.out.di).1 (nx_facts KD.out.di).2.1 (nx_facts KD.out.di).2.2
    cases hnq : nxQ gi.held gi.wait gi.queue with
    | none =>
      refine wp_region_list (WL.out ?_)
      refine WL.val (by kernel_rfl) (.pointer (some ⟨d, 0, none⟩)) (by go_simp) ?_
      simp only [Act.put, List.setIfInBounds_toArray, List.set_cons_zero, List.set_cons_succ]
      rw [hnq] at hnx
      refine WL.callF (by kernel_rfl) 35 _ _ rfl Try.in35 #[ptr d] (by simp [Act.eval]) ?_
      refine (hnx.mono (R' := fun e w' => e = .returned (.tuple #[vZ, .bool false]) ∧ Below wi.heap.size wi w') (fun e w' h => h.elim (fun h => h.2) fun ⟨v, h, _⟩ => by cases h)).mono ?_
      rintro e w3 ⟨rfl, hb⟩
      refine ⟨_, rfl, ?_⟩
      clear hnx
      obtain ⟨vq, hvq⟩ : ∃ a : Array Value, Keep (a = vtx (fun _ => 0) 0 (.slice none 0 0)) := ⟨_, ⟨rfl⟩⟩
      rw [vZ, ← hvq.out]
      have KD3 := Keep.mk (KD.out.below hb)
      have KB3 : Keep (Below w.heap.size w w3) := ⟨KB.out.trans (below_cut hb KB.out.size)⟩
      clear hb
      simp only [Act.put, List.setIfInBounds_toArray, List.set_cons_zero, List.set_cons_succ]
      refine WL.val (by kernel_rfl) (.tuple #[.agg vq, .bool false]) (by go_simp) ?_
      simp only [Act.put, List.setIfInBounds_toArray, List.set_cons_zero, List.set_cons_succ]
      refine WL.val (by kernel_rfl) (.agg vq) (by go_simp) ?_
      simp only [Act.put, List.setIfInBounds_toArray, List.set_cons_zero, List.set_cons_succ]
      refine WL.val (by kernel_rfl) (.bool false) (by go_simp) ?_
      simp only [Act.put, List.setIfInBounds_toArray, List.set_cons_zero, List.set_cons_succ]
      refine WL.new (by kernel_rfl) 39 rfl vz (by rw [hvz.out]; exact Try.new39) ?_
      simp only [Act.put, List.setIfInBounds_toArray, List.set_cons_zero, List.set_cons_succ]
      refine WL.storeR (by kernel_rfl) 39 (.tmp 8) (.tmp 41) rfl w3.heap.size vq rfl rfl 39 vz (Blk.new w3 39 _) (by rw [hvq.out]; exact Try.info39s _ _ _) (by simp only [hvq.out, hvz.out, vtx_size]) (by rw [hvq.out]; exact vtx_one _ _ _ (slice_one _ _ _)) ?_
      have B4 : Keep (Below w3.heap.size w3 ((w3.alloc (.cells vz 39)).setRow w3.heap.size vq)) := ⟨below_setRow (below_new w3 _) (Nat.le_refl _) _⟩
      have KD4 := Keep.mk (KD3.out.below B4.out)
      have KB4 : Keep (Below w.heap.size w ((w3.alloc (.cells vz 39)).setRow w3.heap.size vq)) := ⟨KB3.out.trans (below_cut B4.out KB3.out.size)⟩
      generalize (w3.alloc (.cells vz 39)).setRow w3.heap.size vq = w4 at *
      clear B4 KD3 KB3
      simp only [Act.put]
      refine WL.val (by kernel_rfl) (.bool false) (by go_simp) ?_
      simp only [Act.put, List.setIfInBounds_toArray, List.set_cons_zero, List.set_cons_succ]
      refine WL.nil ?_
      refine hK15 _ _ ?_
      refine wp_seq_k fun K16 hK16 => ?_
      refine wp_seq_k fun K17 hK17 => ?_
      refine wp_region_list (WL.out ?_)
      refine WL.val (by kernel_rfl) (.bool false) (by go_simp) ?_
      simp only [Act.put, List.setIfInBounds_toArray, List.set_cons_zero, List.set_cons_succ]
      refine WL.val (by kernel_rfl) (.bool true) (by go_simp) ?_
      simp only [Act.put, List.setIfInBounds_toArray, List.set_cons_zero, List.set_cons_succ]
      refine WL.nil ?_
      refine hK17 _ _ ?_
      refine wp_cond_true rfl ?_
      refine wp_exit ?_
      refine hK9 _ _ ?_
      refine wp_region_list (WL.out ?_)
      refine WL.val (by kernel_rfl) (.int .i64 (t : Int)) (by go_simp) ?_
      simp only [Act.put, List.setIfInBounds_toArray, List.set_cons_zero, List.set_cons_succ]
      refine WL.val (by kernel_rfl) (.int .i64 ((t + 1 : Nat) : Int)) (by go_simp) ?_
      simp only [Act.put, List.setIfInBounds_toArray, List.set_cons_zero, List.set_cons_succ]
      refine WL.val (by kernel_rfl) (.int .i64 ((t + 1 : Nat) : Int)) (by go_simp) ?_
      simp only [Act.put, List.setIfInBounds_toArray, List.set_cons_zero, List.set_cons_succ]
      refine WL.nil ?_
      refine ⟨⟨t + 1, z2, z3, .int .i64 (k : Int), .pointer (some ⟨w3.heap.size, 0, none⟩), .bool false, .int .i64 (t : Int), .slice (some ⟨b, off, none⟩) L.length lc, .int .i64 (L.length : Int), .bool true, .int .i64 (t : Int), .int .i64 ((t + 1 : Nat) : Int), .pointer (some ⟨d, 0, none⟩), .slice (some ⟨b, off, none⟩) L.length lc, .int .i64 (t : Int), .pointer (some ⟨b, off + t * 34, none⟩), .agg vv, r31, .int .i64 (k : Int), .slice (some ⟨b, off, none⟩) L.length lc, .int .i64 (L.length : Int), .bool true, z36, z37, .tuple #[.agg vq, .bool false], .pointer (some ⟨d, 0, none⟩), .tuple #[.agg vq, .bool false], .agg vq, .bool false, .bool false, .bool true, z45, z46, z47, z48, z49, z50, z51, z52, gi, rfl, by omega, KD4.out, KB4.out, KF.out, KD.out.di.stable hnq⟩, ?_⟩
      simp only [intOf]; show L.length - (((t + 1 : Nat) : Int)).toNat < L.length - ((t : Int)).toNat; omega
    | some vn =>
      refine wp_region_list (WL.out ?_)
      refine WL.val (by kernel_rfl) (.pointer (some ⟨d, 0, none⟩)) (by go_simp) ?_
      simp only [Act.put, List.setIfInBounds_toArray, List.set_cons_zero, List.set_cons_succ]
      rw [hnq] at hnx
      refine WL.callF (by kernel_rfl) 35 _ _ rfl Try.in35 #[ptr d] (by simp [Act.eval]) ?_
      refine (hnx.mono (R' := fun e w' => ∃ p', e = .returned (.tuple #[.agg (vtx vn.id.f vn.ck p'), .bool true]) ∧ Fresh wi w' p' vn.ps) (fun e w' h => h.elim (fun h => by cases h.1) fun ⟨v, h, h2⟩ => by cases h; exact h2)).mono ?_
      rintro e w3 ⟨p3, rfl, hb⟩
      refine ⟨_, rfl, ?_⟩
      clear hnx
      obtain ⟨vq, hvq⟩ : ∃ a : Array Value, Keep (a = vtx vn.id.f vn.ck p3) := ⟨_, ⟨rfl⟩⟩
      rw [← hvq.out]
      have KD3 := Keep.mk (KD.out.below hb.bel)
      have KB3 : Keep (Below w.heap.size w w3) := ⟨KB.out.trans (below_cut hb.bel KB.out.size)⟩
      obtain ⟨pa3, pc3, hp3⟩ := hb.own.sl
      have Hn1 := Keep.mk (KD.out.di.nextOne hnq)
      have hkt : k < L.length := by have := List.length_pos_of_mem Hn1.out.2.2; omega
      have hke : ¬ (k : Int) = (L.length : Int) := by omega
      have hke' : ¬ k = L.length := by omega
      clear hb
      simp only [Act.put, List.setIfInBounds_toArray, List.set_cons_zero, List.set_cons_succ]
      refine WL.val (by kernel_rfl) (.tuple #[.agg vq, .bool true]) (by go_simp) ?_
      simp only [Act.put, List.setIfInBounds_toArray, List.set_cons_zero, List.set_cons_succ]
      refine WL.val (by kernel_rfl) (.agg vq) (by go_simp) ?_
      simp only [Act.put, List.setIfInBounds_toArray, List.set_cons_zero, List.set_cons_succ]
      refine WL.val (by kernel_rfl) (.bool true) (by go_simp) ?_
      simp only [Act.put, List.setIfInBounds_toArray, List.set_cons_zero, List.set_cons_succ]
      refine WL.new (by kernel_rfl) 39 rfl vz (by rw [hvz.out]; exact Try.new39) ?_
      simp only [Act.put, List.setIfInBounds_toArray, List.set_cons_zero, List.set_cons_succ]
      refine WL.storeR (by kernel_rfl) 39 (.tmp 8) (.tmp 41) rfl w3.heap.size vq rfl rfl 39 vz (Blk.new w3 39 _) (by rw [hvq.out]; exact Try.info39s _ _ _) (by simp only [hvq.out, hvz.out, vtx_size]) (by rw [hvq.out]; exact vtx_one _ _ _ (by rw [hp3]; exact slice_one _ _ _)) ?_
      have HV4 := Keep.mk ((Blk.new w3 39 vz).setRow vq)
      have B4 : Keep (Below w3.heap.size w3 ((w3.alloc (.cells vz 39)).setRow w3.heap.size vq)) := ⟨below_setRow (below_new w3 _) (Nat.le_refl _) _⟩
      have KD4 := Keep.mk (KD3.out.below B4.out)
      have KB4 : Keep (Below w.heap.size w ((w3.alloc (.cells vz 39)).setRow w3.heap.size vq)) := ⟨KB3.out.trans (below_cut B4.out KB3.out.size)⟩
      generalize (w3.alloc (.cells vz 39)).setRow w3.heap.size vq = w4 at *
      generalize w3.heap.size = n8 at *
      clear B4 KD3 KB3 hp3
      simp only [Act.put]
      refine WL.val (by kernel_rfl) (.bool true) (by go_simp) ?_
      simp only [Act.put, List.setIfInBounds_toArray, List.set_cons_zero, List.set_cons_succ]
      refine WL.nil ?_
      refine hK15 _ _ ?_
      refine wp_seq_k fun K18 hK18 => ?_
      refine wp_seq_k fun K19 hK19 => ?_
      refine wp_region_list (WL.out ?_)
      refine WL.val (by kernel_rfl) (.bool true) (by go_simp) ?_
      simp only [Act.put, List.setIfInBounds_toArray, List.set_cons_zero, List.set_cons_succ]
      refine WL.val (by kernel_rfl) (.bool false) (by go_simp) ?_
      simp only [Act.put, List.setIfInBounds_toArray, List.set_cons_zero, List.set_cons_succ]
      refine WL.nil ?_
      refine hK19 _ _ ?_
      refine wp_cond_false rfl ?_
      refine wp_skip ?_
      refine hK18 _ _ ?_
      refine wp_seq_k fun K20 hK20 => ?_
      refine wp_seq_k fun K21 hK21 => ?_
      refine wp_region_list (WL.out ?_)
      refine WL.val (by kernel_rfl) (.int .i64 (k : Int)) (by go_simp) ?_
      simp only [Act.put, List.setIfInBounds_toArray, List.set_cons_zero, List.set_cons_succ]
      refine WL.val (by kernel_rfl) (.slice (some ⟨b, off, none⟩) L.length lc) (by go_simp) ?_
      simp only [Act.put, List.setIfInBounds_toArray, List.set_cons_zero, List.set_cons_succ]
      refine WL.val (by kernel_rfl) (.int .i64 (L.length : Int)) (by go_simp) ?_
      simp only [Act.put, List.setIfInBounds_toArray, List.set_cons_zero, List.set_cons_succ]
      refine WL.val (by kernel_rfl) (.bool false) (by go_simp) ?_
      simp only [Act.put, List.setIfInBounds_toArray, List.set_cons_zero, List.set_cons_succ]
      refine WL.nil ?_
      refine hK21 _ _ ?_
      refine wp_cond_false rfl ?_
      refine wp_skip ?_
      refine hK20 _ _ ?_
      refine wp_region_list (WL.out ?_)
      refine WL.val (by kernel_rfl) (.pointer (some ⟨d, 0, none⟩)) (by go_simp) ?_
      simp only [Act.put, List.setIfInBounds_toArray, List.set_cons_zero, List.set_cons_succ]
      refine WL.val (by kernel_rfl) (.pointer (some ⟨n8, 0, none⟩)) (by go_simp) ?_
      simp only [Act.put, List.setIfInBounds_toArray, List.set_cons_zero, List.set_cons_succ]
      refine WL.midA (by kernel_rfl) 36 (.tmp 50) rfl n8 0 rfl (bytesA 32 vn.id.f) _ (vtx_rng (hvq.out ▸ HV4.out)) Try.underlying36 rfl (Try.size36B _) ?_
      simp only [Act.put, List.setIfInBounds_toArray, List.set_cons_zero, List.set_cons_succ]
      have hst := settle_any d vn.id (DgS d gi) gi w4 KD4.out.at' KD4.out.di
      refine WL.callF (by kernel_rfl) 29 _ _ rfl Try.in29 #[ptr d, .agg (bytesA 32 vn.id.f)] (by simp [Act.eval]) ?_
      refine (hst.mono (R' := fun e w' => ∃ r g', e = .returned r ∧ DS w.heap.size w' d g' ∧ Below w.heap.size w4 w' ∧ FedJ ((L.map Prod.fst).take (t + 1)) g' ∧ g'.wait.length + 1 = gi.wait.length) (fun e w' ⟨g', h1, h2, h3, h4⟩ => ⟨_, g', h1, (h2.ds h3 KD4.out KB4.out.size).1, (h2.ds h3 KD4.out KB4.out.size).2, KF.out.settle KD.out.di Hn1.out.1 Hn1.out.2.1 h4⟩)).mono ?_
      rintro e w5 ⟨r52, g2, rfl, hd5, hb5, hf5, hw5⟩
      refine ⟨_, rfl, ?_⟩
      clear hst
      have KD5 := Keep.mk hd5
      have KB5 : Keep (Below w.heap.size w w5) := ⟨KB4.out.trans hb5⟩
      have KF5 := Keep.mk hf5
      clear hd5 hb5 hf5
      simp only [Act.put, List.setIfInBounds_toArray, List.set_cons_zero, List.set_cons_succ]
      refine WL.nil ?_
      refine hK14 _ _ ?_
      refine wp_region_list (WL.out ?_)
      refine WL.val (by kernel_rfl) (.int .i64 (k : Int)) (by go_simp) ?_
      simp only [Act.put, List.setIfInBounds_toArray, List.set_cons_zero, List.set_cons_succ]
      refine WL.val (by kernel_rfl) (.int .i64 ((k + 1 : Nat) : Int)) (by go_simp) ?_
      simp only [Act.put, List.setIfInBounds_toArray, List.set_cons_zero, List.set_cons_succ]
      refine WL.val (by kernel_rfl) (.int .i64 ((k + 1 : Nat) : Int)) (by go_simp) ?_
      simp only [Act.put, List.setIfInBounds_toArray, List.set_cons_zero, List.set_cons_succ]
      refine WL.nil ?_
      refine ⟨⟨k + 1, z2, z3, .pointer (some ⟨n8, 0, none⟩), .bool true, .int .i64 (k : Int), .slice (some ⟨b, off, none⟩) L.length lc, .int .i64 (L.length : Int), .bool true, .int .i64 (k : Int), .int .i64 ((k + 1 : Nat) : Int), .tuple #[.agg vq, .bool true], .pointer (some ⟨d, 0, none⟩), .tuple #[.agg vq, .bool true], .agg vq, .bool true, .bool true, .bool false, .int .i64 (k : Int), .slice (some ⟨b, off, none⟩) L.length lc, .int .i64 (L.length : Int), .bool false, .pointer (some ⟨d, 0, none⟩), .pointer (some ⟨n8, 0, none⟩), .agg (bytesA 32 vn.id.f), r52, g2, rfl, by omega, KD5.out, KB5.out, KF5.out⟩, ?_⟩
      simp only [intOf]; show L.length + 1 - (((k + 1 : Nat) : Int)).toNat < L.length + 1 - ((k : Int)).toNat; omega
  · have hte : t = L.length := by omega
    have htl' : ¬ (t : Int) < (L.length : Int) := by omega
    refine wp_seq_k fun K22 hK22 => ?_
    refine wp_seq_k fun K23 hK23 => ?_
    refine wp_region_list (WL.out ?_)
    refine WL.val (by kernel_rfl) (.int .i64 (t : Int)) (by go_simp) ?_
    simp only [Act.put, List.setIfInBounds_toArray, List.set_cons_zero, List.set_cons_succ]
    refine WL.val (by kernel_rfl) (.slice la L.length lc) (by go_simp) ?_
    simp only [Act.put, List.setIfInBounds_toArray, List.set_cons_zero, List.set_cons_succ]
    refine WL.val (by kernel_rfl) (.int .i64 (L.length : Int)) (by go_simp) ?_
    simp only [Act.put, List.setIfInBounds_toArray, List.set_cons_zero, List.set_cons_succ]
    refine WL.val (by kernel_rfl) (.bool false) (by go_simp) ?_
    simp only [Act.put, List.setIfInBounds_toArray, List.set_cons_zero, List.set_cons_succ]
    refine WL.nil ?_
    refine hK23 _ _ ?_
    refine wp_cond_false rfl ?_
    refine wp_exit ?_
    refine hK5 _ _ ?_
    refine wp_seq_k fun K24 hK24 => ?_
    refine wp_region_list (WL.out ?_)
    refine WL.val (by kernel_rfl) (.pointer (some ⟨d, 0, none⟩)) (by go_simp) ?_
    simp only [Act.put, List.setIfInBounds_toArray, List.set_cons_zero, List.set_cons_succ]
    refine WL.val (by kernel_rfl) (.pointer (some ⟨d, 0, none⟩)) (by go_simp) ?_
    simp only [Act.put, List.setIfInBounds_toArray, List.set_cons_zero, List.set_cons_succ]
    refine WL.val (by kernel_rfl) (.bool true) (by go_simp) ?_
    simp only [Act.put, List.setIfInBounds_toArray, List.set_cons_zero, List.set_cons_succ]
    refine WL.nil ?_
    refine hK24 _ _ ?_
    refine wp_ret ?_
    go_ret2
    exact ⟨d, gr, rfl, JD.out, JB.out, by have h := JF.out; rw [hte, ← List.length_map (f := Prod.fst), List.take_length] at h; exact h, JS.out⟩
end Go.Proofs.Ytogmdfhicbmplaa
namespace Go.Proofs.Ytogmdfhicbmplaa
open Go.RowKit
set_option linter.unusedSimpArgs false
set_option linter.unusedVariables false

theorem Try.in9 (w : World) (vs : Array Value) : (callFunc 9 vs).run Try.prog w = .ok (.enter 9 vs) w := by kernel_rfl
theorem Try.in3 (w : World) (vs : Array Value) : (callFunc 3 vs).run Try.prog w = .ok (.enter 3 vs) w := by kernel_rfl
def hOne : Hs := Vector.ofFn fun i : Fin 32 => if i.val = 0 then 1 else 0
def hTwo : Hs := Vector.ofFn fun i : Fin 32 => if i.val = 0 then 2 else 0
theorem bOne : Try.prog.built 36 [(0, .int .u8 1)] = some (bytesA 32 hOne.f) := by kernel_rfl
theorem bTwo : Try.prog.built 36 [(0, .int .u8 2)] = some (bytesA 32 hTwo.f) := by kernel_rfl
theorem one_two : ¬ hOne = hTwo := by decide
def xB : VX := ⟨hTwo, 2, [hOne]⟩
def xA : VX := ⟨hOne, 1, []⟩
theorem fitB : fitV [] [] xB = (3, 0) := by decide
theorem fitA : fitV [] [xB] xA = (2, 0) := by decide
theorem findB : ([xB] : List VX).find? (isV xB.id) = some xB := by rw [List.find?_cons]; simp [isV]
theorem allB : xB.ps.all (hasB [xA]) = true := by decide
set_option maxRecDepth 8000 in
set_option maxHeartbeats 1000000 in
theorem fixed_any (w : World) : Calls Try.prog 9 #[] w fun e w' => e = .returned (.bool true) ∧ Below w.heap.size w w' := by
  go_enter Try.func9, Try.ntmps9
  refine wp_seq_k fun K1 hK1 => ?_
  refine wp_region_list (WL.out ?_)
  refine WL.val (by kernel_rfl) (.bool false) (by go_simp) ?_
  simp only [Act.put, List.setIfInBounds_toArray, List.set_cons_zero, List.set_cons_succ]
  refine WL.nil ?_
  refine hK1 _ _ ?_
  refine wp_seq_k fun K2 hK2 => ?_
  refine wp_region_list (WL.out ?_)
  have hnw := (new_any 1 w).mono (R' := fun e w' => ∃ d g, e = .returned (.tuple #[ptr d, .int .i64 0]) ∧ DagAt w' (DgS d g) d g ∧ g.room = 1 ∧ g.held = [] ∧ g.wait = [] ∧ g.heads = [] ∧ g.order = [] ∧ g.queue = [] ∧ Below w.heap.size w w' ∧ ∀ k, DgS d g k → w.heap.size ≤ k) (fun e w' h => h.elim (fun h => absurd h.1 (by omega)) fun ⟨_, d, g, h1, h2, h3, h4, h5, h6, h7, h8, h9, h10⟩ => ⟨d, g, h1, h2, h3, h4, h5, h6, h7, h8, h9, h10⟩)
  refine WL.callF (by kernel_rfl) 10 _ _ rfl Try.in10 #[.int .i64 1] (by simp [Act.eval]) ?_
  refine (hnw).mono ?_
  rintro e w1 ⟨d, g, rfl, hD, hr, hg1, hg2, hg3, hg4, hg5, hb, hn⟩
  refine ⟨_, rfl, ?_⟩
  clear hnw
  have HN := Keep.mk hn
  clear hn
  have HD1 := Keep.mk hD
  have HGf : Keep (g.room = 1 ∧ g.held = [] ∧ g.wait = [] ∧ g.heads = [] ∧ g.order = [] ∧ g.queue = []) := ⟨⟨hr, hg1, hg2, hg3, hg4, hg5⟩⟩
  have LB1 := Keep.mk hb
  clear hD hr hg1 hg2 hg3 hg4 hg5 hb
  simp only [Act.put, List.setIfInBounds_toArray, List.set_cons_zero, List.set_cons_succ]
  refine WL.val (by kernel_rfl) (.tuple #[ptr d, .int .i64 0]) (by go_simp) ?_
  simp only [Act.put, List.setIfInBounds_toArray, List.set_cons_zero, List.set_cons_succ]
  refine WL.val (by kernel_rfl) (ptr d) (by go_simp) ?_
  simp only [Act.put, List.setIfInBounds_toArray, List.set_cons_zero, List.set_cons_succ]
  refine WL.val (by kernel_rfl) (.int .i64 0) (by go_simp) ?_
  simp only [Act.put, List.setIfInBounds_toArray, List.set_cons_zero, List.set_cons_succ]
  refine WL.val (by kernel_rfl) (ptr d) (by go_simp) ?_
  simp only [Act.put, List.setIfInBounds_toArray, List.set_cons_zero, List.set_cons_succ]
  refine WL.val (by kernel_rfl) (.int .i64 0) (by go_simp) ?_
  simp only [Act.put, List.setIfInBounds_toArray, List.set_cons_zero, List.set_cons_succ]
  refine WL.nil ?_
  refine hK2 _ _ ?_
  refine wp_seq_k fun K3 hK3 => ?_
  refine wp_seq_k fun K4 hK4 => ?_
  refine wp_region_list (WL.out ?_)
  refine WL.val (by kernel_rfl) (ptr d) (by go_simp) ?_
  simp only [Act.put, List.setIfInBounds_toArray, List.set_cons_zero, List.set_cons_succ]
  refine WL.val (by kernel_rfl) (.bool false) (by go_simp) ?_
  simp only [Act.put, List.setIfInBounds_toArray, List.set_cons_zero, List.set_cons_succ]
  refine WL.val (by kernel_rfl) (.bool false) (by go_simp) ?_
  simp only [Act.put, List.setIfInBounds_toArray, List.set_cons_zero, List.set_cons_succ]
  refine WL.val (by kernel_rfl) (.int .i64 0) (by go_simp) ?_
  simp only [Act.put, List.setIfInBounds_toArray, List.set_cons_zero, List.set_cons_succ]
  refine WL.val (by kernel_rfl) (.bool false) (by go_simp) ?_
  simp only [Act.put, List.setIfInBounds_toArray, List.set_cons_zero, List.set_cons_succ]
  refine WL.val (by kernel_rfl) (.bool false) (by go_simp) ?_
  simp only [Act.put, List.setIfInBounds_toArray, List.set_cons_zero, List.set_cons_succ]
  refine WL.nil ?_
  refine hK4 _ _ ?_
  refine wp_cond_false rfl ?_
  refine wp_skip ?_
  refine hK3 _ _ ?_
  refine wp_seq_k fun K5 hK5 => ?_
  refine wp_region_list (WL.out ?_)
  refine WL.bld (by kernel_rfl) 36 _ rfl [(0, .int .u8 1)] (by simp [Act.eval]) (bytesA 32 hOne.f) bOne ?_
  simp only [Act.put, List.setIfInBounds_toArray, List.set_cons_zero, List.set_cons_succ]
  refine WL.bld (by kernel_rfl) 36 _ rfl [(0, .int .u8 2)] (by simp [Act.eval]) (bytesA 32 hTwo.f) bTwo ?_
  simp only [Act.put, List.setIfInBounds_toArray, List.set_cons_zero, List.set_cons_succ]
  refine WL.new (by kernel_rfl) 36 rfl _ Try.new36 ?_
  have HA2 := Keep.mk (Blk.new w1 36 (bytesA 32 fun _ => 0))
  have B2 := Keep.mk (below_new w1 (.cells (bytesA 32 fun _ => 0) 36))
  generalize w1.alloc (.cells (bytesA 32 fun _ => 0) 36) = w2 at *
  have LA2 : Keep (w1.heap.size < w2.heap.size) := ⟨HA2.out.lt⟩
  obtain ⟨ga, hga⟩ : ∃ b, Keep (b = w1.heap.size) := ⟨_, ⟨rfl⟩⟩
  rw [← hga.out] at HA2 LA2 ⊢
  simp only [Act.put, List.setIfInBounds_toArray, List.set_cons_zero, List.set_cons_succ]
  refine WL.new (by kernel_rfl) 36 rfl _ Try.new36 ?_
  have HB3 := Keep.mk (Blk.new w2 36 (bytesA 32 fun _ => 0))
  have B3 := Keep.mk (below_new w2 (.cells (bytesA 32 fun _ => 0) 36))
  generalize w2.alloc (.cells (bytesA 32 fun _ => 0) 36) = w3 at *
  have HA3 := Keep.mk (HA2.out.below B3.out HA2.out.lt)
  obtain ⟨gb, hgb⟩ : ∃ b, Keep (b = w2.heap.size) := ⟨_, ⟨rfl⟩⟩
  rw [← hgb.out] at HB3 LA2 ⊢
  simp only [Act.put, List.setIfInBounds_toArray, List.set_cons_zero, List.set_cons_succ]
  refine WL.storeR (by kernel_rfl) 36 (.tmp 3) (.tmp 23) rfl ga (bytesA 32 hOne.f) rfl rfl 36 (bytesA 32 fun _ => 0) HA3.out (Try.size36B _) (bytesA_sizes _ _ _) (bytesA_one _ _) ?_
  have HA4 := Keep.mk (HA3.out.setRow (bytesA 32 hOne.f))
  have HB4 := Keep.mk (HB3.out.setRow_ne (b' := ga) (by have := LA2.out; omega) (bytesA 32 hOne.f))
  have B4 : Keep (Below w1.heap.size w1 (w3.setRow ga (bytesA 32 hOne.f))) := ⟨below_setRow (belowT B2.out B3.out) (by rw [hga.out]; exact Nat.le_refl _) _⟩
  generalize w3.setRow ga (bytesA 32 hOne.f) = w4 at *
  simp only [Act.put]
  refine WL.storeR (by kernel_rfl) 36 (.tmp 4) (.tmp 24) rfl gb (bytesA 32 hTwo.f) rfl rfl 36 (bytesA 32 fun _ => 0) HB4.out (Try.size36B _) (bytesA_sizes _ _ _) (bytesA_one _ _) ?_
  have HB5 := Keep.mk (HB4.out.setRow (bytesA 32 hTwo.f))
  have HA5 := Keep.mk (HA4.out.setRow_ne (b' := gb) (by have := LA2.out; omega) (bytesA 32 hTwo.f))
  have B5 : Keep (Below w1.heap.size w1 (w4.setRow gb (bytesA 32 hTwo.f))) := ⟨below_setRow B4.out (by rw [hgb.out]; exact B2.out.size) _⟩
  generalize w4.setRow gb (bytesA 32 hTwo.f) = w5 at *
  have HD5 := Keep.mk (HD1.out.below B5.out)
  have LB5 := Keep.mk (belowT LB1.out B5.out)
  have NA : Keep (∀ k, DgS d g k → k ≠ ga ∧ k ≠ gb) := ⟨fun k hk => by have := HD1.out.lt k hk; have := hga.out; have := hgb.out; have := B2.out.size; omega⟩
  clear HA2 HA3 HA4 HB3 HB4 B2 B3 B4 LA2
  simp only [Act.put]
  refine WL.nil ?_
  refine hK5 _ _ ?_
  refine wp_seq_k fun K6 hK6 => ?_
  refine wp_region_list (WL.out ?_)
  refine WL.val (by kernel_rfl) (ptr d) (by go_simp) ?_
  simp only [Act.put, List.setIfInBounds_toArray, List.set_cons_zero, List.set_cons_succ]
  refine WL.row (by kernel_rfl) 36 (.tmp 4) rfl gb rfl 36 (bytesA 32 hTwo.f) _ HB5.out Try.underlying36 rfl (Try.size36B _) ?_
  simp only [Act.put, List.setIfInBounds_toArray, List.set_cons_zero, List.set_cons_succ]
  refine WL.row (by kernel_rfl) 36 (.tmp 3) rfl ga rfl 36 (bytesA 32 hOne.f) _ HA5.out Try.underlying36 rfl (Try.size36B _) ?_
  simp only [Act.put, List.setIfInBounds_toArray, List.set_cons_zero, List.set_cons_succ]
  refine WL.bs (by kernel_rfl) 37 1 _ rfl #[(0, .agg (bytesA 32 hOne.f))] (by simp [Act.eval]) _ _ (bsH hOne w5) ?_
  have hrp := one_row hOne w5
  rw [encH_arr] at hrp
  have HRp := Keep.mk hrp
  have B6 := Keep.mk (below_new w5 (.cells (bytesA 32 hOne.f) 36))
  clear hrp
  generalize w5.alloc (.cells (bytesA 32 hOne.f) 36) = w6 at *
  have HD6 := Keep.mk (HD5.out.below B6.out)
  have HA6 := Keep.mk (HA5.out.below B6.out HA5.out.lt)
  have HB6 := Keep.mk (HB5.out.below B6.out HB5.out.lt)
  have LB6 := Keep.mk (belowT LB5.out B6.out)
  obtain ⟨gpp, hgpp⟩ : ∃ b, Keep (b = w5.heap.size) := ⟨_, ⟨rfl⟩⟩
  rw [← hgpp.out] at HRp ⊢
  clear B6 HD5 HA5 HB5 LB5
  simp only [Act.put, List.setIfInBounds_toArray, List.set_cons_zero, List.set_cons_succ]
  obtain ⟨vb, hvb⟩ : ∃ a : Array Value, Keep (a = vtx hTwo.f 2 (.slice (some ⟨gpp, 0, none⟩) 1 1)) := ⟨_, ⟨rfl⟩⟩
  refine WL.bld (by kernel_rfl) 39 _ rfl [(0, .agg (bytesA 32 hTwo.f)), (1, .int .i64 2), (2, .slice (some ⟨gpp, 0, none⟩) 1 1)] (by simp [Act.eval]) vb (by rw [hvb.out]; exact built_ps _ _ _ _ _) ?_
  simp only [Act.put, List.setIfInBounds_toArray, List.set_cons_zero, List.set_cons_succ]
  have had := add_waits d xB (.slice (some ⟨gpp, 0, none⟩) 1 1) _ g w6 HD6.out HRp.out (by rw [HGf.out.2.1]; intro v hv; cases hv) (by decide) (by decide) (by rw [HGf.out.2.1, HGf.out.2.2.1]; exact fitB) (by rw [HGf.out.2.2.1]; rfl) (by rw [HGf.out.2.2.2.2.2, HGf.out.1]; decide) (by rw [HGf.out.2.2.2.2.2]; decide)
  rw [show vtx xB.id.f xB.ck (.slice (some ⟨gpp, 0, none⟩) 1 1) = vb from hvb.out.symm] at had
  refine WL.callF (by kernel_rfl) 17 _ _ rfl Try.in17 #[ptr d, .agg vb] (by simp [Act.eval]) ?_
  refine (had).mono ?_
  rintro e w7 ⟨rfl, g7, hs, e1, e2, e3, e4, e5, e6⟩
  refine ⟨_, rfl, ?_⟩
  clear had
  rw [HGf.out.1] at e1
  rw [HGf.out.2.1] at e2
  rw [HGf.out.2.2.1, List.nil_append] at e3
  rw [HGf.out.2.2.2.2.2, List.nil_append] at e4
  rw [HGf.out.2.2.2.2.1] at e5
  rw [HGf.out.2.2.2.1] at e6
  have HS7 := Keep.mk hs
  have HG7 : Keep (g7.room = 1 ∧ g7.held = [] ∧ g7.wait = [xB] ∧ g7.queue = [xB.id] ∧ g7.order = [] ∧ g7.heads = []) := ⟨⟨e1, e2, e3, e4, e5, e6⟩⟩
  have HA7 := Keep.mk (hs.grown.blk HA6.out fun e => (NA.out _ e).1 rfl)
  have HB7 := Keep.mk (hs.grown.blk HB6.out fun e => (NA.out _ e).2 rfl)
  have NA7 : Keep (∀ k, DgS d g7 k → k ≠ ga ∧ k ≠ gb ∧ w.heap.size ≤ k) := ⟨fun k hk => (hs.sub k hk).elim (fun h => ⟨(NA.out k h).1, (NA.out k h).2, HN.out k h⟩) fun h => by have := HA6.out.lt; have := HB6.out.lt; have := LB6.out.size; omega⟩
  have LB7 : Keep (Below w.heap.size w w7) := ⟨LB6.out.trans (hs.grown.to_below (fun k hk e => by have := HN.out k e; omega) LB6.out.size)⟩
  clear hs e1 e2 e3 e4 e5 e6 HA6 HB6 LB6 HD6 HRp hvb
  simp only [Act.put, List.setIfInBounds_toArray, List.set_cons_zero, List.set_cons_succ]
  refine WL.val (by kernel_rfl) (.tuple #[.int .i64 3, .slice none 0 0, .int .i64 0]) (by go_simp) ?_
  simp only [Act.put, List.setIfInBounds_toArray, List.set_cons_zero, List.set_cons_succ]
  refine WL.val (by kernel_rfl) (.int .i64 3) (by go_simp) ?_
  simp only [Act.put, List.setIfInBounds_toArray, List.set_cons_zero, List.set_cons_succ]
  refine WL.val (by kernel_rfl) (.slice none 0 0) (by go_simp) ?_
  simp only [Act.put, List.setIfInBounds_toArray, List.set_cons_zero, List.set_cons_succ]
  refine WL.val (by kernel_rfl) (.int .i64 0) (by go_simp) ?_
  simp only [Act.put, List.setIfInBounds_toArray, List.set_cons_zero, List.set_cons_succ]
  refine WL.val (by kernel_rfl) (.int .i64 3) (by go_simp) ?_
  simp only [Act.put, List.setIfInBounds_toArray, List.set_cons_zero, List.set_cons_succ]
  refine WL.val (by kernel_rfl) (.slice none 0 0) (by go_simp) ?_
  simp only [Act.put, List.setIfInBounds_toArray, List.set_cons_zero, List.set_cons_succ]
  refine WL.val (by kernel_rfl) (.int .i64 0) (by go_simp) ?_
  simp only [Act.put, List.setIfInBounds_toArray, List.set_cons_zero, List.set_cons_succ]
  refine WL.nil ?_
  refine hK6 _ _ ?_
  refine wp_seq_k fun K7 hK7 => ?_
  refine wp_region_list (WL.out ?_)
  refine WL.val (by kernel_rfl) (ptr d) (by go_simp) ?_
  simp only [Act.put, List.setIfInBounds_toArray, List.set_cons_zero, List.set_cons_succ]
  refine WL.row (by kernel_rfl) 36 (.tmp 3) rfl ga rfl 36 (bytesA 32 hOne.f) _ HA7.out Try.underlying36 rfl (Try.size36B _) ?_
  simp only [Act.put, List.setIfInBounds_toArray, List.set_cons_zero, List.set_cons_succ]
  obtain ⟨va, hva⟩ : ∃ a : Array Value, Keep (a = vtx hOne.f 1 (.slice none 0 0)) := ⟨_, ⟨rfl⟩⟩
  refine WL.bld (by kernel_rfl) 39 _ rfl [(0, .agg (bytesA 32 hOne.f)), (1, .int .i64 1)] (by simp [Act.eval]) va (by rw [hva.out]; exact built_none _ _) ?_
  simp only [Act.put, List.setIfInBounds_toArray, List.set_cons_zero, List.set_cons_succ]
  have had := add_took d xA (.slice none 0 0) _ g7 w7 (fun g' => g'.held = [xA] ∧ g'.wait = [xB] ∧ g'.queue = [xB.id]) HS7.out.at' (.inl ⟨none, 0, rfl, rfl, fun _ => rfl⟩) (by rw [HG7.out.2.1]; intro v hv; cases hv) (by decide) (by decide) (by rw [HG7.out.2.1, HG7.out.2.2.1]; exact fitA) (fun w1 p1 h1 h2 h3 => (take_nil d xA p1 _ g7 w1 h1 h2 h3 HG7.out.2.1 HG7.out.2.2.2.2.1 HG7.out.2.2.2.2.2).mono fun e w' ⟨k1, g', k2, k3, k4, k5, k6, k7, k8⟩ => ⟨k1, g', k2, by rw [k4, HG7.out.2.1]; rfl, by rw [k5, HG7.out.2.2.1], by rw [k6, HG7.out.2.2.2.1]⟩)
  rw [show vtx xA.id.f xA.ck (.slice none 0 0) = va from hva.out.symm] at had
  refine WL.callF (by kernel_rfl) 17 _ _ rfl Try.in17 #[ptr d, .agg va] (by simp [Act.eval]) ?_
  refine (had).mono ?_
  rintro e w8 ⟨rfl, g8, hs, e1, e2, e3⟩
  refine ⟨_, rfl, ?_⟩
  clear had
  have HD8 := Keep.mk hs.at'
  have HG8 : Keep (g8.held = [xA] ∧ g8.wait = [xB] ∧ g8.queue = [xB.id]) := ⟨⟨e1, e2, e3⟩⟩
  have HB8 := Keep.mk (hs.grown.blk HB7.out fun e => (NA7.out _ e).2.1 rfl)
  have LB8 : Keep (Below w.heap.size w w8) := ⟨LB7.out.trans (hs.grown.to_below (fun k hk e => by have := (NA7.out k e).2.2; omega) LB7.out.size)⟩
  clear hs e1 e2 e3 HA7 HB7 LB7 HS7 hva
  simp only [Act.put, List.setIfInBounds_toArray, List.set_cons_zero, List.set_cons_succ]
  refine WL.val (by kernel_rfl) (.tuple #[.int .i64 2, .slice none 0 0, .int .i64 0]) (by go_simp) ?_
  simp only [Act.put, List.setIfInBounds_toArray, List.set_cons_zero, List.set_cons_succ]
  refine WL.val (by kernel_rfl) (.int .i64 2) (by go_simp) ?_
  simp only [Act.put, List.setIfInBounds_toArray, List.set_cons_zero, List.set_cons_succ]
  refine WL.val (by kernel_rfl) (.slice none 0 0) (by go_simp) ?_
  simp only [Act.put, List.setIfInBounds_toArray, List.set_cons_zero, List.set_cons_succ]
  refine WL.val (by kernel_rfl) (.int .i64 0) (by go_simp) ?_
  simp only [Act.put, List.setIfInBounds_toArray, List.set_cons_zero, List.set_cons_succ]
  refine WL.val (by kernel_rfl) (.int .i64 2) (by go_simp) ?_
  simp only [Act.put, List.setIfInBounds_toArray, List.set_cons_zero, List.set_cons_succ]
  refine WL.val (by kernel_rfl) (.slice none 0 0) (by go_simp) ?_
  simp only [Act.put, List.setIfInBounds_toArray, List.set_cons_zero, List.set_cons_succ]
  refine WL.val (by kernel_rfl) (.int .i64 0) (by go_simp) ?_
  simp only [Act.put, List.setIfInBounds_toArray, List.set_cons_zero, List.set_cons_succ]
  refine WL.nil ?_
  refine hK7 _ _ ?_
  refine wp_seq_k fun K8 hK8 => ?_
  refine wp_region_list (WL.out ?_)
  refine WL.val (by kernel_rfl) (ptr d) (by go_simp) ?_
  simp only [Act.put, List.setIfInBounds_toArray, List.set_cons_zero, List.set_cons_succ]
  have hnx := next_first d xB [] _ g8 w8 HD8.out HG8.out.2.2 (by rw [HG8.out.2.1]; exact findB) (by rw [HG8.out.1]; exact allB) (by decide)
  refine WL.callF (by kernel_rfl) 35 _ _ rfl Try.in35 #[ptr d] (by simp [Act.eval]) ?_
  refine (hnx).mono ?_
  rintro e w9 ⟨a9, n9, c9, rfl, hb⟩
  refine ⟨_, rfl, ?_⟩
  clear hnx
  have HD9 := Keep.mk (HD8.out.below hb)
  have HB9 := Keep.mk (HB8.out.below hb HB8.out.lt)
  have LB9 := Keep.mk (belowT LB8.out hb)
  obtain ⟨vn, hvn⟩ : ∃ a : Array Value, Keep (a = vtx xB.id.f xB.ck (.slice a9 n9 c9)) := ⟨_, ⟨rfl⟩⟩
  rw [← hvn.out]
  clear hb HD8 HB8 LB8
  simp only [Act.put, List.setIfInBounds_toArray, List.set_cons_zero, List.set_cons_succ]
  refine WL.val (by kernel_rfl) (.tuple #[.agg vn, .bool true]) (by go_simp) ?_
  simp only [Act.put, List.setIfInBounds_toArray, List.set_cons_zero, List.set_cons_succ]
  refine WL.val (by kernel_rfl) (.agg vn) (by go_simp) ?_
  simp only [Act.put, List.setIfInBounds_toArray, List.set_cons_zero, List.set_cons_succ]
  refine WL.val (by kernel_rfl) (.bool true) (by go_simp) ?_
  simp only [Act.put, List.setIfInBounds_toArray, List.set_cons_zero, List.set_cons_succ]
  refine WL.new (by kernel_rfl) 39 rfl _ Try.new39 ?_
  obtain ⟨vz, hvz⟩ : ∃ a : Array Value, Keep (a = vtx (fun _ => 0) 0 (.slice none 0 0)) := ⟨_, ⟨rfl⟩⟩
  rw [← hvz.out]
  have HN10 := Keep.mk (Blk.new w9 39 vz)
  have B10 := Keep.mk (below_new w9 (.cells vz 39))
  generalize w9.alloc (.cells vz 39) = w10 at *
  obtain ⟨gn, hgn⟩ : ∃ b, Keep (b = w9.heap.size) := ⟨_, ⟨rfl⟩⟩
  rw [← hgn.out] at HN10 ⊢
  simp only [Act.put, List.setIfInBounds_toArray, List.set_cons_zero, List.set_cons_succ]
  refine WL.storeR (by kernel_rfl) 39 (.tmp 11) (.tmp 46) rfl gn vn rfl rfl 39 vz HN10.out (by rw [hvn.out]; exact Try.info39s _ _ _) (by rw [hvn.out, hvz.out, vtx_size, vtx_size]) (by rw [hvn.out]; exact vtx_one _ _ _ (slice_one _ _ _)) ?_
  have HN11 := Keep.mk (HN10.out.setRow vn)
  have B11 : Keep (Below w9.heap.size w9 (w10.setRow gn vn)) := ⟨below_setRow B10.out (by rw [hgn.out]; exact Nat.le_refl _) vn⟩
  generalize w10.setRow gn vn = w11 at *
  have HD11 := Keep.mk (HD9.out.below B11.out)
  have HB11 := Keep.mk (HB9.out.below B11.out HB9.out.lt)
  have LB11 := Keep.mk (belowT LB9.out B11.out)
  clear HN10 B10 HD9 HB9 LB9
  simp only [Act.put]
  refine WL.val (by kernel_rfl) (.bool true) (by go_simp) ?_
  simp only [Act.put, List.setIfInBounds_toArray, List.set_cons_zero, List.set_cons_succ]
  refine WL.nil ?_
  refine hK8 _ _ ?_
  refine wp_seq_k fun K9 hK9 => ?_
  refine wp_region_list (WL.out ?_)
  refine WL.val (by kernel_rfl) (.int .i64 3) (by go_simp) ?_
  simp only [Act.put, List.setIfInBounds_toArray, List.set_cons_zero, List.set_cons_succ]
  refine WL.val (by kernel_rfl) (.bool true) (by go_simp) ?_
  simp only [Act.put, List.setIfInBounds_toArray, List.set_cons_zero, List.set_cons_succ]
  refine WL.val (by kernel_rfl) (.bool true) (by go_simp) ?_
  simp only [Act.put, List.setIfInBounds_toArray, List.set_cons_zero, List.set_cons_succ]
  refine WL.val (by kernel_rfl) (.int .i64 0) (by go_simp) ?_
  simp only [Act.put, List.setIfInBounds_toArray, List.set_cons_zero, List.set_cons_succ]
  refine WL.val (by kernel_rfl) (.bool true) (by go_simp) ?_
  simp only [Act.put, List.setIfInBounds_toArray, List.set_cons_zero, List.set_cons_succ]
  refine WL.val (by kernel_rfl) (.bool true) (by go_simp) ?_
  simp only [Act.put, List.setIfInBounds_toArray, List.set_cons_zero, List.set_cons_succ]
  refine WL.val (by kernel_rfl) (.bool true) (by go_simp) ?_
  simp only [Act.put, List.setIfInBounds_toArray, List.set_cons_zero, List.set_cons_succ]
  refine WL.val (by kernel_rfl) (.int .i64 2) (by go_simp) ?_
  simp only [Act.put, List.setIfInBounds_toArray, List.set_cons_zero, List.set_cons_succ]
  refine WL.val (by kernel_rfl) (.bool true) (by go_simp) ?_
  simp only [Act.put, List.setIfInBounds_toArray, List.set_cons_zero, List.set_cons_succ]
  refine WL.val (by kernel_rfl) (.bool true) (by go_simp) ?_
  simp only [Act.put, List.setIfInBounds_toArray, List.set_cons_zero, List.set_cons_succ]
  refine WL.val (by kernel_rfl) (.bool true) (by go_simp) ?_
  simp only [Act.put, List.setIfInBounds_toArray, List.set_cons_zero, List.set_cons_succ]
  refine WL.val (by kernel_rfl) (.int .i64 0) (by go_simp) ?_
  simp only [Act.put, List.setIfInBounds_toArray, List.set_cons_zero, List.set_cons_succ]
  refine WL.val (by kernel_rfl) (.bool true) (by go_simp) ?_
  simp only [Act.put, List.setIfInBounds_toArray, List.set_cons_zero, List.set_cons_succ]
  refine WL.val (by kernel_rfl) (.bool true) (by go_simp) ?_
  simp only [Act.put, List.setIfInBounds_toArray, List.set_cons_zero, List.set_cons_succ]
  refine WL.val (by kernel_rfl) (.bool true) (by go_simp) ?_
  simp only [Act.put, List.setIfInBounds_toArray, List.set_cons_zero, List.set_cons_succ]
  refine WL.val (by kernel_rfl) (.bool true) (by go_simp) ?_
  simp only [Act.put, List.setIfInBounds_toArray, List.set_cons_zero, List.set_cons_succ]
  refine WL.val (by kernel_rfl) (.bool true) (by go_simp) ?_
  simp only [Act.put, List.setIfInBounds_toArray, List.set_cons_zero, List.set_cons_succ]
  refine WL.val (by kernel_rfl) (.bool true) (by go_simp) ?_
  simp only [Act.put, List.setIfInBounds_toArray, List.set_cons_zero, List.set_cons_succ]
  refine WL.val (by kernel_rfl) (.pointer (some ⟨gn, 0, none⟩)) (by go_simp) ?_
  simp only [Act.put, List.setIfInBounds_toArray, List.set_cons_zero, List.set_cons_succ]
  refine WL.midA (by kernel_rfl) 36 (.tmp 66) rfl gn 0 rfl (bytesA 32 hTwo.f) _ (vtx_rng (hvn.out ▸ HN11.out)) Try.underlying36 rfl (Try.size36B _) ?_
  simp only [Act.put, List.setIfInBounds_toArray, List.set_cons_zero, List.set_cons_succ]
  refine WL.row (by kernel_rfl) 36 (.tmp 4) rfl gb rfl 36 (bytesA 32 hTwo.f) _ HB11.out Try.underlying36 rfl (Try.size36B _) ?_
  simp only [Act.put, List.setIfInBounds_toArray, List.set_cons_zero, List.set_cons_succ]
  refine WL.val (by kernel_rfl) (.bool true) (by go_simp; rw [run_equal_arr2, all_eq_iff, decide_eq_true rfl]; rfl) ?_
  simp only [Act.put, List.setIfInBounds_toArray, List.set_cons_zero, List.set_cons_succ]
  refine WL.val (by kernel_rfl) (.bool true) (by go_simp) ?_
  simp only [Act.put, List.setIfInBounds_toArray, List.set_cons_zero, List.set_cons_succ]
  refine WL.val (by kernel_rfl) (.bool true) (by go_simp) ?_
  simp only [Act.put, List.setIfInBounds_toArray, List.set_cons_zero, List.set_cons_succ]
  refine WL.val (by kernel_rfl) (ptr d) (by go_simp) ?_
  simp only [Act.put, List.setIfInBounds_toArray, List.set_cons_zero, List.set_cons_succ]
  have hln := dlen_any d _ g8 w11 HD11.out
  rw [HG8.out.1] at hln
  refine WL.callF (by kernel_rfl) 36 _ _ rfl Try.in36 #[ptr d] (by simp [Act.eval]) ?_
  refine (hln).mono ?_
  rintro e w12 ⟨rfl, hz⟩
  refine ⟨_, rfl, ?_⟩
  clear hln
  subst hz
  simp only [Act.put, List.setIfInBounds_toArray, List.set_cons_zero, List.set_cons_succ]
  refine WL.val (by kernel_rfl) (.bool true) (by go_simp) ?_
  simp only [Act.put, List.setIfInBounds_toArray, List.set_cons_zero, List.set_cons_succ]
  refine WL.val (by kernel_rfl) (.bool true) (by go_simp) ?_
  simp only [Act.put, List.setIfInBounds_toArray, List.set_cons_zero, List.set_cons_succ]
  refine WL.val (by kernel_rfl) (.bool true) (by go_simp) ?_
  simp only [Act.put, List.setIfInBounds_toArray, List.set_cons_zero, List.set_cons_succ]
  refine WL.nil ?_
  refine hK9 _ _ ?_
  refine wp_ret ?_
  go_ret
  exact ⟨rfl, LB11.out⟩
theorem dnames_any (w : World) : Calls Try.prog 3 #[] w fun e w' => e = .returned (.bool true) ∧ Below w.heap.size w w' := by
  go_enter Try.func3, Try.ntmps3
  refine wp_seq_k fun K1 hK1 => ?_
  refine wp_region_list (WL.out ?_)
  refine WL.val (by kernel_rfl) (.bool false) (by go_simp) ?_
  simp only [Act.put, List.setIfInBounds_toArray, List.set_cons_zero, List.set_cons_succ]
  refine WL.nil ?_
  refine hK1 _ _ ?_
  refine wp_seq_k fun K2 hK2 => ?_
  refine wp_region_list (WL.out ?_)
  refine WL.val (by kernel_rfl) (.bool true) (by go_simp) ?_
  simp only [Act.put, List.setIfInBounds_toArray, List.set_cons_zero, List.set_cons_succ]
  refine WL.nil ?_
  refine hK2 _ _ ?_
  refine wp_seq_k fun K3 hK3 => ?_
  refine wp_region_list (WL.out ?_)
  refine WL.val (by kernel_rfl) (.bool true) (by go_simp) ?_
  simp only [Act.put, List.setIfInBounds_toArray, List.set_cons_zero, List.set_cons_succ]
  refine WL.nil ?_
  refine hK3 _ _ ?_
  refine wp_seq_k fun K4 hK4 => ?_
  refine wp_region_list (WL.out ?_)
  refine WL.val (by kernel_rfl) (.bool true) (by go_simp) ?_
  simp only [Act.put, List.setIfInBounds_toArray, List.set_cons_zero, List.set_cons_succ]
  refine WL.val (by kernel_rfl) (.bool true) (by go_simp) ?_
  simp only [Act.put, List.setIfInBounds_toArray, List.set_cons_zero, List.set_cons_succ]
  refine WL.val (by kernel_rfl) (.bool true) (by go_simp) ?_
  simp only [Act.put, List.setIfInBounds_toArray, List.set_cons_zero, List.set_cons_succ]
  refine WL.val (by kernel_rfl) (.bool true) (by go_simp) ?_
  simp only [Act.put, List.setIfInBounds_toArray, List.set_cons_zero, List.set_cons_succ]
  refine WL.val (by kernel_rfl) (.bool true) (by go_simp) ?_
  simp only [Act.put, List.setIfInBounds_toArray, List.set_cons_zero, List.set_cons_succ]
  refine WL.val (by kernel_rfl) (.bool true) (by go_simp) ?_
  simp only [Act.put, List.setIfInBounds_toArray, List.set_cons_zero, List.set_cons_succ]
  refine WL.val (by kernel_rfl) (.bool true) (by go_simp) ?_
  simp only [Act.put, List.setIfInBounds_toArray, List.set_cons_zero, List.set_cons_succ]
  refine WL.val (by kernel_rfl) (.bool true) (by go_simp) ?_
  simp only [Act.put, List.setIfInBounds_toArray, List.set_cons_zero, List.set_cons_succ]
  refine WL.val (by kernel_rfl) (.bool true) (by go_simp) ?_
  simp only [Act.put, List.setIfInBounds_toArray, List.set_cons_zero, List.set_cons_succ]
  refine WL.val (by kernel_rfl) (.bool true) (by go_simp) ?_
  simp only [Act.put, List.setIfInBounds_toArray, List.set_cons_zero, List.set_cons_succ]
  refine WL.val (by kernel_rfl) (.bool true) (by go_simp) ?_
  simp only [Act.put, List.setIfInBounds_toArray, List.set_cons_zero, List.set_cons_succ]
  refine WL.callF (by kernel_rfl) 9 _ _ rfl Try.in9 #[] (by simp) ?_
  refine (fixed_any w).mono ?_
  rintro e w1 ⟨rfl, hb⟩
  refine ⟨_, rfl, ?_⟩
  have LB1 := Keep.mk hb
  clear hb
  simp only [Act.put, List.setIfInBounds_toArray, List.set_cons_zero, List.set_cons_succ]
  refine WL.val (by kernel_rfl) (.bool true) (by go_simp) ?_
  simp only [Act.put, List.setIfInBounds_toArray, List.set_cons_zero, List.set_cons_succ]
  refine WL.val (by kernel_rfl) (.bool true) (by go_simp) ?_
  simp only [Act.put, List.setIfInBounds_toArray, List.set_cons_zero, List.set_cons_succ]
  refine WL.nil ?_
  refine hK4 _ _ ?_
  refine wp_ret ?_
  go_ret
  exact ⟨rfl, LB1.out⟩
end Go.Proofs.Ytogmdfhicbmplaa
namespace Go.Proofs.Ytogmdfhicbmplaa
open Go.RowKit
set_option linter.unusedSimpArgs false
set_option linter.unusedVariables false

/-! ### Lists of vertices that the statement owns. -/
theorem Try.infoV : (Try.prog.info? 39).map (fun i => (i.zero, i.size, i.bytes)) = some (some (.agg (vtx (fun _ => 0) 0 (.slice none 0 0))), 34, 64) := by kernel_rfl
theorem Try.elem55 : Try.prog.elem 55 = 39 := by kernel_rfl
theorem Try.und55 : Try.prog.underlying 55 = some (.slice 39) := by kernel_rfl
theorem slV_u : Try.prog.underlying 55 = some (.slice (Try.prog.elem 55)) := by rw [Try.elem55]; exact Try.und55
theorem Try.sizeOfV (w : World) : (sizeOf 39).run Try.prog w = .ok 34 w := by kernel_rfl
theorem slV_h (a : Option Addr) (n c i : Nat) (hi : i ≤ c) (w : World) : (Instr.sliceAt 55 (.slice a n c) none (some (.int .i64 (i : Int))) none).run Try.prog w = .ok (.slice a i c) w := by
  have h1 := run_slice_h (P := Try.prog) (w := w) 55 a n c slV_u .i64 (i : Int) (by omega) (by omega)
  have h2 := run_sliceAt_slice (P := Try.prog) (w := w) 55 (.slice a n c) none (some (.int .i64 (i : Int))) none slV_u
  rw [h2, h1, Try.elem55, Try.sizeOfV, Result.andThen_ok, Int.toNat_natCast]
  have h4 : (if c = 0 then a else a.map (·.add (0 * 34))) = a := by
    split
    · rfl
    · cases a <;> simp [Addr.add]
  unfold sliced
  rw [h4]; simp
theorem VRow.take {w : World} {a : Option Addr} {c : Nat} {L : List VP} (h : VRow w (.slice a L.length c) L) (n : Nat) (hn : n ≤ L.length) : VRow w (.slice a n c) (L.take n) ∧ n ≤ c := by
  have hl : (L.take n).length = n := by rw [List.length_take]; omega
  rcases h.1 with ⟨a', c', e, rfl⟩ | ⟨b, off, c', e, h1, h2⟩
  · have : n = 0 := by simpa using hn
    subst this
    exact ⟨⟨.inl ⟨a, c, rfl, rfl⟩, by simp⟩, Nat.zero_le _⟩
  · injection e with e1 e2 e3
    subst e1 e3
    refine ⟨⟨.inr ⟨b, off, c, by rw [hl], by omega, fun j v hv => ?_⟩, fun q hq => h.2 q (List.mem_of_mem_take hq)⟩, by omega⟩
    rw [← flat_take encV_len, List.getElem?_take] at hv
    split at hv
    · exact h2 j v hv
    · cases hv
theorem encV_one {w : World} {L : List VP} (h : ∀ q ∈ L, HRow w q.2 q.1.ps ∧ q.1.ps.length ≤ 4398046511104) : ∀ u ∈ L.flatMap encV, u.oneCell' = true := fun u hu => by
  obtain ⟨q, hq, hu⟩ := List.mem_flatMap.1 hu
  obtain ⟨a, c, e⟩ := (h q hq).1.form
  have := vtx_one q.1.id.f q.1.ck q.2 (by rw [e]; rfl)
  exact (Array.all_eq_true_iff_forall_mem.1 this) u (by unfold encV at hu; simpa using hu)
def OwnV (w : World) (B : Nat) (v : Value) (L : List VP) : Prop := w.ownsRow B 39 34 v L.length (L.flatMap encV)
theorem run_appV (w : World) (ty : TypeId) (vx : Value) (L : List VP) (hV : VRow w vx L) (hb : L.length ≤ 1000) :
    ∃ v' w', (Builtin.append_ #[55, 55] ty #[.slice none 0 0, vx]).run Try.prog w = .ok v' w' ∧ OwnV w' w.heap.size v' L ∧ Below w.heap.size w w' := by
  obtain ⟨i, hi, hzz⟩ := Option.map_eq_some_iff.1 Try.infoV
  simp only [Prod.mk.injEq] at hzz
  obtain ⟨hz, hsz, hby⟩ := hzz
  have hzs : (Value.agg (vtx (fun _ => 0) 0 (.slice none 0 0))).cells.size = 34 := by show (vtx (fun _ => 0) 0 (.slice none 0 0)).size = 34; exact vtx_size _ _ _
  rcases hV.1 with ⟨a, c, rfl, rfl⟩ | ⟨b, off, c, rfl, h1, h2⟩
  · refine ⟨.slice none 0 0, w, ?_, ⟨rfl, .inl ⟨rfl, rfl⟩⟩, Below.refl _ _⟩
    cases a with
    | none => simp [Builtin.append_, run_underlying Try.und55, sizeOf, typeInfo, hi, Builtin.lenOf, Builtin.firstCells]
    | some a => simp [Builtin.append_, run_underlying Try.und55, sizeOf, typeInfo, hi, Builtin.lenOf, Builtin.firstCells, loadCells, loadCellsFrom]
  · obtain ⟨v', w', hr, h3, h4, _, _⟩ := run_append_own_at (P := Try.prog) w w.heap.size 55 ty 39 i _ 34 64 Try.und55 hi hz hsz hby hzs (by omega) (.slice none 0 0) 0 [] ⟨rfl, .inl ⟨rfl, rfl⟩⟩ ⟨b, off, none⟩ L.length c (L.flatMap encV) (flat_len encV_len L) (fun j u hu => by rw [Addr.add_mid]; exact h2 j u hu) (encV_one hV.2) (by unfold maxLen; omega) (by omega) (Nat.le_refl _)
    refine ⟨v', w', hr, ?_, (Below.refl _ _).grown h4 (Nat.le_refl _) (fun k hk => by cases hk)⟩
    unfold OwnV
    rw [Nat.zero_add] at h3
    exact h3
theorem OwnV.form {w : World} {B : Nat} {v : Value} {L : List VP} (h : OwnV w B v L) : ∃ a c, v = .slice a L.length c ∧ (L.length = 0 → c = 0 ∨ True) := by
  rcases h.2 with ⟨rfl, e⟩ | ⟨g, cap, cur, rfl, _⟩
  · exact ⟨none, 0, by rw [e], fun _ => .inr trivial⟩
  · exact ⟨_, cap, rfl, fun _ => .inr trivial⟩
theorem OwnV.at {w : World} {B : Nat} {a : Option Addr} {n c : Nat} {L : List VP} (h : OwnV w B (.slice a n c) L) (hL : 0 < L.length) : ∃ g cur, a = some ⟨g, 0, none⟩ ∧ n = L.length ∧ B ≤ g ∧ Blk w g 39 cur ∧ L.length ≤ c ∧ c ≤ maxLen ∧ cur.size = c * 34 ∧ cur.toList.take (L.length * 34) = L.flatMap encV := by
  rcases h.2 with ⟨e, h0⟩ | ⟨g, cap, cur, e, h1, h2, h3, h4, h5, h6⟩
  · omega
  · injection e with e1 e2 e3
    subst e1 e3
    exact ⟨g, cur, rfl, e2, h1, h2, h3, h4, h5, h6⟩
theorem ownV_rng {w : World} {g : Nat} {cur : Array Value} {L : List VP} (hb : Blk w g 39 cur) (ht : cur.toList.take (L.length * 34) = L.flatMap encV) : w.rangeAt g 0 (L.flatMap encV) := fun j v hj => by
  rw [← ht] at hj
  rw [Nat.zero_add, hb.cell, ← Array.getElem?_toList]
  rw [List.getElem?_take] at hj
  split at hj
  · exact hj
  · cases hj
theorem OwnV.row {w : World} {B : Nat} {v : Value} {L : List VP} (h : OwnV w B v L) (hq : ∀ q ∈ L, HRow w q.2 q.1.ps ∧ q.1.ps.length ≤ 4398046511104) : VRow w v L := by
  refine ⟨?_, hq⟩
  rcases h.2 with ⟨rfl, e⟩ | ⟨g, cap, cur, rfl, h1, h2, h3, h4, h5, h6⟩
  · exact .inl ⟨none, 0, rfl, List.eq_nil_of_length_eq_zero e⟩
  · exact .inr ⟨g, 0, cap, rfl, h3, ownV_rng h2 h6⟩
theorem OwnV.set {w : World} {B g c : Nat} {L : List VP} {cur : Array Value} {i : Nat} {q : VP} (hB : B ≤ g) (hb : Blk w g 39 cur) (h3 : L.length ≤ c) (h4 : c ≤ maxLen) (h5 : cur.size = c * 34) (h6 : cur.toList.take (L.length * 34) = L.flatMap encV) (hi : i < L.length) (vv : Array Value) (hvv : vv.toList = encV q) :
    OwnV (w.setRow g (cur.toList.take (i * 34) ++ vv.toList ++ cur.toList.drop (i * 34 + vv.size)).toArray) B (.slice (some ⟨g, 0, none⟩) L.length c) (L.set i q) := by
  have hvs : vv.size = 34 := by rw [← Array.length_toList, hvv, encV_len]
  refine ⟨by rw [flat_len encV_len, List.length_set], .inr ⟨g, c, _, by rw [List.length_set], hB, hb.setRow _, by rw [List.length_set]; exact h3, h4, ?_, ?_⟩⟩
  · simp only [List.size_toArray, List.length_append, List.length_take, List.length_drop, Array.length_toList, hvs]
    omega
  · rw [List.length_set, hvs, ← flat_set encV_len L i q hi, ← h6, hvv]
    have h7 : cur.toList.length = cur.size := Array.length_toList
    have := take_mid cur.toList (encV q) (i * 34) 34 (L.length * 34) (encV_len q) (by omega) (by omega)
    exact this
/-! ### Rows of ints. -/
def IRow (w : World) (v : Value) (S : List Int) : Prop := (∃ a c, v = .slice a 0 c ∧ S = []) ∨ ∃ b off c, v = .slice (some ⟨b, off, none⟩) S.length c ∧ ∀ i (hi : i < S.length), w.cell? ⟨b, off + i, none⟩ = some (.int .i64 S[i])
theorem IRow.form {w : World} {v : Value} {S : List Int} (h : IRow w v S) : ∃ a c, v = .slice a S.length c := by
  rcases h with ⟨a, c, rfl, rfl⟩ | ⟨b, off, c, rfl, _⟩
  · exact ⟨a, c, rfl⟩
  · exact ⟨_, c, rfl⟩
theorem IRow.at {w : World} {a : Option Addr} {n c : Nat} {S : List Int} (h : IRow w (.slice a n c) S) (hL : 0 < S.length) : ∃ b off, a = some ⟨b, off, none⟩ ∧ ∀ i (hi : i < S.length), w.cell? ⟨b, off + i, none⟩ = some (.int .i64 S[i]) := by
  rcases h with ⟨a, c, _, rfl⟩ | ⟨b, off, c, e, h1⟩
  · simp at hL
  · injection e with e1 e2 e3
    subst e1
    exact ⟨b, off, rfl, h1⟩
theorem IRow.below {w w' : World} {v : Value} {S : List Int} (h : IRow w v S) (hb : Below w.heap.size w w') : IRow w' v S := by
  rcases h with h | ⟨b, off, c, rfl, h1⟩
  · exact .inl h
  · exact .inr ⟨b, off, c, rfl, fun i hi => by rw [hb.cell (cell_lt (h1 i hi))]; exact h1 i hi⟩
/-! ### What is asked of two Dags that were fed alike. -/
theorem meets {L M : List VP} {g g' : DG} (hp : M.Perm L) (h : FedJ (L.map Prod.fst) g) (hI : DI g) (hs : StD g) (h' : FedJ (M.map Prod.fst) g') (hI' : DI g') (hs' : StD g') : g.order = g'.order ∧ g.heads = g'.heads ∧ ∀ x, g.held.find? (isV x) = g'.held.find? (isV x) := by
  have hm : ∀ v, v ∈ L.map Prod.fst ↔ v ∈ M.map Prod.fst := fun v => ((hp.map Prod.fst).mem_iff).symm
  exact meet_eq hI hI' fun v => ⟨meet_sub h hI h' hI' hs' (fun v => (hm v).1) v, meet_sub h' hI' h hI hs (fun v => (hm v).2) v⟩
end Go.Proofs.Ytogmdfhicbmplaa
