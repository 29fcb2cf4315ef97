import Derived.Test.YtanmbbckkfkhpaaOne
namespace Go.Proofs.Ytanmbbckkfkhpaa
open Go.RowKit

def kx0 (a b : Value) (n : Int) : Array Value := #[a, b, .int .i64 n, .bool false]
theorem box0 : Box 0 kx0 := ⟨fun _ _ _ => rfl, fun _ _ _ => rfl, fun _ _ _ => rfl, fun _ _ _ => rfl, fun _ _ _ _ => rfl, fun _ _ _ _ => rfl, fun _ _ _ _ => rfl, fun _ _ _ => rfl⟩
theorem BkL.mono {w : World} {lv gv : Value} {N : Nat} {A B : Nat → Value} {F F' : Nat → Prop} (h : BkL w lv gv N A B F) (hF : ∀ k, F k → F' k) : BkL w lv gv N A B F' :=
  { h with F1 := fun k hk => hF k (h.F1 k hk), F2 := fun k hk => hF k (h.F2 k hk), F3 := fun i hi k hk => hF k (h.F3 i hi k hk), F4 := fun i hi k hk => hF k (h.F4 i hi k hk) }
theorem BookIn.grown {kb T : Nat} {kx : Value → Value → Int → Array Value} {F F' S : Nat → Prop} {w w' : World} (h : BookIn kb T kx F w) (hg : Grown w w' S) (hk : ¬ S kb) (hs : ∀ k, F k → ¬ S k) (hF : ∀ k, F k → F' k) : BookIn kb T kx F' w' := by
  obtain ⟨lv, gv, N, A, B, n, h1, h2, h3⟩ := h
  exact ⟨lv, gv, N, A, B, n, hg.blk h1 hk, (h2.grown hg hs).mono hF, h3⟩

/-- Two Outs, the document's bytes, the book: each block's owner. -/
structure Lays (wB : World) (ob wb kb : Nat) (P : Nat → Nat) (Vv U : Nat → Value) (L : Nat → List Int) (tag : Nat → Nat) (w : World) : Prop where
  bo : Blk w ob 33 #[ptr (P 0), ptr (P 1)]
  bw : Blk w wb 36 #[U 0, U 1]
  bk : BookIn kb 40 kx0 (fun k => k < w.heap.size ∧ tag k = 4) w
  out : ∀ t, t < 2 → OutAt w (P t) (Vv t) (L t)
  row : ∀ t, t < 2 → Own w (U t) (L t)
  nn : ∀ t, t < 2 → ∃ k, (U t).ownBlock = some k
  tO : ∀ t, t < 2 → ∀ k, OF (P t) (Vv t) k → tag k = t
  tU : ∀ t, t < 2 → ∀ k, (U t).ownBlock = some k → tag k = 2 + t
  tb : tag ob = 5 ∧ tag wb = 5 ∧ tag kb = 5
  base : ∀ k, k < wB.heap.size → tag k = 9
  below : Below wB.heap.size wB w
def retag (tag : Nat → Nat) (n : Nat) (f : Nat → Nat) : Nat → Nat := fun k => if k < n then tag k else f k
theorem retag_lt {tag f : Nat → Nat} {n k : Nat} (h : k < n) : retag tag n f k = tag k := by simp [retag, h]
theorem retag_ge {tag f : Nat → Nat} {n k : Nat} (h : n ≤ k) : retag tag n f k = f k := by simp [retag, Nat.not_lt.2 h]
theorem bk_lt {kb T : Nat} {kx : Value → Value → Int → Array Value} {F : Nat → Prop} {w : World} (h : BookIn kb T kx F w) : kb < w.heap.size := by
  obtain ⟨lv, gv, N, A, B, n, h1, _⟩ := h
  exact h1.lt

/-- A step that changes none of them. -/
theorem Lays.other {wB : World} {ob wb kb : Nat} {P : Nat → Nat} {Vv U : Nat → Value} {L : Nat → List Int} {tag : Nat → Nat} {w w' : World} {S : Nat → Prop} (h : Lays wB ob wb kb P Vv U L tag w) (hg : Grown w w' S) (hS : ∀ k, k < w.heap.size → S k → tag k = 6) : Lays wB ob wb kb P Vv U L (retag tag w.heap.size fun _ => 6) w' := by
  have no : ∀ k, k < w.heap.size → tag k ≠ 6 → ¬ S k := fun k hk ht hs => ht (hS k hk hs)
  obtain ⟨tb1, tb2, tb3⟩ := h.tb
  have l1 := h.bo.lt
  have l2 := h.bw.lt
  have l3 := bk_lt h.bk
  refine ⟨hg.blk h.bo (no _ l1 (by omega)), hg.blk h.bw (no _ l2 (by omega)), h.bk.grown hg (no _ l3 (by omega)) (fun k hk => no k hk.1 (by omega)) (fun k hk => ⟨Nat.lt_of_lt_of_le hk.1 hg.size, by rw [retag_lt hk.1]; exact hk.2⟩), ?_, ?_, h.nn, ?_, ?_, ⟨by rw [retag_lt l1]; exact tb1, by rw [retag_lt l2]; exact tb2, by rw [retag_lt l3]; exact tb3⟩, ?_, ?_⟩
  · exact fun t ht => (h.out t ht).grown hg fun k hk => no k ((h.out t ht).lt hk) (by have := h.tO t ht k hk; omega)
  · exact fun t ht => (h.row t ht).grown hg fun k hk => no k ((h.row t ht).lt k hk) (by have := h.tU t ht k hk; omega)
  · exact fun t ht k hk => by rw [retag_lt ((h.out t ht).lt hk)]; exact h.tO t ht k hk
  · exact fun t ht k hk => by rw [retag_lt ((h.row t ht).lt k hk)]; exact h.tU t ht k hk
  · exact fun k hk => by rw [retag_lt (Nat.lt_of_lt_of_le hk h.below.size)]; exact h.base k hk
  · exact h.below.trans (hg.to_below (fun k hk hs => by have := hS k (Nat.lt_of_lt_of_le hk h.below.size) hs; have := h.base k hk; omega) h.below.size)
theorem Lays.later {wB : World} {ob wb kb : Nat} {P : Nat → Nat} {Vv U : Nat → Value} {L : Nat → List Int} {tag : Nat → Nat} {w w' : World} (h : Lays wB ob wb kb P Vv U L tag w) (hb : Below w.heap.size w w') : Lays wB ob wb kb P Vv U L (retag tag w.heap.size fun _ => 6) w' :=
  h.other (Grown.below (S := fun _ => False) hb) fun _ _ h => h.elim

/-- A call of lay, and its answer stored. -/
theorem Lays.layed {wB : World} {ob wb kb : Nat} {P : Nat → Nat} {Vv U : Nat → Value} {L : Nat → List Int} {tag : Nat → Nat} {w w2 : World} {t : Nat} {f : List Int} {v' wv' : Value} (h : Lays wB ob wb kb P Vv U L tag w) (ht : t < 2)
    (h1 : OutAt w2 (P t) v' (L t ++ f)) (h2 : Own w2 wv' (L t ++ f)) (h3 : Moved w (Vv t) v') (h4 : Moved w (U t) wv') (h5 : ∀ k, wv'.ownBlock = some k → ¬ OF (P t) v' k) (hg : Grown w w2 fun k => OF (P t) (Vv t) k ∨ (U t).ownBlock = some k) :
    Lays wB ob wb kb P (updN Vv t v') (updN U t wv') (updN L t (L t ++ f)) (retag tag w.heap.size fun k => if wv'.ownBlock = some k then 2 + t else if v'.ownBlock = some k then t else 6) (w2.setCell ⟨wb, t, none⟩ wv') := by
  obtain ⟨tb1, tb2, tb3⟩ := h.tb
  have l1 := h.bo.lt
  have l2 := h.bw.lt
  have l3 := bk_lt h.bk
  have no : ∀ k, tag k ≠ t → tag k ≠ 2 + t → ¬ (OF (P t) (Vv t) k ∨ (U t).ownBlock = some k) := fun k a b hs => by
    rcases hs with hs | hs
    · exact a (h.tO t ht k hs)
    · exact b (h.tU t ht k hs)
  have hbw2 : Blk w2 wb 36 #[U 0, U 1] := hg.blk h.bw (no _ (by omega) (by omega))
  have hgs : Grown w2 (w2.setCell ⟨wb, t, none⟩ wv') (fun k => k = wb) := Grown.setCell _ _ _ _ fun _ => rfl
  have wne : ∀ {k : Nat} {T : TypeId}, Typ w2 k T → T ≠ 36 → k ≠ wb := fun hk hT => hk.ne hbw2.typ hT
  have hsz := hg.size
  refine ⟨?_, ?_, ?_, ?_, ?_, ?_, ?_, ?_, ⟨by rw [retag_lt l1]; exact tb1, by rw [retag_lt l2]; exact tb2, by rw [retag_lt l3]; exact tb3⟩, ?_, ?_⟩
  · have := hg.blk h.bo (no _ (by omega) (by omega))
    exact hgs.blk this (wne this.typ (by decide))
  · have := hbw2.set t wv'
    have e : (#[U 0, U 1] : Array Value).setIfInBounds t wv' = #[updN U t wv' 0, updN U t wv' 1] := by
      rcases (by omega : t = 0 ∨ t = 1) with rfl | rfl <;> simp [updN]
    rw [e] at this
    exact this
  · have hb2 := h.bk.grown (F' := fun k => k < w.heap.size ∧ tag k = 4) hg (no _ (by omega) (by omega)) (fun k hk => no k (by omega) (by omega)) (fun k hk => hk)
    refine hb2.grown hgs ?_ (fun k hk e => ?_) (fun k hk => ⟨Nat.lt_of_lt_of_le (Nat.lt_of_lt_of_le hk.1 hsz) hgs.size, by rw [retag_lt hk.1]; exact hk.2⟩)
    · obtain ⟨lv, gv, N, A, B, n, hx, _⟩ := hb2
      exact wne hx.typ (by decide)
    · rw [e] at hk; omega
  · intro i hi
    by_cases e : i = t
    · subst e
      rw [updN_self, updN_self]
      refine h1.grown hgs fun k hk e => ?_
      rcases hk with hk | hk
      · rw [hk] at e; exact wne h1.blk.typ (by decide) e
      · exact wne (h1.own.typ hk) (by decide) e
    · rw [updN_ne _ _ e, updN_ne _ _ e]
      have hx := (h.out i hi).grown hg fun k hk => no k (by have := h.tO i hi k hk; omega) (by have := h.tO i hi k hk; omega)
      refine hx.grown hgs fun k hk e => ?_
      rcases hk with hk | hk
      · rw [hk] at e; exact wne hx.blk.typ (by decide) e
      · exact wne (hx.own.typ hk) (by decide) e
  · intro i hi
    by_cases e : i = t
    · subst e
      rw [updN_self, updN_self]
      exact h2.grown hgs fun k hk e => wne (h2.typ hk) (by decide) e
    · rw [updN_ne _ _ e, updN_ne _ _ e]
      have hx := (h.row i hi).grown hg fun k hk => no k (by have := h.tU i hi k hk; omega) (by have := h.tU i hi k hk; omega)
      exact hx.grown hgs fun k hk e => wne (hx.typ hk) (by decide) e
  · intro i hi
    by_cases e : i = t
    · subst e
      rw [updN_self]
      rcases h4 with e | ⟨k, e, _⟩
      · rw [e]; exact h.nn i hi
      · exact ⟨k, e⟩
    · rw [updN_ne _ _ e]; exact h.nn i hi
  · intro i hi k hk
    by_cases e : i = t
    · subst e
      rw [updN_self] at hk
      by_cases hlt : k < w.heap.size
      · rw [retag_lt hlt]
        rcases hk with hk | hk
        · exact h.tO i hi k (.inl hk)
        · exact h.tO i hi k (.inr (h3.old hlt hk))
      · rw [retag_ge (by omega)]
        have hp : k ≠ P i := fun e => by have := (h.out i hi).blk.lt; omega
        have hv : v'.ownBlock = some k := by
          rcases hk with hk | hk
          · exact absurd hk hp
          · exact hk
        rw [if_neg (fun hw => h5 k hw (.inr hv)), if_pos hv]
    · rw [updN_ne _ _ e] at hk
      rw [retag_lt ((h.out i hi).lt hk)]
      exact h.tO i hi k hk
  · intro i hi k hk
    by_cases e : i = t
    · subst e
      rw [updN_self] at hk
      by_cases hlt : k < w.heap.size
      · rw [retag_lt hlt]
        exact h.tU i hi k (h4.old hlt hk)
      · rw [retag_ge (by omega), if_pos hk]
    · rw [updN_ne _ _ e] at hk
      rw [retag_lt ((h.row i hi).lt k hk)]
      exact h.tU i hi k hk
  · exact fun k hk => by rw [retag_lt (Nat.lt_of_lt_of_le hk h.below.size)]; exact h.base k hk
  · have hb := h.below.trans (hg.to_below (fun k hk => no k (by have := h.base k hk; omega) (by have := h.base k hk; omega)) h.below.size)
    exact hb.trans (hgs.to_below (fun k hk e => by have := h.base k hk; rw [e] at this; omega) hb.size)

/-- A list put into the book. -/
theorem Lays.added {wB : World} {ob wb kb : Nat} {P : Nat → Nat} {Vv U : Nat → Value} {L : Nat → List Int} {tag : Nat → Nat} {w w2 : World} {vb : Value} {e : Ending} (h : Lays wB ob wb kb P Vv U L tag w) (hv : ∀ k, vb.ownBlock = some k → tag k = 6 ∧ k < w.heap.size)
    (hp : AddPost kb 40 kx0 vb (fun k => k < w.heap.size ∧ tag k = 4) w e w2) :
    e = .returned (.tuple #[]) ∧ Lays wB ob wb kb P Vv U L (retag (fun k => if vb.ownBlock = some k then 4 else tag k) w.heap.size fun _ => 4) w2 := by
  obtain ⟨rfl, hbk, hg⟩ := hp
  refine ⟨rfl, ?_⟩
  obtain ⟨tb1, tb2, tb3⟩ := h.tb
  have l1 := h.bo.lt
  have l2 := h.bw.lt
  have l3 := bk_lt h.bk
  have hkb := h.bk
  have nv : ∀ k, tag k ≠ 6 → vb.ownBlock ≠ some k := fun k ht e => ht (hv k e).1
  have tg : ∀ k, k < w.heap.size → tag k ≠ 6 → retag (fun k => if vb.ownBlock = some k then 4 else tag k) w.heap.size (fun _ => 4) k = tag k := fun k hk ht => by rw [retag_lt hk, if_neg (nv k ht)]
  have no : ∀ k, k < w.heap.size → tag k ≠ 6 → tag k ≠ 4 → k ≠ kb → ¬ (k = kb ∨ (k < w.heap.size ∧ tag k = 4) ∨ vb.ownBlock = some k) := fun k hk a b c hs => by
    rcases hs with hs | hs | hs
    · exact c hs
    · exact b hs.2
    · exact nv k a hs
  obtain ⟨lv0, gv0, N0, A0, B0, n0, hkblk, _⟩ := h.bk
  refine ⟨hg.blk h.bo (no _ l1 (by omega) (by omega) (blk_ne h.bo hkblk (by decide))), hg.blk h.bw (no _ l2 (by omega) (by omega) (blk_ne h.bw hkblk (by decide))), ?_, ?_, ?_, h.nn, ?_, ?_, ⟨by rw [tg ob l1 (by omega)]; exact tb1, by rw [tg wb l2 (by omega)]; exact tb2, by rw [tg kb l3 (by omega)]; exact tb3⟩, ?_, ?_⟩
  · obtain ⟨lv, gv, N, A, B, n, h1, h2, h3⟩ := hbk
    refine ⟨lv, gv, N, A, B, n, h1, h2.mono fun k hk => ?_, h3⟩
    rcases hk with hk | hk | hk
    · exact ⟨Nat.lt_of_lt_of_le hk.1 hg.size, by rw [tg k hk.1 (by omega)]; exact hk.2⟩
    · have := hv k hk
      exact ⟨Nat.lt_of_lt_of_le this.2 hg.size, by rw [retag_lt this.2, if_pos hk]⟩
    · exact ⟨hk.2, by rw [retag_ge hk.1]⟩
  · intro t ht
    refine (h.out t ht).grown hg fun k hk => no k ((h.out t ht).lt hk) (by have := h.tO t ht k hk; omega) (by have := h.tO t ht k hk; omega) (fun e => ?_)
    have := h.tO t ht k hk
    rw [e] at this; omega
  · intro t ht
    refine (h.row t ht).grown hg fun k hk => no k ((h.row t ht).lt k hk) (by have := h.tU t ht k hk; omega) (by have := h.tU t ht k hk; omega) (fun e => ?_)
    have := h.tU t ht k hk
    rw [e] at this; omega
  · exact fun t ht k hk => by rw [tg k ((h.out t ht).lt hk) (by have := h.tO t ht k hk; omega)]; exact h.tO t ht k hk
  · exact fun t ht k hk => by rw [tg k ((h.row t ht).lt k hk) (by have := h.tU t ht k hk; omega)]; exact h.tU t ht k hk
  · exact fun k hk => by rw [tg k (Nat.lt_of_lt_of_le hk h.below.size) (by have := h.base k hk; omega)]; exact h.base k hk
  · refine h.below.trans (hg.to_below (fun k hk => no k (Nat.lt_of_lt_of_le hk h.below.size) (by have := h.base k hk; omega) (by have := h.base k hk; omega) (fun e => ?_)) h.below.size)
    have := h.base k hk
    rw [e] at this; omega
end Go.Proofs.Ytanmbbckkfkhpaa
