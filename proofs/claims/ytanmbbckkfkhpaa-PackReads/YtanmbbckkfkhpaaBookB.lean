import Derived.Test.YtanmbbckkfkhpaaBook
namespace Go.Proofs.Ytanmbbckkfkhpaa
open Go.RowKit

def updN {α : Type} (f : Nat → α) (k : Nat) (x : α) : Nat → α := fun i => if i = k then x else f i
theorem updN_self {α : Type} (f : Nat → α) (k : Nat) (x : α) : updN f k x k = x := by simp [updN]
theorem updN_ne {α : Type} (f : Nat → α) {k i : Nat} (x : α) (h : i ≠ k) : updN f k x i = f i := by simp [updN, h]
theorem range_upd {α : Type} (f : Nat → α) (N : Nat) (x : α) : (List.range (N + 1)).map (updN f N x) = (List.range N).map f ++ [x] := by
  rw [List.range_succ, List.map_append]
  congr 1
  · apply List.map_congr_left
    intro i hi
    rw [updN_ne]
    have := List.mem_range.1 hi
    omega
  · simp [updN_self]

/-- What stands at the head of a block that another list owns. -/
theorem row_head {w : World} {v g1 : Value} {n k : Nat} {m : Int} {va : Option Addr} {vc : Nat} (hv : v = .slice va n vc) (h0 : ∀ a, va = some a → a.off = 0 ∧ a.spot = none) (hnv : va = none → n = 0 ∧ vc = 0) (hle : n ≤ vc) (h : OwnT w g1 (List.replicate (n + k) m)) (he : g1.ownBlock = v.ownBlock) : RowAt w v (List.replicate n m) := by
  subst hv
  cases va with
  | none => obtain ⟨rfl, rfl⟩ := hnv rfl; exact .inl ⟨rfl, rfl⟩
  | some a =>
    obtain ⟨h1, h2⟩ := h0 a rfl
    obtain ⟨b, o, sp⟩ := a
    simp only at h1 h2
    subst h1 h2
    refine .inr (.inr ⟨b, 0, vc, by simp, by simpa using hle, fun i hi => ?_⟩)
    simp only [List.length_replicate] at hi
    have h5 := h
    rcases h5 with ⟨e, e2⟩ | ⟨g', cap', cur, fz, e, hb, _⟩
    · have := congrArg List.length e2; simp at this; omega
    · rw [e] at he h
      simp [Value.ownBlock] at he
      subst he
      have := (h.cells i (by simp; omega)).1
      rw [Nat.zero_add, this]
      simp [List.getD_eq_getElem?_getD, hi, show i < n + k by omega]

/-- The book at kb, its lists' blocks among F. -/
def BookIn (kb T : Nat) (kx : Value → Value → Int → Array Value) (F : Nat → Prop) (w : World) : Prop :=
  ∃ lv gv N A B n, Blk w kb T (kx lv gv n) ∧ BkL w lv gv N A B F ∧ N ≤ 20000 ∧ 0 ≤ n ∧ n < 16777216 + 140737488355328
/-- What Add leaves. -/
def AddPost (kb T : Nat) (kx : Value → Value → Int → Array Value) (vb : Value) (F : Nat → Prop) (w : World) (e : Ending) (w' : World) : Prop :=
  e = .returned (.tuple #[]) ∧ BookIn kb T kx (fun k => F k ∨ vb.ownBlock = some k ∨ (w.heap.size ≤ k ∧ k < w'.heap.size)) w' ∧ Grown w w' fun k => k = kb ∨ F k ∨ vb.ownBlock = some k
theorem OwnV.sl3 {w : World} {v : Value} {xs : List Value} (h : OwnV w v xs) : ∃ a n c, v = .slice a n c := by
  obtain ⟨a, c, e⟩ := h.sl
  exact ⟨a, _, c, e⟩
theorem OwnV.typ {w : World} {v : Value} {xs : List Value} (h : OwnV w v xs) {k : Nat} (hk : v.ownBlock = some k) : Typ w k 36 := by
  rcases h.2 with ⟨rfl, _⟩ | ⟨g, cap, cur, rfl, _, h3, _⟩
  · simp [Value.ownBlock] at hk
  · simp [Value.ownBlock] at hk
    subst hk
    exact ⟨cur, _, h3⟩
/-- One more list in both rows. -/
theorem BkL.push {w w5 w7 : World} {lv gv lv2 gv2 u u2 : Value} {N kb T : Nat} {A B : Nat → Value} {F F' : Nat → Prop} {ck ck5 : Array Value} (h : BkL w lv gv N A B F) (hk : Blk w kb T ck) (hk5 : Blk w5 kb T ck5) (hT5 : T ≠ 5) (hT36 : T ≠ 36)
    (o1 : OwnV w5 lv2 ((List.range N).map A ++ [u])) (m1 : Moved w lv lv2) (g1 : Grown w w5 fun k => k = kb ∨ lv.ownBlock = some k)
    (o2 : OwnV w7 gv2 ((List.range N).map B ++ [u2])) (m2 : Moved w5 gv gv2) (g2 : Grown w5 w7 fun k => k = kb ∨ gv.ownBlock = some k)
    (f1 : FullAt w u (mark N)) (f2 : FullAt w u2 (mark N)) (t1 : ∀ k, u.ownBlock = some k → Typ w k 5) (t2 : ∀ k, u2.ownBlock = some k → Typ w k 5)
    (hF : ∀ k, F k → F' k) (hF1 : ∀ k, w.heap.size ≤ k → k < w7.heap.size → F' k) (hu : ∀ k, u.ownBlock = some k → F' k) (hu2 : ∀ k, u2.ownBlock = some k → F' k) :
    BkL w7 lv2 gv2 (N + 1) (updN A N u) (updN B N u2) F' := by
  have nkl : lv.ownBlock ≠ some kb := h.l.ne hk hT36
  have nkg : gv.ownBlock ≠ some kb := h.g.ne hk hT36
  -- a block of bytes of w is one of w7
  have data : ∀ k, Typ w k 5 → ¬ (k = kb ∨ lv.ownBlock = some k) ∧ ¬ (k = kb ∨ gv.ownBlock = some k) := by
    intro k hc
    have a1 : k ≠ kb := hc.ne hk.typ (Ne.symm hT5)
    refine ⟨?_, ?_⟩
    · rintro (e | e)
      · exact a1 e
      · exact absurd (hc.one (h.l.typ e)) (by decide)
    · rintro (e | e)
      · exact a1 e
      · exact absurd (hc.one (h.g.typ e)) (by decide)
  have full7 : ∀ v m, FullAt w v m → (∀ k, v.ownBlock = some k → Typ w k 5) → FullAt w7 v m := fun v m hf ht =>
    (hf.grown g1 fun k hk => (data k (ht k hk)).1).grown g2 fun k hk => (data k (ht k hk)).2
  have blk7 : ∀ k, Typ w k 5 → Typ w7 k 5 := fun k hk => g2.typ (g1.typ hk (data k hk).1) (data k hk).2
  have glt : ∀ k, gv.ownBlock = some k → k < w.heap.size := h.g.lt
  have ne2 : ∀ k, lv2.ownBlock = some k → gv.ownBlock ≠ some k := fun k hk e => by
    have := glt k e
    exact h.ne k (m1.old this hk) e
  have nk2 : lv2.ownBlock ≠ some kb := o1.ne hk5 hT36
  have hs7 : w.heap.size ≤ w7.heap.size := Nat.le_trans g1.size g2.size
  refine ⟨?_, ?_, ?_, ?_, ?_, ?_, ?_, ?_, ?_, ?_, ?_⟩
  · rw [range_upd]
    exact o1.grown g2 fun k hq e => by
      rcases e with e | e
      · exact nk2 (e ▸ hq)
      · exact ne2 k hq e
  · rw [range_upd]; exact o2
  · intro i hi
    by_cases e : i = N
    · subst e; rw [updN_self]; exact full7 _ _ f1 t1
    · rw [updN_ne _ _ e]; exact full7 _ _ (h.fa i (by omega)) (h.ta i (by omega))
  · intro i hi
    by_cases e : i = N
    · subst e; rw [updN_self]; exact full7 _ _ f2 t2
    · rw [updN_ne _ _ e]; exact full7 _ _ (h.fb i (by omega)) (h.tb i (by omega))
  · intro k hk
    by_cases hlt : k < w.heap.size
    · exact hF k (h.F1 k (m1.old hlt hk))
    · exact hF1 k (by omega) (Nat.lt_of_lt_of_le (o1.lt k hk) g2.size)
  · intro k hk
    by_cases hlt : k < w.heap.size
    · exact hF k (h.F2 k (m2.old (Nat.lt_of_lt_of_le hlt g1.size) hk))
    · exact hF1 k (by omega) (o2.lt k hk)
  · intro i hi
    by_cases e : i = N
    · subst e; rw [updN_self]; exact hu
    · rw [updN_ne _ _ e]; exact fun k hk => hF k (h.F3 i (by omega) k hk)
  · intro i hi
    by_cases e : i = N
    · subst e; rw [updN_self]; exact hu2
    · rw [updN_ne _ _ e]; exact fun k hk => hF k (h.F4 i (by omega) k hk)
  · intro k hk e
    have hlt := o1.lt k hk
    exact ne2 k hk (m2.old hlt e)
  · intro i hi
    by_cases e : i = N
    · subst e; rw [updN_self]; exact fun k hk => blk7 k (t1 k hk)
    · rw [updN_ne _ _ e]; exact fun k hk => blk7 k (h.ta i (by omega) k hk)
  · intro i hi
    by_cases e : i = N
    · subst e; rw [updN_self]; exact fun k hk => blk7 k (t2 k hk)
    · rw [updN_ne _ _ e]; exact fun k hk => blk7 k (h.tb i (by omega) k hk)

/-- In the midst of Add: the list grown, the old one at its head, or left behind. -/
structure G2 (wL : World) (vb g : Value) (n t : Nat) (m : Int) (w : World) : Prop where
  own : OwnT w g (List.replicate (n + t) m)
  row : RowAt w vb (List.replicate n m)
  typ : ∀ k, vb.ownBlock = some k → Typ w k 5
  pos : g.ownBlock = vb.ownBlock ∨ ∃ k, g.ownBlock = some k ∧ wL.heap.size ≤ k
  gr : Grown wL w fun k => vb.ownBlock = some k
theorem G2.next {wL wx w' : World} {vb g v' : Value} {n t : Nat} {m : Int} {va : Option Addr} {vc : Nat} {l0 : List Int} (h : G2 wL vb g n t m wx) (hv : vb = .slice va n vc) (hO : OwnT wL vb l0) (o : Obj) (hp : AppPostT (wx.alloc o) g (List.replicate (n + t) m ++ [m]) v' w') : G2 wL vb v' n (t + 1) m w' := by
  have hO' := hO
  rw [hv] at hO'
  obtain ⟨p1, p2, p3, _⟩ := hO'.plain
  have hown : OwnT w' v' (List.replicate (n + (t + 1)) m) := by
    have e : List.replicate (n + (t + 1)) m = List.replicate (n + t) m ++ [m] := by rw [← Nat.add_assoc, List.replicate_succ']
    rw [e]; exact hp.1
  have hgL : Grown wL (wx.alloc o) fun k => vb.ownBlock = some k := h.gr.next (Grown.alloc wx o fun _ => False) fun _ _ h => h.elim
  have hrow : RowAt (wx.alloc o) vb (List.replicate n m) := h.row.below (below_new wx o)
  have hgr : Grown wL w' fun k => vb.ownBlock = some k := hgL.next hp.grown fun i hi e => by
    rcases h.pos with h1 | ⟨k, h1, h2⟩
    · rw [← h1]; exact e
    · rw [h1] at e; injection e with e; omega
  have htyp : ∀ k, vb.ownBlock = some k → Typ (wx.alloc o) k 5 := fun k hk => (Grown.alloc wx o fun _ => False).typ (h.typ k hk) fun h => h
  rcases hp.2 with ⟨e1, g1⟩ | ⟨e1, g1⟩
  · by_cases hs : g.ownBlock = vb.ownBlock
    · exact ⟨hown, row_head hv p1 p2 p3 hown (e1.trans hs), fun k hk => hown.typ ((e1.trans hs).trans hk), .inl (e1.trans hs), hgr⟩
    · refine ⟨hown, hrow.grown g1 fun b hb _ e => hs (e.trans hb.symm), fun k hk => g1.typ (htyp k hk) fun e => hs (e.trans hk.symm), ?_, hgr⟩
      rcases h.pos with h1 | h1
      · exact absurd h1 hs
      · rw [e1]; exact .inr h1
  · exact ⟨hown, hrow.below g1, fun k hk => (Grown.below (S := fun _ => False) g1).typ (htyp k hk) fun h => h, .inr ⟨_, e1, hgL.size⟩, hgr⟩

theorem fill_next (l : List Int) (t : Nat) (m : Int) (h : t < l.length) : (List.replicate t m ++ l.drop t).set t m = List.replicate (t + 1) m ++ l.drop (t + 1) := by
  apply List.ext_getElem?
  intro i
  rw [List.getElem?_set]
  simp only [List.getElem?_append, List.length_append, List.length_replicate, List.length_drop, List.getElem?_replicate, List.getElem?_drop]
  by_cases h1 : t = i
  · subst h1
    rw [if_pos rfl, if_pos (by omega), if_pos (by omega), if_pos (by omega)]
  · rw [if_neg h1]
    by_cases h2 : i < t
    · rw [if_pos h2, if_pos h2, if_pos (by omega), if_pos (by omega)]
    · rw [if_neg h2, if_neg (by omega), show t + (i - t) = t + 1 + (i - (t + 1)) by omega]

set_option maxHeartbeats 1000000 in
theorem add_any (kb off T : Nat) (kx : Value → Value → Int → Array Value) (hx : Box off kx) (hT5 : T ≠ 5) (hT36 : T ≠ 36) (lv gv : Value) (N : Nat) (A B : Nat → Value) (n : Int) (F : Nat → Prop) (vb : Value) (lb : List Int) (w : World)
    (hk : Blk w kb T (kx lv gv n)) (h : BkL w lv gv N A B F) (hN : N ≤ 20000) (hn0 : 0 ≤ n) (hn1 : n < 16777216 + 140737488355328) (hF : ¬ F kb) (hvb : OwnT w vb lb) (hsep : ∀ k, vb.ownBlock = some k → ¬ F k) (hb : lb.length + 60 ≤ 140737488355328) :
    Calls Try.prog 16 #[.pointer (some ⟨kb, off, none⟩), vb] w (AddPost kb T kx vb F w) := by
  obtain ⟨la, lc, e1⟩ := h.l.sl
  obtain ⟨ga, gc, e2⟩ := h.g.sl
  simp only [List.length_map, List.length_range] at e1 e2
  subst e1 e2
  obtain ⟨va, vc, e3⟩ := row_form hvb.row
  subst e3
  have hvk : (Value.slice va lb.length vc).ownBlock ≠ some kb := hvb.ne hk hT5
  have c0 : w.cell? ⟨kb, off, none⟩ = some (.slice la N lc) := by rw [hk.cell, hx.g0]
  have c1 : w.cell? ⟨kb, off + 1, none⟩ = some (.slice ga N gc) := by rw [hk.cell, hx.g1]
  have c2 : w.cell? ⟨kb, off + 2, none⟩ = some (.int .i64 n) := by rw [hk.cell, hx.g2]
  have f2 := hk.frozen (off + 2)
  have hN' : (N : Int) ≤ 20000 := by omega
  have hsm : (lb.length : Int) ≤ 140737488355328 := by omega
  have hk1 : Blk (w.setCell ⟨kb, off + 2, none⟩ (.int .i64 (n + lb.length))) kb T (kx (.slice la N lc) (.slice ga N gc) (n + lb.length)) := by
    have := hk.set (off + 2) (.int .i64 (n + lb.length))
    rwa [hx.s2] at this
  have hG1 : Grown w (w.setCell ⟨kb, off + 2, none⟩ (.int .i64 (n + lb.length))) (fun k => k = kb) := Grown.setCell _ _ _ _ fun _ => rfl
  have hL1 := h.grown hG1 (fun k hk e => hF (e ▸ hk))
  have hv1 := hvb.grown hG1 (fun k hk e => hvk (e ▸ hk))
  have HN0 := Keep.mk hn0
  have HN1 := Keep.mk hn1
  have HB := Keep.mk hb
  have hn2 : n ≤ 140737505132544 := by omega
  have hnn : wrap64 (n + lb.length) = n + lb.length := by unfold wrap64; omega
  clear h hk hb hvb hn1 hN
  by_cases h1 : (20000 : Int) ≤ (N : Int)
  · have HK1 := Keep.mk hk1
    have HL1 := Keep.mk hL1
    have Hv1 := Keep.mk hv1
    have HG1 := Keep.mk hG1
    have HSep := Keep.mk hsep
    have HVk := Keep.mk hvk
    clear hk1 hL1 hv1 hG1 hsep hvk
    go_enter Try.func16, Try.ntmps16
    go_wp2_with fail
    generalize w.setCell ⟨kb, off + 2, none⟩ (.int .i64 (n + lb.length)) = w1 at *
    clear c0 c1 c2 f2
    refine (stays_any kb off T kx hx _ _ N A B _ F w1 HK1.out HL1.out (by omega)).mono ?_
    rintro e w2 ⟨rfl, hw2⟩
    rw [hw2]
    clear hw2
    have c0 : w1.cell? ⟨kb, off, none⟩ = some (.slice la N lc) := by rw [HK1.out.cell, hx.g0]
    have c1 : w1.cell? ⟨kb, off + 1, none⟩ = some (.slice ga N gc) := by rw [HK1.out.cell, hx.g1]
    have c2 : w1.cell? ⟨kb, off + 2, none⟩ = some (.int .i64 (n + lb.length)) := by rw [HK1.out.cell, hx.g2]
    have c3 : w1.cell? ⟨kb, off + 3, none⟩ = some (.bool false) := by rw [HK1.out.cell, hx.g3]
    have f0 := HK1.out.frozen off
    have f1 := HK1.out.frozen (off + 1)
    have f2 := HK1.out.frozen (off + 2)
    have f3 := HK1.out.frozen (off + 3)
    have hkS : Blk ((((w1.setCell ⟨kb, off + 3, none⟩ (.bool false)).setCell ⟨kb, off, none⟩ (.slice none 0 0)).setCell ⟨kb, off + 1, none⟩ (.slice none 0 0)).setCell ⟨kb, off + 2, none⟩ (.int .i64 (lb.length : Int))) kb T (kx (.slice none 0 0) (.slice none 0 0) (lb.length : Int)) := by
      have := (((HK1.out.set (off + 3) (.bool false)).set off (.slice none 0 0)).set (off + 1) (.slice none 0 0)).set (off + 2) (.int .i64 (lb.length : Int))
      rwa [hx.s3, hx.s0, hx.s1, hx.s2] at this
    have hG2 : Grown w1 ((((w1.setCell ⟨kb, off + 3, none⟩ (.bool false)).setCell ⟨kb, off, none⟩ (.slice none 0 0)).setCell ⟨kb, off + 1, none⟩ (.slice none 0 0)).setCell ⟨kb, off + 2, none⟩ (.int .i64 (lb.length : Int))) (fun k => k = kb) := (((Grown.setCell w1 kb (off + 3) _ (S := fun k => k = kb) fun _ => rfl).trans (Grown.setCell _ kb off _ fun _ => rfl)).trans (Grown.setCell _ kb (off + 1) _ fun _ => rfl)).trans (Grown.setCell _ kb (off + 2) _ fun _ => rfl)
    have HKS := Keep.mk hkS
    have HvS := Keep.mk (Hv1.out.grown hG2 (fun k hk e => HVk.out (e ▸ hk)))
    have HGS := Keep.mk (HG1.out.trans hG2)
    have HLS := Keep.mk (BkL.nil ((((w1.setCell ⟨kb, off + 3, none⟩ (.bool false)).setCell ⟨kb, off, none⟩ (.slice none 0 0)).setCell ⟨kb, off + 1, none⟩ (.slice none 0 0)).setCell ⟨kb, off + 2, none⟩ (.int .i64 (lb.length : Int))) A B F)
    clear hkS hG2
    go_wp2
    generalize (((w1.setCell ⟨kb, off + 3, none⟩ (.bool false)).setCell ⟨kb, off, none⟩ (.slice none 0 0)).setCell ⟨kb, off + 1, none⟩ (.slice none 0 0)).setCell ⟨kb, off + 2, none⟩ (.int .i64 (lb.length : Int)) = wS at *
    clear c0 c1 c2 c3 f0 f1 f2 f3
    have hmm : Keep ((1 : Int) = mark 0) := ⟨by decide⟩
    go_loopw [6] (fun i wr => ∃ t : Nat, t ≤ lb.length ∧ i = .int .i64 t ∧ OwnT wr (Value.slice va lb.length vc) (List.replicate t (1 : Int) ++ lb.drop t) ∧ Grown wS wr (fun k => (Value.slice va lb.length vc).ownBlock = some k)) (fun i _ => lb.length - (intOf i).toNat)
    case atStart => exact ⟨0, by omega, rfl, by simpa using HvS.out, Grown.refl _ _⟩
    case round =>
      obtain ⟨t, ht, rfl, hO, hGr⟩ := hrel
      by_cases hlt : t < lb.length
      · have hlt' : (t : Int) < (lb.length : Int) := by omega
        have hll : (List.replicate t (1 : Int) ++ lb.drop t).length = lb.length := by simp; omega
        obtain ⟨g, e1⟩ := hO.addr (by rw [hll]; omega)
        · subst e1
          have hc := hO.cells t (by rw [hll]; exact hlt)
          have d1 := hc.1
          have d2 := hc.2
          have HO := Keep.mk (hO.set t (1 : Int))
          have HG := Keep.mk (hGr.trans (Grown.setCell wr g t (.int .u8 (1 : Int)) (S := fun k => (Value.slice (some ⟨g, 0, none⟩) lb.length vc).ownBlock = some k) fun _ => rfl))
          obtain ⟨q, hq⟩ : ∃ q, Keep (q = (List.replicate t (1 : Int) ++ lb.drop t).getD t 0) := ⟨_, ⟨rfl⟩⟩
          rw [← hq.out] at d1
          clear hc hO hll hq hGr
          go_wp2
          go_roundw
          case rel => exact ⟨t + 1, by omega, by go_num, by rw [← fill_next lb t (1 : Int) hlt]; exact HO.out, HG.out⟩
          case measure => simp only [intOf]; omega
      · obtain rfl : t = lb.length := by omega
        have hlt' : ¬ ((lb.length : Int) < (lb.length : Int)) := by omega
        have hO2 : OwnT wr (Value.slice va lb.length vc) (List.replicate lb.length (1 : Int)) := by simpa using hO
        have HO2 := Keep.mk hO2
        have HGr := Keep.mk hGr
        clear hO hGr hO2
        obtain ⟨wL, rfl⟩ : ∃ wL, wL = wr := ⟨_, rfl⟩
        go_wp2
        go_loopw [7, 8] (fun b i wx => ∃ (t : Nat) (g : Value), t ≤ 60 ∧ b = g ∧ i = .int .i64 t ∧ G2 wL (Value.slice va lb.length vc) g lb.length t (1 : Int) wx) (fun _ i _ => 60 - (intOf i).toNat)
        case atStart => exact ⟨0, _, by omega, rfl, rfl, HO2.out, HO2.out.row, fun k hk => HO2.out.typ hk, .inl rfl, Grown.refl _ _⟩
        case round =>
          obtain ⟨t, g, ht, hbg, rfl, hG⟩ := hrel
          have hbg2 := hbg.symm
          subst hbg2
          clear hbg
          obtain ⟨wx, rfl⟩ : ∃ wx, wx = wr := ⟨_, rfl⟩
          by_cases hlt : t < 60
          · have hlt2 : (t : Int) < 60 := by omega
            have HO3 := Keep.mk (hG.own.box (.cells #[.int .u8 (1 : Int)] 5))
            have hlen : Keep ((List.replicate (lb.length + t) (1 : Int)).length + 1 ≤ 140737488355328) := ⟨by have := HB.out; rw [List.length_replicate]; omega⟩
            have HG := Keep.mk hG
            clear hG
            go_wp2_with (first | (at_builtin; refine wpList_appT rfl (.tmp 72) (.tmp 74) rfl _ (List.replicate (lb.length + t) (1 : Int)) wx.heap.size (1 : Int) rfl rfl HO3.out (cell_one wx _ _) hlen.out ?_; intro v' w' hp; refine Hid.out ?_))
            refine hid_in ?_
            have HN2 := Keep.mk (HG.out.next rfl HO2.out _ hp)
            clear hp
            go_wp2
            go_roundw
            case rel => exact ⟨t + 1, _, by omega, rfl, by go_num, HN2.out⟩
            case measure => simp only [intOf]; omega
          · obtain rfl : t = 60 := by omega
            have hGx : Grown wS wx (fun k => (Value.slice va lb.length vc).ownBlock = some k) := HGr.out.trans hG.gr
            have hLx := HLS.out.grown hGx (fun k hk e => HSep.out k e hk)
            have hkx := hGx.blk HKS.out HVk.out
            have c0 : wx.cell? ⟨kb, off, none⟩ = some (Value.slice none 0 0) := by rw [hkx.cell, hx.g0]
            have HLx := Keep.mk hLx
            have Hkx := Keep.mk hkx
            have HGx := Keep.mk hGx
            have HG := Keep.mk hG
            have hOl := Keep.mk (hLx.l.grown (Grown.alloc wx (.cells #[(Value.slice va lb.length vc)] 36) fun _ => False) fun _ _ h => h)
            have hcc := Keep.mk (show (wx.alloc (.cells #[(Value.slice va lb.length vc)] 36)).cell? ⟨wx.heap.size, 0, none⟩ = some (Value.slice va lb.length vc) by rw [(Blk.new wx 36 #[(Value.slice va lb.length vc)]).cell]; rfl)
            have hbn : Keep (((List.range 0).map A).length + 1 ≤ 4398046511104) := ⟨by simp only [List.length_map, List.length_range]; omega⟩
            clear hG hLx hkx hGx
            go_wp2_with (first | (at_builtin; refine wpList_appV rfl (.tmp 80) (.tmp 82) rfl (Value.slice none 0 0) (Value.slice va lb.length vc) ((List.range 0).map A) wx.heap.size rfl rfl rfl hOl.out hcc.out hbn.out ?_; intro lv2 w4 ho4 hm4 hg4; refine Hid.out ?_))
            refine hid_in ?_
            obtain ⟨a4, n4, k4, rfl⟩ := ho4.sl3
            have hk4 : Blk w4 kb T (kx (Value.slice none 0 0) (Value.slice none 0 0) (lb.length : Int)) := hg4.blk (Hkx.out.alloc _) (hOl.out.ne (Hkx.out.alloc _) hT36)
            have hk5 : Blk (w4.setCell ⟨kb, off, none⟩ (.slice a4 n4 k4)) kb T (kx (.slice a4 n4 k4) (Value.slice none 0 0) (lb.length : Int)) := by
              have := hk4.set off (.slice a4 n4 k4)
              rwa [hx.s0] at this
            have hg5 : Grown wx (w4.setCell ⟨kb, off, none⟩ (.slice a4 n4 k4)) (fun k => k = kb ∨ (Value.slice none 0 0).ownBlock = some k) :=
              ((Grown.alloc wx (.cells #[(Value.slice va lb.length vc)] 36) _).next hg4 fun i _ e => .inr e).next (Grown.setCell w4 kb off _ (S := fun k => k = kb) fun _ => rfl) fun i _ e => .inl e
            have ho5 : OwnV (w4.setCell ⟨kb, off, none⟩ (.slice a4 n4 k4)) (.slice a4 n4 k4) ((List.range 0).map A ++ [(Value.slice va lb.length vc)]) :=
              ho4.grown (Grown.setCell w4 kb off _ (S := fun k => k = kb) fun _ => rfl) fun k hk e => ho4.ne hk4 hT36 (e ▸ hk)
            have hm5 : Moved wx (Value.slice none 0 0) (.slice a4 n4 k4) := (Moved.refl wx _).trans (Grown.alloc wx (.cells #[(Value.slice va lb.length vc)] 36) fun _ => False).size hm4
            have e5 : (w4.setCell ⟨kb, off, none⟩ (.slice a4 n4 k4)).heap.size = w4.heap.size := by simp [World.setCell]
            have hog5 : OwnV (w4.setCell ⟨kb, off, none⟩ (.slice a4 n4 k4)) (Value.slice none 0 0) ((List.range 0).map B) :=
              HLx.out.g.grown hg5 fun k hk e => by
                rcases e with e | e
                · exact HLx.out.g.ne Hkx.out hT36 (e ▸ hk)
                · exact HLx.out.ne k e hk
            have d0 : w4.cell? ⟨kb, off, none⟩ = some (Value.slice none 0 0) := by rw [hk4.cell, hx.g0]
            have d0f := hk4.frozen off
            have d1 : w4.cell? ⟨kb, off + 1, none⟩ = some (Value.slice none 0 0) := by rw [hk4.cell, hx.g1]
            have Hk5 := Keep.mk hk5
            have Hg5 := Keep.mk hg5
            have Ho5 := Keep.mk ho5
            have Hm5 := Keep.mk hm5
            obtain ⟨gA, gN, gC, hgv⟩ : ∃ a n c, g = Value.slice a n c := HG.out.own.sl
            subst hgv
            have hOg := Keep.mk (hog5.grown (Grown.alloc _ (.cells #[Value.slice gA gN gC] 36) fun _ => False) fun _ _ h => h)
            have hcg := (Blk.new (w4.setCell ⟨kb, off, none⟩ (.slice a4 n4 k4)) 36 #[Value.slice gA gN gC]).cell 0
            rw [e5] at hcg
            have Hcg := Keep.mk (hcg.trans (show (#[Value.slice gA gN gC] : Array Value)[0]? = some (Value.slice gA gN gC) from rfl))
            have hbn2 : Keep (((List.range 0).map B).length + 1 ≤ 4398046511104) := ⟨by simp only [List.length_map, List.length_range]; omega⟩
            clear ho4 hm4 hg4 hk4 hk5 hg5 ho5 hm5 hog5 hcg e5 c0
            go_wp2_with (first | (at_builtin; refine wpList_appV rfl (.tmp 90) (.tmp 92) rfl (Value.slice none 0 0) (.slice gA gN gC) ((List.range 0).map B) w4.heap.size rfl rfl rfl hOg.out Hcg.out hbn2.out ?_; intro gv2 w6 ho6 hm6 hg6; refine Hid.out ?_))
            refine hid_in ?_
            obtain ⟨w5, hw5⟩ : ∃ w5, Keep (w5 = w4.setCell ⟨kb, off, none⟩ (.slice a4 n4 k4)) := ⟨_, ⟨rfl⟩⟩
            rw [← hw5.out] at hm6 hg6 Hk5 Hg5 Ho5 hOg
            obtain ⟨a6, n6, k6, rfl⟩ := ho6.sl3
            have hk6 : Blk w6 kb T (kx (.slice a4 n4 k4) (Value.slice none 0 0) (lb.length : Int)) := hg6.blk (Hk5.out.alloc _) (hOg.out.ne (Hk5.out.alloc _) hT36)
            have hk7 : Blk (w6.setCell ⟨kb, off + 1, none⟩ (.slice a6 n6 k6)) kb T (kx (.slice a4 n4 k4) (.slice a6 n6 k6) (lb.length : Int)) := by
              have := hk6.set (off + 1) (.slice a6 n6 k6)
              rwa [hx.s1] at this
            have hg7 : Grown w5 (w6.setCell ⟨kb, off + 1, none⟩ (.slice a6 n6 k6)) (fun k => k = kb ∨ (Value.slice none 0 0).ownBlock = some k) :=
              ((Grown.alloc w5 (.cells #[Value.slice gA gN gC] 36) _).next hg6 fun i _ e => .inr e).next (Grown.setCell w6 kb (off + 1) _ (S := fun k => k = kb) fun _ => rfl) fun i _ e => .inl e
            have ho7 : OwnV (w6.setCell ⟨kb, off + 1, none⟩ (.slice a6 n6 k6)) (.slice a6 n6 k6) ((List.range 0).map B ++ [.slice gA gN gC]) :=
              ho6.grown (Grown.setCell w6 kb (off + 1) _ (S := fun k => k = kb) fun _ => rfl) fun k hk e => ho6.ne hk6 hT36 (e ▸ hk)
            have hm7 : Moved w5 (Value.slice none 0 0) (.slice a6 n6 k6) := (Moved.refl w5 _).trans (Grown.alloc w5 (.cells #[Value.slice gA gN gC] 36) fun _ => False).size hm6
            have d6 : w6.cell? ⟨kb, off + 1, none⟩ = some (Value.slice none 0 0) := by rw [hk6.cell, hx.g1]
            have d6f := hk6.frozen (off + 1)
            have Hk7 := Keep.mk hk7
            have Hg7 := Keep.mk hg7
            have Ho7 := Keep.mk ho7
            have Hm7 := Keep.mk hm7
            clear ho6 hm6 hg6 hk6 hk7 hg7 ho7 hm7 d0 d0f d1
            go_wp2
            go_end0
            have hsz : w.heap.size ≤ wL.heap.size := Nat.le_trans HGS.out.size HGr.out.size
            have hszx : wL.heap.size ≤ wx.heap.size := HG.out.gr.size
            have hvw : ∀ k, (Value.slice va lb.length vc).ownBlock = some k → k < wL.heap.size := fun k hk => HO2.out.lt k hk
            refine ⟨rfl, ⟨_, _, 0 + 1, _, _, (lb.length : Int), Hk7.out, HLx.out.push Hkx.out Hk5.out hT5 hT36 Ho5.out Hm5.out Hg5.out Ho7.out Hm7.out Hg7.out ⟨lb.length, by rw [← hmm.out]; exact HG.out.row, by omega⟩ ⟨lb.length + 60, by rw [← hmm.out]; exact HG.out.own.row, HB.out⟩ ?_ (fun k hk => HG.out.own.typ hk) (fun k hk => .inl hk) (fun k h1 h2 => .inr (.inr ⟨by omega, h2⟩)) (fun k hk => .inr (.inl hk)) ?_, by omega, ?_, ?_⟩, ?_⟩
            · exact HG.out.typ
            · intro k hk
              rcases HG.out.pos with h5 | ⟨k5, h5, h6⟩
              · exact .inr (.inl (h5.symm.trans hk))
              · rw [h5] at hk; injection hk with hk
                have := HG.out.own.lt k (by rw [h5, hk])
                have h8 := Hg5.out.size
                have h9 := Hg7.out.size
                exact .inr (.inr ⟨by omega, by omega⟩)
            · omega
            · have := HB.out; omega
            · have hA : Grown w wx (fun k => k = kb ∨ F k ∨ (Value.slice va lb.length vc).ownBlock = some k) := (HGS.out.mono fun i _ e => Or.inl e).next HGx.out fun i _ e => .inr (.inr e)
              refine (hA.next Hg5.out fun i _ e => ?_).next Hg7.out fun i _ e => ?_
              · rcases e with e | e
                · exact .inl e
                · exact .inr (.inl (HLx.out.F1 i e))
              · rcases e with e | e
                · exact .inl e
                · exact .inr (.inl (HLx.out.F2 i e))
  · by_cases h2 : (16777216 : Int) ≤ n + (lb.length : Int)
    · have HK1 := Keep.mk hk1
      have HL1 := Keep.mk hL1
      have Hv1 := Keep.mk hv1
      have HG1 := Keep.mk hG1
      have HSep := Keep.mk hsep
      have HVk := Keep.mk hvk
      clear hk1 hL1 hv1 hG1 hsep hvk
      go_enter Try.func16, Try.ntmps16
      go_wp2_with fail
      generalize w.setCell ⟨kb, off + 2, none⟩ (.int .i64 (n + lb.length)) = w1 at *
      clear c0 c1 c2 f2
      refine (stays_any kb off T kx hx _ _ N A B _ F w1 HK1.out HL1.out (by omega)).mono ?_
      rintro e w2 ⟨rfl, hw2⟩
      rw [hw2]
      clear hw2
      have c0 : w1.cell? ⟨kb, off, none⟩ = some (.slice la N lc) := by rw [HK1.out.cell, hx.g0]
      have c1 : w1.cell? ⟨kb, off + 1, none⟩ = some (.slice ga N gc) := by rw [HK1.out.cell, hx.g1]
      have c2 : w1.cell? ⟨kb, off + 2, none⟩ = some (.int .i64 (n + lb.length)) := by rw [HK1.out.cell, hx.g2]
      have c3 : w1.cell? ⟨kb, off + 3, none⟩ = some (.bool false) := by rw [HK1.out.cell, hx.g3]
      have f0 := HK1.out.frozen off
      have f1 := HK1.out.frozen (off + 1)
      have f2 := HK1.out.frozen (off + 2)
      have f3 := HK1.out.frozen (off + 3)
      have hkS : Blk ((((w1.setCell ⟨kb, off + 3, none⟩ (.bool false)).setCell ⟨kb, off, none⟩ (.slice none 0 0)).setCell ⟨kb, off + 1, none⟩ (.slice none 0 0)).setCell ⟨kb, off + 2, none⟩ (.int .i64 (lb.length : Int))) kb T (kx (.slice none 0 0) (.slice none 0 0) (lb.length : Int)) := by
        have := (((HK1.out.set (off + 3) (.bool false)).set off (.slice none 0 0)).set (off + 1) (.slice none 0 0)).set (off + 2) (.int .i64 (lb.length : Int))
        rwa [hx.s3, hx.s0, hx.s1, hx.s2] at this
      have hG2 : Grown w1 ((((w1.setCell ⟨kb, off + 3, none⟩ (.bool false)).setCell ⟨kb, off, none⟩ (.slice none 0 0)).setCell ⟨kb, off + 1, none⟩ (.slice none 0 0)).setCell ⟨kb, off + 2, none⟩ (.int .i64 (lb.length : Int))) (fun k => k = kb) := (((Grown.setCell w1 kb (off + 3) _ (S := fun k => k = kb) fun _ => rfl).trans (Grown.setCell _ kb off _ fun _ => rfl)).trans (Grown.setCell _ kb (off + 1) _ fun _ => rfl)).trans (Grown.setCell _ kb (off + 2) _ fun _ => rfl)
      have HKS := Keep.mk hkS
      have HvS := Keep.mk (Hv1.out.grown hG2 (fun k hk e => HVk.out (e ▸ hk)))
      have HGS := Keep.mk (HG1.out.trans hG2)
      have HLS := Keep.mk (BkL.nil ((((w1.setCell ⟨kb, off + 3, none⟩ (.bool false)).setCell ⟨kb, off, none⟩ (.slice none 0 0)).setCell ⟨kb, off + 1, none⟩ (.slice none 0 0)).setCell ⟨kb, off + 2, none⟩ (.int .i64 (lb.length : Int))) A B F)
      clear hkS hG2
      go_wp2
      generalize (((w1.setCell ⟨kb, off + 3, none⟩ (.bool false)).setCell ⟨kb, off, none⟩ (.slice none 0 0)).setCell ⟨kb, off + 1, none⟩ (.slice none 0 0)).setCell ⟨kb, off + 2, none⟩ (.int .i64 (lb.length : Int)) = wS at *
      clear c0 c1 c2 c3 f0 f1 f2 f3
      have hmm : Keep ((1 : Int) = mark 0) := ⟨by decide⟩
      go_loopw [6] (fun i wr => ∃ t : Nat, t ≤ lb.length ∧ i = .int .i64 t ∧ OwnT wr (Value.slice va lb.length vc) (List.replicate t (1 : Int) ++ lb.drop t) ∧ Grown wS wr (fun k => (Value.slice va lb.length vc).ownBlock = some k)) (fun i _ => lb.length - (intOf i).toNat)
      case atStart => exact ⟨0, by omega, rfl, by simpa using HvS.out, Grown.refl _ _⟩
      case round =>
        obtain ⟨t, ht, rfl, hO, hGr⟩ := hrel
        by_cases hlt : t < lb.length
        · have hlt' : (t : Int) < (lb.length : Int) := by omega
          have hll : (List.replicate t (1 : Int) ++ lb.drop t).length = lb.length := by simp; omega
          obtain ⟨g, e1⟩ := hO.addr (by rw [hll]; omega)
          · subst e1
            have hc := hO.cells t (by rw [hll]; exact hlt)
            have d1 := hc.1
            have d2 := hc.2
            have HO := Keep.mk (hO.set t (1 : Int))
            have HG := Keep.mk (hGr.trans (Grown.setCell wr g t (.int .u8 (1 : Int)) (S := fun k => (Value.slice (some ⟨g, 0, none⟩) lb.length vc).ownBlock = some k) fun _ => rfl))
            obtain ⟨q, hq⟩ : ∃ q, Keep (q = (List.replicate t (1 : Int) ++ lb.drop t).getD t 0) := ⟨_, ⟨rfl⟩⟩
            rw [← hq.out] at d1
            clear hc hO hll hq hGr
            go_wp2
            go_roundw
            case rel => exact ⟨t + 1, by omega, by go_num, by rw [← fill_next lb t (1 : Int) hlt]; exact HO.out, HG.out⟩
            case measure => simp only [intOf]; omega
        · obtain rfl : t = lb.length := by omega
          have hlt' : ¬ ((lb.length : Int) < (lb.length : Int)) := by omega
          have hO2 : OwnT wr (Value.slice va lb.length vc) (List.replicate lb.length (1 : Int)) := by simpa using hO
          have HO2 := Keep.mk hO2
          have HGr := Keep.mk hGr
          clear hO hGr hO2
          obtain ⟨wL, rfl⟩ : ∃ wL, wL = wr := ⟨_, rfl⟩
          go_wp2
          go_loopw [7, 8] (fun b i wx => ∃ (t : Nat) (g : Value), t ≤ 60 ∧ b = g ∧ i = .int .i64 t ∧ G2 wL (Value.slice va lb.length vc) g lb.length t (1 : Int) wx) (fun _ i _ => 60 - (intOf i).toNat)
          case atStart => exact ⟨0, _, by omega, rfl, rfl, HO2.out, HO2.out.row, fun k hk => HO2.out.typ hk, .inl rfl, Grown.refl _ _⟩
          case round =>
            obtain ⟨t, g, ht, hbg, rfl, hG⟩ := hrel
            have hbg2 := hbg.symm
            subst hbg2
            clear hbg
            obtain ⟨wx, rfl⟩ : ∃ wx, wx = wr := ⟨_, rfl⟩
            by_cases hlt : t < 60
            · have hlt2 : (t : Int) < 60 := by omega
              have HO3 := Keep.mk (hG.own.box (.cells #[.int .u8 (1 : Int)] 5))
              have hlen : Keep ((List.replicate (lb.length + t) (1 : Int)).length + 1 ≤ 140737488355328) := ⟨by have := HB.out; rw [List.length_replicate]; omega⟩
              have HG := Keep.mk hG
              clear hG
              go_wp2_with (first | (at_builtin; refine wpList_appT rfl (.tmp 72) (.tmp 74) rfl _ (List.replicate (lb.length + t) (1 : Int)) wx.heap.size (1 : Int) rfl rfl HO3.out (cell_one wx _ _) hlen.out ?_; intro v' w' hp; refine Hid.out ?_))
              refine hid_in ?_
              have HN2 := Keep.mk (HG.out.next rfl HO2.out _ hp)
              clear hp
              go_wp2
              go_roundw
              case rel => exact ⟨t + 1, _, by omega, rfl, by go_num, HN2.out⟩
              case measure => simp only [intOf]; omega
            · obtain rfl : t = 60 := by omega
              have hGx : Grown wS wx (fun k => (Value.slice va lb.length vc).ownBlock = some k) := HGr.out.trans hG.gr
              have hLx := HLS.out.grown hGx (fun k hk e => HSep.out k e hk)
              have hkx := hGx.blk HKS.out HVk.out
              have c0 : wx.cell? ⟨kb, off, none⟩ = some (Value.slice none 0 0) := by rw [hkx.cell, hx.g0]
              have HLx := Keep.mk hLx
              have Hkx := Keep.mk hkx
              have HGx := Keep.mk hGx
              have HG := Keep.mk hG
              have hOl := Keep.mk (hLx.l.grown (Grown.alloc wx (.cells #[(Value.slice va lb.length vc)] 36) fun _ => False) fun _ _ h => h)
              have hcc := Keep.mk (show (wx.alloc (.cells #[(Value.slice va lb.length vc)] 36)).cell? ⟨wx.heap.size, 0, none⟩ = some (Value.slice va lb.length vc) by rw [(Blk.new wx 36 #[(Value.slice va lb.length vc)]).cell]; rfl)
              have hbn : Keep (((List.range 0).map A).length + 1 ≤ 4398046511104) := ⟨by simp only [List.length_map, List.length_range]; omega⟩
              clear hG hLx hkx hGx
              go_wp2_with (first | (at_builtin; refine wpList_appV rfl (.tmp 80) (.tmp 82) rfl (Value.slice none 0 0) (Value.slice va lb.length vc) ((List.range 0).map A) wx.heap.size rfl rfl rfl hOl.out hcc.out hbn.out ?_; intro lv2 w4 ho4 hm4 hg4; refine Hid.out ?_))
              refine hid_in ?_
              obtain ⟨a4, n4, k4, rfl⟩ := ho4.sl3
              have hk4 : Blk w4 kb T (kx (Value.slice none 0 0) (Value.slice none 0 0) (lb.length : Int)) := hg4.blk (Hkx.out.alloc _) (hOl.out.ne (Hkx.out.alloc _) hT36)
              have hk5 : Blk (w4.setCell ⟨kb, off, none⟩ (.slice a4 n4 k4)) kb T (kx (.slice a4 n4 k4) (Value.slice none 0 0) (lb.length : Int)) := by
                have := hk4.set off (.slice a4 n4 k4)
                rwa [hx.s0] at this
              have hg5 : Grown wx (w4.setCell ⟨kb, off, none⟩ (.slice a4 n4 k4)) (fun k => k = kb ∨ (Value.slice none 0 0).ownBlock = some k) :=
                ((Grown.alloc wx (.cells #[(Value.slice va lb.length vc)] 36) _).next hg4 fun i _ e => .inr e).next (Grown.setCell w4 kb off _ (S := fun k => k = kb) fun _ => rfl) fun i _ e => .inl e
              have ho5 : OwnV (w4.setCell ⟨kb, off, none⟩ (.slice a4 n4 k4)) (.slice a4 n4 k4) ((List.range 0).map A ++ [(Value.slice va lb.length vc)]) :=
                ho4.grown (Grown.setCell w4 kb off _ (S := fun k => k = kb) fun _ => rfl) fun k hk e => ho4.ne hk4 hT36 (e ▸ hk)
              have hm5 : Moved wx (Value.slice none 0 0) (.slice a4 n4 k4) := (Moved.refl wx _).trans (Grown.alloc wx (.cells #[(Value.slice va lb.length vc)] 36) fun _ => False).size hm4
              have e5 : (w4.setCell ⟨kb, off, none⟩ (.slice a4 n4 k4)).heap.size = w4.heap.size := by simp [World.setCell]
              have hog5 : OwnV (w4.setCell ⟨kb, off, none⟩ (.slice a4 n4 k4)) (Value.slice none 0 0) ((List.range 0).map B) :=
                HLx.out.g.grown hg5 fun k hk e => by
                  rcases e with e | e
                  · exact HLx.out.g.ne Hkx.out hT36 (e ▸ hk)
                  · exact HLx.out.ne k e hk
              have d0 : w4.cell? ⟨kb, off, none⟩ = some (Value.slice none 0 0) := by rw [hk4.cell, hx.g0]
              have d0f := hk4.frozen off
              have d1 : w4.cell? ⟨kb, off + 1, none⟩ = some (Value.slice none 0 0) := by rw [hk4.cell, hx.g1]
              have Hk5 := Keep.mk hk5
              have Hg5 := Keep.mk hg5
              have Ho5 := Keep.mk ho5
              have Hm5 := Keep.mk hm5
              obtain ⟨gA, gN, gC, hgv⟩ : ∃ a n c, g = Value.slice a n c := HG.out.own.sl
              subst hgv
              have hOg := Keep.mk (hog5.grown (Grown.alloc _ (.cells #[Value.slice gA gN gC] 36) fun _ => False) fun _ _ h => h)
              have hcg := (Blk.new (w4.setCell ⟨kb, off, none⟩ (.slice a4 n4 k4)) 36 #[Value.slice gA gN gC]).cell 0
              rw [e5] at hcg
              have Hcg := Keep.mk (hcg.trans (show (#[Value.slice gA gN gC] : Array Value)[0]? = some (Value.slice gA gN gC) from rfl))
              have hbn2 : Keep (((List.range 0).map B).length + 1 ≤ 4398046511104) := ⟨by simp only [List.length_map, List.length_range]; omega⟩
              clear ho4 hm4 hg4 hk4 hk5 hg5 ho5 hm5 hog5 hcg e5 c0
              go_wp2_with (first | (at_builtin; refine wpList_appV rfl (.tmp 90) (.tmp 92) rfl (Value.slice none 0 0) (.slice gA gN gC) ((List.range 0).map B) w4.heap.size rfl rfl rfl hOg.out Hcg.out hbn2.out ?_; intro gv2 w6 ho6 hm6 hg6; refine Hid.out ?_))
              refine hid_in ?_
              obtain ⟨w5, hw5⟩ : ∃ w5, Keep (w5 = w4.setCell ⟨kb, off, none⟩ (.slice a4 n4 k4)) := ⟨_, ⟨rfl⟩⟩
              rw [← hw5.out] at hm6 hg6 Hk5 Hg5 Ho5 hOg
              obtain ⟨a6, n6, k6, rfl⟩ := ho6.sl3
              have hk6 : Blk w6 kb T (kx (.slice a4 n4 k4) (Value.slice none 0 0) (lb.length : Int)) := hg6.blk (Hk5.out.alloc _) (hOg.out.ne (Hk5.out.alloc _) hT36)
              have hk7 : Blk (w6.setCell ⟨kb, off + 1, none⟩ (.slice a6 n6 k6)) kb T (kx (.slice a4 n4 k4) (.slice a6 n6 k6) (lb.length : Int)) := by
                have := hk6.set (off + 1) (.slice a6 n6 k6)
                rwa [hx.s1] at this
              have hg7 : Grown w5 (w6.setCell ⟨kb, off + 1, none⟩ (.slice a6 n6 k6)) (fun k => k = kb ∨ (Value.slice none 0 0).ownBlock = some k) :=
                ((Grown.alloc w5 (.cells #[Value.slice gA gN gC] 36) _).next hg6 fun i _ e => .inr e).next (Grown.setCell w6 kb (off + 1) _ (S := fun k => k = kb) fun _ => rfl) fun i _ e => .inl e
              have ho7 : OwnV (w6.setCell ⟨kb, off + 1, none⟩ (.slice a6 n6 k6)) (.slice a6 n6 k6) ((List.range 0).map B ++ [.slice gA gN gC]) :=
                ho6.grown (Grown.setCell w6 kb (off + 1) _ (S := fun k => k = kb) fun _ => rfl) fun k hk e => ho6.ne hk6 hT36 (e ▸ hk)
              have hm7 : Moved w5 (Value.slice none 0 0) (.slice a6 n6 k6) := (Moved.refl w5 _).trans (Grown.alloc w5 (.cells #[Value.slice gA gN gC] 36) fun _ => False).size hm6
              have d6 : w6.cell? ⟨kb, off + 1, none⟩ = some (Value.slice none 0 0) := by rw [hk6.cell, hx.g1]
              have d6f := hk6.frozen (off + 1)
              have Hk7 := Keep.mk hk7
              have Hg7 := Keep.mk hg7
              have Ho7 := Keep.mk ho7
              have Hm7 := Keep.mk hm7
              clear ho6 hm6 hg6 hk6 hk7 hg7 ho7 hm7 d0 d0f d1
              go_wp2
              go_end0
              have hsz : w.heap.size ≤ wL.heap.size := Nat.le_trans HGS.out.size HGr.out.size
              have hszx : wL.heap.size ≤ wx.heap.size := HG.out.gr.size
              have hvw : ∀ k, (Value.slice va lb.length vc).ownBlock = some k → k < wL.heap.size := fun k hk => HO2.out.lt k hk
              refine ⟨rfl, ⟨_, _, 0 + 1, _, _, (lb.length : Int), Hk7.out, HLx.out.push Hkx.out Hk5.out hT5 hT36 Ho5.out Hm5.out Hg5.out Ho7.out Hm7.out Hg7.out ⟨lb.length, by rw [← hmm.out]; exact HG.out.row, by omega⟩ ⟨lb.length + 60, by rw [← hmm.out]; exact HG.out.own.row, HB.out⟩ ?_ (fun k hk => HG.out.own.typ hk) (fun k hk => .inl hk) (fun k h1 h2 => .inr (.inr ⟨by omega, h2⟩)) (fun k hk => .inr (.inl hk)) ?_, by omega, ?_, ?_⟩, ?_⟩
              · exact HG.out.typ
              · intro k hk
                rcases HG.out.pos with h5 | ⟨k5, h5, h6⟩
                · exact .inr (.inl (h5.symm.trans hk))
                · rw [h5] at hk; injection hk with hk
                  have := HG.out.own.lt k (by rw [h5, hk])
                  have h8 := Hg5.out.size
                  have h9 := Hg7.out.size
                  exact .inr (.inr ⟨by omega, by omega⟩)
              · omega
              · have := HB.out; omega
              · have hA : Grown w wx (fun k => k = kb ∨ F k ∨ (Value.slice va lb.length vc).ownBlock = some k) := (HGS.out.mono fun i _ e => Or.inl e).next HGx.out fun i _ e => .inr (.inr e)
                refine (hA.next Hg5.out fun i _ e => ?_).next Hg7.out fun i _ e => ?_
                · rcases e with e | e
                  · exact .inl e
                  · exact .inr (.inl (HLx.out.F1 i e))
                · rcases e with e | e
                  · exact .inl e
                  · exact .inr (.inl (HLx.out.F2 i e))

    · have HKS := Keep.mk hk1
      have HLS := Keep.mk hL1
      have HvS := Keep.mk hv1
      have HGS := Keep.mk hG1
      have HSep := Keep.mk hsep
      have HVk := Keep.mk hvk
      clear hk1 hL1 hv1 hG1 hsep hvk
      go_enter Try.func16, Try.ntmps16
      go_wp2
      generalize w.setCell ⟨kb, off + 2, none⟩ (.int .i64 (n + lb.length)) = wS at *
      have hm : 1 + (N : Int) % 250 = mark N := by unfold mark; omega
      have hm1 : 0 ≤ mark N := by unfold mark; omega
      have hm2 : mark N < 256 := by unfold mark; omega
      obtain ⟨mm, hmm⟩ : ∃ mm, Keep (mm = mark N) := ⟨_, ⟨rfl⟩⟩
      rw [← hmm.out] at hm hm1 hm2
      go_loopw [6] (fun i wr => ∃ t : Nat, t ≤ lb.length ∧ i = .int .i64 t ∧ OwnT wr (Value.slice va lb.length vc) (List.replicate t mm ++ lb.drop t) ∧ Grown wS wr (fun k => (Value.slice va lb.length vc).ownBlock = some k)) (fun i _ => lb.length - (intOf i).toNat)
      case atStart => exact ⟨0, by omega, rfl, by simpa using HvS.out, Grown.refl _ _⟩
      case round =>
        obtain ⟨t, ht, rfl, hO, hGr⟩ := hrel
        by_cases hlt : t < lb.length
        · have hlt' : (t : Int) < (lb.length : Int) := by omega
          have hll : (List.replicate t mm ++ lb.drop t).length = lb.length := by simp; omega
          obtain ⟨g, e1⟩ := hO.addr (by rw [hll]; omega)
          · subst e1
            have hc := hO.cells t (by rw [hll]; exact hlt)
            have d1 := hc.1
            have d2 := hc.2
            have HO := Keep.mk (hO.set t mm)
            have HG := Keep.mk (hGr.trans (Grown.setCell wr g t (.int .u8 mm) (S := fun k => (Value.slice (some ⟨g, 0, none⟩) lb.length vc).ownBlock = some k) fun _ => rfl))
            obtain ⟨q, hq⟩ : ∃ q, Keep (q = (List.replicate t mm ++ lb.drop t).getD t 0) := ⟨_, ⟨rfl⟩⟩
            rw [← hq.out] at d1
            clear hc hO hll hq hGr
            go_wp2
            go_roundw
            case rel => exact ⟨t + 1, by omega, by go_num, by rw [← fill_next lb t mm hlt]; exact HO.out, HG.out⟩
            case measure => simp only [intOf]; omega
        · obtain rfl : t = lb.length := by omega
          have hlt' : ¬ ((lb.length : Int) < (lb.length : Int)) := by omega
          have hO2 : OwnT wr (Value.slice va lb.length vc) (List.replicate lb.length mm) := by simpa using hO
          have HO2 := Keep.mk hO2
          have HGr := Keep.mk hGr
          clear hO hGr hO2
          obtain ⟨wL, rfl⟩ : ∃ wL, wL = wr := ⟨_, rfl⟩
          go_wp2
          go_loopw [7, 8] (fun b i wx => ∃ (t : Nat) (g : Value), t ≤ 60 ∧ b = g ∧ i = .int .i64 t ∧ G2 wL (Value.slice va lb.length vc) g lb.length t mm wx) (fun _ i _ => 60 - (intOf i).toNat)
          case atStart => exact ⟨0, _, by omega, rfl, rfl, HO2.out, HO2.out.row, fun k hk => HO2.out.typ hk, .inl rfl, Grown.refl _ _⟩
          case round =>
            obtain ⟨t, g, ht, hbg, rfl, hG⟩ := hrel
            have hbg2 := hbg.symm
            subst hbg2
            clear hbg
            obtain ⟨wx, rfl⟩ : ∃ wx, wx = wr := ⟨_, rfl⟩
            by_cases hlt : t < 60
            · have hlt2 : (t : Int) < 60 := by omega
              have HO3 := Keep.mk (hG.own.box (.cells #[.int .u8 mm] 5))
              have hlen : Keep ((List.replicate (lb.length + t) mm).length + 1 ≤ 140737488355328) := ⟨by have := HB.out; rw [List.length_replicate]; omega⟩
              have HG := Keep.mk hG
              clear hG
              go_wp2_with (first | (at_builtin; refine wpList_appT rfl (.tmp 72) (.tmp 74) rfl _ (List.replicate (lb.length + t) mm) wx.heap.size mm rfl rfl HO3.out (cell_one wx _ _) hlen.out ?_; intro v' w' hp; refine Hid.out ?_))
              refine hid_in ?_
              have HN2 := Keep.mk (HG.out.next rfl HO2.out _ hp)
              clear hp
              go_wp2
              go_roundw
              case rel => exact ⟨t + 1, _, by omega, rfl, by go_num, HN2.out⟩
              case measure => simp only [intOf]; omega
            · obtain rfl : t = 60 := by omega
              have hGx : Grown wS wx (fun k => (Value.slice va lb.length vc).ownBlock = some k) := HGr.out.trans hG.gr
              have hLx := HLS.out.grown hGx (fun k hk e => HSep.out k e hk)
              have hkx := hGx.blk HKS.out HVk.out
              have c0 : wx.cell? ⟨kb, off, none⟩ = some (Value.slice la N lc) := by rw [hkx.cell, hx.g0]
              have HLx := Keep.mk hLx
              have Hkx := Keep.mk hkx
              have HGx := Keep.mk hGx
              have HG := Keep.mk hG
              have hOl := Keep.mk (hLx.l.grown (Grown.alloc wx (.cells #[(Value.slice va lb.length vc)] 36) fun _ => False) fun _ _ h => h)
              have hcc := Keep.mk (show (wx.alloc (.cells #[(Value.slice va lb.length vc)] 36)).cell? ⟨wx.heap.size, 0, none⟩ = some (Value.slice va lb.length vc) by rw [(Blk.new wx 36 #[(Value.slice va lb.length vc)]).cell]; rfl)
              have hbn : Keep (((List.range N).map A).length + 1 ≤ 4398046511104) := ⟨by simp only [List.length_map, List.length_range]; omega⟩
              clear hG hLx hkx hGx
              go_wp2_with (first | (at_builtin; refine wpList_appV rfl (.tmp 80) (.tmp 82) rfl (Value.slice la N lc) (Value.slice va lb.length vc) ((List.range N).map A) wx.heap.size rfl rfl rfl hOl.out hcc.out hbn.out ?_; intro lv2 w4 ho4 hm4 hg4; refine Hid.out ?_))
              refine hid_in ?_
              obtain ⟨a4, n4, k4, rfl⟩ := ho4.sl3
              have hk4 : Blk w4 kb T (kx (Value.slice la N lc) (Value.slice ga N gc) (n + lb.length)) := hg4.blk (Hkx.out.alloc _) (hOl.out.ne (Hkx.out.alloc _) hT36)
              have hk5 : Blk (w4.setCell ⟨kb, off, none⟩ (.slice a4 n4 k4)) kb T (kx (.slice a4 n4 k4) (Value.slice ga N gc) (n + lb.length)) := by
                have := hk4.set off (.slice a4 n4 k4)
                rwa [hx.s0] at this
              have hg5 : Grown wx (w4.setCell ⟨kb, off, none⟩ (.slice a4 n4 k4)) (fun k => k = kb ∨ (Value.slice la N lc).ownBlock = some k) :=
                ((Grown.alloc wx (.cells #[(Value.slice va lb.length vc)] 36) _).next hg4 fun i _ e => .inr e).next (Grown.setCell w4 kb off _ (S := fun k => k = kb) fun _ => rfl) fun i _ e => .inl e
              have ho5 : OwnV (w4.setCell ⟨kb, off, none⟩ (.slice a4 n4 k4)) (.slice a4 n4 k4) ((List.range N).map A ++ [(Value.slice va lb.length vc)]) :=
                ho4.grown (Grown.setCell w4 kb off _ (S := fun k => k = kb) fun _ => rfl) fun k hk e => ho4.ne hk4 hT36 (e ▸ hk)
              have hm5 : Moved wx (Value.slice la N lc) (.slice a4 n4 k4) := (Moved.refl wx _).trans (Grown.alloc wx (.cells #[(Value.slice va lb.length vc)] 36) fun _ => False).size hm4
              have e5 : (w4.setCell ⟨kb, off, none⟩ (.slice a4 n4 k4)).heap.size = w4.heap.size := by simp [World.setCell]
              have hog5 : OwnV (w4.setCell ⟨kb, off, none⟩ (.slice a4 n4 k4)) (Value.slice ga N gc) ((List.range N).map B) :=
                HLx.out.g.grown hg5 fun k hk e => by
                  rcases e with e | e
                  · exact HLx.out.g.ne Hkx.out hT36 (e ▸ hk)
                  · exact HLx.out.ne k e hk
              have d0 : w4.cell? ⟨kb, off, none⟩ = some (Value.slice la N lc) := by rw [hk4.cell, hx.g0]
              have d0f := hk4.frozen off
              have d1 : w4.cell? ⟨kb, off + 1, none⟩ = some (Value.slice ga N gc) := by rw [hk4.cell, hx.g1]
              have Hk5 := Keep.mk hk5
              have Hg5 := Keep.mk hg5
              have Ho5 := Keep.mk ho5
              have Hm5 := Keep.mk hm5
              obtain ⟨gA, gN, gC, hgv⟩ : ∃ a n c, g = Value.slice a n c := HG.out.own.sl
              subst hgv
              have hOg := Keep.mk (hog5.grown (Grown.alloc _ (.cells #[Value.slice gA gN gC] 36) fun _ => False) fun _ _ h => h)
              have hcg := (Blk.new (w4.setCell ⟨kb, off, none⟩ (.slice a4 n4 k4)) 36 #[Value.slice gA gN gC]).cell 0
              rw [e5] at hcg
              have Hcg := Keep.mk (hcg.trans (show (#[Value.slice gA gN gC] : Array Value)[0]? = some (Value.slice gA gN gC) from rfl))
              have hbn2 : Keep (((List.range N).map B).length + 1 ≤ 4398046511104) := ⟨by simp only [List.length_map, List.length_range]; omega⟩
              clear ho4 hm4 hg4 hk4 hk5 hg5 ho5 hm5 hog5 hcg e5 c0
              go_wp2_with (first | (at_builtin; refine wpList_appV rfl (.tmp 90) (.tmp 92) rfl (Value.slice ga N gc) (.slice gA gN gC) ((List.range N).map B) w4.heap.size rfl rfl rfl hOg.out Hcg.out hbn2.out ?_; intro gv2 w6 ho6 hm6 hg6; refine Hid.out ?_))
              refine hid_in ?_
              obtain ⟨w5, hw5⟩ : ∃ w5, Keep (w5 = w4.setCell ⟨kb, off, none⟩ (.slice a4 n4 k4)) := ⟨_, ⟨rfl⟩⟩
              rw [← hw5.out] at hm6 hg6 Hk5 Hg5 Ho5 hOg
              obtain ⟨a6, n6, k6, rfl⟩ := ho6.sl3
              have hk6 : Blk w6 kb T (kx (.slice a4 n4 k4) (Value.slice ga N gc) (n + lb.length)) := hg6.blk (Hk5.out.alloc _) (hOg.out.ne (Hk5.out.alloc _) hT36)
              have hk7 : Blk (w6.setCell ⟨kb, off + 1, none⟩ (.slice a6 n6 k6)) kb T (kx (.slice a4 n4 k4) (.slice a6 n6 k6) (n + lb.length)) := by
                have := hk6.set (off + 1) (.slice a6 n6 k6)
                rwa [hx.s1] at this
              have hg7 : Grown w5 (w6.setCell ⟨kb, off + 1, none⟩ (.slice a6 n6 k6)) (fun k => k = kb ∨ (Value.slice ga N gc).ownBlock = some k) :=
                ((Grown.alloc w5 (.cells #[Value.slice gA gN gC] 36) _).next hg6 fun i _ e => .inr e).next (Grown.setCell w6 kb (off + 1) _ (S := fun k => k = kb) fun _ => rfl) fun i _ e => .inl e
              have ho7 : OwnV (w6.setCell ⟨kb, off + 1, none⟩ (.slice a6 n6 k6)) (.slice a6 n6 k6) ((List.range N).map B ++ [.slice gA gN gC]) :=
                ho6.grown (Grown.setCell w6 kb (off + 1) _ (S := fun k => k = kb) fun _ => rfl) fun k hk e => ho6.ne hk6 hT36 (e ▸ hk)
              have hm7 : Moved w5 (Value.slice ga N gc) (.slice a6 n6 k6) := (Moved.refl w5 _).trans (Grown.alloc w5 (.cells #[Value.slice gA gN gC] 36) fun _ => False).size hm6
              have d6 : w6.cell? ⟨kb, off + 1, none⟩ = some (Value.slice ga N gc) := by rw [hk6.cell, hx.g1]
              have d6f := hk6.frozen (off + 1)
              have Hk7 := Keep.mk hk7
              have Hg7 := Keep.mk hg7
              have Ho7 := Keep.mk ho7
              have Hm7 := Keep.mk hm7
              clear ho6 hm6 hg6 hk6 hk7 hg7 ho7 hm7 d0 d0f d1
              go_wp2
              go_end0
              have hsz : w.heap.size ≤ wL.heap.size := Nat.le_trans HGS.out.size HGr.out.size
              have hszx : wL.heap.size ≤ wx.heap.size := HG.out.gr.size
              have hvw : ∀ k, (Value.slice va lb.length vc).ownBlock = some k → k < wL.heap.size := fun k hk => HO2.out.lt k hk
              refine ⟨rfl, ⟨_, _, N + 1, _, _, (n + lb.length), Hk7.out, HLx.out.push Hkx.out Hk5.out hT5 hT36 Ho5.out Hm5.out Hg5.out Ho7.out Hm7.out Hg7.out ⟨lb.length, by rw [← hmm.out]; exact HG.out.row, by omega⟩ ⟨lb.length + 60, by rw [← hmm.out]; exact HG.out.own.row, HB.out⟩ ?_ (fun k hk => HG.out.own.typ hk) (fun k hk => .inl hk) (fun k h1 h2 => .inr (.inr ⟨by omega, h2⟩)) (fun k hk => .inr (.inl hk)) ?_, by omega, ?_, ?_⟩, ?_⟩
              · exact HG.out.typ
              · intro k hk
                rcases HG.out.pos with h5 | ⟨k5, h5, h6⟩
                · exact .inr (.inl (h5.symm.trans hk))
                · rw [h5] at hk; injection hk with hk
                  have := HG.out.own.lt k (by rw [h5, hk])
                  have h8 := Hg5.out.size
                  have h9 := Hg7.out.size
                  exact .inr (.inr ⟨by omega, by omega⟩)
              · have := HN0.out; omega
              · have := HN1.out; omega
              · have hA : Grown w wx (fun k => k = kb ∨ F k ∨ (Value.slice va lb.length vc).ownBlock = some k) := (HGS.out.mono fun i _ e => Or.inl e).next HGx.out fun i _ e => .inr (.inr e)
                refine (hA.next Hg5.out fun i _ e => ?_).next Hg7.out fun i _ e => ?_
                · rcases e with e | e
                  · exact .inl e
                  · exact .inr (.inl (HLx.out.F1 i e))
                · rcases e with e | e
                  · exact .inl e
                  · exact .inr (.inl (HLx.out.F2 i e))
end Go.Proofs.Ytanmbbckkfkhpaa
