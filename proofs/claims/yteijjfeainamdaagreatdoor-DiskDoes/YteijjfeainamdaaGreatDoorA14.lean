import Derived.Test.YteijjfeainamdaaGreatDoorA13
import Derived.Deep.RegionHeld3
import Derived.Lib.Small
namespace Go.Proofs.YteijjfeainamdaaGreatDoor
open Go.RowKit

theorem row_head {w : World} {v g1 : Value} {n k : Nat} {m : Int} {va : Option Addr} {vc : Nat} (hv : v = .slice va n vc) (h0 : ∀ a, va = some a → a.off = 0 ∧ a.spot = none) (hnv : va = none → n = 0 ∧ vc = 0) (hle : n ≤ vc) (h : OwnT w g1 (List.replicate (n + k) m)) (he : g1.ownBlock = v.ownBlock) : RowAt w v (List.replicate n m) := by
 subst hv
 cases va with
 | none => obtain ⟨rfl, rfl⟩ := hnv rfl; exact .inl ⟨rfl, rfl⟩
 | some a =>
  obtain ⟨h1, h2⟩ := h0 a rfl
  obtain ⟨b, o, sp⟩ := a
  simp only at h1 h2
  subst h1 h2
  refine .inr (.inr ⟨b, 0, vc, by simp, by simpa using hle, fun i hi => ?_⟩)
  simp only [List.length_replicate] at hi
  have h5 := h
  rcases h5 with ⟨e, e2⟩ | ⟨g', cap', cur, fz, e, hb, _⟩
  ·have := congrArg List.length e2; simp at this; omega
  ·rw [e] at he h
   simp [Value.ownBlock] at he
   subst he
   have := (h.cells i (by simp; omega)).1
   rw [Nat.zero_add, this]
   simp [List.getD_eq_getElem?_getD, hi, show i < n + k by omega]

def BookIn (kb T : Nat) (kx : Value → Value → Int → Array Value) (F : Nat → Prop) (w : World) : Prop :=
 ∃ lv gv N A B n, Blk w kb T (kx lv gv n) ∧ BkL w lv gv N A B F ∧ N ≤ 20000 ∧ 0 ≤ n ∧ n < 16777216 + 140737488355328
def AddPost (kb T : Nat) (kx : Value → Value → Int → Array Value) (vb : Value) (F : Nat → Prop) (w : World) (e : Ending) (w' : World) : Prop :=
 e = .returned (.tuple #[]) ∧ BookIn kb T kx (fun k => F k ∨ vb.ownBlock = some k ∨ (w.heap.size ≤ k ∧ k < w'.heap.size)) w' ∧ Grown w w' fun k => k = kb ∨ F k ∨ vb.ownBlock = some k
theorem BkL.push {w w5 w7 : World} {lv gv lv2 gv2 u u2 : Value} {N kb T : Nat} {A B : Nat → Value} {F F' : Nat → Prop} {ck ck5 : Array Value} (h : BkL w lv gv N A B F) (hk : Blk w kb T ck) (hk5 : Blk w5 kb T ck5) (hT5 : T ≠ 5) (hT36 : T ≠ 40)
  (o1 : OwnV w5 lv2 ((List.range N).map A ++ [u])) (m1 : Moved w lv lv2) (g1 : Grown w w5 fun k => k = kb ∨ lv.ownBlock = some k)
  (o2 : OwnV w7 gv2 ((List.range N).map B ++ [u2])) (m2 : Moved w5 gv gv2) (g2 : Grown w5 w7 fun k => k = kb ∨ gv.ownBlock = some k)
  (f1 : FullAt w u (mark N)) (f2 : FullAt w u2 (mark N)) (t1 : ∀ k, u.ownBlock = some k → Typ w k 5) (t2 : ∀ k, u2.ownBlock = some k → Typ w k 5)
  (hF : ∀ k, F k → F' k) (hF1 : ∀ k, w.heap.size ≤ k → k < w7.heap.size → F' k) (hu : ∀ k, u.ownBlock = some k → F' k) (hu2 : ∀ k, u2.ownBlock = some k → F' k) :
  BkL w7 lv2 gv2 (N + 1) (updN A N u) (updN B N u2) F' := by
 have nkl : lv.ownBlock ≠ some kb := h.l.ne hk hT36
 have nkg : gv.ownBlock ≠ some kb := h.g.ne hk hT36
 -- a block of bytes of w is one of w7
 have data : ∀ k, Typ w k 5 → ¬ (k = kb ∨ lv.ownBlock = some k) ∧ ¬ (k = kb ∨ gv.ownBlock = some k) := by
  intro k hc
  have a1 : k ≠ kb := hc.ne hk.typ (Ne.symm hT5)
  refine ⟨?_, ?_⟩
  ·rintro (e | e)
   ·exact a1 e
   ·exact absurd (hc.one (h.l.typ e)) (by decide)
  ·rintro (e | e)
   ·exact a1 e
   ·exact absurd (hc.one (h.g.typ e)) (by decide)
 have full7 : ∀ v m, FullAt w v m → (∀ k, v.ownBlock = some k → Typ w k 5) → FullAt w7 v m := fun v m hf ht =>
  (hf.grown g1 fun k hk => (data k (ht k hk)).1).grown g2 fun k hk => (data k (ht k hk)).2
 have blk7 : ∀ k, Typ w k 5 → Typ w7 k 5 := fun k hk => g2.typ (g1.typ hk (data k hk).1) (data k hk).2
 have glt : ∀ k, gv.ownBlock = some k → k < w.heap.size := h.g.lt
 have ne2 : ∀ k, lv2.ownBlock = some k → gv.ownBlock ≠ some k := fun k hk e => by
  have := glt k e
  exact h.ne k (m1.old this hk) e
 have nk2 : lv2.ownBlock ≠ some kb := o1.ne hk5 hT36
 have hs7 : w.heap.size ≤ w7.heap.size := Nat.le_trans g1.size g2.size
 refine ⟨?_, ?_, ?_, ?_, ?_, ?_, ?_, ?_, ?_, ?_, ?_⟩
 ·rw [range_upd]
  exact o1.grown g2 fun k hq e => by
   rcases e with e | e
   ·exact nk2 (e ▸ hq)
   ·exact ne2 k hq e
 ·rw [range_upd]; exact o2
 ·intro i hi
  by_cases e : i = N
  ·subst e; rw [updN_self]; exact full7 _ _ f1 t1
  ·rw [updN_ne _ _ e]; exact full7 _ _ (h.fa i (by omega)) (h.ta i (by omega))
 ·intro i hi
  by_cases e : i = N
  ·subst e; rw [updN_self]; exact full7 _ _ f2 t2
  ·rw [updN_ne _ _ e]; exact full7 _ _ (h.fb i (by omega)) (h.tb i (by omega))
 ·intro k hk
  by_cases hlt : k < w.heap.size
  ·exact hF k (h.F1 k (m1.old hlt hk))
  ·exact hF1 k (by omega) (Nat.lt_of_lt_of_le (o1.lt k hk) g2.size)
 ·intro k hk
  by_cases hlt : k < w.heap.size
  ·exact hF k (h.F2 k (m2.old (Nat.lt_of_lt_of_le hlt g1.size) hk))
  ·exact hF1 k (by omega) (o2.lt k hk)
 ·intro i hi
  by_cases e : i = N
  ·subst e; rw [updN_self]; exact hu
  ·rw [updN_ne _ _ e]; exact fun k hk => hF k (h.F3 i (by omega) k hk)
 ·intro i hi
  by_cases e : i = N
  ·subst e; rw [updN_self]; exact hu2
  ·rw [updN_ne _ _ e]; exact fun k hk => hF k (h.F4 i (by omega) k hk)
 ·intro k hk e
  have hlt := o1.lt k hk
  exact ne2 k hk (m2.old hlt e)
 ·intro i hi
  by_cases e : i = N
  ·subst e; rw [updN_self]; exact fun k hk => blk7 k (t1 k hk)
  ·rw [updN_ne _ _ e]; exact fun k hk => blk7 k (h.ta i (by omega) k hk)
 ·intro i hi
  by_cases e : i = N
  ·subst e; rw [updN_self]; exact fun k hk => blk7 k (t2 k hk)
  ·rw [updN_ne _ _ e]; exact fun k hk => blk7 k (h.tb i (by omega) k hk)

structure G2 (wL : World) (vb g : Value) (n t : Nat) (m : Int) (w : World) : Prop where
 own : OwnT w g (List.replicate (n + t) m)
 row : RowAt w vb (List.replicate n m)
 typ : ∀ k, vb.ownBlock = some k → Typ w k 5
 pos : g.ownBlock = vb.ownBlock ∨ ∃ k, g.ownBlock = some k ∧ wL.heap.size ≤ k
 gr : Grown wL w fun k => vb.ownBlock = some k
theorem G2.next {wL wx w' : World} {vb g v' : Value} {n t : Nat} {m : Int} {va : Option Addr} {vc : Nat} {l0 : List Int} (h : G2 wL vb g n t m wx) (hv : vb = .slice va n vc) (hO : OwnT wL vb l0) (o : Obj) (hp : AppPostT (wx.alloc o) g (List.replicate (n + t) m ++ [m]) v' w') : G2 wL vb v' n (t + 1) m w' := by
 have hO' := hO
 rw [hv] at hO'
 obtain ⟨p1, p2, p3, _⟩ := hO'.plain
 have hown : OwnT w' v' (List.replicate (n + (t + 1)) m) := by
  have e : List.replicate (n + (t + 1)) m = List.replicate (n + t) m ++ [m] := by rw [← Nat.add_assoc, List.replicate_succ']
  rw [e]; exact hp.1
 have hgL : Grown wL (wx.alloc o) fun k => vb.ownBlock = some k := h.gr.next (Grown.alloc wx o fun _ => False) fun _ _ h => h.elim
 have hrow : RowAt (wx.alloc o) vb (List.replicate n m) := h.row.below (below_new wx o)
 have hgr : Grown wL w' fun k => vb.ownBlock = some k := hgL.next hp.grown fun i hi e => by
  rcases h.pos with h1 | ⟨k, h1, h2⟩
  ·rw [← h1]; exact e
  ·rw [h1] at e; injection e with e; omega
 have htyp : ∀ k, vb.ownBlock = some k → Typ (wx.alloc o) k 5 := fun k hk => (Grown.alloc wx o fun _ => False).typ (h.typ k hk) fun h => h
 rcases hp.2 with ⟨e1, g1⟩ | ⟨e1, g1⟩
 ·by_cases hs : g.ownBlock = vb.ownBlock
  ·exact ⟨hown, row_head hv p1 p2 p3 hown (e1.trans hs), fun k hk => hown.typ ((e1.trans hs).trans hk), .inl (e1.trans hs), hgr⟩
  ·refine ⟨hown, hrow.grown g1 fun b hb _ e => hs (e.trans hb.symm), fun k hk => g1.typ (htyp k hk) fun e => hs (e.trans hk.symm), ?_, hgr⟩
   rcases h.pos with h1 | h1
   ·exact absurd h1 hs
   ·rw [e1]; exact .inr h1
 ·exact ⟨hown, hrow.below g1, fun k hk => (Grown.below (S := fun _ => False) g1).typ (htyp k hk) fun h => h, .inr ⟨_, e1, hgL.size⟩, hgr⟩

theorem fill_next (l : List Int) (t : Nat) (m : Int) (h : t < l.length) : (List.replicate t m ++ l.drop t).set t m = List.replicate (t + 1) m ++ l.drop (t + 1) := by
 apply List.ext_getElem?
 intro i
 rw [List.getElem?_set]
 simp only [List.getElem?_append, List.length_append, List.length_replicate, List.length_drop, List.getElem?_replicate, List.getElem?_drop]
 by_cases h1 : t = i
 ·subst h1
  rw [if_pos rfl, if_pos (by omega), if_pos (by omega), if_pos (by omega)]
 ·rw [if_neg h1]
  by_cases h2 : i < t
  ·rw [if_pos h2, if_pos h2, if_pos (by omega), if_pos (by omega)]
  ·rw [if_neg h2, if_neg (by omega), show t + (i - t) = t + 1 + (i - (t + 1)) by omega]

set_option maxRecDepth 8000 in
set_option maxHeartbeats 1000000 in
theorem add_any (kb off T : Nat) (kx : Value → Value → Int → Array Value) (hx : Box off kx) (hT5 : T ≠ 5) (hT36 : T ≠ 40) (lv gv : Value) (N : Nat) (A B : Nat → Value) (n : Int) (F : Nat → Prop) (vb : Value) (lb : List Int) (w : World)
  (hk : Blk w kb T (kx lv gv n)) (h : BkL w lv gv N A B F) (hN : N ≤ 20000) (hn0 : 0 ≤ n) (hn1 : n < 16777216 + 140737488355328) (hF : ¬ F kb) (hvb : OwnT w vb lb) (hsep : ∀ k, vb.ownBlock = some k → ¬ F k) (hb : lb.length + 60 ≤ 140737488355328) :
  Calls Tryz.prog 38 #[.pointer (some ⟨kb, off, none⟩), vb] w (AddPost kb T kx vb F w) := by
 obtain ⟨la, lc, e1⟩ := h.l.sl
 obtain ⟨ga, gc, e2⟩ := h.g.sl
 simp only [List.length_map, List.length_range] at e1 e2
 subst e1 e2
 obtain ⟨va, vc, e3⟩ := row_form hvb.row
 subst e3
 have hvk : (Value.slice va lb.length vc).ownBlock ≠ some kb := hvb.ne hk hT5
 have c0 : w.cell? ⟨kb, off, none⟩ = some (.slice la N lc) := by rw [hk.cell, hx.g0]
 have c1 : w.cell? ⟨kb, off + 1, none⟩ = some (.slice ga N gc) := by rw [hk.cell, hx.g1]
 have c2 : w.cell? ⟨kb, off + 2, none⟩ = some (.int .i64 n) := by rw [hk.cell, hx.g2]
 have f2 := hk.frozen (off + 2)
 have hN' : (N : Int) ≤ 20000 := by omega
 have hsm : (lb.length : Int) ≤ 140737488355328 := by omega
 have hk1 : Blk (w.setCell ⟨kb, off + 2, none⟩ (.int .i64 (n + lb.length))) kb T (kx (.slice la N lc) (.slice ga N gc) (n + lb.length)) := by
  have := hk.set (off + 2) (.int .i64 (n + lb.length))
  rwa [hx.s2] at this
 have hG1 : Grown w (w.setCell ⟨kb, off + 2, none⟩ (.int .i64 (n + lb.length))) (fun k => k = kb) := Grown.setCell _ _ _ _ fun _ => rfl
 have hL1 := h.grown hG1 (fun k hk e => hF (e ▸ hk))
 have hv1 := hvb.grown hG1 (fun k hk e => hvk (e ▸ hk))
 have HN0 := Keep.mk hn0
 have HN1 := Keep.mk hn1
 have HB := Keep.mk hb
 have hn2 : n ≤ 140737505132544 := by omega
 have hnn : wrap64 (n + lb.length) = n + lb.length := by unfold wrap64; omega
 clear h hk hb hvb hn1 hN
 by_cases h1 : (20000 : Int) ≤ (N : Int)
 ·have HK1 := Keep.mk hk1
  have HL1 := Keep.mk hL1
  have Hv1 := Keep.mk hv1
  have HG1 := Keep.mk hG1
  have HSep := Keep.mk hsep
  have HVk := Keep.mk hvk
  clear hk1 hL1 hv1 hG1 hsep hvk
  go_enter Tryz.func38, Tryz.ntmps38
  go_wp2_with fail
  generalize w.setCell ⟨kb, off + 2, none⟩ (.int .i64 (n + lb.length)) = w1 at *
  clear c0 c1 c2 f2
  refine (stays_any kb off T kx hx _ _ N A B _ F w1 HK1.out HL1.out (by omega)).mono ?_
  rintro e w2 ⟨rfl, hw2⟩
  rw [hw2]
  clear hw2
  have c0 : w1.cell? ⟨kb, off, none⟩ = some (.slice la N lc) := by rw [HK1.out.cell, hx.g0]
  have c1 : w1.cell? ⟨kb, off + 1, none⟩ = some (.slice ga N gc) := by rw [HK1.out.cell, hx.g1]
  have c2 : w1.cell? ⟨kb, off + 2, none⟩ = some (.int .i64 (n + lb.length)) := by rw [HK1.out.cell, hx.g2]
  have c3 : w1.cell? ⟨kb, off + 3, none⟩ = some (.bool false) := by rw [HK1.out.cell, hx.g3]
  have f0 := HK1.out.frozen off
  have f1 := HK1.out.frozen (off + 1)
  have f2 := HK1.out.frozen (off + 2)
  have f3 := HK1.out.frozen (off + 3)
  have hkS : Blk ((((w1.setCell ⟨kb, off + 3, none⟩ (.bool false)).setCell ⟨kb, off, none⟩ (.slice none 0 0)).setCell ⟨kb, off + 1, none⟩ (.slice none 0 0)).setCell ⟨kb, off + 2, none⟩ (.int .i64 (lb.length : Int))) kb T (kx (.slice none 0 0) (.slice none 0 0) (lb.length : Int)) := by
   have := (((HK1.out.set (off + 3) (.bool false)).set off (.slice none 0 0)).set (off + 1) (.slice none 0 0)).set (off + 2) (.int .i64 (lb.length : Int))
   rwa [hx.s3, hx.s0, hx.s1, hx.s2] at this
  have hG2 : Grown w1 ((((w1.setCell ⟨kb, off + 3, none⟩ (.bool false)).setCell ⟨kb, off, none⟩ (.slice none 0 0)).setCell ⟨kb, off + 1, none⟩ (.slice none 0 0)).setCell ⟨kb, off + 2, none⟩ (.int .i64 (lb.length : Int))) (fun k => k = kb) := (((Grown.setCell w1 kb (off + 3) _ (S := fun k => k = kb) fun _ => rfl).trans (Grown.setCell _ kb off _ fun _ => rfl)).trans (Grown.setCell _ kb (off + 1) _ fun _ => rfl)).trans (Grown.setCell _ kb (off + 2) _ fun _ => rfl)
  have HKS := Keep.mk hkS
  have HvS := Keep.mk (Hv1.out.grown hG2 (fun k hk e => HVk.out (e ▸ hk)))
  have HGS := Keep.mk (HG1.out.trans hG2)
  have HLS := Keep.mk (BkL.nil ((((w1.setCell ⟨kb, off + 3, none⟩ (.bool false)).setCell ⟨kb, off, none⟩ (.slice none 0 0)).setCell ⟨kb, off + 1, none⟩ (.slice none 0 0)).setCell ⟨kb, off + 2, none⟩ (.int .i64 (lb.length : Int))) A B F)
  clear hkS hG2
  go_wp2
  generalize (((w1.setCell ⟨kb, off + 3, none⟩ (.bool false)).setCell ⟨kb, off, none⟩ (.slice none 0 0)).setCell ⟨kb, off + 1, none⟩ (.slice none 0 0)).setCell ⟨kb, off + 2, none⟩ (.int .i64 (lb.length : Int)) = wS at *
  clear c0 c1 c2 c3 f0 f1 f2 f3
  have hmm : Keep ((1 : Int) = mark 0) := ⟨by decide⟩
  go_loopw [6] (fun i wr => ∃ t : Nat, t ≤ lb.length ∧ i = .int .i64 t ∧ OwnT wr (Value.slice va lb.length vc) (List.replicate t (1 : Int) ++ lb.drop t) ∧ Grown wS wr (fun k => (Value.slice va lb.length vc).ownBlock = some k)) (fun i _ => lb.length - (intOf i).toNat)
  case atStart => exact ⟨0, by omega, rfl, by simpa using HvS.out, Grown.refl _ _⟩
  case round =>
   obtain ⟨t, ht, rfl, hO, hGr⟩ := hrel
   by_cases hlt : t < lb.length
   ·have hlt' : (t : Int) < (lb.length : Int) := by omega
    have hll : (List.replicate t (1 : Int) ++ lb.drop t).length = lb.length := by simp; omega
    obtain ⟨g, e1⟩ := hO.addr (by rw [hll]; omega)
    ·subst e1
     have hc := hO.cells t (by rw [hll]; exact hlt)
     have d1 := hc.1
     have d2 := hc.2
     have HO := Keep.mk (hO.set t (1 : Int))
     have HG := Keep.mk (hGr.trans (Grown.setCell wr g t (.int .u8 (1 : Int)) (S := fun k => (Value.slice (some ⟨g, 0, none⟩) lb.length vc).ownBlock = some k) fun _ => rfl))
     obtain ⟨q, hq⟩ : ∃ q, Keep (q = (List.replicate t (1 : Int) ++ lb.drop t).getD t 0) := ⟨_, ⟨rfl⟩⟩
     rw [← hq.out] at d1
     clear hc hO hll hq hGr
     go_wp2
     go_roundw
     case rel => exact ⟨t + 1, by omega, by go_num, by rw [← fill_next lb t (1 : Int) hlt]; exact HO.out, HG.out⟩
     case measure => simp only [intOf]; omega
   ·obtain rfl : t = lb.length := by omega
    have hlt' : ¬ ((lb.length : Int) < (lb.length : Int)) := by omega
    have hO2 : OwnT wr (Value.slice va lb.length vc) (List.replicate lb.length (1 : Int)) := by simpa using hO
    have HO2 := Keep.mk hO2
    have HGr := Keep.mk hGr
    clear hO hGr hO2
    obtain ⟨wL, rfl⟩ : ∃ wL, wL = wr := ⟨_, rfl⟩
    go_wp2
    go_loopw [7, 8] (fun b i wx => ∃ (t : Nat) (g : Value), t ≤ 60 ∧ b = g ∧ i = .int .i64 t ∧ G2 wL (Value.slice va lb.length vc) g lb.length t (1 : Int) wx) (fun _ i _ => 60 - (intOf i).toNat)
    case atStart => exact ⟨0, _, by omega, rfl, rfl, HO2.out, HO2.out.row, fun k hk => HO2.out.typ hk, .inl rfl, Grown.refl _ _⟩
    case round =>
     obtain ⟨t, g, ht, hbg, rfl, hG⟩ := hrel
     have hbg2 := hbg.symm
     subst hbg2
     clear hbg
     obtain ⟨wx, rfl⟩ : ∃ wx, wx = wr := ⟨_, rfl⟩
     by_cases hlt : t < 60
     ·have hlt2 : (t : Int) < 60 := by omega
      have HO3 := Keep.mk (hG.own.box (.cells #[.int .u8 (1 : Int)] 5))
      have hlen : Keep ((List.replicate (lb.length + t) (1 : Int)).length + 1 ≤ 140737488355328) := ⟨by have := HB.out; rw [List.length_replicate]; omega⟩
      have HG := Keep.mk hG
      clear hG
      go_wp2_with (first | (at_builtin; refine wpList_appT rfl (.tmp 72) (.tmp 74) rfl _ (List.replicate (lb.length + t) (1 : Int)) wx.heap.size (1 : Int) rfl rfl HO3.out (cell_one wx _ _) hlen.out ?_; intro v' w' hp; refine Hid.out ?_))
      refine hid_in ?_
      have HN2 := Keep.mk (HG.out.next rfl HO2.out _ hp)
      clear hp
      go_wp2
      go_roundw
      case rel => exact ⟨t + 1, _, by omega, rfl, by go_num, HN2.out⟩
      case measure => simp only [intOf]; omega
     ·obtain rfl : t = 60 := by omega
      have hGx : Grown wS wx (fun k => (Value.slice va lb.length vc).ownBlock = some k) := HGr.out.trans hG.gr
      have hLx := HLS.out.grown hGx (fun k hk e => HSep.out k e hk)
      have hkx := hGx.blk HKS.out HVk.out
      have c0 : wx.cell? ⟨kb, off, none⟩ = some (Value.slice none 0 0) := by rw [hkx.cell, hx.g0]
      have HLx := Keep.mk hLx
      have Hkx := Keep.mk hkx
      have HGx := Keep.mk hGx
      have HG := Keep.mk hG
      have hOl := Keep.mk (hLx.l.grown (Grown.alloc wx (.cells #[(Value.slice va lb.length vc)] 40) fun _ => False) fun _ _ h => h)
      have hcc := Keep.mk (show (wx.alloc (.cells #[(Value.slice va lb.length vc)] 40)).cell? ⟨wx.heap.size, 0, none⟩ = some (Value.slice va lb.length vc) by rw [(Blk.new wx 40 #[(Value.slice va lb.length vc)]).cell]; rfl)
      have hbn : Keep (((List.range 0).map A).length + 1 ≤ 4398046511104) := ⟨by simp only [List.length_map, List.length_range]; omega⟩
      clear hG hLx hkx hGx
      go_wp2_with (first | (at_builtin; refine wpList_appV rfl (.tmp 80) (.tmp 82) rfl (Value.slice none 0 0) (Value.slice va lb.length vc) ((List.range 0).map A) wx.heap.size rfl rfl rfl hOl.out hcc.out hbn.out ?_; intro lv2 w4 ho4 hm4 hg4; refine Hid.out ?_))
      refine hid_in ?_
      obtain ⟨a4, n4, k4, rfl⟩ := ho4.sl3
      have hk4 : Blk w4 kb T (kx (Value.slice none 0 0) (Value.slice none 0 0) (lb.length : Int)) := hg4.blk (Hkx.out.alloc _) (hOl.out.ne (Hkx.out.alloc _) hT36)
      have hk5 : Blk (w4.setCell ⟨kb, off, none⟩ (.slice a4 n4 k4)) kb T (kx (.slice a4 n4 k4) (Value.slice none 0 0) (lb.length : Int)) := by
       have := hk4.set off (.slice a4 n4 k4)
       rwa [hx.s0] at this
      have hg5 : Grown wx (w4.setCell ⟨kb, off, none⟩ (.slice a4 n4 k4)) (fun k => k = kb ∨ (Value.slice none 0 0).ownBlock = some k) :=
       ((Grown.alloc wx (.cells #[(Value.slice va lb.length vc)] 40) _).next hg4 fun i _ e => .inr e).next (Grown.setCell w4 kb off _ (S := fun k => k = kb) fun _ => rfl) fun i _ e => .inl e
      have ho5 : OwnV (w4.setCell ⟨kb, off, none⟩ (.slice a4 n4 k4)) (.slice a4 n4 k4) ((List.range 0).map A ++ [(Value.slice va lb.length vc)]) :=
       ho4.grown (Grown.setCell w4 kb off _ (S := fun k => k = kb) fun _ => rfl) fun k hk e => ho4.ne hk4 hT36 (e ▸ hk)
      have hm5 : Moved wx (Value.slice none 0 0) (.slice a4 n4 k4) := (Moved.refl wx _).trans (Grown.alloc wx (.cells #[(Value.slice va lb.length vc)] 40) fun _ => False).size hm4
      have e5 : (w4.setCell ⟨kb, off, none⟩ (.slice a4 n4 k4)).heap.size = w4.heap.size := by simp [World.setCell]
      have hog5 : OwnV (w4.setCell ⟨kb, off, none⟩ (.slice a4 n4 k4)) (Value.slice none 0 0) ((List.range 0).map B) :=
       HLx.out.g.grown hg5 fun k hk e => by
        rcases e with e | e
        ·exact HLx.out.g.ne Hkx.out hT36 (e ▸ hk)
        ·exact HLx.out.ne k e hk
      have d0 : w4.cell? ⟨kb, off, none⟩ = some (Value.slice none 0 0) := by rw [hk4.cell, hx.g0]
      have d0f := hk4.frozen off
      have d1 : w4.cell? ⟨kb, off + 1, none⟩ = some (Value.slice none 0 0) := by rw [hk4.cell, hx.g1]
      have Hk5 := Keep.mk hk5
      have Hg5 := Keep.mk hg5
      have Ho5 := Keep.mk ho5
      have Hm5 := Keep.mk hm5
      obtain ⟨gA, gN, gC, hgv⟩ : ∃ a n c, g = Value.slice a n c := HG.out.own.sl
      subst hgv
      have hOg := Keep.mk (hog5.grown (Grown.alloc _ (.cells #[Value.slice gA gN gC] 40) fun _ => False) fun _ _ h => h)
      have hcg := (Blk.new (w4.setCell ⟨kb, off, none⟩ (.slice a4 n4 k4)) 40 #[Value.slice gA gN gC]).cell 0
      rw [e5] at hcg
      have Hcg := Keep.mk (hcg.trans (show (#[Value.slice gA gN gC] : Array Value)[0]? = some (Value.slice gA gN gC) from rfl))
      have hbn2 : Keep (((List.range 0).map B).length + 1 ≤ 4398046511104) := ⟨by simp only [List.length_map, List.length_range]; omega⟩
      clear ho4 hm4 hg4 hk4 hk5 hg5 ho5 hm5 hog5 hcg e5 c0
      go_wp2_with (first | (at_builtin; refine wpList_appV rfl (.tmp 90) (.tmp 92) rfl (Value.slice none 0 0) (.slice gA gN gC) ((List.range 0).map B) w4.heap.size rfl rfl rfl hOg.out Hcg.out hbn2.out ?_; intro gv2 w6 ho6 hm6 hg6; refine Hid.out ?_))
      refine hid_in ?_
      obtain ⟨w5, hw5⟩ : ∃ w5, Keep (w5 = w4.setCell ⟨kb, off, none⟩ (.slice a4 n4 k4)) := ⟨_, ⟨rfl⟩⟩
      rw [← hw5.out] at hm6 hg6 Hk5 Hg5 Ho5 hOg
      obtain ⟨a6, n6, k6, rfl⟩ := ho6.sl3
      have hk6 : Blk w6 kb T (kx (.slice a4 n4 k4) (Value.slice none 0 0) (lb.length : Int)) := hg6.blk (Hk5.out.alloc _) (hOg.out.ne (Hk5.out.alloc _) hT36)
      have hk7 : Blk (w6.setCell ⟨kb, off + 1, none⟩ (.slice a6 n6 k6)) kb T (kx (.slice a4 n4 k4) (.slice a6 n6 k6) (lb.length : Int)) := by
       have := hk6.set (off + 1) (.slice a6 n6 k6)
       rwa [hx.s1] at this
      have hg7 : Grown w5 (w6.setCell ⟨kb, off + 1, none⟩ (.slice a6 n6 k6)) (fun k => k = kb ∨ (Value.slice none 0 0).ownBlock = some k) :=
       ((Grown.alloc w5 (.cells #[Value.slice gA gN gC] 40) _).next hg6 fun i _ e => .inr e).next (Grown.setCell w6 kb (off + 1) _ (S := fun k => k = kb) fun _ => rfl) fun i _ e => .inl e
      have ho7 : OwnV (w6.setCell ⟨kb, off + 1, none⟩ (.slice a6 n6 k6)) (.slice a6 n6 k6) ((List.range 0).map B ++ [.slice gA gN gC]) :=
       ho6.grown (Grown.setCell w6 kb (off + 1) _ (S := fun k => k = kb) fun _ => rfl) fun k hk e => ho6.ne hk6 hT36 (e ▸ hk)
      have hm7 : Moved w5 (Value.slice none 0 0) (.slice a6 n6 k6) := (Moved.refl w5 _).trans (Grown.alloc w5 (.cells #[Value.slice gA gN gC] 40) fun _ => False).size hm6
      have d6 : w6.cell? ⟨kb, off + 1, none⟩ = some (Value.slice none 0 0) := by rw [hk6.cell, hx.g1]
      have d6f := hk6.frozen (off + 1)
      have Hk7 := Keep.mk hk7
      have Hg7 := Keep.mk hg7
      have Ho7 := Keep.mk ho7
      have Hm7 := Keep.mk hm7
      clear ho6 hm6 hg6 hk6 hk7 hg7 ho7 hm7 d0 d0f d1
      go_wp2
      go_end0
      have hsz : w.heap.size ≤ wL.heap.size := Nat.le_trans HGS.out.size HGr.out.size
      have hszx : wL.heap.size ≤ wx.heap.size := HG.out.gr.size
      have hvw : ∀ k, (Value.slice va lb.length vc).ownBlock = some k → k < wL.heap.size := fun k hk => HO2.out.lt k hk
      refine ⟨rfl, ⟨_, _, 0 + 1, _, _, (lb.length : Int), Hk7.out, HLx.out.push Hkx.out Hk5.out hT5 hT36 Ho5.out Hm5.out Hg5.out Ho7.out Hm7.out Hg7.out ⟨lb.length, by rw [← hmm.out]; exact HG.out.row, by omega⟩ ⟨lb.length + 60, by rw [← hmm.out]; exact HG.out.own.row, HB.out⟩ ?_ (fun k hk => HG.out.own.typ hk) (fun k hk => .inl hk) (fun k h1 h2 => .inr (.inr ⟨by omega, h2⟩)) (fun k hk => .inr (.inl hk)) ?_, by omega, ?_, ?_⟩, ?_⟩
      ·exact HG.out.typ
      ·intro k hk
       rcases HG.out.pos with h5 | ⟨k5, h5, h6⟩
       ·exact .inr (.inl (h5.symm.trans hk))
       ·rw [h5] at hk; injection hk with hk
        have := HG.out.own.lt k (by rw [h5, hk])
        have h8 := Hg5.out.size
        have h9 := Hg7.out.size
        exact .inr (.inr ⟨by omega, by omega⟩)
      ·omega
      ·have := HB.out; omega
      ·have hA : Grown w wx (fun k => k = kb ∨ F k ∨ (Value.slice va lb.length vc).ownBlock = some k) := (HGS.out.mono fun i _ e => Or.inl e).next HGx.out fun i _ e => .inr (.inr e)
       refine (hA.next Hg5.out fun i _ e => ?_).next Hg7.out fun i _ e => ?_
       ·rcases e with e | e
        ·exact .inl e
        ·exact .inr (.inl (HLx.out.F1 i e))
       ·rcases e with e | e
        ·exact .inl e
        ·exact .inr (.inl (HLx.out.F2 i e))
 ·by_cases h2 : (16777216 : Int) ≤ n + (lb.length : Int)
  ·have HK1 := Keep.mk hk1
   have HL1 := Keep.mk hL1
   have Hv1 := Keep.mk hv1
   have HG1 := Keep.mk hG1
   have HSep := Keep.mk hsep
   have HVk := Keep.mk hvk
   clear hk1 hL1 hv1 hG1 hsep hvk
   go_enter Tryz.func38, Tryz.ntmps38
   go_wp2_with fail
   generalize w.setCell ⟨kb, off + 2, none⟩ (.int .i64 (n + lb.length)) = w1 at *
   clear c0 c1 c2 f2
   refine (stays_any kb off T kx hx _ _ N A B _ F w1 HK1.out HL1.out (by omega)).mono ?_
   rintro e w2 ⟨rfl, hw2⟩
   rw [hw2]
   clear hw2
   have c0 : w1.cell? ⟨kb, off, none⟩ = some (.slice la N lc) := by rw [HK1.out.cell, hx.g0]
   have c1 : w1.cell? ⟨kb, off + 1, none⟩ = some (.slice ga N gc) := by rw [HK1.out.cell, hx.g1]
   have c2 : w1.cell? ⟨kb, off + 2, none⟩ = some (.int .i64 (n + lb.length)) := by rw [HK1.out.cell, hx.g2]
   have c3 : w1.cell? ⟨kb, off + 3, none⟩ = some (.bool false) := by rw [HK1.out.cell, hx.g3]
   have f0 := HK1.out.frozen off
   have f1 := HK1.out.frozen (off + 1)
   have f2 := HK1.out.frozen (off + 2)
   have f3 := HK1.out.frozen (off + 3)
   have hkS : Blk ((((w1.setCell ⟨kb, off + 3, none⟩ (.bool false)).setCell ⟨kb, off, none⟩ (.slice none 0 0)).setCell ⟨kb, off + 1, none⟩ (.slice none 0 0)).setCell ⟨kb, off + 2, none⟩ (.int .i64 (lb.length : Int))) kb T (kx (.slice none 0 0) (.slice none 0 0) (lb.length : Int)) := by
    have := (((HK1.out.set (off + 3) (.bool false)).set off (.slice none 0 0)).set (off + 1) (.slice none 0 0)).set (off + 2) (.int .i64 (lb.length : Int))
    rwa [hx.s3, hx.s0, hx.s1, hx.s2] at this
   have hG2 : Grown w1 ((((w1.setCell ⟨kb, off + 3, none⟩ (.bool false)).setCell ⟨kb, off, none⟩ (.slice none 0 0)).setCell ⟨kb, off + 1, none⟩ (.slice none 0 0)).setCell ⟨kb, off + 2, none⟩ (.int .i64 (lb.length : Int))) (fun k => k = kb) := (((Grown.setCell w1 kb (off + 3) _ (S := fun k => k = kb) fun _ => rfl).trans (Grown.setCell _ kb off _ fun _ => rfl)).trans (Grown.setCell _ kb (off + 1) _ fun _ => rfl)).trans (Grown.setCell _ kb (off + 2) _ fun _ => rfl)
   have HKS := Keep.mk hkS
   have HvS := Keep.mk (Hv1.out.grown hG2 (fun k hk e => HVk.out (e ▸ hk)))
   have HGS := Keep.mk (HG1.out.trans hG2)
   have HLS := Keep.mk (BkL.nil ((((w1.setCell ⟨kb, off + 3, none⟩ (.bool false)).setCell ⟨kb, off, none⟩ (.slice none 0 0)).setCell ⟨kb, off + 1, none⟩ (.slice none 0 0)).setCell ⟨kb, off + 2, none⟩ (.int .i64 (lb.length : Int))) A B F)
   clear hkS hG2
   go_wp2
   generalize (((w1.setCell ⟨kb, off + 3, none⟩ (.bool false)).setCell ⟨kb, off, none⟩ (.slice none 0 0)).setCell ⟨kb, off + 1, none⟩ (.slice none 0 0)).setCell ⟨kb, off + 2, none⟩ (.int .i64 (lb.length : Int)) = wS at *
   clear c0 c1 c2 c3 f0 f1 f2 f3
   have hmm : Keep ((1 : Int) = mark 0) := ⟨by decide⟩
   go_loopw [6] (fun i wr => ∃ t : Nat, t ≤ lb.length ∧ i = .int .i64 t ∧ OwnT wr (Value.slice va lb.length vc) (List.replicate t (1 : Int) ++ lb.drop t) ∧ Grown wS wr (fun k => (Value.slice va lb.length vc).ownBlock = some k)) (fun i _ => lb.length - (intOf i).toNat)
   case atStart => exact ⟨0, by omega, rfl, by simpa using HvS.out, Grown.refl _ _⟩
   case round =>
    obtain ⟨t, ht, rfl, hO, hGr⟩ := hrel
    by_cases hlt : t < lb.length
    ·have hlt' : (t : Int) < (lb.length : Int) := by omega
     have hll : (List.replicate t (1 : Int) ++ lb.drop t).length = lb.length := by simp; omega
     obtain ⟨g, e1⟩ := hO.addr (by rw [hll]; omega)
     ·subst e1
      have hc := hO.cells t (by rw [hll]; exact hlt)
      have d1 := hc.1
      have d2 := hc.2
      have HO := Keep.mk (hO.set t (1 : Int))
      have HG := Keep.mk (hGr.trans (Grown.setCell wr g t (.int .u8 (1 : Int)) (S := fun k => (Value.slice (some ⟨g, 0, none⟩) lb.length vc).ownBlock = some k) fun _ => rfl))
      obtain ⟨q, hq⟩ : ∃ q, Keep (q = (List.replicate t (1 : Int) ++ lb.drop t).getD t 0) := ⟨_, ⟨rfl⟩⟩
      rw [← hq.out] at d1
      clear hc hO hll hq hGr
      go_wp2
      go_roundw
      case rel => exact ⟨t + 1, by omega, by go_num, by rw [← fill_next lb t (1 : Int) hlt]; exact HO.out, HG.out⟩
      case measure => simp only [intOf]; omega
    ·obtain rfl : t = lb.length := by omega
     have hlt' : ¬ ((lb.length : Int) < (lb.length : Int)) := by omega
     have hO2 : OwnT wr (Value.slice va lb.length vc) (List.replicate lb.length (1 : Int)) := by simpa using hO
     have HO2 := Keep.mk hO2
     have HGr := Keep.mk hGr
     clear hO hGr hO2
     obtain ⟨wL, rfl⟩ : ∃ wL, wL = wr := ⟨_, rfl⟩
     go_wp2
     go_loopw [7, 8] (fun b i wx => ∃ (t : Nat) (g : Value), t ≤ 60 ∧ b = g ∧ i = .int .i64 t ∧ G2 wL (Value.slice va lb.length vc) g lb.length t (1 : Int) wx) (fun _ i _ => 60 - (intOf i).toNat)
     case atStart => exact ⟨0, _, by omega, rfl, rfl, HO2.out, HO2.out.row, fun k hk => HO2.out.typ hk, .inl rfl, Grown.refl _ _⟩
     case round =>
      obtain ⟨t, g, ht, hbg, rfl, hG⟩ := hrel
      have hbg2 := hbg.symm
      subst hbg2
      clear hbg
      obtain ⟨wx, rfl⟩ : ∃ wx, wx = wr := ⟨_, rfl⟩
      by_cases hlt : t < 60
      ·have hlt2 : (t : Int) < 60 := by omega
       have HO3 := Keep.mk (hG.own.box (.cells #[.int .u8 (1 : Int)] 5))
       have hlen : Keep ((List.replicate (lb.length + t) (1 : Int)).length + 1 ≤ 140737488355328) := ⟨by have := HB.out; rw [List.length_replicate]; omega⟩
       have HG := Keep.mk hG
       clear hG
       go_wp2_with (first | (at_builtin; refine wpList_appT rfl (.tmp 72) (.tmp 74) rfl _ (List.replicate (lb.length + t) (1 : Int)) wx.heap.size (1 : Int) rfl rfl HO3.out (cell_one wx _ _) hlen.out ?_; intro v' w' hp; refine Hid.out ?_))
       refine hid_in ?_
       have HN2 := Keep.mk (HG.out.next rfl HO2.out _ hp)
       clear hp
       go_wp2
       go_roundw
       case rel => exact ⟨t + 1, _, by omega, rfl, by go_num, HN2.out⟩
       case measure => simp only [intOf]; omega
      ·obtain rfl : t = 60 := by omega
       have hGx : Grown wS wx (fun k => (Value.slice va lb.length vc).ownBlock = some k) := HGr.out.trans hG.gr
       have hLx := HLS.out.grown hGx (fun k hk e => HSep.out k e hk)
       have hkx := hGx.blk HKS.out HVk.out
       have c0 : wx.cell? ⟨kb, off, none⟩ = some (Value.slice none 0 0) := by rw [hkx.cell, hx.g0]
       have HLx := Keep.mk hLx
       have Hkx := Keep.mk hkx
       have HGx := Keep.mk hGx
       have HG := Keep.mk hG
       have hOl := Keep.mk (hLx.l.grown (Grown.alloc wx (.cells #[(Value.slice va lb.length vc)] 40) fun _ => False) fun _ _ h => h)
       have hcc := Keep.mk (show (wx.alloc (.cells #[(Value.slice va lb.length vc)] 40)).cell? ⟨wx.heap.size, 0, none⟩ = some (Value.slice va lb.length vc) by rw [(Blk.new wx 40 #[(Value.slice va lb.length vc)]).cell]; rfl)
       have hbn : Keep (((List.range 0).map A).length + 1 ≤ 4398046511104) := ⟨by simp only [List.length_map, List.length_range]; omega⟩
       clear hG hLx hkx hGx
       go_wp2_with (first | (at_builtin; refine wpList_appV rfl (.tmp 80) (.tmp 82) rfl (Value.slice none 0 0) (Value.slice va lb.length vc) ((List.range 0).map A) wx.heap.size rfl rfl rfl hOl.out hcc.out hbn.out ?_; intro lv2 w4 ho4 hm4 hg4; refine Hid.out ?_))
       refine hid_in ?_
       obtain ⟨a4, n4, k4, rfl⟩ := ho4.sl3
       have hk4 : Blk w4 kb T (kx (Value.slice none 0 0) (Value.slice none 0 0) (lb.length : Int)) := hg4.blk (Hkx.out.alloc _) (hOl.out.ne (Hkx.out.alloc _) hT36)
       have hk5 : Blk (w4.setCell ⟨kb, off, none⟩ (.slice a4 n4 k4)) kb T (kx (.slice a4 n4 k4) (Value.slice none 0 0) (lb.length : Int)) := by
        have := hk4.set off (.slice a4 n4 k4)
        rwa [hx.s0] at this
       have hg5 : Grown wx (w4.setCell ⟨kb, off, none⟩ (.slice a4 n4 k4)) (fun k => k = kb ∨ (Value.slice none 0 0).ownBlock = some k) :=
        ((Grown.alloc wx (.cells #[(Value.slice va lb.length vc)] 40) _).next hg4 fun i _ e => .inr e).next (Grown.setCell w4 kb off _ (S := fun k => k = kb) fun _ => rfl) fun i _ e => .inl e
       have ho5 : OwnV (w4.setCell ⟨kb, off, none⟩ (.slice a4 n4 k4)) (.slice a4 n4 k4) ((List.range 0).map A ++ [(Value.slice va lb.length vc)]) :=
        ho4.grown (Grown.setCell w4 kb off _ (S := fun k => k = kb) fun _ => rfl) fun k hk e => ho4.ne hk4 hT36 (e ▸ hk)
       have hm5 : Moved wx (Value.slice none 0 0) (.slice a4 n4 k4) := (Moved.refl wx _).trans (Grown.alloc wx (.cells #[(Value.slice va lb.length vc)] 40) fun _ => False).size hm4
       have e5 : (w4.setCell ⟨kb, off, none⟩ (.slice a4 n4 k4)).heap.size = w4.heap.size := by simp [World.setCell]
       have hog5 : OwnV (w4.setCell ⟨kb, off, none⟩ (.slice a4 n4 k4)) (Value.slice none 0 0) ((List.range 0).map B) :=
        HLx.out.g.grown hg5 fun k hk e => by
         rcases e with e | e
         ·exact HLx.out.g.ne Hkx.out hT36 (e ▸ hk)
         ·exact HLx.out.ne k e hk
       have d0 : w4.cell? ⟨kb, off, none⟩ = some (Value.slice none 0 0) := by rw [hk4.cell, hx.g0]
       have d0f := hk4.frozen off
       have d1 : w4.cell? ⟨kb, off + 1, none⟩ = some (Value.slice none 0 0) := by rw [hk4.cell, hx.g1]
       have Hk5 := Keep.mk hk5
       have Hg5 := Keep.mk hg5
       have Ho5 := Keep.mk ho5
       have Hm5 := Keep.mk hm5
       obtain ⟨gA, gN, gC, hgv⟩ : ∃ a n c, g = Value.slice a n c := HG.out.own.sl
       subst hgv
       have hOg := Keep.mk (hog5.grown (Grown.alloc _ (.cells #[Value.slice gA gN gC] 40) fun _ => False) fun _ _ h => h)
       have hcg := (Blk.new (w4.setCell ⟨kb, off, none⟩ (.slice a4 n4 k4)) 40 #[Value.slice gA gN gC]).cell 0
       rw [e5] at hcg
       have Hcg := Keep.mk (hcg.trans (show (#[Value.slice gA gN gC] : Array Value)[0]? = some (Value.slice gA gN gC) from rfl))
       have hbn2 : Keep (((List.range 0).map B).length + 1 ≤ 4398046511104) := ⟨by simp only [List.length_map, List.length_range]; omega⟩
       clear ho4 hm4 hg4 hk4 hk5 hg5 ho5 hm5 hog5 hcg e5 c0
       go_wp2_with (first | (at_builtin; refine wpList_appV rfl (.tmp 90) (.tmp 92) rfl (Value.slice none 0 0) (.slice gA gN gC) ((List.range 0).map B) w4.heap.size rfl rfl rfl hOg.out Hcg.out hbn2.out ?_; intro gv2 w6 ho6 hm6 hg6; refine Hid.out ?_))
       refine hid_in ?_
       obtain ⟨w5, hw5⟩ : ∃ w5, Keep (w5 = w4.setCell ⟨kb, off, none⟩ (.slice a4 n4 k4)) := ⟨_, ⟨rfl⟩⟩
       rw [← hw5.out] at hm6 hg6 Hk5 Hg5 Ho5 hOg
       obtain ⟨a6, n6, k6, rfl⟩ := ho6.sl3
       have hk6 : Blk w6 kb T (kx (.slice a4 n4 k4) (Value.slice none 0 0) (lb.length : Int)) := hg6.blk (Hk5.out.alloc _) (hOg.out.ne (Hk5.out.alloc _) hT36)
       have hk7 : Blk (w6.setCell ⟨kb, off + 1, none⟩ (.slice a6 n6 k6)) kb T (kx (.slice a4 n4 k4) (.slice a6 n6 k6) (lb.length : Int)) := by
        have := hk6.set (off + 1) (.slice a6 n6 k6)
        rwa [hx.s1] at this
       have hg7 : Grown w5 (w6.setCell ⟨kb, off + 1, none⟩ (.slice a6 n6 k6)) (fun k => k = kb ∨ (Value.slice none 0 0).ownBlock = some k) :=
        ((Grown.alloc w5 (.cells #[Value.slice gA gN gC] 40) _).next hg6 fun i _ e => .inr e).next (Grown.setCell w6 kb (off + 1) _ (S := fun k => k = kb) fun _ => rfl) fun i _ e => .inl e
       have ho7 : OwnV (w6.setCell ⟨kb, off + 1, none⟩ (.slice a6 n6 k6)) (.slice a6 n6 k6) ((List.range 0).map B ++ [.slice gA gN gC]) :=
        ho6.grown (Grown.setCell w6 kb (off + 1) _ (S := fun k => k = kb) fun _ => rfl) fun k hk e => ho6.ne hk6 hT36 (e ▸ hk)
       have hm7 : Moved w5 (Value.slice none 0 0) (.slice a6 n6 k6) := (Moved.refl w5 _).trans (Grown.alloc w5 (.cells #[Value.slice gA gN gC] 40) fun _ => False).size hm6
       have d6 : w6.cell? ⟨kb, off + 1, none⟩ = some (Value.slice none 0 0) := by rw [hk6.cell, hx.g1]
       have d6f := hk6.frozen (off + 1)
       have Hk7 := Keep.mk hk7
       have Hg7 := Keep.mk hg7
       have Ho7 := Keep.mk ho7
       have Hm7 := Keep.mk hm7
       clear ho6 hm6 hg6 hk6 hk7 hg7 ho7 hm7 d0 d0f d1
       go_wp2
       go_end0
       have hsz : w.heap.size ≤ wL.heap.size := Nat.le_trans HGS.out.size HGr.out.size
       have hszx : wL.heap.size ≤ wx.heap.size := HG.out.gr.size
       have hvw : ∀ k, (Value.slice va lb.length vc).ownBlock = some k → k < wL.heap.size := fun k hk => HO2.out.lt k hk
       refine ⟨rfl, ⟨_, _, 0 + 1, _, _, (lb.length : Int), Hk7.out, HLx.out.push Hkx.out Hk5.out hT5 hT36 Ho5.out Hm5.out Hg5.out Ho7.out Hm7.out Hg7.out ⟨lb.length, by rw [← hmm.out]; exact HG.out.row, by omega⟩ ⟨lb.length + 60, by rw [← hmm.out]; exact HG.out.own.row, HB.out⟩ ?_ (fun k hk => HG.out.own.typ hk) (fun k hk => .inl hk) (fun k h1 h2 => .inr (.inr ⟨by omega, h2⟩)) (fun k hk => .inr (.inl hk)) ?_, by omega, ?_, ?_⟩, ?_⟩
       ·exact HG.out.typ
       ·intro k hk
        rcases HG.out.pos with h5 | ⟨k5, h5, h6⟩
        ·exact .inr (.inl (h5.symm.trans hk))
        ·rw [h5] at hk; injection hk with hk
         have := HG.out.own.lt k (by rw [h5, hk])
         have h8 := Hg5.out.size
         have h9 := Hg7.out.size
         exact .inr (.inr ⟨by omega, by omega⟩)
       ·omega
       ·have := HB.out; omega
       ·have hA : Grown w wx (fun k => k = kb ∨ F k ∨ (Value.slice va lb.length vc).ownBlock = some k) := (HGS.out.mono fun i _ e => Or.inl e).next HGx.out fun i _ e => .inr (.inr e)
        refine (hA.next Hg5.out fun i _ e => ?_).next Hg7.out fun i _ e => ?_
        ·rcases e with e | e
         ·exact .inl e
         ·exact .inr (.inl (HLx.out.F1 i e))
        ·rcases e with e | e
         ·exact .inl e
         ·exact .inr (.inl (HLx.out.F2 i e))

  ·have HKS := Keep.mk hk1
   have HLS := Keep.mk hL1
   have HvS := Keep.mk hv1
   have HGS := Keep.mk hG1
   have HSep := Keep.mk hsep
   have HVk := Keep.mk hvk
   clear hk1 hL1 hv1 hG1 hsep hvk
   go_enter Tryz.func38, Tryz.ntmps38
   go_wp2
   generalize w.setCell ⟨kb, off + 2, none⟩ (.int .i64 (n + lb.length)) = wS at *
   have hm : 1 + (N : Int) % 250 = mark N := by unfold mark; omega
   have hm1 : 0 ≤ mark N := by unfold mark; omega
   have hm2 : mark N < 256 := by unfold mark; omega
   obtain ⟨mm, hmm⟩ : ∃ mm, Keep (mm = mark N) := ⟨_, ⟨rfl⟩⟩
   rw [← hmm.out] at hm hm1 hm2
   go_loopw [6] (fun i wr => ∃ t : Nat, t ≤ lb.length ∧ i = .int .i64 t ∧ OwnT wr (Value.slice va lb.length vc) (List.replicate t mm ++ lb.drop t) ∧ Grown wS wr (fun k => (Value.slice va lb.length vc).ownBlock = some k)) (fun i _ => lb.length - (intOf i).toNat)
   case atStart => exact ⟨0, by omega, rfl, by simpa using HvS.out, Grown.refl _ _⟩
   case round =>
    obtain ⟨t, ht, rfl, hO, hGr⟩ := hrel
    by_cases hlt : t < lb.length
    ·have hlt' : (t : Int) < (lb.length : Int) := by omega
     have hll : (List.replicate t mm ++ lb.drop t).length = lb.length := by simp; omega
     obtain ⟨g, e1⟩ := hO.addr (by rw [hll]; omega)
     ·subst e1
      have hc := hO.cells t (by rw [hll]; exact hlt)
      have d1 := hc.1
      have d2 := hc.2
      have HO := Keep.mk (hO.set t mm)
      have HG := Keep.mk (hGr.trans (Grown.setCell wr g t (.int .u8 mm) (S := fun k => (Value.slice (some ⟨g, 0, none⟩) lb.length vc).ownBlock = some k) fun _ => rfl))
      obtain ⟨q, hq⟩ : ∃ q, Keep (q = (List.replicate t mm ++ lb.drop t).getD t 0) := ⟨_, ⟨rfl⟩⟩
      rw [← hq.out] at d1
      clear hc hO hll hq hGr
      go_wp2
      go_roundw
      case rel => exact ⟨t + 1, by omega, by go_num, by rw [← fill_next lb t mm hlt]; exact HO.out, HG.out⟩
      case measure => simp only [intOf]; omega
    ·obtain rfl : t = lb.length := by omega
     have hlt' : ¬ ((lb.length : Int) < (lb.length : Int)) := by omega
     have hO2 : OwnT wr (Value.slice va lb.length vc) (List.replicate lb.length mm) := by simpa using hO
     have HO2 := Keep.mk hO2
     have HGr := Keep.mk hGr
     clear hO hGr hO2
     obtain ⟨wL, rfl⟩ : ∃ wL, wL = wr := ⟨_, rfl⟩
     go_wp2
     go_loopw [7, 8] (fun b i wx => ∃ (t : Nat) (g : Value), t ≤ 60 ∧ b = g ∧ i = .int .i64 t ∧ G2 wL (Value.slice va lb.length vc) g lb.length t mm wx) (fun _ i _ => 60 - (intOf i).toNat)
     case atStart => exact ⟨0, _, by omega, rfl, rfl, HO2.out, HO2.out.row, fun k hk => HO2.out.typ hk, .inl rfl, Grown.refl _ _⟩
     case round =>
      obtain ⟨t, g, ht, hbg, rfl, hG⟩ := hrel
      have hbg2 := hbg.symm
      subst hbg2
      clear hbg
      obtain ⟨wx, rfl⟩ : ∃ wx, wx = wr := ⟨_, rfl⟩
      by_cases hlt : t < 60
      ·have hlt2 : (t : Int) < 60 := by omega
       have HO3 := Keep.mk (hG.own.box (.cells #[.int .u8 mm] 5))
       have hlen : Keep ((List.replicate (lb.length + t) mm).length + 1 ≤ 140737488355328) := ⟨by have := HB.out; rw [List.length_replicate]; omega⟩
       have HG := Keep.mk hG
       clear hG
       go_wp2_with (first | (at_builtin; refine wpList_appT rfl (.tmp 72) (.tmp 74) rfl _ (List.replicate (lb.length + t) mm) wx.heap.size mm rfl rfl HO3.out (cell_one wx _ _) hlen.out ?_; intro v' w' hp; refine Hid.out ?_))
       refine hid_in ?_
       have HN2 := Keep.mk (HG.out.next rfl HO2.out _ hp)
       clear hp
       go_wp2
       go_roundw
       case rel => exact ⟨t + 1, _, by omega, rfl, by go_num, HN2.out⟩
       case measure => simp only [intOf]; omega
      ·obtain rfl : t = 60 := by omega
       have hGx : Grown wS wx (fun k => (Value.slice va lb.length vc).ownBlock = some k) := HGr.out.trans hG.gr
       have hLx := HLS.out.grown hGx (fun k hk e => HSep.out k e hk)
       have hkx := hGx.blk HKS.out HVk.out
       have c0 : wx.cell? ⟨kb, off, none⟩ = some (Value.slice la N lc) := by rw [hkx.cell, hx.g0]
       have HLx := Keep.mk hLx
       have Hkx := Keep.mk hkx
       have HGx := Keep.mk hGx
       have HG := Keep.mk hG
       have hOl := Keep.mk (hLx.l.grown (Grown.alloc wx (.cells #[(Value.slice va lb.length vc)] 40) fun _ => False) fun _ _ h => h)
       have hcc := Keep.mk (show (wx.alloc (.cells #[(Value.slice va lb.length vc)] 40)).cell? ⟨wx.heap.size, 0, none⟩ = some (Value.slice va lb.length vc) by rw [(Blk.new wx 40 #[(Value.slice va lb.length vc)]).cell]; rfl)
       have hbn : Keep (((List.range N).map A).length + 1 ≤ 4398046511104) := ⟨by simp only [List.length_map, List.length_range]; omega⟩
       clear hG hLx hkx hGx
       go_wp2_with (first | (at_builtin; refine wpList_appV rfl (.tmp 80) (.tmp 82) rfl (Value.slice la N lc) (Value.slice va lb.length vc) ((List.range N).map A) wx.heap.size rfl rfl rfl hOl.out hcc.out hbn.out ?_; intro lv2 w4 ho4 hm4 hg4; refine Hid.out ?_))
       refine hid_in ?_
       obtain ⟨a4, n4, k4, rfl⟩ := ho4.sl3
       have hk4 : Blk w4 kb T (kx (Value.slice la N lc) (Value.slice ga N gc) (n + lb.length)) := hg4.blk (Hkx.out.alloc _) (hOl.out.ne (Hkx.out.alloc _) hT36)
       have hk5 : Blk (w4.setCell ⟨kb, off, none⟩ (.slice a4 n4 k4)) kb T (kx (.slice a4 n4 k4) (Value.slice ga N gc) (n + lb.length)) := by
        have := hk4.set off (.slice a4 n4 k4)
        rwa [hx.s0] at this
       have hg5 : Grown wx (w4.setCell ⟨kb, off, none⟩ (.slice a4 n4 k4)) (fun k => k = kb ∨ (Value.slice la N lc).ownBlock = some k) :=
        ((Grown.alloc wx (.cells #[(Value.slice va lb.length vc)] 40) _).next hg4 fun i _ e => .inr e).next (Grown.setCell w4 kb off _ (S := fun k => k = kb) fun _ => rfl) fun i _ e => .inl e
       have ho5 : OwnV (w4.setCell ⟨kb, off, none⟩ (.slice a4 n4 k4)) (.slice a4 n4 k4) ((List.range N).map A ++ [(Value.slice va lb.length vc)]) :=
        ho4.grown (Grown.setCell w4 kb off _ (S := fun k => k = kb) fun _ => rfl) fun k hk e => ho4.ne hk4 hT36 (e ▸ hk)
       have hm5 : Moved wx (Value.slice la N lc) (.slice a4 n4 k4) := (Moved.refl wx _).trans (Grown.alloc wx (.cells #[(Value.slice va lb.length vc)] 40) fun _ => False).size hm4
       have e5 : (w4.setCell ⟨kb, off, none⟩ (.slice a4 n4 k4)).heap.size = w4.heap.size := by simp [World.setCell]
       have hog5 : OwnV (w4.setCell ⟨kb, off, none⟩ (.slice a4 n4 k4)) (Value.slice ga N gc) ((List.range N).map B) :=
        HLx.out.g.grown hg5 fun k hk e => by
         rcases e with e | e
         ·exact HLx.out.g.ne Hkx.out hT36 (e ▸ hk)
         ·exact HLx.out.ne k e hk
       have d0 : w4.cell? ⟨kb, off, none⟩ = some (Value.slice la N lc) := by rw [hk4.cell, hx.g0]
       have d0f := hk4.frozen off
       have d1 : w4.cell? ⟨kb, off + 1, none⟩ = some (Value.slice ga N gc) := by rw [hk4.cell, hx.g1]
       have Hk5 := Keep.mk hk5
       have Hg5 := Keep.mk hg5
       have Ho5 := Keep.mk ho5
       have Hm5 := Keep.mk hm5
       obtain ⟨gA, gN, gC, hgv⟩ : ∃ a n c, g = Value.slice a n c := HG.out.own.sl
       subst hgv
       have hOg := Keep.mk (hog5.grown (Grown.alloc _ (.cells #[Value.slice gA gN gC] 40) fun _ => False) fun _ _ h => h)
       have hcg := (Blk.new (w4.setCell ⟨kb, off, none⟩ (.slice a4 n4 k4)) 40 #[Value.slice gA gN gC]).cell 0
       rw [e5] at hcg
       have Hcg := Keep.mk (hcg.trans (show (#[Value.slice gA gN gC] : Array Value)[0]? = some (Value.slice gA gN gC) from rfl))
       have hbn2 : Keep (((List.range N).map B).length + 1 ≤ 4398046511104) := ⟨by simp only [List.length_map, List.length_range]; omega⟩
       clear ho4 hm4 hg4 hk4 hk5 hg5 ho5 hm5 hog5 hcg e5 c0
       go_wp2_with (first | (at_builtin; refine wpList_appV rfl (.tmp 90) (.tmp 92) rfl (Value.slice ga N gc) (.slice gA gN gC) ((List.range N).map B) w4.heap.size rfl rfl rfl hOg.out Hcg.out hbn2.out ?_; intro gv2 w6 ho6 hm6 hg6; refine Hid.out ?_))
       refine hid_in ?_
       obtain ⟨w5, hw5⟩ : ∃ w5, Keep (w5 = w4.setCell ⟨kb, off, none⟩ (.slice a4 n4 k4)) := ⟨_, ⟨rfl⟩⟩
       rw [← hw5.out] at hm6 hg6 Hk5 Hg5 Ho5 hOg
       obtain ⟨a6, n6, k6, rfl⟩ := ho6.sl3
       have hk6 : Blk w6 kb T (kx (.slice a4 n4 k4) (Value.slice ga N gc) (n + lb.length)) := hg6.blk (Hk5.out.alloc _) (hOg.out.ne (Hk5.out.alloc _) hT36)
       have hk7 : Blk (w6.setCell ⟨kb, off + 1, none⟩ (.slice a6 n6 k6)) kb T (kx (.slice a4 n4 k4) (.slice a6 n6 k6) (n + lb.length)) := by
        have := hk6.set (off + 1) (.slice a6 n6 k6)
        rwa [hx.s1] at this
       have hg7 : Grown w5 (w6.setCell ⟨kb, off + 1, none⟩ (.slice a6 n6 k6)) (fun k => k = kb ∨ (Value.slice ga N gc).ownBlock = some k) :=
        ((Grown.alloc w5 (.cells #[Value.slice gA gN gC] 40) _).next hg6 fun i _ e => .inr e).next (Grown.setCell w6 kb (off + 1) _ (S := fun k => k = kb) fun _ => rfl) fun i _ e => .inl e
       have ho7 : OwnV (w6.setCell ⟨kb, off + 1, none⟩ (.slice a6 n6 k6)) (.slice a6 n6 k6) ((List.range N).map B ++ [.slice gA gN gC]) :=
        ho6.grown (Grown.setCell w6 kb (off + 1) _ (S := fun k => k = kb) fun _ => rfl) fun k hk e => ho6.ne hk6 hT36 (e ▸ hk)
       have hm7 : Moved w5 (Value.slice ga N gc) (.slice a6 n6 k6) := (Moved.refl w5 _).trans (Grown.alloc w5 (.cells #[Value.slice gA gN gC] 40) fun _ => False).size hm6
       have d6 : w6.cell? ⟨kb, off + 1, none⟩ = some (Value.slice ga N gc) := by rw [hk6.cell, hx.g1]
       have d6f := hk6.frozen (off + 1)
       have Hk7 := Keep.mk hk7
       have Hg7 := Keep.mk hg7
       have Ho7 := Keep.mk ho7
       have Hm7 := Keep.mk hm7
       clear ho6 hm6 hg6 hk6 hk7 hg7 ho7 hm7 d0 d0f d1
       go_wp2
       go_end0
       have hsz : w.heap.size ≤ wL.heap.size := Nat.le_trans HGS.out.size HGr.out.size
       have hszx : wL.heap.size ≤ wx.heap.size := HG.out.gr.size
       have hvw : ∀ k, (Value.slice va lb.length vc).ownBlock = some k → k < wL.heap.size := fun k hk => HO2.out.lt k hk
       refine ⟨rfl, ⟨_, _, N + 1, _, _, (n + lb.length), Hk7.out, HLx.out.push Hkx.out Hk5.out hT5 hT36 Ho5.out Hm5.out Hg5.out Ho7.out Hm7.out Hg7.out ⟨lb.length, by rw [← hmm.out]; exact HG.out.row, by omega⟩ ⟨lb.length + 60, by rw [← hmm.out]; exact HG.out.own.row, HB.out⟩ ?_ (fun k hk => HG.out.own.typ hk) (fun k hk => .inl hk) (fun k h1 h2 => .inr (.inr ⟨by omega, h2⟩)) (fun k hk => .inr (.inl hk)) ?_, by omega, ?_, ?_⟩, ?_⟩
       ·exact HG.out.typ
       ·intro k hk
        rcases HG.out.pos with h5 | ⟨k5, h5, h6⟩
        ·exact .inr (.inl (h5.symm.trans hk))
        ·rw [h5] at hk; injection hk with hk
         have := HG.out.own.lt k (by rw [h5, hk])
         have h8 := Hg5.out.size
         have h9 := Hg7.out.size
         exact .inr (.inr ⟨by omega, by omega⟩)
       ·have := HN0.out; omega
       ·have := HN1.out; omega
       ·have hA : Grown w wx (fun k => k = kb ∨ F k ∨ (Value.slice va lb.length vc).ownBlock = some k) := (HGS.out.mono fun i _ e => Or.inl e).next HGx.out fun i _ e => .inr (.inr e)
        refine (hA.next Hg5.out fun i _ e => ?_).next Hg7.out fun i _ e => ?_
        ·rcases e with e | e
         ·exact .inl e
         ·exact .inr (.inl (HLx.out.F1 i e))
        ·rcases e with e | e
         ·exact .inl e
         ·exact .inr (.inl (HLx.out.F2 i e))
end Go.Proofs.YteijjfeainamdaaGreatDoor
namespace Go.Proofs.YteijjfeainamdaaGreatDoor
open Go.RowKit
set_option linter.unusedSimpArgs false
set_option linter.unusedVariables false

theorem usd_del {fs : List PF} {i : Nat} {f : PF} (h : fs[i]? = some f) : usd (fs.take i ++ fs.drop (i + 1)) = usd fs - (f.bs.length : Int) := by
 have hl := (List.getElem?_eq_some_iff.1 h).1
 have e : fs = fs.take i ++ ([f] ++ fs.drop (i + 1)) := by
  have h1 := List.drop_eq_getElem_cons hl
  rw [(List.getElem?_eq_some_iff.1 h).2] at h1
  rw [List.singleton_append, ← h1, List.take_append_drop]
 have h2 := congrArg usd e
 rw [usd_app, usd_app] at h2
 rw [usd_app]
 simp [usd] at h2 ⊢
 omega
theorem usd_set {fs : List PF} {i : Nat} {f x : PF} (h : fs[i]? = some f) : usd (fs.set i x) = usd fs - (f.bs.length : Int) + (x.bs.length : Int) := by
 have hl := (List.getElem?_eq_some_iff.1 h).1
 have h1 := usd_del h
 have h2 := usd_del (fs := fs.set i x) (i := i) (f := x) (List.getElem?_set_self hl)
 rw [List.take_set_of_le (Nat.le_refl _), List.drop_set_of_lt (by omega)] at h2
 omega
theorem del_sub {fs : List PF} {i : Nat} {f : PF} (h : f ∈ fs.take i ++ fs.drop (i + 1)) : f ∈ fs := by
 obtain ⟨j, _, hj⟩ := del_mem h
 exact List.mem_of_getElem? hj
theorem set_sub {fs : List PF} {i : Nat} {x f : PF} (h : f ∈ fs.set i x) : f ∈ fs ∨ f = x := by
 rcases List.mem_or_eq_of_mem_set h with h | h
 ·exact .inl h
 ·exact .inr h
structure DOk (D : DV) (u a : Int) : Prop where
 lay : LayOk D.fs
 byt : ∀ f ∈ D.fs, Byts f.bs
 used : D.used = usd D.fs
 us : usd D.fs ≤ u
 room : usd D.fs ≤ D.room ∧ D.room ≤ 9223372036854775807
 fuse : -1 ≤ D.fuse ∧ D.fuse ≤ 9223372036854775807
 acts : 0 ≤ D.acts ∧ D.acts ≤ a
theorem DOk.le {D : DV} {u a u' a' : Int} (h : DOk D u a) (hu : u ≤ u') (ha : a ≤ a') : DOk D u' a' := ⟨h.lay, h.byt, h.used, by have := h.us; omega, h.room, h.fuse, by have := h.acts; omega⟩
theorem DOk.act {D : DV} {u a : Int} (h : DOk D u a) : DOk D.act u (a + 1) := by
 refine ⟨h.lay, h.byt, h.used, h.us, h.room, ?_, ?_⟩
 ·have := h.fuse
  simp only [DV.act]
  split
  ·omega
  ·split <;> omega
 ·have := h.acts
  simp only [DV.act]
  omega
theorem DOk.set {D : DV} {u a : Int} (h : DOk D u a) {i : Nat} {f g : PF} (hf : D.fs[i]? = some f) (hn : g.nm = f.nm) (hs : 0 ≤ g.sf ∧ g.sf ≤ (g.bs.length : Int)) (hb : Byts g.bs) (hr : usd D.fs - (f.bs.length : Int) + (g.bs.length : Int) ≤ D.room) (u' : Int) (hu : usd D.fs - (f.bs.length : Int) + (g.bs.length : Int) ≤ u') : DOk { D with fs := D.fs.set i g, used := D.used - (f.bs.length : Int) + (g.bs.length : Int) } u' a := by
 have e := usd_set (x := g) hf
 refine ⟨⟨srt_set h.lay.srt hf hn, by simpa using h.lay.len, fun x hx => ?_, fun x hx => ?_⟩, fun x hx => ?_, ?_, ?_, ?_, h.fuse, h.acts⟩
 ·rcases set_sub hx with hx | rfl
  ·exact h.lay.sf x hx
  ·exact hs
 ·rcases set_sub hx with hx | rfl
  ·exact h.lay.nms x hx
  ·rw [hn]; exact h.lay.nms f (List.mem_of_getElem? hf)
 ·rcases set_sub hx with hx | rfl
  ·exact h.byt x hx
  ·exact hb
 ·show D.used - _ + _ = usd (D.fs.set i g)
  rw [e, h.used]
 ·show usd (D.fs.set i g) ≤ u'
  rw [e]; exact hu
 ·show usd (D.fs.set i g) ≤ D.room ∧ _
  rw [e]; exact ⟨hr, h.room.2⟩
theorem Byts.take' {l : List Int} (h : Byts l) (n : Nat) : Byts (l.take n) := fun x hx => h x (List.mem_of_mem_take hx)
theorem Byts.app' {l m : List Int} (h : Byts l) (k : Byts m) : Byts (l ++ m) := fun x hx => (List.mem_append.1 hx).elim (h x) (k x)
theorem DOk.ap {D : DV} {u a : Int} (h : DOk D u a) (n : ByteArray) (l : List Int) (hl : Byts l) : DOk (apD D n l) (u + (l.length : Int)) (a + 1) := by
 have h0 : DOk D (u + (l.length : Int)) (a + 1) := h.le (by omega) (by omega)
 unfold apD
 split
 ·exact h0
 split
 ·exact h0
 split
 ·exact h0
 split
 ·exact h0
 rename_i h1 h2 h3 h4
 have hu := h.us
 split
 ·rename_i f hf ht
  have := DOk.set h (g := f.app l) hf rfl (by have := h.lay.sf f (List.mem_of_getElem? hf); simp only [PF.app, List.length_append]; omega) ((h.byt f (List.mem_of_getElem? hf)).app' hl) (by simp only [PF.app, List.length_append]; omega) (u + (l.length : Int)) (by simp only [PF.app, List.length_append]; omega)
  have e : D.appIs (fnd n D.fs 0).1 f l = DV.act { D with fs := D.fs.set (fnd n D.fs 0).1 (f.app l), used := D.used - (f.bs.length : Int) + ((f.app l).bs.length : Int) } := by
   unfold DV.appIs
   congr 2
   simp only [PF.app, List.length_append]
   omega
  rw [e]
  exact this.act
 ·rename_i hz
  have ht : (fnd n D.fs 0).2 = false := by
   cases e : (fnd n D.fs 0).2 with
   | false => rfl
   | true =>
    obtain ⟨j, f, e1, e2⟩ := fnd_at n D.fs 0 e
    rw [Nat.zero_add] at e1
    exact (hz f (by rw [e1]; exact e2) e).elim
  have hF : fnd n D.fs 0 = ((fnd n D.fs 0).1, false) := by rw [← ht]
  have hi := (fnd_le n D.fs 0).2
  have hl2 : D.fs.length < 256 := by
   have := h3
   rw [not_and] at this
   have := this ht
   omega
  have e := usd_ins D.fs (fnd n D.fs 0).1 ⟨n, l, 0⟩
  have hrg : rgt n = true := by simpa using h2
  refine DOk.act (D := { D with fs := D.fs.take (fnd n D.fs 0).1 ++ [⟨n, l, 0⟩] ++ D.fs.drop (fnd n D.fs 0).1, used := D.used + (l.length : Int) }) ⟨⟨srt_ins h.lay.srt hF rfl, ?_, fun x hx => ?_, fun x hx => ?_⟩, fun x hx => ?_, ?_, ?_, ?_, h.fuse, h.acts⟩
  ·simp only [List.length_append, List.length_take, List.length_drop, List.length_singleton]
   omega
  ·rcases ins_mem hx with hx | rfl
   ·exact h.lay.sf x hx
   ·exact ⟨Int.le_refl _, by simp⟩
  ·rcases ins_mem hx with hx | rfl
   ·exact h.lay.nms x hx
   ·exact hrg
  ·rcases ins_mem hx with hx | rfl
   ·exact h.byt x hx
   ·exact hl
  ·show D.used + _ = usd (_ ++ _ ++ _)
   rw [e, h.used]
  ·show usd (_ ++ _ ++ _) ≤ _
   rw [e]; simp only; omega
  ·show usd (_ ++ _ ++ _) ≤ D.room ∧ _
   rw [e]; exact ⟨by simp only; omega, h.room.2⟩
theorem fnd_get {n : ByteArray} {fs : List PF} (h : ¬ (fnd n fs 0).2 = false) : ∃ f, fs[(fnd n fs 0).1]? = some f := by
 obtain ⟨j, f, e1, e2⟩ := fnd_at n fs 0 (by simpa using h)
 rw [Nat.zero_add] at e1
 exact ⟨f, by rw [e1]; exact e2⟩
theorem DOk.sy {D : DV} {u a : Int} (h : DOk D u a) (n : ByteArray) : DOk (syD D n) u (a + 1) := by
 have h0 : DOk D u (a + 1) := h.le (by omega) (by omega)
 unfold syD
 split
 ·exact h0
 split
 ·exact h0
 split
 ·exact h.act
 rename_i h1 h2 h3
 obtain ⟨f, hf⟩ := fnd_get h2
 have := DOk.set h.act (g := f.sync) hf rfl (by simp [PF.sync]) (h.byt f (List.mem_of_getElem? hf)) (by have := h.room; simp only [PF.sync, DV.act]; omega) u (by have := h.us; simp only [PF.sync, DV.act]; omega)
 have e : D.act.sync (fnd n D.fs 0).1 = { D.act with fs := D.act.fs.set (fnd n D.fs 0).1 f.sync, used := D.act.used - (f.bs.length : Int) + (f.sync.bs.length : Int) } := by
  unfold DV.sync
  rw [mod_set (l := D.act.fs) (a := f) hf]
  simp only [PF.sync, Int.sub_add_cancel]
 rw [e]
 exact this
theorem DOk.cu {D : DV} {u a : Int} (h : DOk D u a) (n : ByteArray) (m : Int) : DOk (cuD D n m) u (a + 1) := by
 have h0 : DOk D u (a + 1) := h.le (by omega) (by omega)
 unfold cuD
 split
 ·exact h0
 split
 ·exact h0
 split
 ·exact h0
 split
 ·exact h.act
 rename_i h1 h2 h3 h4
 obtain ⟨f, hf⟩ := fnd_get h2
 have hr : 0 ≤ m ∧ m ≤ (f.bs.length : Int) := by
  unfold cuR at h3
  rw [hf] at h3
  simpa using h3
 rw [hf]
 have hsf := h.lay.sf f (List.mem_of_getElem? hf)
 have hln : ((f.cut m.toNat).bs.length : Int) = m := by simp only [PF.cut, List.length_take]; omega
 have := DOk.set h.act (g := f.cut m.toNat) hf rfl (by rw [hln]; simp only [PF.cut]; omega) ((h.byt f (List.mem_of_getElem? hf)).take' _) (by have := h.room; rw [hln]; simp only [DV.act]; omega) u (by have := h.us; rw [hln]; simp only [DV.act]; omega)
 have e : D.act.cut (fnd n D.fs 0).1 f m.toNat = { D.act with fs := D.act.fs.set (fnd n D.fs 0).1 (f.cut m.toNat), used := D.act.used - (f.bs.length : Int) + ((f.cut m.toNat).bs.length : Int) } := by
  unfold DV.cut
  rw [hln]
  congr 1
  omega
 simp only
 rw [e]
 exact this
theorem DOk.dr {D : DV} {u a : Int} (h : DOk D u a) (n : ByteArray) : DOk (drD D n) u (a + 1) := by
 have h0 : DOk D u (a + 1) := h.le (by omega) (by omega)
 unfold drD
 split
 ·exact h0
 split
 ·exact h0
 split
 ·exact h.act
 rename_i h1 h2 h3
 obtain ⟨f, hf⟩ := fnd_get h2
 rw [hf]
 have hu := usd_del hf
 have hl := (List.getElem?_eq_some_iff.1 hf).1
 have k := h.act
 refine ⟨⟨srt_del h.lay.srt _, ?_, fun g hg => h.lay.sf g (del_sub hg), fun g hg => h.lay.nms g (del_sub hg)⟩, fun g hg => h.byt g (del_sub hg), ?_, ?_, ?_, k.fuse, k.acts⟩
 ·have := h.lay.len
  simp only [DV.del, DV.act, List.length_append, List.length_take, List.length_drop]
  omega
 ·simp only [DV.del, DV.act]
  rw [hu, h.used]
 ·simp only [DV.del, DV.act]
  rw [hu]
  have := h.us
  omega
 ·simp only [DV.del, DV.act]
  rw [hu]
  have := h.room
  omega
theorem crT_mem {kp : List Int} {fs : List PF} {t : Nat} {g : PF} (h : g ∈ crT kp t fs) : ∃ (i : Nat) (f : PF), fs[i]? = some f ∧ (g = f ∨ g = f.crash (kpN kp i f)) := by
 obtain ⟨i, hi⟩ := List.getElem?_of_mem h
 unfold crT at hi
 rw [List.getElem?_mapIdx] at hi
 cases e : fs[i]? with
 | none => rw [e] at hi; cases hi
 | some f =>
  rw [e] at hi
  simp only [Option.map_some] at hi
  injection hi with hi
  refine ⟨i, f, e, ?_⟩
  split at hi
  ·exact .inr hi.symm
  ·exact .inl hi.symm
theorem DOk.cr {D : DV} {u a : Int} (h : DOk D u a) (kp : List Int) : DOk (D.crash kp) u (a + 1) := by
 have hU : usd (crT kp D.fs.length D.fs) ≤ usd D.fs := by
  have := usd_crT kp D.fs (fun f hf => h.lay.sf f hf) D.fs.length (Nat.le_refl _)
  rw [List.take_of_length_le (Nat.le_of_eq (crT_len _ _ _)), List.take_length] at this
  exact this
 have hc : ∀ (i : Nat) (f : PF), D.fs[i]? = some f → ((f.crash (kpN kp i f)).bs.length : Int) = f.sf + kpN kp i f := fun i f hf => by
  have h1 := h.lay.sf f (List.mem_of_getElem? hf)
  have h2 := kpN_le kp i f h1
  simp only [PF.crash, List.length_take]
  omega
 refine ⟨⟨?_, ?_, fun g hg => ?_, fun g hg => ?_⟩, fun g hg => ?_, rfl, ?_, ?_, ?_, ?_⟩
 ·show Srt (crT kp D.fs.length D.fs)
  unfold Srt
  rw [List.pairwise_iff_getElem]
  intro i j hi hj hij
  have hs := h.lay.srt
  unfold Srt at hs
  rw [List.pairwise_iff_getElem] at hs
  rw [crT_len] at hi hj
  have := hs i j hi hj hij
  simp only [crT, List.getElem_mapIdx]
  rw [if_pos hi, if_pos hj]
  exact this
 ·show (crT kp D.fs.length D.fs).length ≤ 256
  rw [crT_len]; exact h.lay.len
 ·obtain ⟨i, f, hf, rfl | rfl⟩ := crT_mem hg
  ·exact h.lay.sf _ (List.mem_of_getElem? hf)
  ·have h1 := h.lay.sf f (List.mem_of_getElem? hf)
   have h2 := kpN_le kp i f h1
   rw [hc i f hf]
   simp only [PF.crash]
   omega
 ·obtain ⟨i, f, hf, rfl | rfl⟩ := crT_mem hg
  ·exact h.lay.nms _ (List.mem_of_getElem? hf)
  ·exact h.lay.nms f (List.mem_of_getElem? hf)
 ·obtain ⟨i, f, hf, rfl | rfl⟩ := crT_mem hg
  ·exact h.byt _ (List.mem_of_getElem? hf)
  ·exact (h.byt f (List.mem_of_getElem? hf)).take' _
 ·show usd (crT kp D.fs.length D.fs) ≤ u
  have := h.us; omega
 ·show usd (crT kp D.fs.length D.fs) ≤ D.room ∧ D.room ≤ _
  have := h.room; omega
 ·show (-1 : Int) ≤ -1 ∧ (-1 : Int) ≤ 9223372036854775807
  omega
 ·show 0 ≤ D.acts ∧ D.acts ≤ a + 1
  have := h.acts; omega
theorem DOk.fu {D : DV} {u a : Int} (h : DOk D u a) (n : Int) (hn : n ≤ 9223372036854775807) : DOk { D with fuse := max (-1) n } u (a + 1) :=
 ⟨h.lay, h.byt, h.used, h.us, h.room, by simp only; omega, by have := h.acts; simp only; omega⟩
theorem DOk.lays (r : Int) (hr : r ≤ 9223372036854775807) (ks : List PF) (hB : ∀ x ∈ ks, Byts x.bs) (hU : usd ks ≤ 1000000000000) : DOk (layD r ks) (usd ks) 0 := by
 have h1 := layT_ok ks ks.length
 have h2 := layT_usd ks ks.length
 have h3 := layT_mem ks ks.length
 rw [List.take_length] at h1 h2 h3
 have h4 := usd_nonneg (layT ks)
 refine ⟨h1, fun f hf => ?_, rfl, h2, ?_, ?_, ?_⟩
 ·obtain ⟨x, hx, rfl⟩ := h3 f hf
  exact hB x hx
 ·show usd (layT ks) ≤ max (max 0 r) (usd (layT ks)) ∧ max (max 0 r) (usd (layT ks)) ≤ _
  omega
 ·show (-1 : Int) ≤ -1 ∧ (-1 : Int) ≤ 9223372036854775807
  omega
 ·show (0 : Int) ≤ 0 ∧ (0 : Int) ≤ 0
  omega
def kxG (d h x : Nat) (a b : Value) (n : Int) : Array Value := #[ptr d, ptr h, ptr x, a, b, .int .i64 n, .bool false]
theorem boxG (d h x : Nat) : Box 3 (kxG d h x) where
 g0 _ _ _ := rfl
 g1 _ _ _ := rfl
 g2 _ _ _ := rfl
 g3 _ _ _ := rfl
 s0 _ _ _ _ := rfl
 s1 _ _ _ _ := rfl
 s2 _ _ _ _ := rfl
 s3 _ _ _ := rfl
theorem BookIn.grown {kb T : Nat} {kx : Value → Value → Int → Array Value} {F S : Nat → Prop} {w w' : World} (h : BookIn kb T kx F w) (hg : Grown w w' S) (hk : ¬ S kb) (hF : ∀ k, F k → ¬ S k) : BookIn kb T kx F w' := by
 obtain ⟨lv, gv, N, A, B, n, h1, h2, h3, h4, h5⟩ := h
 exact ⟨lv, gv, N, A, B, n, hg.blk h1 hk, h2.grown hg hF, h3, h4, h5⟩
theorem BookIn.blk {kb T : Nat} {kx : Value → Value → Int → Array Value} {F : Nat → Prop} {w : World} (h : BookIn kb T kx F w) : ∃ lv gv n, Blk w kb T (kx lv gv n) := by
 obtain ⟨lv, gv, N, A, B, n, h1, _⟩ := h
 exact ⟨lv, gv, n, h1⟩
theorem DskAt.gr {w w' : World} {p : Nat} {vf : Value} {cs : List FC} {D : DV} {S : Nat → Prop} (h : DskAt w p vf cs D) (hg : Grown w w' S) (hs : ∀ k, DskS p vf cs k → ¬ S k) : DskAt w' p vf cs D :=
 ⟨hg.blk h.blk (hs p (.inl rfl)), h.own.grown hg fun k hk => hs k (.inr (.inl hk)), ⟨h.fcs.len, fun i x f hx hf => ⟨(h.fcs.each i x f hx hf).1, (h.fcs.each i x f hx hf).2.1, (h.fcs.each i x f hx hf).2.2.grown hg fun k hk => hs k (.inr (.inr ⟨i, x, hx, hk⟩))⟩, h.fcs.apart⟩⟩
theorem DskAt.sLt {w : World} {p : Nat} {vf : Value} {cs : List FC} {D : DV} (h : DskAt w p vf cs D) {k : Nat} (hk : DskS p vf cs k) : k < w.heap.size := by
 rcases h.sTyp hk with h | h | h <;> exact h.lt
structure GV where
 g : Nat
 d : Nat
 h : Nat
 p : Nat
 x : Nat
 vf : Value
 vr : Value
 va : Value
 cs : List FC
 cr : List FC
 ms : List AC
 F : Nat → Prop
def GV.P (G : GV) (k : Nat) : Prop := DskS G.p G.vf G.cs k
def GV.R (G : GV) (k : Nat) : Prop := RdS G.x G.vr G.va G.cr k
def GV.U (G : GV) (k : Nat) : Prop := k = G.g ∨ k = G.d ∨ k = G.h ∨ G.P k ∨ G.R k ∨ G.F k
structure GvAt (w : World) (G : GV) (D E : DV) : Prop where
 bk : BookIn G.g 35 (kxG G.d G.h G.x) G.F w
 dk : Blk w G.d 67 #[ptr G.p]
 hd : Blk w G.h 73 #[ptr G.p]
 dsk : DskAt w G.p G.vf G.cs D
 ref : RDAt w G.x G.vr G.va G.cr G.ms E
 pr : ∀ k, G.P k → ¬ G.R k
 fz : ∀ k, G.F k → k < w.heap.size ∧ k ≠ G.g ∧ k ≠ G.d ∧ k ≠ G.h ∧ ¬ G.P k ∧ ¬ G.R k
theorem GvAt.pT {w : World} {G : GV} {D E : DV} (h : GvAt w G D E) {k : Nat} (hk : G.P k) : k ≠ G.g ∧ k ≠ G.d ∧ k ≠ G.h := by
 obtain ⟨lv, gv, n, hb⟩ := h.bk.blk
 have ht := h.dsk.sTyp hk
 refine ⟨fun e => ?_, fun e => ?_, fun e => ?_⟩ <;> subst e
 ·rcases ht with ht | ht | ht <;> (have := hb.typ.one ht; revert this; decide)
 ·rcases ht with ht | ht | ht <;> (have := h.dk.typ.one ht; revert this; decide)
 ·rcases ht with ht | ht | ht <;> (have := h.hd.typ.one ht; revert this; decide)
theorem GvAt.rT {w : World} {G : GV} {D E : DV} (h : GvAt w G D E) {k : Nat} (hk : G.R k) : k ≠ G.g ∧ k ≠ G.d ∧ k ≠ G.h := by
 obtain ⟨lv, gv, n, hb⟩ := h.bk.blk
 have ht := h.ref.sTyp hk
 refine ⟨fun e => ?_, fun e => ?_, fun e => ?_⟩ <;> subst e
 ·rcases ht with ht | ht | ht | ht <;> (have := hb.typ.one ht; revert this; decide)
 ·rcases ht with ht | ht | ht | ht <;> (have := h.dk.typ.one ht; revert this; decide)
 ·rcases ht with ht | ht | ht | ht <;> (have := h.hd.typ.one ht; revert this; decide)
theorem GvAt.uLt {w : World} {G : GV} {D E : DV} (h : GvAt w G D E) {k : Nat} (hk : G.U k) : k < w.heap.size := by
 obtain ⟨lv, gv, n, hb⟩ := h.bk.blk
 rcases hk with e | e | e | hk | hk | hk
 ·subst e; exact hb.lt
 ·subst e; exact h.dk.lt
 ·subst e; exact h.hd.lt
 ·exact h.dsk.sLt hk
 ·exact h.ref.sLt hk
 ·exact (h.fz k hk).1
theorem GvAt.grown {w w' : World} {G : GV} {D E : DV} {S : Nat → Prop} (h : GvAt w G D E) (hg : Grown w w' S) (hs : ∀ k, G.U k → ¬ S k) : GvAt w' G D E :=
 ⟨h.bk.grown hg (hs _ (.inl rfl)) fun k hk => hs k (.inr (.inr (.inr (.inr (.inr hk))))), hg.blk h.dk (hs _ (.inr (.inl rfl))), hg.blk h.hd (hs _ (.inr (.inr (.inl rfl)))), h.dsk.gr hg fun k hk => hs k (.inr (.inr (.inr (.inl hk)))), h.ref.grown hg fun k hk => hs k (.inr (.inr (.inr (.inr (.inl hk))))), h.pr, fun k hk => ⟨Nat.lt_of_lt_of_le (h.fz k hk).1 hg.size, (h.fz k hk).2⟩⟩
theorem GvAt.below {w w' : World} {G : GV} {D E : DV} (h : GvAt w G D E) (hb : Below w.heap.size w w') : GvAt w' G D E := h.grown (Grown.below (S := fun _ => False) hb) fun _ _ h => h
theorem GvAt.drew {w : World} {G : GV} {D E : DV} (h : GvAt w G D E) : GvAt w.drew G D E := h.grown (Grown.refl w (fun _ => False)).drew fun _ _ h => h
theorem GvAt.prog {w w' : World} {G : GV} {D E D' : DV} {vf' : Value} {cs' : List FC} (h : GvAt w G D E) (hd : DskAt w' G.p vf' cs' D') (hg : Grown w w' G.P) (hn : ∀ k, DskS G.p vf' cs' k → G.P k ∨ w.heap.size ≤ k) : GvAt w' { G with vf := vf', cs := cs' } D' E := by
 refine ⟨h.bk.grown hg (fun e => (h.pT e).1 rfl) fun k hk => (h.fz k hk).2.2.2.2.1, hg.blk h.dk fun e => (h.pT e).2.1 rfl, hg.blk h.hd fun e => (h.pT e).2.2 rfl, hd, h.ref.grown hg fun k hk e => h.pr k e hk, fun k hk hr => ?_, fun k hk => ⟨Nat.lt_of_lt_of_le (h.fz k hk).1 hg.size, (h.fz k hk).2.1, (h.fz k hk).2.2.1, (h.fz k hk).2.2.2.1, fun e => ?_, (h.fz k hk).2.2.2.2.2⟩⟩
 ·rcases hn k hk with e | e
  ·exact h.pr k e hr
  ·have := h.ref.sLt hr; omega
 ·rcases hn k e with e | e
  ·exact (h.fz k hk).2.2.2.2.1 e
  ·have := (h.fz k hk).1; omega
theorem GvAt.doc {w w' : World} {G : GV} {D E E' : DV} {vr' va' : Value} {cr' : List FC} {ms' : List AC} (h : GvAt w G D E) (hd : RDAt w' G.x vr' va' cr' ms' E') (hg : Grown w w' (RdW G.x G.vr G.va)) (hn : ∀ k, RdS G.x vr' va' cr' k → G.R k ∨ w.heap.size ≤ k) : GvAt w' { G with vr := vr', va := va', cr := cr', ms := ms' } D E' := by
 have hg : Grown w w' G.R := hg.mono fun k _ e => .inl e
 refine ⟨h.bk.grown hg (fun e => (h.rT e).1 rfl) fun k hk => (h.fz k hk).2.2.2.2.2, hg.blk h.dk fun e => (h.rT e).2.1 rfl, hg.blk h.hd fun e => (h.rT e).2.2 rfl, h.dsk.gr hg fun k hk => h.pr k hk, hd, fun k hk hr => ?_, fun k hk => ⟨Nat.lt_of_lt_of_le (h.fz k hk).1 hg.size, (h.fz k hk).2.1, (h.fz k hk).2.2.1, (h.fz k hk).2.2.2.1, (h.fz k hk).2.2.2.2.1, fun e => ?_⟩⟩
 ·rcases hn k hr with e | e
  ·exact h.pr k hk e
  ·have := h.dsk.sLt hk; omega
 ·rcases hn k e with e | e
  ·exact (h.fz k hk).2.2.2.2.2 e
  ·have := (h.fz k hk).1; omega
theorem GvAt.add {w w' : World} {G : GV} {D E : DV} {vb : Value} {e : Ending} (h : GvAt w G D E) (hv : ∀ k, vb.ownBlock = some k → k < w.heap.size ∧ ¬ G.U k) (hp : AddPost G.g 35 (kxG G.d G.h G.x) vb G.F w e w') :
  e = .returned (.tuple #[]) ∧ GvAt w' { G with F := fun k => G.F k ∨ vb.ownBlock = some k ∨ (w.heap.size ≤ k ∧ k < w'.heap.size) } D E ∧ Grown w w' fun k => G.U k ∨ vb.ownBlock = some k := by
 obtain ⟨he, hbk, hg⟩ := hp
 obtain ⟨lv, gv, n, hb⟩ := h.bk.blk
 have nb : ∀ {k : Nat}, k ≠ G.g → G.U k → ¬ G.F k → ¬ (k = G.g ∨ G.F k ∨ vb.ownBlock = some k) := fun hk hu hF hs => by
  rcases hs with hs | hs | hs
  ·exact hk hs
  ·exact hF hs
  ·exact (hv _ hs).2 hu
 have nd : G.d ≠ G.g := blk_ne h.dk hb (by decide)
 have nh : G.h ≠ G.g := blk_ne h.hd hb (by decide)
 refine ⟨he, ⟨hbk, hg.blk h.dk (nb nd (.inr (.inl rfl)) fun hF => (h.fz _ hF).2.2.1 rfl), hg.blk h.hd (nb nh (.inr (.inr (.inl rfl))) fun hF => (h.fz _ hF).2.2.2.1 rfl), h.dsk.gr hg fun k hk => nb (h.pT hk).1 (.inr (.inr (.inr (.inl hk)))) fun hF => (h.fz _ hF).2.2.2.2.1 hk, h.ref.grown hg fun k hk => nb (h.rT hk).1 (.inr (.inr (.inr (.inr (.inl hk))))) fun hF => (h.fz _ hF).2.2.2.2.2 hk, h.pr, fun k hk => ?_⟩, hg.mono fun k _ e => ?_⟩
 ·have hsz := hg.size
  rcases hk with hk | hk | hk
  ·exact ⟨by have := (h.fz k hk).1; omega, (h.fz k hk).2⟩
  ·obtain ⟨h1, h2⟩ := hv k hk
   exact ⟨by omega, fun e => h2 (.inl e), fun e => h2 (.inr (.inl e)), fun e => h2 (.inr (.inr (.inl e))), fun e => h2 (.inr (.inr (.inr (.inl e)))), fun e => h2 (.inr (.inr (.inr (.inr (.inl e)))))⟩
  ·have l1 := hb.lt
   have l2 := h.dk.lt
   have l3 := h.hd.lt
   exact ⟨hk.2, fun e => by have e : k = G.g := e; omega, fun e => by have e : k = G.d := e; omega, fun e => by have e : k = G.h := e; omega, fun e => by have := h.dsk.sLt e; omega, fun e => by have := h.ref.sLt e; omega⟩
 ·rcases e with e | e | e
  ·exact .inl (.inl e)
  ·exact .inl (.inr (.inr (.inr (.inr (.inr e)))))
  ·exact .inr e
def GvN (w w' : World) (G G' : GV) : Prop := G'.g = G.g ∧ Grown w w' G.U ∧ ∀ k, G'.U k → G.U k ∨ w.heap.size ≤ k
theorem GvN.trans {w w1 w2 : World} {G G1 G2 : GV} (h : GvN w w1 G G1) (k : GvN w1 w2 G1 G2) : GvN w w2 G G2 := by
 refine ⟨k.1.trans h.1, h.2.1.next k.2.1 fun i hi e => (h.2.2 i e).elim id fun e => by omega, fun i hi => ?_⟩
 rcases k.2.2 i hi with e | e
 ·exact h.2.2 i e
 ·exact .inr (by have := h.2.1.size; omega)
theorem GvN.blw {w w' : World} (G : GV) (h : Below w.heap.size w w') : GvN w w' G G := ⟨rfl, Grown.below h, fun _ h => .inl h⟩
theorem GvN.prog {w w' : World} {G : GV} {vf' : Value} {cs' : List FC} (hg : Grown w w' G.P) (hn : ∀ k, DskS G.p vf' cs' k → G.P k ∨ w.heap.size ≤ k) : GvN w w' G { G with vf := vf', cs := cs' } := by
 refine ⟨rfl, hg.mono fun k _ e => .inr (.inr (.inr (.inl e))), fun k hk => ?_⟩
 rcases hk with e | e | e | hk | hk | hk
 ·exact .inl (.inl e)
 ·exact .inl (.inr (.inl e))
 ·exact .inl (.inr (.inr (.inl e)))
 ·exact (hn k hk).imp (fun e => .inr (.inr (.inr (.inl e)))) id
 ·exact .inl (.inr (.inr (.inr (.inr (.inl hk)))))
 ·exact .inl (.inr (.inr (.inr (.inr (.inr hk)))))
theorem GvN.doc {w w' : World} {G : GV} {vr' va' : Value} {cr' : List FC} {ms' : List AC} (hg : Grown w w' (RdW G.x G.vr G.va)) (hn : ∀ k, RdS G.x vr' va' cr' k → G.R k ∨ w.heap.size ≤ k) : GvN w w' G { G with vr := vr', va := va', cr := cr', ms := ms' } := by
 refine ⟨rfl, hg.mono fun k _ e => .inr (.inr (.inr (.inr (.inl (.inl e))))), fun k hk => ?_⟩
 rcases hk with e | e | e | hk | hk | hk
 ·exact .inl (.inl e)
 ·exact .inl (.inr (.inl e))
 ·exact .inl (.inr (.inr (.inl e)))
 ·exact .inl (.inr (.inr (.inr (.inl hk))))
 ·exact (hn k hk).imp (fun e => .inr (.inr (.inr (.inr (.inl e))))) id
 ·exact .inl (.inr (.inr (.inr (.inr (.inr hk)))))
set_option maxRecDepth 8000 in
set_option maxHeartbeats 2000000 in
theorem read_mid (d p i : Nat) (n : ByteArray) (a m : Int) (vf : Value) (cs : List FC) (D : DV) (f : PF) (w : World) (hDk : Blk w d 67 #[ptr p]) (hD : DskAt w p vf cs D) (hO : D.out = false) (hF : fnd n D.fs 0 = (i, true)) (hFi : D.fs[i]? = some f) (hL : cs.length ≤ 256) (hB : f.bs.length ≤ 70368744177664) : Calls Tryz.prog 36 #[ptr d, .string n, .int .i64 a, .int .i64 m] w fun e w' => ∃ v, e = .returned (.tuple #[v, .int .i64 (if (0 ≤ a ∧ 0 ≤ m ∧ a ≤ (f.bs.length : Int) ∧ m ≤ (f.bs.length : Int) - a) then 0 else 2)]) ∧ Own w' v (if (0 ≤ a ∧ 0 ≤ m ∧ a ≤ (f.bs.length : Int) ∧ m ≤ (f.bs.length : Int) - a) then (f.bs.drop a.toNat).take m.toNat else []) ∧ (∀ k, v.ownBlock = some k → w.heap.size ≤ k) ∧ Below w.heap.size w w' := by
 obtain ⟨va, vc, rfl⟩ := hD.own.sl
 have HDk := Keep.mk hDk
 have HD := Keep.mk hD
 have HO := Keep.mk hO
 have HF := Keep.mk hF
 have HFi := Keep.mk hFi
 have HL := Keep.mk hL
 have HB := Keep.mk hB
 clear hDk hD hO hF hFi hL hB
 go_enter Tryz.func36, Tryz.ntmps36
 have cd := HDk.out.c 0 (by rfl : (#[ptr p] : Array Value)[0]? = some (ptr p))
 have c4 : w.cell? ⟨p, 4, none⟩ = some (.bool false) := by have h := HD.out.blk.c 4 (by rfl : (stA (.slice va cs.length vc) D)[4]? = some (.bool D.out)); rw [HO.out] at h; exact h
 refine wp_seq_k fun K1 hK1 => rgn ?_
 refine VlS (.slice none 0 0) ?_
 refine VlS (.int .i64 0) ?_
 refine WL.nil (hK1 _ _ ?_)
 refine wp_seq_k fun K2 hK2 => rgn ?_
 refine VlS (.pointer (some ⟨d, 0, none⟩)) ?_
 refine VlS (.pointer (some ⟨d, 0, none⟩)) ?_
 refine VlS (.pointer (some ⟨d, 0, none⟩)) ?_
 refine VlS (.pointer (some ⟨p, 0, none⟩)) ?_
 refine VlS (.pointer (some ⟨p, 0, none⟩)) ?_
 refine WL.nil (hK2 _ _ ?_)
 refine wp_seq_k fun K3 hK3 => ?_
 refine wp_seq_k fun K4 hK4 => rgn ?_
 refine VlS (.pointer (some ⟨p, 0, none⟩)) ?_
 refine VlS (.pointer (some ⟨p, 0, none⟩)) ?_
 refine VlS (.pointer (some ⟨p, 4, none⟩)) ?_
 refine VbF ?_
 refine WL.nil (hK4 _ _ ?_)
 refine wp_cond_false rfl ?_
 refine wp_skip ?_
 refine hK3 _ _ ?_
 refine wp_seq_k fun K5 hK5 => rgn ?_
 refine VlS (.pointer (some ⟨p, 0, none⟩)) ?_
 refine VlS (.string n) ?_
 clear cd c4
 have hfd := find_any p n _ cs D w HD.out (by have := HL.out; omega)
 rw [HF.out] at hfd
 refine WL.callF (by kernel_rfl) 25 _ _ rfl Tryz.in25 #[ptr p, .string n] (by simp [Act.eval]) ?_
 refine (hfd).mono ?_
 rintro e w1 ⟨rfl, hb1⟩
 refine ⟨_, rfl, ?_⟩
 have B1 := Keep.mk hb1
 have HD1 := Keep.mk (HD.out.below hb1)
 clear hb1 hfd
 obtain ⟨f_, hf_⟩ : ∃ f, D.fs[i]? = some f := ⟨f, HFi.out⟩
 obtain rfl : f = f_ := Option.some.inj (HFi.out.symm.trans hf_)
 have hci : i < cs.length := by have h := HD1.out.fcs.len; have h2 := (List.getElem?_eq_some_iff.1 hf_).1; omega
 obtain ⟨x, hx⟩ : ∃ x, cs[i]? = some x := ⟨cs[i], List.getElem?_eq_getElem hci⟩
 obtain ⟨g, ha, hrg⟩ := HD1.out.own.at hx
 subst ha
 have hec := HD1.out.fcs.each i x f hx hf_
 obtain ⟨xn, xb, xs⟩ := x
 obtain ⟨xa, xc, hxb⟩ := row_form hec.2.2.row
 change xb = _ at hxb
 subst hxb
 have HXr : Keep (RowAt w1 (.slice xa f.bs.length xc) f.bs) := ⟨hec.2.2.row⟩
 have c1 : w1.cell? ⟨g, i * 3 + 1, none⟩ = some (.slice xa f.bs.length xc) := hrg 1 _ rfl
 have hilc : (i : Int) < (cs.length : Int) := by omega
 have p0 := HD1.out.blk.c 0 (by rfl : (stA (.slice (some ⟨g, 0, none⟩) cs.length vc) D)[0]? = some (.slice (some ⟨g, 0, none⟩) cs.length vc))
 clear hrg hec hx hf_ hci
 simp only [Act.put, pqA, pqB, pqC]
 refine VlS (.tuple #[.int .i64 (i : Int), .bool true]) ?_
 refine VlS (.int .i64 (i : Int)) ?_
 refine VbT ?_
 refine VlS (.int .i64 (i : Int)) ?_
 refine VbT ?_
 refine WL.nil (hK5 _ _ ?_)
 refine wp_seq_k fun K6 hK6 => ?_
 refine wp_seq_k fun K7 hK7 => rgn ?_
 refine VbT ?_
 refine VbF ?_
 refine WL.nil (hK7 _ _ ?_)
 refine wp_cond_false rfl ?_
 refine wp_skip ?_
 refine hK6 _ _ ?_
 refine wp_seq_k fun K8 hK8 => rgn ?_
 refine VlS (.pointer (some ⟨p, 0, none⟩)) ?_
 refine VlS (.pointer (some ⟨p, 0, none⟩)) ?_
 refine VlS (.pointer (some ⟨p, 0, none⟩)) ?_
 refine VlS (.slice (some ⟨g, 0, none⟩) cs.length vc) ?_
 refine VlS (.int .i64 (i : Int)) ?_
 refine VlS (.pointer (some ⟨g, i * 3, none⟩)) ?_
 refine VlS (.pointer (some ⟨g, i * 3 + 1, none⟩)) ?_
 refine VlS (.slice xa f.bs.length xc) ?_
 refine VlS (.slice xa f.bs.length xc) ?_
 refine WL.nil (hK8 _ _ ?_)
 refine wp_seq_k fun K9 hK9 => ?_
 refine wp_seq_k fun K10 hK10 => rgn ?_
 refine VlS (.int .i64 a) ?_
 by_cases h8_1 : a < 0
 ·skip
  refine VbT ?_
  refine VbT ?_
  refine SkS ?_
  refine SkS ?_
  refine VbT ?_
  refine VbT ?_
  refine SkS ?_
  refine SkS ?_
  refine SkS ?_
  refine SkS ?_
  refine VbT ?_
  refine VbT ?_
  refine SkS ?_
  refine SkS ?_
  refine SkS ?_
  refine SkS ?_
  refine SkS ?_
  refine SkS ?_
  refine VbT ?_
  refine WL.nil (hK10 _ _ ?_)
  refine wp_cond_true rfl ?_
  refine wp_seq_k fun K11 hK11 => rgn ?_
  refine VlS (.slice none 0 0) ?_
  refine VlS (.int .i64 2) ?_
  refine WL.nil (hK11 _ _ ?_)
  refine wp_ret ?_
  go_ret2
  rw [if_neg (by omega), if_neg (by omega)]
  exact ⟨_, rfl, own_nil _, (fun k hk => by cases hk), B1.out⟩
 ·skip
  refine VbF ?_
  refine VbF ?_
  refine VlS (.int .i64 m) ?_
  by_cases h8_4 : m < 0
  ·skip
   refine VbT ?_
   refine VbT ?_
   refine VbT ?_
   refine SkS ?_
   refine SkS ?_
   refine SkS ?_
   refine SkS ?_
   refine VbT ?_
   refine VbT ?_
   refine SkS ?_
   refine SkS ?_
   refine SkS ?_
   refine SkS ?_
   refine SkS ?_
   refine SkS ?_
   refine VbT ?_
   refine WL.nil (hK10 _ _ ?_)
   refine wp_cond_true rfl ?_
   refine wp_seq_k fun K12 hK12 => rgn ?_
   refine VlS (.slice none 0 0) ?_
   refine VlS (.int .i64 2) ?_
   refine WL.nil (hK12 _ _ ?_)
   refine wp_ret ?_
   go_ret2
   rw [if_neg (by omega), if_neg (by omega)]
   exact ⟨_, rfl, own_nil _, (fun k hk => by cases hk), B1.out⟩
  ·skip
   refine VbF ?_
   refine VbF ?_
   refine VbF ?_
   refine VlS (.int .i64 a) ?_
   refine VlS (.slice xa f.bs.length xc) ?_
   refine VlS (.int .i64 (f.bs.length : Int)) ?_
   by_cases h8_10 : (f.bs.length : Int) < a
   ·skip
    refine VbT ?_
    refine VbT ?_
    refine VbT ?_
    refine SkS ?_
    refine SkS ?_
    refine SkS ?_
    refine SkS ?_
    refine SkS ?_
    refine SkS ?_
    refine VbT ?_
    refine WL.nil (hK10 _ _ ?_)
    refine wp_cond_true rfl ?_
    refine wp_seq_k fun K13 hK13 => rgn ?_
    refine VlS (.slice none 0 0) ?_
    refine VlS (.int .i64 2) ?_
    refine WL.nil (hK13 _ _ ?_)
    refine wp_ret ?_
    go_ret2
    rw [if_neg (by omega), if_neg (by omega)]
    exact ⟨_, rfl, own_nil _, (fun k hk => by cases hk), B1.out⟩
   ·skip
    refine VbF ?_
    refine VbF ?_
    refine VbF ?_
    refine VlS (.int .i64 m) ?_
    refine VlS (.slice xa f.bs.length xc) ?_
    refine VlS (.int .i64 (f.bs.length : Int)) ?_
    refine VlS (.int .i64 a) ?_
    have hwa : IntKind.i64.wrap ((f.bs.length : Int) - a) = (f.bs.length : Int) - a := by rw [IntKind.wrap_i64]; have := HB.out; omega
    refine VlS (.int .i64 ((f.bs.length : Int) - a)) ?_
    by_cases h8_18 : (f.bs.length : Int) - a < m
    ·skip
     refine VbT ?_
     refine VbT ?_
     refine WL.nil (hK10 _ _ ?_)
     refine wp_cond_true rfl ?_
     refine wp_seq_k fun K14 hK14 => rgn ?_
     refine VlS (.slice none 0 0) ?_
     refine VlS (.int .i64 2) ?_
     refine WL.nil (hK14 _ _ ?_)
     refine wp_ret ?_
     go_ret2
     rw [if_neg (by omega), if_neg (by omega)]
     exact ⟨_, rfl, own_nil _, (fun k hk => by cases hk), B1.out⟩
    ·skip
     refine VbF ?_
     refine VbF ?_
     refine WL.nil (hK10 _ _ ?_)
     refine wp_cond_false rfl ?_
     refine wp_skip ?_
     refine hK9 _ _ ?_
     refine wp_seq_k fun K15 hK15 => ?_
     obtain ⟨an, han⟩ : ∃ k : Nat, a = (k : Int) := ⟨a.toNat, by omega⟩
     obtain ⟨mn, hmn⟩ : ∃ k : Nat, m = (k : Int) := ⟨m.toNat, by omega⟩
     subst han hmn
     have hws : IntKind.i64.wrap ((an : Int) + (mn : Int)) = (an : Int) + (mn : Int) := by rw [IntKind.wrap_i64]; have := HB.out; omega
     have HAM : Keep (an + mn ≤ f.bs.length) := ⟨by omega⟩
     refine rgn ?_
     refine WL.bs (by kernel_rfl) 40 0 _ rfl #[] (by simp) _ _ (bsBE w1) ?_
     have hbx := below_new w1 (.cells #[] 5)
     have HE : Keep (Own (w1.alloc (.cells #[] 5)) (.slice (some ⟨w1.heap.size, 0, none⟩) 0 0) []) := ⟨own_empty _ _ (Blk.new w1 5 #[])⟩
     have HX2 := Keep.mk (HXr.out.below hbx)
     have B2 : Keep (Below w.heap.size w (w1.alloc (.cells #[] 5))) := ⟨B1.out.trans (hbx.mono B1.out.size)⟩
     have L2 : Keep (w.heap.size ≤ w1.heap.size) := ⟨B1.out.size⟩
     clear hbx c1 p0 HXr
     generalize w1.alloc (.cells #[] 5) = w2 at *
     obtain ⟨ge, hge⟩ : ∃ q, Keep (q = w1.heap.size) := ⟨_, ⟨rfl⟩⟩
     rw [← hge.out] at HE L2 ⊢
     obtain ⟨vs, hs1, hs2⟩ := mid_any (.slice xa f.bs.length xc) f.bs w2 HX2.out an mn HAM.out
     have HS1 := Keep.mk (hs1 w2)
     have HS2 := Keep.mk (hs2 w2 HX2.out)
     clear hs1 hs2
     simp only [Act.put, pqA, pqB, pqC]
     refine VlS (.slice xa f.bs.length xc) ?_
     refine VlS (.int .i64 (an : Int)) ?_
     refine VlS (.int .i64 (an : Int)) ?_
     refine VlS (.int .i64 (mn : Int)) ?_
     refine VlS (.int .i64 ((an : Int) + (mn : Int))) ?_
     refine WL.sl2 (by kernel_rfl) (.tmp 59) (.tmp 60) (.tmp 63) rfl (.slice xa f.bs.length xc) (.int .i64 (an : Int)) (.int .i64 ((an : Int) + (mn : Int))) vs rfl rfl rfl HS1.out ?_
     simp only [Act.put, pqA, pqB, pqC]
     refine WL.call (by kernel_rfl) fun K hK => ?_
     refine wp_app (.tmp 58) (.tmp 64) rfl (.slice (some ⟨ge, 0, none⟩) 0 0) vs [] ((f.bs.drop an).take mn) rfl rfl HE.out HS2.out (by have := HB.out; have := HAM.out; simp; omega) fun v6 w6 hp => ?_
     refine hK _ _ ?_
     have HA6 := Keep.mk hp
     clear hp
     simp only [Act.put, pqA, pqB, pqC]
     refine VlS (v6) ?_
     refine VlS (.int .i64 0) ?_
     refine WL.nil (hK15 _ _ ?_)
     refine wp_ret ?_
     go_ret2
     rw [if_pos (by have := HAM.out; omega), if_pos (by have := HAM.out; omega), Int.toNat_natCast, Int.toNat_natCast]
     refine ⟨v6, rfl, by have h := HA6.out.1; rw [List.nil_append] at h; exact h, own_new HA6.out B2.out.size fun k hk => by have e : ge = k := Option.some.inj hk; have := L2.out; omega, B2.out.trans (HA6.out.grown.to_below (B := w.heap.size) (fun k hk e => by have e : ge = k := Option.some.inj e; have := L2.out; omega) B2.out.size)⟩
theorem dsk_same {w w' : World} {p : Nat} {vf : Value} {cs : List FC} {D : DV} (hD : DskAt w p vf cs D) (hb : Below w.heap.size w w') : ∃ vf' cs', DskAt w' p vf' cs' (D) ∧ Grown w w' (DskS p vf cs) ∧ ∀ k, DskS p vf' cs' k → DskS p vf cs k ∨ w.heap.size ≤ k := ⟨vf, cs, hD.below hb, Grown.below hb, fun k h => .inl h⟩
theorem pappend_any (d p : Nat) (n : ByteArray) (v : Value) (l : List Int) (vf : Value) (cs : List FC) (D : DV) (u a : Int) (w : World) (hDk : Blk w d 67 #[ptr p]) (hD : DskAt w p vf cs D) (hO : DOk D u a) (hu : u ≤ 1000000000000) (ha : a ≤ 100000000000) (hl : l.length ≤ 1000000000000) (hR : RowAt w v l) (hRp : ∀ k, v.ownBlock = some k → k ≠ p) :
  Calls Tryz.prog 15 #[ptr d, .string n, v] w fun e w' => e = .returned (.int .i64 (apC D n l)) ∧ ∃ vf' cs', DskAt w' p vf' cs' (apD D n l) ∧ Grown w w' (DskS p vf cs) ∧ ∀ k, DskS p vf' cs' k → DskS p vf cs k ∨ w.heap.size ≤ k := by
 have hlen := hD.fcs.len
 have hfl := hO.lay.len
 have hA : 0 ≤ D.acts ∧ D.acts ≤ 4611686018427387904 := by have := hO.acts; omega
 have hFu : -9223372036854775808 < D.fuse ∧ D.fuse ≤ 9223372036854775807 := by have := hO.fuse; omega
 have hus := hO.us
 have hrm := hO.room
 have hnn := usd_nonneg D.fs
 have hud := hO.used
 by_cases h1 : D.out = true
 ·refine (app_out d p n v vf cs D w hDk hD h1).mono ?_
  rintro e w' ⟨rfl, hw⟩
  subst hw
  unfold apC apD
  rw [if_pos h1, if_pos h1]
  exact ⟨rfl, dsk_same hD (Below.refl _ _)⟩
 have h1' : D.out = false := by simpa using h1
 by_cases h2 : rgt n = false
 ·refine (app_name d p n v vf l cs D w hDk hD h1' hR h2).mono ?_
  rintro e w' ⟨rfl, hb⟩
  unfold apC apD
  rw [if_neg h1, if_neg h1, if_pos h2, if_pos h2]
  exact ⟨rfl, dsk_same hD hb⟩
 have h2' : rgt n = true := by simpa using h2
 rcases hF : fnd n D.fs 0 with ⟨i, b⟩
 unfold apC apD
 rw [if_neg h1, if_neg h1, if_neg h2, if_neg h2, hF]
 simp only
 by_cases h3 : b = false ∧ 256 ≤ D.fs.length
 ·obtain ⟨rfl, h4⟩ := h3
  refine (app_many i d p n v vf l cs D w hDk hD h1' hR h2' hF (by omega) (by omega)).mono ?_
  rintro e w' ⟨rfl, hb⟩
  rw [if_pos ⟨rfl, h4⟩, if_pos ⟨rfl, h4⟩]
  exact ⟨rfl, dsk_same hD hb⟩
 rw [if_neg h3, if_neg h3]
 cases b with
 | false =>
  have h5 : cs.length < 256 := by
   have := h3
   simp at this
   omega
  by_cases h4 : D.room - usd D.fs < (l.length : Int)
  ·refine (app_room_new i d p n v vf l cs D w hDk hD h1' hR h2' hF h5 (by omega) (by omega)).mono ?_
   rintro e w' ⟨rfl, hb⟩
   rw [if_pos h4, if_pos h4]
   exact ⟨rfl, dsk_same hD hb⟩
  ·refine (app_new d p i n v vf l cs D w hDk hD h1' h2' hF h5 (by omega) hA hFu hR hRp).mono ?_
   rintro e w' ⟨rfl, vf', cs', k1, k2, k3⟩
   rw [if_neg h4, if_neg h4]
   refine ⟨rfl, vf', cs', ?_, k2.mono fun k _ e => .inl e, k3⟩
   split
   ·rename_i hh; cases hh
   ·exact k1
 | true =>
  obtain ⟨f, hf⟩ : ∃ f, D.fs[i]? = some f := by
   obtain ⟨f, hf⟩ := fnd_get (n := n) (fs := D.fs) (by rw [hF]; simp)
   rw [hF] at hf
   exact ⟨f, hf⟩
  have hfb := usd_at hf
  by_cases h4 : D.room - usd D.fs < (l.length : Int)
  ·refine (app_room_is i d p n v vf l cs D w hDk hD h1' hR h2' hF (by omega) (by omega) (by omega)).mono ?_
   rintro e w' ⟨rfl, hb⟩
   rw [if_pos h4, if_pos h4]
   exact ⟨rfl, dsk_same hD hb⟩
  ·refine (app_is d p i n v vf l cs D f w hDk hD h1' h2' hF hf (by omega) (by omega) (by omega) hA hFu hR).mono ?_
   rintro e w' ⟨rfl, vf', cs', k1, k2, k3⟩
   rw [if_neg h4, if_neg h4, hf]
   exact ⟨rfl, vf', cs', k1, k2, k3⟩
theorem psync_any (d p : Nat) (n : ByteArray) (vf : Value) (cs : List FC) (D : DV) (u a : Int) (w : World) (hDk : Blk w d 67 #[ptr p]) (hD : DskAt w p vf cs D) (hO : DOk D u a) (hu : u ≤ 1000000000000) (ha : a ≤ 100000000000) :
  Calls Tryz.prog 30 #[ptr d, .string n] w fun e w' => e = .returned (.int .i64 (syC D n)) ∧ ∃ vf' cs', DskAt w' p vf' cs' (syD D n) ∧ Grown w w' (DskS p vf cs) ∧ ∀ k, DskS p vf' cs' k → DskS p vf cs k ∨ w.heap.size ≤ k := by
 have hlen := hD.fcs.len
 have hfl := hO.lay.len
 have hA : 0 ≤ D.acts ∧ D.acts ≤ 4611686018427387904 := by have := hO.acts; omega
 have hFu : -9223372036854775808 < D.fuse ∧ D.fuse ≤ 9223372036854775807 := by have := hO.fuse; omega
 have hus := hO.us
 have hrm := hO.room
 have hnn := usd_nonneg D.fs
 have hud := hO.used
 by_cases h1 : D.out = true
 ·refine (syn_out d p n vf cs D w hDk hD h1).mono ?_
  rintro e w' ⟨rfl, hw⟩
  subst hw
  unfold syC syD
  rw [if_pos h1, if_pos h1]
  exact ⟨rfl, dsk_same hD (Below.refl _ _)⟩
 have h1' : D.out = false := by simpa using h1
 rcases hF : fnd n D.fs 0 with ⟨i, b⟩
 unfold syC syD
 rw [if_neg h1, if_neg h1, hF]
 simp only
 cases b with
 | false =>
  refine (syn_absent d p i n vf cs D w hDk hD h1' hF (by omega)).mono ?_
  rintro e w' ⟨rfl, hb⟩
  rw [if_pos rfl, if_pos rfl]
  exact ⟨rfl, dsk_same hD hb⟩
 | true =>
  refine (syn_is d p i n vf cs D w hDk hD h1' hF (by omega) hA hFu).mono ?_
  rintro e w' ⟨rfl, cs', k1, k2, k3⟩
  rw [if_neg (show ¬ (true = false) by simp), if_neg (show ¬ (true = false) by simp)]
  exact ⟨rfl, vf, cs', k1, k2.mono fun k _ e => e.elim .inl fun e => .inr (.inl e), fun k h => .inl (k3 k h)⟩
theorem pdrop_any (d p : Nat) (n : ByteArray) (vf : Value) (cs : List FC) (D : DV) (u a : Int) (w : World) (hDk : Blk w d 67 #[ptr p]) (hD : DskAt w p vf cs D) (hO : DOk D u a) (hu : u ≤ 1000000000000) (ha : a ≤ 100000000000) :
  Calls Tryz.prog 34 #[ptr d, .string n] w fun e w' => e = .returned (.int .i64 (syC D n)) ∧ ∃ vf' cs', DskAt w' p vf' cs' (drD D n) ∧ Grown w w' (DskS p vf cs) ∧ ∀ k, DskS p vf' cs' k → DskS p vf cs k ∨ w.heap.size ≤ k := by
 have hlen := hD.fcs.len
 have hfl := hO.lay.len
 have hA : 0 ≤ D.acts ∧ D.acts ≤ 4611686018427387904 := by have := hO.acts; omega
 have hFu : -9223372036854775808 < D.fuse ∧ D.fuse ≤ 9223372036854775807 := by have := hO.fuse; omega
 have hus := hO.us
 have hrm := hO.room
 have hnn := usd_nonneg D.fs
 have hud := hO.used
 by_cases h1 : D.out = true
 ·refine (drop_out d p n vf cs D w hDk hD h1).mono ?_
  rintro e w' ⟨rfl, hw⟩
  subst hw
  unfold syC drD
  rw [if_pos h1, if_pos h1]
  exact ⟨rfl, dsk_same hD (Below.refl _ _)⟩
 have h1' : D.out = false := by simpa using h1
 rcases hF : fnd n D.fs 0 with ⟨i, b⟩
 unfold syC drD
 rw [if_neg h1, if_neg h1, hF]
 simp only
 cases b with
 | false =>
  refine (drop_absent d p i n vf cs D w hDk hD h1' hF (by omega)).mono ?_
  rintro e w' ⟨rfl, hb⟩
  rw [if_pos rfl, if_pos rfl]
  exact ⟨rfl, dsk_same hD hb⟩
 | true =>
  obtain ⟨f, hf⟩ : ∃ f, D.fs[i]? = some f := by
   obtain ⟨f, hf⟩ := fnd_get (n := n) (fs := D.fs) (by rw [hF]; simp)
   rw [hF] at hf
   exact ⟨f, hf⟩
  have hfb := usd_at hf
  refine (drop_is d p i n vf cs D f w hDk hD h1' hF hf (by omega) (by omega) hA hFu).mono ?_
  rintro e w' ⟨rfl, vf', cs', k1, k2, k3⟩
  rw [if_neg (show ¬ (true = false) by simp), if_neg (show ¬ (true = false) by simp), hf]
  exact ⟨rfl, vf', cs', k1, k2.mono fun k _ e => .inl e, k3⟩
theorem pcut_any (d p : Nat) (n : ByteArray) (m : Int) (vf : Value) (cs : List FC) (D : DV) (u a : Int) (w : World) (hDk : Blk w d 67 #[ptr p]) (hD : DskAt w p vf cs D) (hO : DOk D u a) (hu : u ≤ 1000000000000) (ha : a ≤ 100000000000) :
  Calls Tryz.prog 32 #[ptr d, .string n, .int .i64 m] w fun e w' => e = .returned (.int .i64 (cuC D n m)) ∧ ∃ vf' cs', DskAt w' p vf' cs' (cuD D n m) ∧ Grown w w' (DskS p vf cs) ∧ ∀ k, DskS p vf' cs' k → DskS p vf cs k ∨ w.heap.size ≤ k := by
 have hlen := hD.fcs.len
 have hfl := hO.lay.len
 have hA : 0 ≤ D.acts ∧ D.acts ≤ 4611686018427387904 := by have := hO.acts; omega
 have hFu : -9223372036854775808 < D.fuse ∧ D.fuse ≤ 9223372036854775807 := by have := hO.fuse; omega
 have hus := hO.us
 have hrm := hO.room
 have hnn := usd_nonneg D.fs
 have hud := hO.used
 by_cases h1 : D.out = true
 ·refine (cut_out d p n m vf cs D w hDk hD h1).mono ?_
  rintro e w' ⟨rfl, hw⟩
  subst hw
  unfold cuC cuD
  rw [if_pos h1, if_pos h1]
  exact ⟨rfl, dsk_same hD (Below.refl _ _)⟩
 have h1' : D.out = false := by simpa using h1
 rcases hF : fnd n D.fs 0 with ⟨i, b⟩
 unfold cuC cuD cuR
 rw [if_neg h1, if_neg h1, hF]
 simp only
 cases b with
 | false =>
  refine (cut_absent d p i n m vf cs D w hDk hD h1' hF (by omega)).mono ?_
  rintro e w' ⟨rfl, hb⟩
  rw [if_pos rfl, if_pos rfl]
  exact ⟨rfl, dsk_same hD hb⟩
 | true =>
  obtain ⟨f, hf⟩ : ∃ f, D.fs[i]? = some f := by
   obtain ⟨f, hf⟩ := fnd_get (n := n) (fs := D.fs) (by rw [hF]; simp)
   rw [hF] at hf
   exact ⟨f, hf⟩
  have hfb := usd_at hf
  rw [if_neg (show ¬ (true = false) by simp), if_neg (show ¬ (true = false) by simp), hf]
  simp only
  by_cases h4 : 0 ≤ m ∧ m ≤ (f.bs.length : Int)
  ·obtain ⟨mn, rfl⟩ : ∃ k : Nat, m = (k : Int) := ⟨m.toNat, by omega⟩
   refine (cut_is d p i mn n vf cs D f w hDk hD h1' hF hf (by omega) (by omega) (by omega) hA hFu).mono ?_
   rintro e w' ⟨rfl, vf', cs', k1, k2, k3⟩
   rw [if_neg (by simpa using h4), if_neg (by simpa using h4), Int.toNat_natCast]
   exact ⟨rfl, vf', cs', k1, k2.mono fun k _ e => e.elim .inl fun e => .inr (.inl e), k3⟩
  ·refine (cut_range d p i m n vf cs D f w hDk hD h1' hF hf (by omega) (by omega)).mono ?_
   rintro e w' ⟨rfl, hb⟩
   rw [if_pos (by simpa using h4), if_pos (by simpa using h4)]
   exact ⟨rfl, dsk_same hD hb⟩
theorem psize_any (d p : Nat) (n : ByteArray) (vf : Value) (cs : List FC) (D : DV) (u a : Int) (w : World) (hDk : Blk w d 67 #[ptr p]) (hD : DskAt w p vf cs D) (hO : DOk D u a) (hu : u ≤ 1000000000000) (ha : a ≤ 100000000000) :
  Calls Tryz.prog 39 #[ptr d, .string n] w fun e w' => e = .returned (.tuple #[.int .i64 (szV D n), .int .i64 (szC D n)]) ∧ Below w.heap.size w w' := by
 have hlen := hD.fcs.len
 have hfl := hO.lay.len
 have hA : 0 ≤ D.acts ∧ D.acts ≤ 4611686018427387904 := by have := hO.acts; omega
 have hFu : -9223372036854775808 < D.fuse ∧ D.fuse ≤ 9223372036854775807 := by have := hO.fuse; omega
 have hus := hO.us
 have hrm := hO.room
 have hnn := usd_nonneg D.fs
 have hud := hO.used
 by_cases h1 : D.out = true
 ·refine (size_out d p n vf cs D w hDk hD h1).mono ?_
  rintro e w' ⟨rfl, hw⟩
  subst hw
  unfold szC szV
  rw [if_pos h1, if_pos h1]
  exact ⟨rfl, Below.refl _ _⟩
 have h1' : D.out = false := by simpa using h1
 rcases hF : fnd n D.fs 0 with ⟨i, b⟩
 unfold szC szV flB
 rw [if_neg h1, if_neg h1, hF]
 simp only
 cases b with
 | false =>
  refine (size_absent d p i n vf cs D w hDk hD h1' hF (by omega)).mono ?_
  rintro e w' ⟨rfl, hb⟩
  rw [if_pos rfl, if_pos rfl]
  exact ⟨rfl, hb⟩
 | true =>
  obtain ⟨f, hf⟩ : ∃ f, D.fs[i]? = some f := by
   obtain ⟨f, hf⟩ := fnd_get (n := n) (fs := D.fs) (by rw [hF]; simp)
   rw [hF] at hf
   exact ⟨f, hf⟩
  refine (size_is d p i n vf cs D f w hDk hD h1' hF hf (by omega)).mono ?_
  rintro e w' ⟨rfl, hb⟩
  rw [if_neg (show ¬ (true = false) by simp), if_neg (show ¬ (true = false) by simp), hf]
  exact ⟨rfl, hb⟩
theorem pread_any (d p : Nat) (n : ByteArray) (x m : Int) (vf : Value) (cs : List FC) (D : DV) (u a : Int) (w : World) (hDk : Blk w d 67 #[ptr p]) (hD : DskAt w p vf cs D) (hO : DOk D u a) (hu : u ≤ 1000000000000) (ha : a ≤ 100000000000) :
  Calls Tryz.prog 36 #[ptr d, .string n, .int .i64 x, .int .i64 m] w fun e w' => ∃ v, e = .returned (.tuple #[v, .int .i64 (reC D n x m)]) ∧ Own w' v (reV D n x m) ∧ (∀ k, v.ownBlock = some k → w.heap.size ≤ k) ∧ Below w.heap.size w w' := by
 have hlen := hD.fcs.len
 have hfl := hO.lay.len
 have hA : 0 ≤ D.acts ∧ D.acts ≤ 4611686018427387904 := by have := hO.acts; omega
 have hFu : -9223372036854775808 < D.fuse ∧ D.fuse ≤ 9223372036854775807 := by have := hO.fuse; omega
 have hus := hO.us
 have hrm := hO.room
 have hnn := usd_nonneg D.fs
 have hud := hO.used
 by_cases h1 : D.out = true
 ·refine (read_out d p n x m vf cs D w hDk hD h1).mono ?_
  rintro e w' ⟨rfl, hw⟩
  subst hw
  unfold reC reV
  rw [if_pos h1, if_pos h1]
  exact ⟨_, rfl, own_nil _, (fun k hk => by cases hk), Below.refl _ _⟩
 have h1' : D.out = false := by simpa using h1
 rcases hF : fnd n D.fs 0 with ⟨i, b⟩
 unfold reC reV
 rw [if_neg h1, if_neg h1]
 cases b with
 | false =>
  have e2 : (fnd n D.fs 0).2 = false := by rw [hF]
  refine (read_absent d p i n x m vf cs D w hDk hD h1' hF (by omega)).mono ?_
  rintro e w' ⟨rfl, hb⟩
  rw [if_pos e2, if_pos e2]
  exact ⟨_, rfl, own_nil _, (fun k hk => by cases hk), hb⟩
 | true =>
  have e2 : ¬ (fnd n D.fs 0).2 = false := by rw [hF]; simp
  obtain ⟨f, hf⟩ : ∃ f, D.fs[i]? = some f := by
   obtain ⟨f, hf⟩ := fnd_get (n := n) (fs := D.fs) e2
   rw [hF] at hf
   exact ⟨f, hf⟩
  have hfb := usd_at hf
  have hfl2 : flB D n = f.bs := by unfold flB; rw [hF]; simp only [hf]
  refine (read_mid d p i n x m vf cs D f w hDk hD h1' hF hf (by omega) (by omega)).mono ?_
  rintro e w' ⟨v, rfl, k1, k2, k3⟩
  rw [if_neg e2, if_neg e2]
  by_cases h3 : 0 ≤ x ∧ 0 ≤ m ∧ x ≤ (f.bs.length : Int) ∧ m ≤ (f.bs.length : Int) - x
  ·have h4 : rdR D n x m := by unfold rdR; rw [hfl2]; exact h3
   rw [if_pos h3] at k1
   rw [if_pos h3, if_pos h4, if_pos h4, hfl2]
   exact ⟨v, rfl, k1, k2, k3⟩
  ·have h4 : ¬ rdR D n x m := by unfold rdR; rw [hfl2]; exact h3
   rw [if_neg h3] at k1
   rw [if_neg h3, if_neg h4, if_neg h4]
   exact ⟨v, rfl, k1, k2, k3⟩
theorem pnames_any (d p : Nat) (vf : Value) (cs : List FC) (D : DV) (u a : Int) (w : World) (hDk : Blk w d 67 #[ptr p]) (hD : DskAt w p vf cs D) (hO : DOk D u a) (hu : u ≤ 1000000000000) (ha : a ≤ 100000000000) :
  Calls Tryz.prog 44 #[ptr d] w fun e w' => ∃ v, e = .returned (.tuple #[v, .int .i64 (if D.out = true then 7 else 0)]) ∧ OwnS w' v (if D.out = true then [] else D.fs.map PF.nm) ∧ NewF w.heap.size v ∧ Below w.heap.size w w' := by
 have hlen := hD.fcs.len
 have hfl := hO.lay.len
 have hA : 0 ≤ D.acts ∧ D.acts ≤ 4611686018427387904 := by have := hO.acts; omega
 have hFu : -9223372036854775808 < D.fuse ∧ D.fuse ≤ 9223372036854775807 := by have := hO.fuse; omega
 have hus := hO.us
 have hrm := hO.room
 have hnn := usd_nonneg D.fs
 have hud := hO.used
 by_cases h1 : D.out = true
 ·refine (names_out d p vf cs D w hDk hD h1).mono ?_
  rintro e w' ⟨rfl, hw⟩
  subst hw
  rw [if_pos h1, if_pos h1]
  exact ⟨_, rfl, ownS_nil _, newF_nil _, Below.refl _ _⟩
 have h1' : D.out = false := by simpa using h1
 rw [if_neg h1, if_neg h1]
 exact names_any d p vf cs D w hDk hD h1' (by omega)
theorem Tryz.in12 (w : World) (vs : Array Value) : (callFunc 12 vs).run Tryz.prog w = .ok (.enter 12 vs) w := by kernel_rfl
theorem Tryz.in49 (w : World) (vs : Array Value) : (callFunc 49 vs).run Tryz.prog w = .ok (.enter 49 vs) w := by kernel_rfl
theorem GvAt.c0 {w : World} {G : GV} {D E : DV} (h : GvAt w G D E) : w.cell? ⟨G.g, 0, none⟩ = some (ptr G.d) := by
 obtain ⟨lv, gv, n, hb⟩ := h.bk.blk
 exact hb.c 0 rfl
theorem GvAt.c1 {w : World} {G : GV} {D E : DV} (h : GvAt w G D E) : w.cell? ⟨G.g, 1, none⟩ = some (ptr G.h) := by
 obtain ⟨lv, gv, n, hb⟩ := h.bk.blk
 exact hb.c 1 rfl
theorem GvAt.c2 {w : World} {G : GV} {D E : DV} (h : GvAt w G D E) : w.cell? ⟨G.g, 2, none⟩ = some (ptr G.x) := by
 obtain ⟨lv, gv, n, hb⟩ := h.bk.blk
 exact hb.c 2 rfl
theorem GvAt.stays {w : World} {G : GV} {D E : DV} (h : GvAt w G D E) : Calls Tryz.prog 49 #[.pointer (some ⟨G.g, 3, none⟩)] w fun e w' => e = .returned (.bool true) ∧ w' = w := by
 obtain ⟨lv, gv, N, A, B, n, h1, h2, h3, _⟩ := h.bk
 exact stays_any G.g 3 35 (kxG G.d G.h G.x) (boxG G.d G.h G.x) lv gv N A B n G.F w h1 h2 h3
def AkS (G : GV) (D : DV) (aa : Option Addr) (ac : Nat) (wx : World) : Prop := wx.cell? ⟨G.g, 1, none⟩ = some (ptr G.h) ∧ wx.cell? ⟨G.g, 2, none⟩ = some (ptr G.x) ∧ wx.cell? ⟨G.x, 0, none⟩ = some G.vr ∧ wx.cell? ⟨G.x, 4, none⟩ = some (.slice aa G.ms.length ac) ∧ wx.cell? ⟨G.x, 3, none⟩ = some (.bool D.out)
theorem GvAt.ak {w : World} {G : GV} {D : DV} {aa : Option Addr} {ac : Nat} (h : GvAt w G D D) (e : G.va = .slice aa G.ms.length ac) : AkS G D aa ac w := ⟨h.c1, h.c2, h.ref.blk.c 0 rfl, by rw [← e]; exact h.ref.blk.c 4 rfl, h.ref.blk.c 3 rfl⟩
theorem usd_mem_le {fs : List PF} {f : PF} (h : f ∈ fs) : (f.bs.length : Int) ≤ usd fs := by
 obtain ⟨i, hi⟩ := List.getElem?_of_mem h
 exact usd_at hi
set_option maxRecDepth 8000 in
set_option maxHeartbeats 4000000 in
theorem alike_any (G : GV) (D : DV) (u a : Int) (w : World) (hG : GvAt w G D D) (hO : DOk D u a) (hu : u ≤ 1000000000000) :
  Calls Tryz.prog 12 #[ptr G.g] w fun e w' => e = .returned (.bool true) ∧ Below w.heap.size w w' := by
 have HG := Keep.mk hG
 have HO := Keep.mk hO
 have HU := Keep.mk hu
 clear hG hO hu
 go_enter Tryz.func12, Tryz.ntmps12
 refine wp_seq_k fun K1 hK1 => rgn ?_
 refine VbF ?_
 refine WL.nil (hK1 _ _ ?_)
 refine wp_seq_k fun K2 hK2 => ?_
 obtain ⟨aa, ac, hva⟩ := HG.out.ref.acs.sl
 have HV := Keep.mk hva
 clear hva
 have HN : Keep ((G.ms.length : Int) = D.acts) := ⟨HG.out.ref.num.1⟩
 have G1 := Keep.mk HG.out.drew
 have B1 : Keep (Below w.heap.size w w.drew) := ⟨(Below.refl _ _).drew⟩
 clear HG
 refine wp_region_held_drew (S := AkS G D aa ac) (by kernel_rfl) (G1.out.ak HV.out) (fun hHeld => ?_)
 generalize w.drew = w1 at *
 refine TkM (i := 0) (oi := ⟨some 3, Op.move (Operand.tmp 0), 26, _, _, none⟩) (v := .pointer (some ⟨G.g, 0, none⟩)) rfl hHeld ?_
 refine TkM (i := 5) (oi := ⟨some 8, Op.move (Operand.tmp 0), 26, _, _, none⟩) (v := .pointer (some ⟨G.g, 0, none⟩)) rfl hHeld ?_
 refine TkM (i := 1) (oi := ⟨some 4, Op.nilCheck (Operand.tmp 3), 0, _, _, none⟩) (v := .pointer (some ⟨G.g, 0, none⟩)) rfl hHeld ?_
 refine TkM (i := 6) (oi := ⟨some 9, Op.nilCheck (Operand.tmp 8), 0, _, _, none⟩) (v := .pointer (some ⟨G.g, 0, none⟩)) rfl hHeld ?_
 refine TkM (i := 2) (oi := ⟨some 5, Op.fieldAddr 35 (Operand.tmp 4) 1, 0, _, _, none⟩) (v := .pointer (some ⟨G.g, 1, none⟩)) rfl hHeld ?_
 refine TkM (i := 7) (oi := ⟨some 10, Op.fieldAddr 35 (Operand.tmp 9) 2, 0, _, _, none⟩) (v := .pointer (some ⟨G.g, 2, none⟩)) rfl hHeld ?_
 refine TkM (i := 3) (oi := ⟨some 6, Op.load 30 (Operand.tmp 5), 30, _, _, none⟩) (v := .pointer (some ⟨G.h, 0, none⟩)) rfl hHeld ?_
 refine TkM (i := 8) (oi := ⟨some 11, Op.load 27 (Operand.tmp 10), 27, _, _, none⟩) (v := .pointer (some ⟨G.x, 0, none⟩)) rfl hHeld ?_
 refine TkM (i := 9) (oi := ⟨some 12, Op.nilCheck (Operand.tmp 11), 0, _, _, none⟩) (v := .pointer (some ⟨G.x, 0, none⟩)) rfl hHeld ?_
 refine TkM (i := 10) (oi := ⟨some 13, Op.fieldAddr 62 (Operand.tmp 12) 0, 0, _, _, none⟩) (v := .pointer (some ⟨G.x, 0, none⟩)) rfl hHeld ?_
 refine TkM (i := 11) (oi := ⟨some 14, Op.load 22 (Operand.tmp 13), 22, _, _, none⟩) (v := G.vr) rfl hHeld ?_
 refine wpAnyH_ready (rs := [4]) (by kernel_rfl) (by simp) ?_
 refine AllReadyH.cons (o := ⟨some 7, Op.call { callee := Callee.value (Operand.func 13), args := #[Operand.tmp 6], argTypes := #[30] }, 22, _, _, none⟩) rfl (fun K hK => ?_) AllReadyH.nil
 rw [if_pos (by rfl)]
 refine wp_callF 13 _ _ rfl Tryz.in13 #[.pointer (some ⟨G.h, 0, none⟩)] (by simp [Act.eval]) (fun vz wz => ∃ ct, OwnF wz vz ct ∧ FcsAt wz ct D.fs ∧ Below w1.heap.size w1 wz) ?_ ?_
 ·refine (files_any G.h G.p G.vf G.cs D w1 G1.out.hd G1.out.dsk (by rw [G1.out.dsk.fcs.len]; have := HO.out.lay.len; omega) (fun f hf => by have h := usd_mem_le hf; have := HO.out.us; have := HU.out; omega)).mono ?_
  rintro e wz ⟨v, ct, rfl, k1, k2, -, -, k3⟩
  exact ⟨_, rfl, ct, k1, k2, k3⟩
 rintro vz w2 ⟨ct, k1, k2, hb2⟩
 have B2 : Keep (Below w.heap.size w w2) := ⟨B1.out.trans ((hb2).mono B1.out.size)⟩
 have G2 := Keep.mk (G1.out.below hb2)
 have FL : Keep (FilesAt w2 vz D.fs) := ⟨files_of k1 k2⟩
 clear k1 k2 hb2
 refine hK _ _ (G2.out.ak HV.out) fun hH2 => ?_
 clear hK
 simp only [Act.put, pqA, pqB, pqC]
 refine wpAnyH_ready (rs := [12]) (by kernel_rfl) (by simp) ?_
 refine AllReadyH.cons (o := ⟨some 15, Op.call { callee := Callee.value (Operand.func 47), args := #[Operand.tmp 7, Operand.tmp 14], argTypes := #[22, 22] }, 4, _, _, none⟩) rfl (fun K hK => ?_) AllReadyH.nil
 rw [if_pos (by rfl)]
 refine wp_callF 47 _ _ rfl Tryz.in47 #[vz, G.vr] (by simp [Act.eval]) (fun vz wz => vz = .bool true ∧ Below w2.heap.size w2 wz) ?_ ?_
 ·refine (eqFiles_refl vz G.vr D.fs w2 FL.out (rfiles_of G2.out.ref.own G2.out.ref.rcs) (by have := HO.out.lay.len; omega)).mono ?_
  rintro e wz ⟨rfl, k3⟩
  exact ⟨_, rfl, rfl, k3⟩
 rintro vz w3 ⟨rfl, hb3⟩
 have B3 : Keep (Below w.heap.size w w3) := ⟨B2.out.trans ((hb3).mono B2.out.size)⟩
 have G3 := Keep.mk (G2.out.below hb3)
 clear hb3
 refine hK _ _ (G3.out.ak HV.out) fun hH3 => ?_
 clear hK
 simp only [Act.put, pqA, pqB, pqC]
 refine TkM (i := 13) (oi := ⟨some 16, Op.move (Operand.tmp 15), 4, _, _, none⟩) (v := .bool true) rfl hH3 ?_
 refine TkM (i := 14) (oi := ⟨some 17, Op.move (Operand.tmp 0), 26, _, _, some (13, true)⟩) (v := .pointer (some ⟨G.g, 0, none⟩)) rfl hH3 ?_
 refine TkM (i := 19) (oi := ⟨some 22, Op.move (Operand.tmp 0), 26, _, _, some (13, true)⟩) (v := .pointer (some ⟨G.g, 0, none⟩)) rfl hH3 ?_
 refine TkM (i := 15) (oi := ⟨some 18, Op.nilCheck (Operand.tmp 17), 0, _, _, some (13, true)⟩) (v := .pointer (some ⟨G.g, 0, none⟩)) rfl hH3 ?_
 refine TkM (i := 20) (oi := ⟨some 23, Op.nilCheck (Operand.tmp 22), 0, _, _, some (13, true)⟩) (v := .pointer (some ⟨G.g, 0, none⟩)) rfl hH3 ?_
 refine TkM (i := 16) (oi := ⟨some 19, Op.fieldAddr 35 (Operand.tmp 18) 1, 0, _, _, some (13, true)⟩) (v := .pointer (some ⟨G.g, 1, none⟩)) rfl hH3 ?_
 refine TkM (i := 21) (oi := ⟨some 24, Op.fieldAddr 35 (Operand.tmp 23) 2, 0, _, _, some (13, true)⟩) (v := .pointer (some ⟨G.g, 2, none⟩)) rfl hH3 ?_
 refine TkM (i := 17) (oi := ⟨some 20, Op.load 30 (Operand.tmp 19), 30, _, _, some (13, true)⟩) (v := .pointer (some ⟨G.h, 0, none⟩)) rfl hH3 ?_
 refine TkM (i := 22) (oi := ⟨some 25, Op.load 27 (Operand.tmp 24), 27, _, _, some (13, true)⟩) (v := .pointer (some ⟨G.x, 0, none⟩)) rfl hH3 ?_
 refine TkM (i := 23) (oi := ⟨some 26, Op.nilCheck (Operand.tmp 25), 0, _, _, some (13, true)⟩) (v := .pointer (some ⟨G.x, 0, none⟩)) rfl hH3 ?_
 refine TkM (i := 24) (oi := ⟨some 27, Op.fieldAddr 62 (Operand.tmp 26) 4, 0, _, _, some (13, true)⟩) (v := .pointer (some ⟨G.x, 4, none⟩)) rfl hH3 ?_
 refine TkM (i := 25) (oi := ⟨some 28, Op.load 60 (Operand.tmp 27), 60, _, _, some (13, true)⟩) (v := .slice aa G.ms.length ac) rfl hH3 ?_
 refine TkM (i := 26) (oi := ⟨some 29, Op.call { callee := Callee.builtin Builtin.len, args := #[Operand.tmp 28], argTypes := #[60] }, 3, _, _, some (13, true)⟩) (v := .int .i64 (G.ms.length : Int)) rfl hH3 ?_
 refine wpAnyH_ready (rs := [18]) (by kernel_rfl) (by simp) ?_
 refine AllReadyH.cons (o := ⟨some 21, Op.call { callee := Callee.value (Operand.func 16), args := #[Operand.tmp 20], argTypes := #[30] }, 3, _, _, some (13, true)⟩) rfl (fun K hK => ?_) AllReadyH.nil
 rw [if_pos (by rfl)]
 refine wp_callF 16 _ _ rfl Tryz.in16 #[.pointer (some ⟨G.h, 0, none⟩)] (by simp [Act.eval]) (fun vz wz => vz = .int .i64 D.acts ∧ w3 = wz) ?_ ?_
 ·refine (acts_any G.h G.p D.acts w3 (G3.out.hd.c 0 rfl) (G3.out.dsk.blk.c 5 rfl)).mono ?_
  rintro e wz ⟨rfl, k3⟩
  exact ⟨_, rfl, rfl, k3.symm⟩
 rintro vz w4 ⟨rfl, hw4⟩
 subst hw4
 have hnn := HN.out.symm
 rw [hnn]
 clear hnn
 refine hK _ _ (G3.out.ak HV.out) fun hH4 => ?_
 clear hK
 simp only [Act.put, pqA, pqB, pqC]
 refine TkM (i := 27) (oi := ⟨some 30, Op.binOp BinOp.eql 3 (Operand.tmp 21) (Operand.tmp 29) 3, 4, _, _, some (13, true)⟩) (v := .bool true) rfl hH4 ?_
 refine TkM (i := 28) (oi := ⟨some 31, Op.pick (Operand.tmp 16) (Operand.tmp 30) (Operand.const (Value.bool false)), 4, _, _, none⟩) (v := .bool true) rfl hH4 ?_
 refine TkM (i := 29) (oi := ⟨some 32, Op.move (Operand.tmp 31), 4, _, _, none⟩) (v := .bool true) rfl hH4 ?_
 refine TkM (i := 30) (oi := ⟨some 33, Op.move (Operand.tmp 0), 26, _, _, some (29, true)⟩) (v := .pointer (some ⟨G.g, 0, none⟩)) rfl hH4 ?_
 refine TkM (i := 35) (oi := ⟨some 38, Op.move (Operand.tmp 0), 26, _, _, some (29, true)⟩) (v := .pointer (some ⟨G.g, 0, none⟩)) rfl hH4 ?_
 refine TkM (i := 31) (oi := ⟨some 34, Op.nilCheck (Operand.tmp 33), 0, _, _, some (29, true)⟩) (v := .pointer (some ⟨G.g, 0, none⟩)) rfl hH4 ?_
 refine TkM (i := 36) (oi := ⟨some 39, Op.nilCheck (Operand.tmp 38), 0, _, _, some (29, true)⟩) (v := .pointer (some ⟨G.g, 0, none⟩)) rfl hH4 ?_
 refine TkM (i := 32) (oi := ⟨some 35, Op.fieldAddr 35 (Operand.tmp 34) 1, 0, _, _, some (29, true)⟩) (v := .pointer (some ⟨G.g, 1, none⟩)) rfl hH4 ?_
 refine TkM (i := 37) (oi := ⟨some 40, Op.fieldAddr 35 (Operand.tmp 39) 2, 0, _, _, some (29, true)⟩) (v := .pointer (some ⟨G.g, 2, none⟩)) rfl hH4 ?_
 refine TkM (i := 33) (oi := ⟨some 36, Op.load 30 (Operand.tmp 35), 30, _, _, some (29, true)⟩) (v := .pointer (some ⟨G.h, 0, none⟩)) rfl hH4 ?_
 refine TkM (i := 38) (oi := ⟨some 41, Op.load 27 (Operand.tmp 40), 27, _, _, some (29, true)⟩) (v := .pointer (some ⟨G.x, 0, none⟩)) rfl hH4 ?_
 refine TkM (i := 39) (oi := ⟨some 42, Op.nilCheck (Operand.tmp 41), 0, _, _, some (29, true)⟩) (v := .pointer (some ⟨G.x, 0, none⟩)) rfl hH4 ?_
 refine TkM (i := 40) (oi := ⟨some 43, Op.fieldAddr 62 (Operand.tmp 42) 3, 0, _, _, some (29, true)⟩) (v := .pointer (some ⟨G.x, 3, none⟩)) rfl hH4 ?_
 refine TkM (i := 41) (oi := ⟨some 44, Op.load 4 (Operand.tmp 43), 4, _, _, some (29, true)⟩) (v := .bool D.out) rfl hH4 ?_
 refine wpAnyH_ready (rs := [34]) (by kernel_rfl) (by simp) ?_
 refine AllReadyH.cons (o := ⟨some 37, Op.call { callee := Callee.value (Operand.func 48), args := #[Operand.tmp 36], argTypes := #[30] }, 4, _, _, some (29, true)⟩) rfl (fun K hK => ?_) AllReadyH.nil
 rw [if_pos (by rfl)]
 refine wp_callF 48 _ _ rfl Tryz.in48 #[.pointer (some ⟨G.h, 0, none⟩)] (by simp [Act.eval]) (fun vz wz => vz = .bool D.out ∧ w3 = wz) ?_ ?_
 ·refine (out_any G.h G.p D.out w3 (G3.out.hd.c 0 rfl) (G3.out.dsk.blk.c 4 rfl)).mono ?_
  rintro e wz ⟨rfl, k3⟩
  exact ⟨_, rfl, rfl, k3.symm⟩
 rintro vz w4 ⟨rfl, hw4⟩
 subst hw4
 refine hK _ _ (G3.out.ak HV.out) fun hH5 => ?_
 clear hK
 simp only [Act.put, pqA, pqB, pqC]
 refine TkM (i := 42) (oi := ⟨some 45, Op.binOp BinOp.eql 4 (Operand.tmp 37) (Operand.tmp 44) 4, 4, _, _, some (29, true)⟩) (v := .bool true) rfl hH5 ?_
 refine TkM (i := 43) (oi := ⟨some 46, Op.pick (Operand.tmp 32) (Operand.tmp 45) (Operand.const (Value.bool false)), 4, _, _, none⟩) (v := .bool true) rfl hH5 ?_
 refine TkM (i := 44) (oi := ⟨some 47, Op.move (Operand.tmp 46), 4, _, _, none⟩) (v := .bool true) rfl hH5 ?_
 refine TkM (i := 45) (oi := ⟨some 48, Op.move (Operand.tmp 0), 26, _, _, some (44, true)⟩) (v := .pointer (some ⟨G.g, 0, none⟩)) rfl hH5 ?_
 refine TkM (i := 46) (oi := ⟨some 49, Op.nilCheck (Operand.tmp 48), 0, _, _, some (44, true)⟩) (v := .pointer (some ⟨G.g, 0, none⟩)) rfl hH5 ?_
 refine TkM (i := 47) (oi := ⟨some 50, Op.fieldAddr 35 (Operand.tmp 49) 3, 0, _, _, some (44, true)⟩) (v := .pointer (some ⟨G.g, 3, none⟩)) rfl hH5 ?_
 refine wpAnyH_ready (rs := [48]) (by kernel_rfl) (by simp) ?_
 refine AllReadyH.cons (o := ⟨some 51, Op.call { callee := Callee.value (Operand.func 49), args := #[Operand.tmp 50], argTypes := #[33] }, 4, _, _, some (44, true)⟩) rfl (fun K hK => ?_) AllReadyH.nil
 rw [if_pos (by rfl)]
 refine wp_callF 49 _ _ rfl Tryz.in49 #[.pointer (some ⟨G.g, 3, none⟩)] (by simp [Act.eval]) (fun vz wz => vz = .bool true ∧ w3 = wz) ?_ ?_
 ·refine (G3.out.stays).mono ?_
  rintro e wz ⟨rfl, k3⟩
  exact ⟨_, rfl, rfl, k3.symm⟩
 rintro vz w4 ⟨rfl, hw4⟩
 subst hw4
 refine hK _ _ (G3.out.ak HV.out) fun hH6 => ?_
 clear hK
 simp only [Act.put, pqA, pqB, pqC]
 refine TkM (i := 49) (oi := ⟨some 52, Op.pick (Operand.tmp 47) (Operand.tmp 51) (Operand.const (Value.bool false)), 4, _, _, none⟩) (v := .bool true) rfl hH6 ?_
 refine TkM (i := 50) (oi := ⟨some 2, Op.assign (Operand.tmp 52), 4, _, _, none⟩) (v := .bool true) rfl hH6 ?_
 refine wpAnyH_done (by kernel_rfl) ?_ _
 refine hK2 _ _ ?_
 refine wp_ret ?_
 go_ret
 exact ⟨rfl, B3.out⟩
end Go.Proofs.YteijjfeainamdaaGreatDoor
