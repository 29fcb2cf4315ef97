import Derived.Test.YtjklmkeedhgncaaA19
import Derived.Test.YtjklmkeedhgncaaA21
import Derived.Test.YtjklmkeedhgncaaA13
import Derived.Test.YtjklmkeedhgncaaA17
import Derived.Test.YtjklmkeedhgncaaA18
namespace Go.Proofs.Ytjklmkeedhgncaa
open Go.RowKit
set_option linter.unusedSimpArgs false
set_option linter.unusedVariables false
theorem climb_fuel {H : List Int → List Int} : ∀ (k n i : Nat) (h : List Int) (p : List (List Int)) (r : List Int × List (List Int)), RtP.climb H k n i h p = some r → RtP.climb H (p.length + 1) n i h p = some r
 | 0, _, _, _, _, _, e => by simp [RtP.climb] at e
 | k + 1, n, i, h, p, r, e => by
  unfold RtP.climb at e ⊢
  by_cases hn : n ≤ 1
  ·rw [if_pos hn] at e ⊢; exact e
  ·rw [if_neg hn] at e ⊢
   cases p with
   | nil => exact e
   | cons b q =>
    simp only at e ⊢
    by_cases hi : i < RtP.half n
    ·rw [if_pos hi] at e ⊢
     cases hc : RtP.climb H k (RtP.half n) i h q with
     | none => rw [hc] at e; cases e
     | some z => rw [hc] at e; rw [List.length_cons, climb_fuel k _ _ _ _ _ hc]; exact e
    ·rw [if_neg hi] at e ⊢
     cases hc : RtP.climb H k (n - RtP.half n) (i - RtP.half n) h q with
     | none => rw [hc] at e; cases e
     | some z => rw [hc] at e; rw [List.length_cons, climb_fuel k _ _ _ _ _ hc]; exact e
theorem leaf_takes {L : List CV} {k : Nat} {x : LV} {c : CV} {root : Hs} (hW : wrongI L = 0) (hr : root = shaH (rootL L)) (e1 : x.num = (k : Int)) (hc : L[k]? = some c) (e2 : x.c.k = c.k) (e3 : x.c.s = c.s) (e4 : x.c.l = c.l) (e5 : x.ps.map hsL = pathL L.length L k) : okL (L.length : Int) x = true ∧ rgtB L.length x root = true := by
 have hk := (List.getElem?_eq_some_iff.mp hc).1
 refine ⟨?_, ?_⟩
 ·have h := List.all_eq_true.1 (okK_of hW) c (List.mem_of_getElem? hc)
  unfold okL
  rw [e1, e2]
  simp at h ⊢
  exact ⟨hk, h⟩
 ·have he : x.c.ce = c.ce := by unfold CV.ce; rw [e2, e3, e4]
  obtain ⟨rs, h⟩ := RtP.climb_path shaL numL L.length (L.map CV.ce) k c.ce (by simp) (by simp [hc])
  rw [List.length_map] at h
  have h2 := climb_fuel _ _ _ _ _ _ h
  have hp : x.ps.reverse.map hsL = (RtP.path shaL numL L.length (L.map CV.ce) k).reverse := by
   rw [List.map_reverse, e5]; rfl
  unfold rgtB climbL lfH
  rw [e1, he, hp, show x.ps.length = (RtP.path shaL numL L.length (L.map CV.ce) k).reverse.length from by rw [← hp]; simp, Int.toNat_natCast, h2]
  simp only
  rw [hr, rootL_eq, decide_eq_true_iff]
  rfl
theorem find_takes {L : List CV} {kind : Int} {key : ByteArray} {at_ : Nat} {ls : List LV} {root : Hs} (hW : wrongI L = 0) (ha : at_ ≤ L.length) (hAt : ∀ (i : Nat) (c : CV), L[i]? = some c → (stI c.k c.s kind key < 0 ↔ i < at_))
  (hl : L = [] → ls = []) (hx : L ≠ [] → ls.length = (fnd L.length at_ (fndB L at_ kind key)).length ∧ LIs L (fnd L.length at_ (fndB L at_ kind key)) ls) (hr : root = shaH (rootL L)) :
  takB root (L.length : Int) kind key ls = true ∧ tellB ls kind key = fndB L at_ kind key ∧ (fndB L at_ kind key = true → ∃ (c : CV) (x : LV), L[at_]? = some c ∧ ls = [x] ∧ x.c.k = c.k ∧ x.c.s = c.s ∧ x.c.l = c.l) := by
 by_cases h0 : L = []
 ·rw [hl h0]
  subst h0
  refine ⟨?_, rfl, fun h => by simp [fndB] at h⟩
  unfold takB formB ansB rtB
  simp
  rw [hr]
  rfl
 ·have hn : 0 < L.length := List.length_pos_iff.mpr h0
  obtain ⟨hlen, hi⟩ := hx h0
  have hle : ∀ x ∈ ls, okL (L.length : Int) x = true ∧ rgtB L.length x root = true := fun x hx => by
   obtain ⟨j, hj, rfl⟩ := List.getElem_of_mem hx
   have hg := List.getElem?_eq_getElem (show j < (fnd L.length at_ (fndB L at_ kind key)).length by rw [← hlen]; exact hj)
   obtain ⟨p1, ⟨c, p2, p3, p4, p5⟩, p6⟩ := hi j _ _ hg (List.getElem?_eq_getElem hj)
   exact leaf_takes hW hr p1 p2 p3 p4 p5 p6
  have hl2 := fnd_len (b := fndB L at_ kind key) hn ha
  have hT : ansB (L.length : Int) ls kind key = true → takB root (L.length : Int) kind key ls = true := fun h => by
   unfold takB formB rtB
   rw [h, if_neg (by omega), if_neg (by rw [hlen]; omega), if_neg (by omega)]
   simp only [Bool.true_and, Bool.and_eq_true, List.all_eq_true]
   refine ⟨fun x hx => (hle x hx).1, fun x hx => by rw [Int.toNat_natCast]; exact (hle x hx).2⟩
  cases his : fndB L at_ kind key
  ·rw [his] at hlen hi hl2
   have hne : ∀ c, L[at_]? = some c → 0 < stI c.k c.s kind key := fun c hc => by
    have h1 := hAt at_ c hc
    rw [fndB_at hc] at his
    have h2 : ¬ stI c.k c.s kind key = 0 := by simpa using his
    have h3 : ¬ stI c.k c.s kind key < 0 := fun e => by have := h1.mp e; omega
    omega
   refine ⟨hT ?_, ?_, fun h => by cases h⟩
   all_goals
    by_cases h1 : 0 < at_
    ·by_cases h2 : at_ < L.length
     ·have hf : fnd L.length at_ false = [at_ - 1, at_] := by simp [fnd, h1, h2]
      rw [hf] at hlen hi
      match ls, hlen with
      | [x, y], _ =>
       obtain ⟨p1, ⟨c, p2, p3, p4, _⟩, _⟩ := hi 0 _ x rfl rfl
       obtain ⟨q1, ⟨d, q2, q3, q4, _⟩, _⟩ := hi 1 _ y rfl rfl
       have s1 := (hAt _ c p2).mpr (by omega)
       have s2 := hne d q2
       simp [ansB, tellB, sgn, p1, q1, p3, p4, q3, q4, s1, s2]
       try omega
     ·have hf : fnd L.length at_ false = [at_ - 1] := by simp [fnd, h1, h2]
      rw [hf] at hlen hi
      match ls, hlen with
      | [x], _ =>
       obtain ⟨p1, ⟨c, p2, p3, p4, _⟩, _⟩ := hi 0 _ x rfl rfl
       have s1 := (hAt _ c p2).mpr (by omega)
       simp [ansB, tellB, sgn, p1, p3, p4, s1]
       try omega
    ·have h2 : at_ < L.length := by omega
     have hf : fnd L.length at_ false = [at_] := by simp [fnd, h1, h2]
     rw [hf] at hlen hi
     match ls, hlen with
     | [x], _ =>
      obtain ⟨p1, ⟨c, p2, p3, p4, _⟩, _⟩ := hi 0 _ x rfl rfl
      have s1 := hne c p2
      simp [ansB, tellB, sgn, p1, p3, p4, s1]
      try omega
  ·rw [his] at hlen hi
   have hf : fnd L.length at_ true = [at_] := by simp [fnd]
   rw [hf] at hlen hi
   match ls, hlen with
   | [x], _ =>
    obtain ⟨p1, ⟨c, p2, p3, p4, p5⟩, _⟩ := hi 0 _ x rfl rfl
    rw [fndB_at p2] at his
    have s0 : stI c.k c.s kind key = 0 := by simpa using his
    refine ⟨hT ?_, ?_, fun _ => ⟨c, x, p2, rfl, p3, p4, p5⟩⟩
    ·simp [ansB, sgn, p3, p4, s0]
    ·simp [tellB, p3, p4, s0]
theorem tells_eq {L : List CV} {kind : Int} {key : ByteArray} {at_ : Nat} {ls : List LV} {root : Hs} {c d : CV} {b : Bool} (hW : wrongI L = 0) (hk : kmay kind = true) (ha : at_ ≤ L.length) (hAt : ∀ (i : Nat) (c : CV), L[i]? = some c → (stI c.k c.s kind key < 0 ↔ i < at_))
  (hl : L = [] → ls = []) (hx : L ≠ [] → ls.length = (fnd L.length at_ (fndB L at_ kind key)).length ∧ LIs L (fnd L.length at_ (fndB L at_ kind key)) ls) (hr : root = shaH (rootL L))
  (c1 : chkI root (L.length : Int) kind key ls = false → c = ⟨0, ByteArray.empty, .slice none 0 0, []⟩) (c2 : ∀ x, chkI root (L.length : Int) kind key ls = true → ls = [x] → c.k = x.c.k ∧ c.s = x.c.s ∧ c.l = x.c.l)
  (d1 : b = true → ∃ i : Nat, L[i]? = some d ∧ d.k = kind ∧ d.s = key) (d2 : b = false → d = ⟨0, ByteArray.empty, .slice none 0 0, []⟩ ∧ ∀ (i : Nat) (d : CV), L[i]? = some d → ¬ (d.k = kind ∧ d.s = key)) :
  chkE root (L.length : Int) kind key ls = 0 ∧ chkI root (L.length : Int) kind key ls = b ∧ sameC c d = true := by
 obtain ⟨t1, t2, t3⟩ := find_takes (root := root) hW ha hAt hl hx hr
 have hE : chkE root (L.length : Int) kind key ls = 0 := by unfold chkE; rw [hk, t1]; rfl
 have hI : chkI root (L.length : Int) kind key ls = fndB L at_ kind key := by unfold chkI; rw [hE, t2]; simp
 cases b
 ·obtain ⟨rfl, h2⟩ := d2 rfl
  have hf : fndB L at_ kind key = false := by
   cases e : fndB L at_ kind key
   ·rfl
   ·obtain ⟨c', x, p, _⟩ := t3 e
    rw [fndB_at p] at e
    exact absurd ((stI_eq _ _ _ _).mp (by simpa using e)) (h2 _ _ p)
  rw [hf] at hI
  rw [c1 hI]
  exact ⟨hE, hI, rfl⟩
 ·obtain ⟨i, h1, h2, h3⟩ := d1 rfl
  have h0 : stI d.k d.s kind key = 0 := (stI_eq _ _ _ _).mpr ⟨h2, h3⟩
  have hi : at_ = i := by
   have h4 : ¬ i < at_ := fun e => by have := (hAt i d h1).mpr e; omega
   have hil := (List.getElem?_eq_some_iff.mp h1).1
   by_cases e : at_ = i
   ·exact e
   ·have hg := List.getElem?_eq_getElem (show at_ < L.length by omega)
    have h5 := ord_of hW (i - at_ - 1) at_ _ d hg (by rw [show at_ + (i - at_ - 1) + 1 = i by omega]; exact h1)
    rw [h2, h3] at h5
    have h6 := (hAt _ _ hg).mp ((stI_lt _ _ _ _).mpr h5)
    omega
  subst hi
  have hf : fndB L at_ kind key = true := by rw [fndB_at h1]; simpa using h0
  obtain ⟨c', x, p, e, p3, p4, p5⟩ := t3 hf
  obtain rfl : d = c' := Option.some.inj (h1.symm.trans p)
  rw [hf] at hI
  obtain ⟨q1, q2, q3⟩ := c2 x hI e
  refine ⟨hE, hI, ?_⟩
  simp [sameC, q1, q2, q3, p3, p4, p5]


theorem leaf_fit {n : Int} {x : LV} (h : okL n x = true) (hs : x.c.s.size + x.c.l.length ≤ 140737488350000) : (0 ≤ x.c.k ∧ x.c.k < 9223372036854775808) ∧ x.c.s.size + x.c.l.length ≤ 140737488350000 := by
 simp [okL, kmay] at h
 exact ⟨⟨by omega, by omega⟩, hs⟩
theorem hsL_len (h : Hs) : (hsL h).length = 32 := by simp [hsL, hl_len]
theorem hsL_byts (h : Hs) : Byts (hsL h) := fun c hc => by
 obtain ⟨i, hi, rfl⟩ := List.mem_map.1 hc
 exact Hs.bnd h i (List.mem_range.1 hi)
theorem leaf_true {L : List CV} {n : Nat} {x : LV} {root : Hs} (hF : Fit L) (hN : L.length < 9223372036854775808) (hn : n < 9223372036854775808) (hr : root = shaH (rootL L)) (hs : x.c.s.size + x.c.l.length ≤ 140737488350000) (h1 : okL (n : Int) x = true) (h2 : rgtB n x root = true) :
  (n = L.length ∧ ∃ (k : Nat) (c : CV), x.num = (k : Int) ∧ L[k]? = some c ∧ x.c.k = c.k ∧ x.c.s = c.s ∧ x.c.l = c.l ∧ x.ps.map hsL = pathL L.length L k) ∨ RtP.Cl shaL (rootS L ++ rwsOf n x) := by
 have hxf := leaf_fit h1 hs
 have hnm : 0 ≤ x.num ∧ x.num < n := by simp [okL] at h1; omega
 unfold rgtB at h2
 unfold rwsOf
 cases hc : climbL n x.num.toNat (lfH x) x.ps with
 | none => rw [hc] at h2; cases h2
 | some z =>
  obtain ⟨t, rt⟩ := z
  rw [hc] at h2
  simp only [decide_eq_true_iff] at h2
  have hrt : RtP.Rgt shaL numL le8 (shaL (RtP.rootR shaL numL le8 (L.map CV.ce))) n ⟨x.num.toNat, x.c.ce, x.ps.map hsL⟩ (RtP.leafR numL x.c.ce :: (rt ++ [RtP.topR le8 n t])) := by
   refine ⟨by show x.num.toNat < n; omega, t, rt, ?_, ?_, rfl⟩
   ·have h := hc
    unfold climbL lfH at h
    rw [List.map_reverse] at h
    simpa using h
   ·rw [← shaH_L, h2, hr, shaH_L]; rfl
  have hm := RtP.right_true shaL numL le8 shaL_len le8_len numL_pre le8_inj (l := L.map CV.ce) (n := n) (by rw [List.length_map]; exact hN) hn (fun b hb => by
   obtain ⟨p, _, rfl⟩ := List.mem_map.1 hb
   exact hsL_len p) (fun c hc => by
   obtain ⟨d, hd, rfl⟩ := List.mem_map.1 hc
   exact CV.sm (hF d hd)) (CV.sm hxf) hrt
  rcases hm with ⟨e1, e2, e3⟩ | hm
  ·left
   rw [List.length_map] at e1 e3
   refine ⟨e1, x.num.toNat, ?_⟩
   simp only [List.getElem?_map, Option.map_eq_some_iff] at e2
   obtain ⟨c, hc1, hc2⟩ := e2
   have hcf := hF c (List.mem_of_getElem? hc1)
   unfold CV.ce at hc2
   injection hc2 with a1 a2 a3
   refine ⟨c, by omega, hc1, by omega, (lst_inj a2).symm, a3.symm, ?_⟩
   exact e3
  ·right
   exact hm
theorem wlk_mem {n : Int} {ls : List LV} {x : LV} (hn : ¬ n = 0) (hx : x ∈ ls) : ∀ r ∈ rwsOf n.toNat x, r ∈ wlkR n ls := fun r hr => by
 unfold wlkR
 rw [if_neg hn]
 exact List.mem_flatMap.2 ⟨x, hx, hr⟩
theorem nums_are {L : List CV} {kind : Int} {key : ByteArray} {at_ : Nat} {ls : List LV} (hW : wrongI L = 0) (ha : at_ ≤ L.length) (hAt : ∀ (i : Nat) (c : CV), L[i]? = some c → (stI c.k c.s kind key < 0 ↔ i < at_))
  (h1 : 1 ≤ ls.length) (h2 : ls.length ≤ 2) (hA : ansB (L.length : Int) ls kind key = true) (hl : ∀ x ∈ ls, ∃ (k : Nat) (c : CV), x.num = (k : Int) ∧ L[k]? = some c ∧ x.c.k = c.k ∧ x.c.s = c.s ∧ x.c.l = c.l ∧ x.ps.map hsL = pathL L.length L k) :
  ls.length = (fnd L.length at_ (fndB L at_ kind key)).length ∧ LIs L (fnd L.length at_ (fndB L at_ kind key)) ls := by
 have one : ∀ (k : Nat) (c : CV) (x : LV), fnd L.length at_ (fndB L at_ kind key) = [k] → x.num = (k : Int) → L[k]? = some c → x.c.k = c.k → x.c.s = c.s → x.c.l = c.l → x.ps.map hsL = pathL L.length L k → [x].length = (fnd L.length at_ (fndB L at_ kind key)).length ∧ LIs L (fnd L.length at_ (fndB L at_ kind key)) [x] := fun k c x e p1 p2 p3 p4 p5 p6 => by
  rw [e]
  refine ⟨rfl, fun j k' y hj hy => ?_⟩
  have hj0 := (List.getElem?_eq_some_iff.mp hy).1
  obtain rfl : j = 0 := by simp at hj0; omega
  simp at hj hy
  subst hj hy
  exact ⟨p1, ⟨c, p2, p3, p4, p5⟩, p6⟩
 match ls, h1, h2 with
 | [x], _, _ =>
  obtain ⟨k, c, p1, p2, p3, p4, p5, p6⟩ := hl x (by simp)
  have hk := (List.getElem?_eq_some_iff.mp p2).1
  have hst := hAt k c p2
  simp only [ansB, sgn, p3, p4, Bool.or_eq_true, Bool.and_eq_true, decide_eq_true_iff] at hA
  rcases hA with hA | ⟨h3, h4⟩ | ⟨h3, h4⟩
  ·have hka : k = at_ := by
    have h5 : ¬ k < at_ := fun e => by have := hst.mpr e; omega
    by_cases e : at_ = k
    ·exact e.symm
    ·have hg := List.getElem?_eq_getElem (show at_ < L.length by omega)
     have h6 := ord_of hW (k - at_ - 1) at_ _ c hg (by rw [show at_ + (k - at_ - 1) + 1 = k by omega]; exact p2)
     obtain ⟨e1, e2⟩ := (stI_eq _ _ _ _).mp hA
     rw [e1, e2] at h6
     have h7 := (hAt _ _ hg).mp ((stI_lt _ _ _ _).mpr h6)
     omega
   subst hka
   exact one k c x (by rw [fndB_at p2]; simp [fnd, hA]) p1 p2 p3 p4 p5 p6
  ·have hk0 : k = 0 := by omega
   subst hk0
   have ha0 : at_ = 0 := by
    by_cases e : 0 < at_
    ·have := hst.mpr e; omega
    ·omega
   subst ha0
   have h5 : ¬ stI c.k c.s kind key = 0 := by omega
   exact one 0 c x (by rw [fndB_at p2]; simp [fnd, h5, hk]) p1 p2 p3 p4 p5 p6
  ·have hk1 : k < at_ := hst.mp h3
   have han : at_ = L.length := by omega
   have hf : fndB L at_ kind key = false := by unfold fndB; rw [List.getElem?_eq_none (by omega)]
   exact one k c x (by rw [hf]; simp [fnd, han, show 0 < L.length by omega]; omega) p1 p2 p3 p4 p5 p6
 | [x, y], _, _ =>
  obtain ⟨k, c, p1, p2, p3, p4, p5, p6⟩ := hl x (by simp)
  obtain ⟨m, d, q1, q2, q3, q4, q5, q6⟩ := hl y (by simp)
  simp only [ansB, sgn, p3, p4, q3, q4, Bool.and_eq_true, decide_eq_true_iff] at hA
  obtain ⟨h3, h4, h5⟩ := hA
  have hm := (List.getElem?_eq_some_iff.mp q2).1
  have h6 := (hAt k c p2).mp h4
  have h7 : ¬ m < at_ := fun e => by have := (hAt m d q2).mpr e; omega
  have h8 : m = k + 1 := by omega
  have h9 : at_ = m := by omega
  subst h9
  have hf : fnd L.length at_ (fndB L at_ kind key) = [k, at_] := by
   have h10 : ¬ stI d.k d.s kind key = 0 := by omega
   rw [fndB_at q2]
   simp [fnd, h10, hm, show 0 < at_ by omega]
   omega
  rw [hf]
  refine ⟨rfl, fun j k' z hj hz => ?_⟩
  match j with
  | 0 =>
   simp at hj hz
   subst hj hz
   exact ⟨p1, ⟨c, p2, p3, p4, p5⟩, p6⟩
  | 1 =>
   simp at hj hz
   subst hj hz
   exact ⟨q1, ⟨d, q2, q3, q4, q5⟩, q6⟩
  | j + 2 => simp at hj
theorem true_pure {L : List CV} {n kind : Int} {key : ByteArray} {at_ : Nat} {ls : List LV} {root : Hs} (hW : wrongI L = 0) (hF : Fit L) (hN : L.length < 9223372036854775808) (hn : n < 9223372036854775808) (hr : root = shaH (rootL L)) (hS : SmL ls) (ha : at_ ≤ L.length) (hAt : ∀ (i : Nat) (c : CV), L[i]? = some c → (stI c.k c.s kind key < 0 ↔ i < at_))
  (hE : chkE root n kind key ls = 0) : kmay kind = true ∧ ((n = (L.length : Int) ∧ (L = [] → ls = []) ∧ (L ≠ [] → ls.length = (fnd L.length at_ (fndB L at_ kind key)).length ∧ LIs L (fnd L.length at_ (fndB L at_ kind key)) ls)) ∨ RtP.Cl shaL (rootS L ++ wlkR n ls)) := by
 have hk : kmay kind = true := by
  unfold chkE at hE
  cases e : kmay kind
  ·rw [e] at hE; simp at hE
  ·rfl
 have hT : takB root n kind key ls = true := by
  unfold chkE at hE
  rw [hk] at hE
  cases e : takB root n kind key ls
  ·rw [e] at hE; simp at hE
  ·rfl
 refine ⟨hk, ?_⟩
 unfold takB at hT
 simp only [Bool.and_eq_true] at hT
 obtain ⟨hf, han, hrt⟩ := hT
 unfold formB at hf
 unfold rtB at hrt
 by_cases h0 : n = 0
 ·subst h0
  rw [if_pos rfl] at hf hrt
  have hls : ls = [] := List.eq_nil_of_length_eq_zero (by simpa using hf)
  subst hls
  have hsh : shaL (2 :: (le8 0 ++ [])) = shaL (rootL L) := by
   rw [← shaH_L, ← shaH_L, ← hr]
   exact congrArg hsL (by simpa using hrt)
  by_cases hL : L = []
  ·subst hL
   exact .inl ⟨rfl, fun _ => rfl, fun h => absurd rfl h⟩
  ·right
   refine ⟨2 :: (le8 0 ++ []), ?_, rootL L, ?_, ?_, hsh⟩
   ·exact List.mem_append_right _ (by unfold wlkR; rw [if_pos rfl]; simp)
   ·exact List.mem_append_left _ (by rw [rootS_eq]; simp)
   ·intro e
    rw [rootL_eq] at e
    unfold RtP.topR at e
    injection e with _ e
    obtain ⟨e1, _⟩ := List.append_inj e (by rw [le8_len, le8_len])
    have := le8_inj _ _ (by omega) hN e1
    exact hL (List.eq_nil_of_length_eq_zero this.symm)
 ·rw [if_neg h0] at hf hrt
  by_cases h3 : n < 0 ∨ ls.length < 1 ∨ 2 < ls.length
  ·rw [if_pos h3] at hf; cases hf
  ·rw [if_neg h3] at hf
   obtain ⟨m, rfl⟩ : ∃ m : Nat, n = (m : Int) := ⟨n.toNat, by omega⟩
   rw [Int.toNat_natCast] at hrt
   rw [List.all_eq_true] at hf hrt
   by_cases hcl : RtP.Cl shaL (rootS L ++ wlkR (m : Int) ls)
   ·exact .inr hcl
   ·left
    have hall : ∀ x ∈ ls, m = L.length ∧ ∃ (k : Nat) (c : CV), x.num = (k : Int) ∧ L[k]? = some c ∧ x.c.k = c.k ∧ x.c.s = c.s ∧ x.c.l = c.l ∧ x.ps.map hsL = pathL L.length L k := fun x hx => by
     rcases leaf_true hF hN (by omega) hr (hS x hx).1 (hf x hx) (hrt x hx) with h | h
     ·exact h
     ·refine absurd (RtP.Cl.mono shaL h fun r hr' => ?_) hcl
      rcases List.mem_append.1 hr' with h5 | h5
      ·exact List.mem_append_left _ h5
      ·exact List.mem_append_right _ (wlk_mem h0 hx r (by rw [Int.toNat_natCast]; exact h5))
    have hx0 : ∃ x, x ∈ ls := by
     match ls, h3 with
     | x :: _, _ => exact ⟨x, by simp⟩
     | [], h3 => simp at h3
    obtain ⟨x, hx⟩ := hx0
    have hm := (hall x hx).1
    subst hm
    refine ⟨rfl, fun h => ?_, fun _ => nums_are hW ha hAt (by omega) (by omega) han fun y hy => (hall y hy).2⟩
    rw [h] at h0
    simp at h0

end Go.Proofs.Ytjklmkeedhgncaa
