import Derived.Test.YtennogmeeefopaaDoorA10
import Derived.Test.YtennogmeeefopaaDoorA11
import Derived.Deep.RegionHeld3
import Derived.Deep.MidRow
import Derived.Lib.Small
namespace Go.Proofs.YtennogmeeefopaaDoor
open Go.RowKit
set_option linter.unusedSimpArgs false
set_option linter.unusedVariables false

theorem pigeon : ∀ (n : Nat) (l : List Nat), l.Nodup → (∀ x ∈ l, x < n) → l.length ≤ n
 | 0, l, _, h => by
  cases l with
  | nil => exact Nat.le_refl _
  | cons x r => have := h x (by simp); omega
 | n + 1, l, hn, h => by
  by_cases hm : n ∈ l
  ·have h1 := pigeon n (l.erase n) (hn.erase _) fun x hx => by
    obtain ⟨h2, h3⟩ := (List.Nodup.mem_erase_iff hn).1 hx
    have := h x h3
    omega
   rw [List.length_erase_of_mem hm] at h1
   omega
  ·have h1 := pigeon n l hn fun x hx => by
    have h2 := h x hx
    have : x ≠ n := fun e => hm (by rw [← e]; exact hx)
    omega
   omega
def nmI (n : ByteArray) : Nat := numV n.data.toList.tail
theorem nmI_is (j : Nat) : nmI (nmS j) = j := by
 unfold nmI
 rw [nmS_list, List.tail_cons, numV_zeros, numV_dig]
theorem JI.upto {D : DV} {V : JV} (h : JI D V) {f : PF} (hf : f ∈ D.fs) : ∃ j : Nat, (j : Int) ≤ V.pr ∧ j < 256 ∧ f.nm = nmS j ∧ lk D.fs (nmS j) = some f := by
 obtain ⟨j, hj, e⟩ := h.nm f hf
 have h1 := lk_mem h.ok.srt hf
 rw [e] at h1
 refine ⟨j, ?_, hj, e, h1⟩
 by_cases hp : (j : Int) ≤ V.pr
 ·exact hp
 ·rw [h.hi j (by omega) hj] at h1
  cases h1
theorem JI.count {D : DV} {V : JV} {m : Nat} (h : JI D V) (hp : V.pr = (m : Int) - 1) : D.fs.length ≤ m := by
 have h1 := pigeon m (D.fs.map fun f => nmI f.nm) (by
  refine List.pairwise_iff_getElem.2 fun a b ha hb hab e => ?_
  rw [List.length_map] at ha hb
  simp only [List.getElem_map] at e
  have h2 := List.pairwise_iff_getElem.1 h.ok.srt a b ha hb hab
  obtain ⟨ja, _, _, ea, _⟩ := h.upto (List.getElem_mem ha)
  obtain ⟨jb, _, _, eb, _⟩ := h.upto (List.getElem_mem hb)
  rw [ea, eb, nmI_is, nmI_is] at e
  rw [ea, eb, e] at h2
  exact nlt_irrefl _ h2) fun x hx => by
  obtain ⟨f, hf, rfl⟩ := List.mem_map.1 hx
  obtain ⟨j, h2, _, h3, _⟩ := h.upto hf
  show nmI f.nm < m
  rw [h3, nmI_is]
  omega
 rwa [List.length_map] at h1
theorem JI.few {D : DV} {V : JV} (h : JI D V) : V.ps.length ≤ 285216768 ∧ V.pl.length = V.ps.length := by
 have hb : ∀ k b, Fk D.fs k = some b → (rdB b).length ≤ 1114128 := fun k b hk => by
  unfold Fk at hk
  obtain ⟨f, hf, rfl⟩ := Option.map_eq_some_iff.1 hk
  obtain ⟨i, hi, _⟩ := lk_some hf
  have h2 := h.siz f (List.mem_of_getElem? hi)
  have h3 := frs_ge (rdB f.bs)
  have h4 := enB_le f.bs
  unfold enB at h4
  omega
 have hg : ∀ (n k : Nat) (s : JV), (rdJ (Fk D.fs) n k s).ps.length ≤ s.ps.length + n * 1114128 := fun n => by
  induction n with
  | zero => intro k s; exact Nat.le_refl _
  | succ n ih =>
   intro k s
   rw [rdJ]
   cases hk : Fk D.fs k with
   | none => simp only; omega
   | some b =>
    have h1 := hb k b hk
    have h2 : (s.more k b).ps.length ≤ s.ps.length + 1114128 := by simp only [JV.more, List.length_append]; omega
    simp only
    split
    ·omega
    ·have := ih (k + 1) (s.more k b)
     omega
 have h1 := hg 256 0 JV.nil
 have h2 := openV_len (Fk D.fs)
 have h3 : openV (Fk D.fs) = V := h.rd
 rw [h3] at h2
 have h4 : rdJ (Fk D.fs) 256 0 JV.nil = V := h3
 rw [h4] at h1
 have h5 : JV.nil.ps.length = 0 := rfl
 exact ⟨by omega, h2⟩
theorem JI.synced {D : DV} {V : JV} {i m : Nat} {f : PF} (h : JI D V) (hp : V.pr = (m : Int)) (hf : D.fs[i]? = some f) (hn : f.nm = nmS m) : ∀ (j : Nat) (g : PF), lk (D.sync i).fs (nmS j) = some g → g.sf = (g.bs.length : Int) := fun j g hg => by
 have h1 := (h.sync hp hf hn).1
 obtain ⟨i', hi', e⟩ := lk_some hg
 obtain ⟨j', h2, h3, h4, h5⟩ := h1.upto (List.mem_of_getElem? hi')
 obtain rfl : j' = j := nmS_inj (by rw [← h4, ← e])
 by_cases e2 : j' = m
 ·subst e2
  rw [lk_syn h.ok.srt hf hn, if_pos rfl] at hg
  injection hg with hg
  subst hg
  rfl
 ·exact h1.lo j' g (by omega) hg
theorem JI.none_safe {D : DV} {V : JV} (h : JI D V) (hp : V.pr = -1) : ∀ (j : Nat) (g : PF), lk D.fs (nmS j) = some g → g.sf = (g.bs.length : Int) := fun j g hg => by
 obtain ⟨i', hi', e⟩ := lk_some hg
 obtain ⟨j', h2, _⟩ := h.upto (List.mem_of_getElem? hi')
 omega
theorem plc_fst (k : Int) : ∀ (P : List (List Int)) (a : Int), ∀ x ∈ plc k a P, x.1 = k
 | [], a, x, h => by cases h
 | p :: P, a, x, h => by
  rcases List.mem_cons.1 h with rfl | h
  ·rfl
  ·exact plc_fst k P _ x h
theorem rdJ_pl (F : Nat → Option (List Int)) : ∀ (n k : Nat) (s : JV), s.pr = (k : Int) - 1 → (∀ x ∈ s.pl, x.1 ≤ s.pr) → ∀ x ∈ (rdJ F n k s).pl, x.1 ≤ (rdJ F n k s).pr
 | 0, k, s, h, hs => hs
 | n + 1, k, s, h, hs => by
  rw [rdJ]
  cases hF : F k with
  | none => exact hs
  | some b =>
   have hm : ∀ x ∈ (s.more k b).pl, x.1 ≤ (s.more k b).pr := fun x hx => by
    have hpr : (s.more k b).pr = (k : Int) := rfl
    rcases List.mem_append.1 (show x ∈ s.pl ++ plc (k : Int) 0 (rdB b) from hx) with h1 | h1
    ·have := hs x h1
     omega
    ·rw [plc_fst _ _ _ x h1, hpr]
     exact Int.le_refl _
   simp only
   split
   ·exact hm
   ·exact rdJ_pl F n (k + 1) (s.more k b) (by show (k : Int) = _; omega) hm
theorem openV_pl (F : Nat → Option (List Int)) : ∀ x ∈ (openV F).pl, x.1 ≤ (openV F).pr := rdJ_pl F 256 0 JV.nil rfl fun x hx => by cases hx
theorem plc_get (k : Int) : ∀ (P : List (List Int)) (a : Int) (i : Nat), i < P.length → (plc k a P)[i]? = some (k, a + ((frs (P.take i)).length : Int))
 | [], a, i, h => by simp at h
 | p :: P, a, 0, h => by simp [plc, frs]
 | p :: P, a, i + 1, h => by
  rw [plc, List.getElem?_cons_succ, plc_get k P _ i (by simpa using h), frs_take_cons]
  congr 2
  push_cast
  omega
theorem plc_take (k : Int) : ∀ (P : List (List Int)) (a : Int) (i : Nat), (plc k a P).take i = plc k a (P.take i)
 | [], a, i => by simp [plc]
 | p :: P, a, 0 => by simp [plc]
 | p :: P, a, i + 1 => by rw [plc, List.take_succ_cons, List.take_succ_cons, plc, plc_take k P]
theorem JI.drop {D : DV} {V : JV} {i m c n : Nat} {a : Int} {f : PF} (h : JI D V) (hp : V.pr = (m : Int)) (hf : D.fs[i]? = some f) (hn : f.nm = nmS m) (hpl : V.pl[n]? = some ((c : Int), a)) (hc : c < m) : ∃ s : JV, JI (D.act.del i f) s ∧ SU (D.act.del i f) s s.ps.length ∧ s.pr = (m : Int) - 1 ∧ s.ps = V.ps.take s.ps.length ∧ s.pl = V.pl.take s.ps.length ∧ n < s.ps.length ∧ s.ps.length ≤ V.ps.length ∧ s.pl.length = s.ps.length := by
 obtain ⟨hm, f', s, hf', hz, hfull, hV, s1, s2, s4, s5⟩ := h.last hp
 have hkf : lk D.fs (nmS m) = some f := by rw [← hn]; exact lk_at h.ok.srt hf
 rw [hkf] at hf'
 injection hf' with hf'
 subst hf'
 have hl : ∀ j : Nat, lk (D.act.del i f).fs (nmS j) = if m = j then none else lk D.fs (nmS j) := fun j => by
  show lk (D.fs.take i ++ D.fs.drop (i + 1)) (nmS j) = _
  rw [lk_del h.ok.srt hf, hn]
  by_cases e : m = j
  ·rw [if_pos (by rw [e]), if_pos e]
  ·rw [if_neg fun h => e (nmS_inj h), if_neg e]
 have hrd : openV (Fk (D.act.del i f).fs) = s := by
  rw [s5 _ fun j hj => Fk_eq (by rw [hl, if_neg (by omega)])]
  exact rdJ_none (Fk_none (by rw [hl, if_pos rfl]))
 have hsl : s.pl.length = s.ps.length := by rw [← hrd]; exact openV_len _
 have hps : V.ps = s.ps ++ rdB f.bs := by rw [hV]; rfl
 have hpl2 : V.pl = s.pl ++ plc (m : Int) 0 (rdB f.bs) := by rw [hV]; rfl
 have hns : n < s.ps.length := by
  by_cases e : n < s.ps.length
  ·exact e
  ·exfalso
   rw [hpl2, List.getElem?_append_right (by omega)] at hpl
   have := plc_fst _ _ _ _ (List.mem_of_getElem? hpl)
   simp only at this
   omega
 have hJ : JI (D.act.del i f) s := by
  refine ⟨h.ok.act.del hf, hrd, s2, fun j h1 h2 => ?_, fun g hg => h.nm g (del_sub (fs := D.fs) hg), fun j g h1 h2 => ?_, h.room, fun g hg => h.siz g (del_sub (fs := D.fs) hg)⟩
  ·rw [hl]
   split
   ·rfl
   ·exact h.hi j (by omega) h2
  ·rw [hl, if_neg (by omega)] at h2
   exact h.lo j g (by omega) h2
 refine ⟨s, hJ, ⟨Nat.le_refl _, fun m' g h1 h2 => ?_⟩, s1, by rw [hps, List.take_left' rfl], by rw [hpl2, List.take_left' hsl], hns, by rw [hps, List.length_append]; omega, hsl⟩
 rw [hl, if_neg (by omega)] at h2
 have h3 := h.lo m' g (by omega) h2
 refine ⟨(rdB g.bs).length, ?_, Nat.le_refl _, Nat.le_refl _⟩
 rw [List.take_of_length_le (Nat.le_refl _), h3, Int.toNat_natCast]
 exact enB_le g.bs
def JV.keep (V : JV) (n : Nat) (c : Nat) (a : Int) : JV := ⟨V.ps.take n, V.pl.take n, (c : Int), a, false⟩
theorem JI.cut {D : DV} {V : JV} {i m n a sure : Nat} {f : PF} (h : JI D V) (hs : SU D V sure) (hp : V.pr = (m : Int)) (hf : D.fs[i]? = some f) (hn : f.nm = nmS m) (hpl : V.pl[n]? = some ((m : Int), (a : Int))) : a ≤ f.bs.length ∧ JI (D.act.cut i f a) (V.keep n m a) ∧ SU (D.act.cut i f a) (V.keep n m a) (min sure n) := by
 obtain ⟨hm, f', s, hf', hz, hfull, hV, s1, s2, s4, s5⟩ := h.last hp
 have hkf : lk D.fs (nmS m) = some f := by rw [← hn]; exact lk_at h.ok.srt hf
 rw [hkf] at hf'
 injection hf' with hf'
 subst hf'
 have hfm := List.mem_of_getElem? hf
 have hs0 : openV (fun j => if j < m then Fk D.fs j else none) = s := by
  rw [s5 _ fun j hj => if_pos hj]
  exact rdJ_none (if_neg (Nat.lt_irrefl _))
 have hsl : s.pl.length = s.ps.length := by rw [← hs0]; exact openV_len _
 have hps : V.ps = s.ps ++ rdB f.bs := by rw [hV]; rfl
 have hpl2 : V.pl = s.pl ++ plc (m : Int) 0 (rdB f.bs) := by rw [hV]; rfl
 have hns : s.ps.length ≤ n := by
  by_cases e : s.ps.length ≤ n
  ·exact e
  ·exfalso
   rw [hpl2, List.getElem?_append_left (by omega)] at hpl
   have h1 := openV_pl (fun j => if j < m then Fk D.fs j else none)
   rw [hs0] at h1
   have := h1 _ (List.mem_of_getElem? hpl)
   simp only at this
   omega
 obtain ⟨t, rfl⟩ : ∃ t, n = s.ps.length + t := ⟨n - s.ps.length, by omega⟩
 rw [hpl2, List.getElem?_append_right (by omega), hsl, Nat.add_sub_cancel_left] at hpl
 have htl : t < (rdB f.bs).length := by
  have := (List.getElem?_eq_some_iff.1 hpl).1
  rwa [plc_len] at this
 rw [plc_get _ _ _ _ htl] at hpl
 injection hpl with hpl
 injection hpl with _ hpl
 have ha : (frs ((rdB f.bs).take t)).length = a := by omega
 have hle : a ≤ f.bs.length := by
  have h1 := frs_mono (rdB f.bs) (Nat.le_of_lt htl)
  rw [List.take_of_length_le (Nat.le_refl (rdB f.bs).length)] at h1
  have h2 := enB_le f.bs
  unfold enB at h2
  omega
 have hcut : f.bs.take a = frs ((rdB f.bs).take t) := by
  have e : frs (rdB f.bs) = frs ((rdB f.bs).take t) ++ frs ((rdB f.bs).drop t) := by rw [← frs_app, List.take_append_drop]
  rw [show f.bs.take a = (frs (rdB f.bs)).take a by rw [← hfull], e]
  exact List.take_left' ha
 have hrb : rdB (f.bs.take a) = (rdB f.bs).take t := by
  rw [hcut]
  exact rdB_self _ fun p hp => rdB_all f.bs p (List.mem_of_mem_take hp)
 have hel : (f.bs.take a).length = a := by rw [List.length_take]; omega
 have heb : enB (f.bs.take a) = a := by unfold enB; rw [hrb, ha]
 have hmore : s.more m (f.bs.take a) = V.keep (s.ps.length + t) m a := by
  unfold JV.more JV.keep
  rw [hrb, heb, hel, hps, hpl2, List.take_length_add_append, ← hsl, List.take_length_add_append, plc_take]
  simp
 have hl : ∀ j : Nat, lk (D.act.cut i f a).fs (nmS j) = if m = j then some (f.cut a) else lk D.fs (nmS j) := fun j => by
  show lk (D.fs.set i (f.cut a)) (nmS j) = _
  rw [lk_set (g := f.cut a) h.ok.srt hf rfl, hn]
  by_cases e : m = j
  ·rw [if_pos (by rw [e]), if_pos e]
  ·rw [if_neg fun h => e (nmS_inj h), if_neg e]
 have hmem : ∀ g ∈ (D.act.cut i f a).fs, g ∈ D.fs ∨ g = f.cut a := fun g hg => set_sub (fs := D.fs) hg
 have hrd : openV (Fk (D.act.cut i f a).fs) = V.keep (s.ps.length + t) m a := by
  rw [← hmore, s5 _ fun j hj => Fk_eq (by rw [hl, if_neg (by omega)])]
  exact rdJ_one hm (by unfold Fk; rw [hl, if_pos rfl]; rfl) fun j h6 h7 => Fk_none (by rw [hl, if_neg (by omega)]; exact h.hi j (by omega) h7)
 have hkl : (V.keep (s.ps.length + t) m a).ps.length = s.ps.length + t := by
  show (V.ps.take _).length = _
  rw [List.length_take, hps, List.length_append]
  omega
 have hsf := h.ok.sf f hfm
 refine ⟨hle, ⟨h.ok.act.cut hf a hle, hrd, rfl, fun j h1 h2 => ?_, fun g hg => ?_, fun j g h1 h2 => ?_, h.room, fun g hg => ?_⟩, ?_, fun m' g h1 h2 => ?_⟩
 ·have h1' : (m : Int) < (j : Int) := h1
  rw [hl, if_neg (by omega)]; exact h.hi j (by omega) h2
 ·rcases hmem g hg with hg | rfl
  ·exact h.nm g hg
  ·exact h.nm f hfm
 ·have h1' : (j : Int) < (m : Int) := h1
  rw [hl, if_neg (by omega)] at h2
  exact h.lo j g (by omega) h2
 ·rcases hmem g hg with hg | rfl
  ·exact h.siz g hg
  ·have := h.siz f hfm
   show (f.bs.take a).length ≤ _
   omega
 ·rw [hkl]
  omega
 ·have h1' : (m : Int) = (m' : Int) := h1
  obtain rfl : m = m' := by omega
  rw [hl, if_pos rfl] at h2
  injection h2 with h2
  subst h2
  obtain ⟨j, j1, j2, j3⟩ := hs.2 m f hp hkf
  have hVl : V.ps.length = s.ps.length + (rdB f.bs).length := by rw [hps, List.length_append]
  refine ⟨min j t, ?_, ?_, ?_⟩
  ·show (frs ((rdB (f.bs.take a)).take (min j t))).length ≤ (min f.sf (a : Int)).toNat
   rw [hrb, List.take_take, Nat.min_eq_left (Nat.min_le_right j t)]
   have e1 := frs_mono (rdB f.bs) (Nat.min_le_left j t)
   have e2 := frs_mono (rdB f.bs) (Nat.min_le_right j t)
   omega
  ·show min j t ≤ (rdB (f.bs.take a)).length
   rw [hrb, List.length_take]
   omega
  ·show min sure (s.ps.length + t) + (rdB (f.bs.take a)).length ≤ _
   rw [hkl, hrb, List.length_take]
   omega
theorem CR.wide {D : DV} {all : List (List Int)} {sure n : Nat} (h : CR D (all.take n) sure) : CR D all sure :=
 ⟨h.ok, h.nm, h.room, h.siz, fun kp => by
  obtain ⟨k, h1, h2, h3⟩ := h.rd kp
  rw [List.length_take] at h2
  exact ⟨k, h1, by omega, by rw [h3, List.take_take, Nat.min_eq_left (by omega)]⟩⟩
theorem Tryd.in10 (w : World) (vs : Array Value) : (callFunc 10 vs).run Tryd.prog w = .ok (.enter 10 vs) w := by kernel_rfl
structure KI (D : DV) (V : JV) (n sure c a : Nat) (la : Bool) (Dk : DV) (Vk : JV) : Prop where
 ji : JI Dk Vk
 su : SU Dk Vk (min sure Vk.ps.length)
 ls : la = false → SU Dk Vk Vk.ps.length
 ps : Vk.ps = V.ps.take Vk.ps.length
 pl : Vk.pl = V.pl.take Vk.ps.length
 lt : n < Vk.ps.length
 le : Vk.ps.length ≤ V.ps.length
 hat : Vk.pl[n]? = some ((c : Int), (a : Int))
 out : Dk.out = false
 acts : D.acts ≤ Dk.acts ∧ Dk.acts + Vk.pr ≤ D.acts + V.pr
theorem KI.start {D : DV} {V : JV} {n sure c a : Nat} {la : Bool} (h : JX D V la sure) (hn : n < V.ps.length) (hp : V.pl[n]? = some ((c : Int), (a : Int))) : KI D V n sure c a la D V := by
 have hl := h.ji.few.2
 refine ⟨h.ji, by rw [Nat.min_eq_left h.su.1]; exact h.su, h.ls, by rw [List.take_of_length_le (Nat.le_refl _)], by rw [List.take_of_length_le (by omega)], hn, Nat.le_refl _, hp, h.out, by omega⟩
theorem KI.drop {D Dk : DV} {V Vk : JV} {n sure c a k i : Nat} {la : Bool} {f : PF} (h : KI D V n sure c a la Dk Vk) (hk : Vk.pr = (k : Int)) (hc : c < k) (hf : Dk.fs[i]? = some f) (hn : f.nm = nmS k) (hfu : ¬ Dk.fuse = 0) : ∃ s : JV, s.pr = (k : Int) - 1 ∧ KI D V n sure c a la (Dk.act.del i f) s := by
 obtain ⟨s, h1, h2, h3, h4, h5, h6, h7, h8⟩ := h.ji.drop hk hf hn h.hat hc
 have e1 : V.ps.take s.ps.length = s.ps := by
  have := h.ps
  rw [this, List.take_take, Nat.min_eq_left h7] at h4
  exact h4.symm
 have e2 : V.pl.take s.ps.length = s.pl := by
  have := h.pl
  rw [this, List.take_take, Nat.min_eq_left h7] at h5
  exact h5.symm
 refine ⟨s, h3, h1, h2.less (by omega), fun _ => h2, e1.symm, e2.symm, h6, by have := h.le; omega, ?_, by rw [← h.out]; exact (act_on hfu).1, ?_⟩
 ·rw [h5, List.getElem?_take, if_pos h6]
  exact h.hat
 ·have := h.acts
  show D.acts ≤ Dk.acts + 1 ∧ Dk.acts + 1 + s.pr ≤ _
  omega
theorem KI.dead {D Dk : DV} {V Vk : JV} {n sure c a : Nat} {la : Bool} (h : KI D V n sure c a la Dk Vk) : CR Dk.act V.ps (min sure n) := by
 have h1 := h.ji.act.cr h.su.act
 rw [h.ps] at h1
 exact h1.wide.less (by have := h.lt; rw [← h.ps]; omega)
theorem KI.cut {D Dk : DV} {V Vk : JV} {n sure c a i : Nat} {la : Bool} {f : PF} (h : KI D V n sure c a la Dk Vk) (hk : Vk.pr = (c : Int)) (hf : Dk.fs[i]? = some f) (hn : f.nm = nmS c) : a ≤ f.bs.length ∧ (¬ Dk.fuse = 0 → JX (Dk.act.cut i f a) (V.keep n c a) la (min sure n)) := by
 obtain ⟨h1, h2, h3⟩ := h.ji.cut h.su hk hf hn h.hat
 have e : Vk.keep n c a = V.keep n c a := by
  have h4 := h.lt
  unfold JV.keep
  rw [show Vk.ps.take n = V.ps.take n by rw [h.ps, List.take_take, Nat.min_eq_left (by omega)], show Vk.pl.take n = V.pl.take n by rw [h.pl, List.take_take, Nat.min_eq_left (by omega)]]
 have hl : (V.keep n c a).ps.length = n := by
  show (V.ps.take n).length = n
  rw [List.length_take]
  have := h.lt
  have := h.le
  omega
 rw [e] at h2 h3
 refine ⟨h1, fun hfu => ⟨h2, h3.less (by have := h.lt; omega), fun hla => ?_, fun _ => by show (0 : Int) ≤ (c : Int); omega, by rw [← h.out]; exact (act_on hfu).1⟩⟩
 have h5 := (h.ji.cut (h.ls hla) hk hf hn h.hat).2.2
 rw [e] at h5
 rw [hl]
 exact h5.less (by have := h.lt; omega)
theorem rdJ_pl0 (F : Nat → Option (List Int)) : ∀ (n k : Nat) (s : JV), (∀ x ∈ s.pl, 0 ≤ x.1 ∧ 0 ≤ x.2) → ∀ x ∈ (rdJ F n k s).pl, 0 ≤ x.1 ∧ 0 ≤ x.2
 | 0, k, s, hs => hs
 | n + 1, k, s, hs => by
  have hp : ∀ (P : List (List Int)) (a : Int), 0 ≤ a → ∀ x ∈ plc (k : Int) a P, 0 ≤ x.1 ∧ 0 ≤ x.2 := fun P => by
   induction P with
   | nil => intro a _ x hx; cases hx
   | cons p P ih =>
    intro a ha x hx
    rcases List.mem_cons.1 hx with rfl | hx
    ·exact ⟨by simp, ha⟩
    ·exact ih _ (by omega) x hx
  rw [rdJ]
  cases hF : F k with
  | none => exact hs
  | some b =>
   have hm : ∀ x ∈ (s.more k b).pl, 0 ≤ x.1 ∧ 0 ≤ x.2 := fun x hx => by
    rcases List.mem_append.1 (show x ∈ s.pl ++ plc (k : Int) 0 (rdB b) from hx) with h1 | h1
    ·exact hs x h1
    ·exact hp _ _ (Int.le_refl _) x h1
   simp only
   split
   ·exact hm
   ·exact rdJ_pl0 F n (k + 1) (s.more k b) hm
theorem JI.place {D : DV} {V : JV} (h : JI D V) {n : Nat} (hn : n < V.ps.length) : ∃ c a : Nat, V.pl[n]? = some ((c : Int), (a : Int)) ∧ (c : Int) ≤ V.pr := by
 have hl := h.few.2
 have e : V.pl[n]? = some V.pl[n] := List.getElem?_eq_getElem (by omega)
 have hm := List.mem_of_getElem? e
 have h1 : 0 ≤ (V.pl[n]).1 ∧ 0 ≤ (V.pl[n]).2 := rdJ_pl0 (Fk D.fs) 256 0 JV.nil (fun x hx => by cases hx) _ (by show _ ∈ (openV (Fk D.fs)).pl; rw [h.rd]; exact hm)
 have h2 : (V.pl[n]).1 ≤ V.pr := by
  have := openV_pl (Fk D.fs) (V.pl[n]) (by rw [h.rd]; exact hm)
  rwa [h.rd] at this
 refine ⟨(V.pl[n]).1.toNat, (V.pl[n]).2.toNat, ?_, by omega⟩
 rw [e]
 congr 1
 ext
 ·simp only; omega
 ·simp only; omega
theorem pL_take : ∀ (l : List (Int × Int)) (k : Nat), (pL l).take (k * 2) = pL (l.take k)
 | [], k => by simp [pL]
 | x :: l, 0 => by simp [pL]
 | x :: l, k + 1 => by
  have e : pL (x :: l) = .int .i64 x.1 :: .int .i64 x.2 :: pL l := rfl
  rw [e, show (k + 1) * 2 = k * 2 + 1 + 1 by omega, List.take_succ_cons, List.take_succ_cons, pL_take l k, List.take_succ_cons]
  rfl
theorem OwnP.form {w : World} {v : Value} {l : List (Int × Int)} (h : OwnP w v l) (hn : 0 < l.length) : ∃ pg pc, v = .slice (some ⟨pg, 0, none⟩) l.length pc ∧ l.length ≤ pc := by
 rcases h.2 with ⟨_, h0⟩ | ⟨g, cap, cur, rfl, _, _, h3, _⟩
 ·omega
 ·exact ⟨g, cap, rfl, h3⟩
theorem OwnP.take {w : World} {pg pc pn : Nat} {l : List (Int × Int)} (h : OwnP w (.slice (some ⟨pg, 0, none⟩) pn pc) l) (k : Nat) (hk : k ≤ l.length) : OwnP w (.slice (some ⟨pg, 0, none⟩) k pc) (l.take k) := by
 rcases h.2 with ⟨e, _⟩ | ⟨g, cap, cur, e, h1, h2, h3, h4, h5, h6⟩
 ·cases e
 ·injection e with e1 e2 e3
  injection e1 with e1
  injection e1 with e1
  subst e1 e3
  have hl : (l.take k).length = k := by rw [List.length_take]; omega
  refine ⟨by rw [pL_len], .inr ⟨pg, pc, cur, by rw [hl], h1, h2, by omega, h4, h5, ?_⟩⟩
  rw [hl, ← pL_take, ← h6, List.take_take, Nat.min_eq_left (by omega)]
theorem OwnP.at {w : World} {pg pc pn : Nat} {l : List (Int × Int)} (h : OwnP w (.slice (some ⟨pg, 0, none⟩) pn pc) l) {n : Nat} {x : Int × Int} (hx : l[n]? = some x) : w.rangeAt pg (n * 2) [.int .i64 x.1, .int .i64 x.2] := by
 rcases h.2 with ⟨e, _⟩ | ⟨g, cap, cur, e, h1, h2, h3, h4, h5, h6⟩
 ·cases e
 ·injection e with e1 e2 e3
  injection e1 with e1
  injection e1 with e1
  subst e1 e3
  have hb : Blk w pg 79 cur := h2
  have hget : ∀ (l : List (Int × Int)) (n : Nat), l[n]? = some x → (pL l)[n * 2]? = some (.int .i64 x.1) ∧ (pL l)[n * 2 + 1]? = some (.int .i64 x.2) := fun l => by
   induction l with
   | nil => intro n h; cases h
   | cons y l ih =>
    intro n h
    have e : pL (y :: l) = .int .i64 y.1 :: .int .i64 y.2 :: pL l := rfl
    cases n with
    | zero =>
     injection h with h
     subst h
     exact ⟨rfl, rfl⟩
    | succ n =>
     have := ih n h
     rw [e, show (n + 1) * 2 = n * 2 + 1 + 1 by omega]
     exact this
  have hl := (List.getElem?_eq_some_iff.1 hx).1
  intro j v hv
  have hj : j < 2 := (List.getElem?_eq_some_iff.1 hv).1
  have hg := hget l n hx
  rw [hb.cell, ← Array.getElem?_toList]
  have e : ∀ i, i < l.length * 2 → cur.toList[i]? = (pL l)[i]? := fun i hi => by rw [← h6, List.getElem?_take, if_pos hi]
  rw [e (n * 2 + j) (by omega)]
  rcases (show j = 0 ∨ j = 1 by omega) with rfl | rfl
  ·rw [Nat.add_zero, hg.1]; exact hv
  ·rw [hg.2]; exact hv
theorem Tryd.elemPl : Tryd.prog.elem 59 = 79 := by kernel_rfl
theorem Tryd.sizePl (w : World) : (sizeOf 79).run Tryd.prog w = .ok 2 w := by kernel_rfl
theorem sl_runP (base : Option Addr) (n cap a : Nat) (ha : a ≤ cap) (wx : World) : (Instr.sliceAt 59 (.slice base n cap) none (some (.int .i64 (a : Int))) none).run Tryd.prog wx = .ok (.slice base a cap) wx := by
 have hu : Tryd.prog.underlying 59 = some (.slice (Tryd.prog.elem 59)) := by rw [Tryd.elemPl]; exact Tryd.underlying59
 have h1 := run_slice_h (P := Tryd.prog) (w := wx) 59 base n cap hu .i64 (a : Int) (by omega) (by omega)
 have h2 := run_sliceAt_slice (P := Tryd.prog) (w := wx) 59 (.slice base n cap) none (some (.int .i64 (a : Int))) none hu
 rw [Tryd.elemPl] at h1
 have h3 : sliced base 0 (a : Int).toNat cap 2 = .slice base a cap := by
  have h4 : (if cap = 0 then base else base.map (·.add (0 * 2))) = base := by
   split
   ·rfl
   ·cases base <;> rfl
  unfold sliced
  rw [h4, Int.toNat_natCast, Nat.sub_zero, Nat.sub_zero]
 rw [h2, h1]
 refine (congrArg (fun z => Result.andThen z fun s w => Result.ok (sliced base 0 (a : Int).toNat cap s) w) (Tryd.sizePl wx)).trans ?_
 show Result.ok (sliced base 0 (a : Int).toNat cap 2) wx = _
 rw [h3]
theorem WL.slHiP {ops : Array Oper} {rest : List Oper} {o : Oper} {a : Act} {w : World} {Q : Exit → Act → World → Prop} (hw : Region.wanted o (yielded ops a.tmps) = true) (x hi : Operand) (ho : o.op = .slice 59 x none (some hi) none)
  (vx vh vs : Value) (hx : a.eval x = vx) (hh : a.eval hi = vh) (hr : (Instr.sliceAt 59 vx none (some vh) none).run Tryd.prog w = .ok vs w) (h : WL Tryd.prog ops Q rest (a.put o.dst vs) w) : WL Tryd.prog ops Q (o :: rest) a w :=
 WL.val hw vs (by unfold execOp; simp only [ho, hx, hh, Option.map_some, Option.map_none, Sem.run_bind, hr, Result.andThen_ok, Sem.run_pure]) h
def KeepPost (D : DV) (V : JV) (la : Bool) (n : Int) (sure g d p : Nat) (N : Nat → Prop) (w : World) (e : Ending) (w' : World) : Prop :=
 ∃ (ee : Int) (D' : DV) (V' : JV) (de' : Bool), e = .returned (.int .i64 ee) ∧ JDN w' g d p D' V' la de' (JN2 N w.heap.size w'.heap.size) ∧ Grown w w' N ∧ (D.acts ≤ D'.acts ∧ D'.acts ≤ D.acts + 300) ∧
  ((ee = 0 ∧ de' = false ∧ 0 ≤ n ∧ n ≤ (V.ps.length : Int) ∧ V'.ps = V.ps.take n.toNat ∧ JX D' V' la (min sure n.toNat)) ∨ (ee = 7 ∧ 0 ≤ n ∧ n ≤ (V.ps.length : Int) ∧ CR D' V.ps (min sure n.toNat)) ∨ (ee = 2 ∧ (n < 0 ∨ (V.ps.length : Int) < n) ∧ de' = false ∧ V' = V ∧ JX D' V la sure))
set_option maxRecDepth 8000 in
theorem keep_neg (g d p : Nat) (n : Int) (D : DV) (V : JV) (la : Bool) (sure : Nat) (N : Nat → Prop) (w : World) (hT : Tab w) (hDN : JDN w g d p D V la false N) (hNl : ∀ k, N k → k < w.heap.size) (h0 : ¬ N 0) (hd : ¬ N d) (hX : JX D V la sure) (hA : D.acts ≤ 4611686018427380000) (hn : n < 0) : Calls Tryd.prog 10 #[ptr g, .int .i64 n] w (KeepPost D V la n sure g d p N w) := by
 obtain ⟨hDk, vf, cs, vp, hD, hJ, hP, hN⟩ := hDN
 have hfew := hX.ji.few
 obtain ⟨pa, pc, rfl⟩ := hP.sl
 obtain ⟨pn, hpn⟩ : ∃ z, Keep (z = V.pl.length ∧ z = V.ps.length) := ⟨_, ⟨rfl, hfew.2⟩⟩
 have HPn : Keep (pn ≤ 285216768) := ⟨by have := hpn.out.2; have := hfew.1; omega⟩
 rw [← hpn.out.1] at hP hJ hN
 have HJ := Keep.mk hJ
 have HP := Keep.mk hP
 clear hJ hP hfew
 have Hn := Keep.mk hn
 clear hn
 have HT := Keep.mk hT
 have HDk := Keep.mk hDk
 have HD := Keep.mk hD
 have HN := Keep.mk hN
 have HNl := Keep.mk hNl
 have H0 := Keep.mk h0
 have Hd := Keep.mk hd
 have HX := Keep.mk hX
 have HA := Keep.mk hA
 have HZ : Keep (0 < w.heap.size) := ⟨Nat.lt_of_le_of_lt (Nat.zero_le _) hDk.lt⟩
 clear hT hDk hD hN hNl h0 hd hX hA
 go_enter Tryd.func10, Tryd.ntmps10
 have c5 := HJ.out.c 5 (by rfl : (jA d (.slice pa pn pc) V.pr V.sz la false)[5]? = some (.bool false))
 have c1 := HJ.out.c 1 (by rfl : (jA d (.slice pa pn pc) V.pr V.sz la false)[1]? = some (.slice pa pn pc))
 have hn1 : n < 0 := Hn.out
 refine wp_seq_k fun K1 hK1 => rgn ?_
 refine VlS (.int .i64 0) ?_
 refine WL.nil (hK1 _ _ ?_)
 refine wp_seq_k fun K2 hK2 => ?_
 refine wp_block ?_
 refine wp_seq_k fun K3 hK3 => rgn ?_
 refine VlS (.pointer (some ⟨g, 0, none⟩)) ?_
 refine VlS (.pointer (some ⟨g, 0, none⟩)) ?_
 refine VlS (.pointer (some ⟨g, 5, none⟩)) ?_
 refine VlS (.bool false) ?_
 refine VlS (.bool false) ?_
 refine WL.nil (hK3 _ _ ?_)
 refine wp_cond_false rfl ?_
 refine wp_seq_k fun K4 hK4 => rgn ?_
 refine VlS (.int .i64 n) ?_
 refine VlS (.bool true) ?_
 refine VlS (.bool true) ?_
 refine SkS ?_
 refine SkS ?_
 refine SkS ?_
 refine SkS ?_
 refine SkS ?_
 refine SkS ?_
 refine SkS ?_
 refine VlS (.bool true) ?_
 refine VlS (.bool true) ?_
 refine WL.nil (hK4 _ _ ?_)
 refine wp_cond_true rfl ?_
 refine wp_seq_k fun K5 hK5 => rgn ?_
 refine VlS (.int .i64 2) ?_
 refine WL.nil (hK5 _ _ ?_)
 refine wp_ret ?_
 go_ret
 exact ⟨2, D, V, false, rfl, ⟨HDk.out, vf, cs, .slice pa pn pc, HD.out, HJ.out, HP.out, fun k hk => ⟨.inl (HN.out k hk), HNl.out k (HN.out k hk)⟩⟩, Grown.refl _ _, by omega, .inr (.inr ⟨rfl, .inl Hn.out, rfl, rfl, HX.out⟩)⟩
set_option maxRecDepth 8000 in
theorem keep_over (g d p : Nat) (n : Int) (D : DV) (V : JV) (la : Bool) (sure : Nat) (N : Nat → Prop) (w : World) (hT : Tab w) (hDN : JDN w g d p D V la false N) (hNl : ∀ k, N k → k < w.heap.size) (h0 : ¬ N 0) (hd : ¬ N d) (hX : JX D V la sure) (hA : D.acts ≤ 4611686018427380000) (hn : (V.ps.length : Int) < n) : Calls Tryd.prog 10 #[ptr g, .int .i64 n] w (KeepPost D V la n sure g d p N w) := by
 obtain ⟨hDk, vf, cs, vp, hD, hJ, hP, hN⟩ := hDN
 have hfew := hX.ji.few
 obtain ⟨pa, pc, rfl⟩ := hP.sl
 obtain ⟨pn, hpn⟩ : ∃ z, Keep (z = V.pl.length ∧ z = V.ps.length) := ⟨_, ⟨rfl, hfew.2⟩⟩
 have HPn : Keep (pn ≤ 285216768) := ⟨by have := hpn.out.2; have := hfew.1; omega⟩
 rw [← hpn.out.1] at hP hJ hN
 have HJ := Keep.mk hJ
 have HP := Keep.mk hP
 clear hJ hP hfew
 have Hn := Keep.mk hn
 clear hn
 have HT := Keep.mk hT
 have HDk := Keep.mk hDk
 have HD := Keep.mk hD
 have HN := Keep.mk hN
 have HNl := Keep.mk hNl
 have H0 := Keep.mk h0
 have Hd := Keep.mk hd
 have HX := Keep.mk hX
 have HA := Keep.mk hA
 have HZ : Keep (0 < w.heap.size) := ⟨Nat.lt_of_le_of_lt (Nat.zero_le _) hDk.lt⟩
 clear hT hDk hD hN hNl h0 hd hX hA
 go_enter Tryd.func10, Tryd.ntmps10
 have c5 := HJ.out.c 5 (by rfl : (jA d (.slice pa pn pc) V.pr V.sz la false)[5]? = some (.bool false))
 have c1 := HJ.out.c 1 (by rfl : (jA d (.slice pa pn pc) V.pr V.sz la false)[1]? = some (.slice pa pn pc))
 have hn1 : ¬ n < 0 := by have := Hn.out; omega
 have hn2 : (pn : Int) < n := by have := Hn.out; have := hpn.out.2; omega
 refine wp_seq_k fun K1 hK1 => rgn ?_
 refine VlS (.int .i64 0) ?_
 refine WL.nil (hK1 _ _ ?_)
 refine wp_seq_k fun K2 hK2 => ?_
 refine wp_block ?_
 refine wp_seq_k fun K3 hK3 => rgn ?_
 refine VlS (.pointer (some ⟨g, 0, none⟩)) ?_
 refine VlS (.pointer (some ⟨g, 0, none⟩)) ?_
 refine VlS (.pointer (some ⟨g, 5, none⟩)) ?_
 refine VlS (.bool false) ?_
 refine VlS (.bool false) ?_
 refine WL.nil (hK3 _ _ ?_)
 refine wp_cond_false rfl ?_
 refine wp_seq_k fun K4 hK4 => rgn ?_
 refine VlS (.int .i64 n) ?_
 refine VlS (.bool false) ?_
 refine VlS (.bool false) ?_
 refine VlS (.int .i64 n) ?_
 refine VlS (.pointer (some ⟨g, 0, none⟩)) ?_
 refine VlS (.pointer (some ⟨g, 0, none⟩)) ?_
 refine VlS (.pointer (some ⟨g, 1, none⟩)) ?_
 refine VlS (.slice pa pn pc) ?_
 refine VlS (.int .i64 (pn : Int)) ?_
 refine VlS (.bool true) ?_
 refine VlS (.bool true) ?_
 refine VlS (.bool true) ?_
 refine WL.nil (hK4 _ _ ?_)
 refine wp_cond_true rfl ?_
 refine wp_seq_k fun K5 hK5 => rgn ?_
 refine VlS (.int .i64 2) ?_
 refine WL.nil (hK5 _ _ ?_)
 refine wp_ret ?_
 go_ret
 exact ⟨2, D, V, false, rfl, ⟨HDk.out, vf, cs, .slice pa pn pc, HD.out, HJ.out, HP.out, fun k hk => ⟨.inl (HN.out k hk), HNl.out k (HN.out k hk)⟩⟩, Grown.refl _ _, by omega, .inr (.inr ⟨rfl, .inr Hn.out, rfl, rfl, HX.out⟩)⟩
set_option maxRecDepth 8000 in
theorem keep_all (g d p : Nat) (n : Nat) (D : DV) (V : JV) (la : Bool) (sure : Nat) (N : Nat → Prop) (w : World) (hT : Tab w) (hDN : JDN w g d p D V la false N) (hNl : ∀ k, N k → k < w.heap.size) (h0 : ¬ N 0) (hd : ¬ N d) (hX : JX D V la sure) (hA : D.acts ≤ 4611686018427380000) (hn : n = V.ps.length) : Calls Tryd.prog 10 #[ptr g, .int .i64 (n : Int)] w (KeepPost D V la (n : Int) sure g d p N w) := by
 obtain ⟨hDk, vf, cs, vp, hD, hJ, hP, hN⟩ := hDN
 have hfew := hX.ji.few
 obtain ⟨pa, pc, rfl⟩ := hP.sl
 obtain ⟨pn, hpn⟩ : ∃ z, Keep (z = V.pl.length ∧ z = V.ps.length) := ⟨_, ⟨rfl, hfew.2⟩⟩
 have HPn : Keep (pn ≤ 285216768) := ⟨by have := hpn.out.2; have := hfew.1; omega⟩
 rw [← hpn.out.1] at hP hJ hN
 have HJ := Keep.mk hJ
 have HP := Keep.mk hP
 clear hJ hP hfew
 have Hn := Keep.mk hn
 clear hn
 have HT := Keep.mk hT
 have HDk := Keep.mk hDk
 have HD := Keep.mk hD
 have HN := Keep.mk hN
 have HNl := Keep.mk hNl
 have H0 := Keep.mk h0
 have Hd := Keep.mk hd
 have HX := Keep.mk hX
 have HA := Keep.mk hA
 have HZ : Keep (0 < w.heap.size) := ⟨Nat.lt_of_le_of_lt (Nat.zero_le _) hDk.lt⟩
 clear hT hDk hD hN hNl h0 hd hX hA
 go_enter Tryd.func10, Tryd.ntmps10
 have c5 := HJ.out.c 5 (by rfl : (jA d (.slice pa pn pc) V.pr V.sz la false)[5]? = some (.bool false))
 have c1 := HJ.out.c 1 (by rfl : (jA d (.slice pa pn pc) V.pr V.sz la false)[1]? = some (.slice pa pn pc))
 obtain rfl : n = pn := by rw [hpn.out.2]; exact Hn.out
 have hn1 : ¬ (n : Int) < 0 := by omega
 have hn2 : ¬ (n : Int) < (n : Int) := by omega
 refine wp_seq_k fun K1 hK1 => rgn ?_
 refine VlS (.int .i64 0) ?_
 refine WL.nil (hK1 _ _ ?_)
 refine wp_seq_k fun K2 hK2 => ?_
 refine wp_block ?_
 refine wp_seq_k fun K3 hK3 => rgn ?_
 refine VlS (.pointer (some ⟨g, 0, none⟩)) ?_
 refine VlS (.pointer (some ⟨g, 0, none⟩)) ?_
 refine VlS (.pointer (some ⟨g, 5, none⟩)) ?_
 refine VlS (.bool false) ?_
 refine VlS (.bool false) ?_
 refine WL.nil (hK3 _ _ ?_)
 refine wp_cond_false rfl ?_
 refine wp_seq_k fun K4 hK4 => rgn ?_
 refine VlS (.int .i64 (n : Int)) ?_
 refine VlS (.bool false) ?_
 refine VlS (.bool false) ?_
 refine VlS (.int .i64 (n : Int)) ?_
 refine VlS (.pointer (some ⟨g, 0, none⟩)) ?_
 refine VlS (.pointer (some ⟨g, 0, none⟩)) ?_
 refine VlS (.pointer (some ⟨g, 1, none⟩)) ?_
 refine VlS (.slice pa n pc) ?_
 refine VlS (.int .i64 (n : Int)) ?_
 refine VlS (.bool false) ?_
 refine VlS (.bool false) ?_
 refine VlS (.bool false) ?_
 refine WL.nil (hK4 _ _ ?_)
 refine wp_cond_false rfl ?_
 refine wp_seq_k fun K5 hK5 => rgn ?_
 refine VlS (.int .i64 (n : Int)) ?_
 refine VlS (.pointer (some ⟨g, 0, none⟩)) ?_
 refine VlS (.pointer (some ⟨g, 0, none⟩)) ?_
 refine VlS (.pointer (some ⟨g, 1, none⟩)) ?_
 refine VlS (.slice pa n pc) ?_
 refine VlS (.int .i64 (n : Int)) ?_
 refine VlS (.bool true) ?_
 refine VlS (.bool true) ?_
 refine WL.nil (hK5 _ _ ?_)
 refine wp_cond_true rfl ?_
 refine wp_seq_k fun K6 hK6 => rgn ?_
 refine VlS (.int .i64 0) ?_
 refine WL.nil (hK6 _ _ ?_)
 refine wp_ret ?_
 go_ret
 exact ⟨0, D, V, false, rfl, ⟨HDk.out, vf, cs, .slice pa n pc, HD.out, HJ.out, HP.out, fun k hk => ⟨.inl (HN.out k hk), HNl.out k (HN.out k hk)⟩⟩, Grown.refl _ _, by omega, .inl ⟨rfl, rfl, by omega, by rw [Hn.out]; exact Int.le_refl _, by rw [Int.toNat_natCast, List.take_of_length_le (by rw [Hn.out]; exact Nat.le_refl _)], by rw [Int.toNat_natCast, Hn.out, Nat.min_eq_left HX.out.su.1]; exact HX.out⟩⟩
set_option maxRecDepth 8000 in
set_option maxHeartbeats 4000000 in
theorem keep_cut (g d p : Nat) (n : Nat) (D : DV) (V : JV) (la : Bool) (sure : Nat) (N : Nat → Prop) (w : World) (hT : Tab w) (hDN : JDN w g d p D V la false N) (hNl : ∀ k, N k → k < w.heap.size) (h0 : ¬ N 0) (hd : ¬ N d) (hX : JX D V la sure) (hA : D.acts ≤ 4611686018427380000) (hn : n < V.ps.length) : Calls Tryd.prog 10 #[ptr g, .int .i64 (n : Int)] w (KeepPost D V la (n : Int) sure g d p N w) := by
 obtain ⟨hDk, vf, cs, vp, hD, hJ, hP, hN⟩ := hDN
 have hfew := hX.ji.few
 obtain ⟨c, a, hpl, hcp⟩ := hX.ji.place hn
 obtain ⟨pg, pc, rfl, hpc⟩ := hP.form (by rw [hfew.2]; omega)
 obtain ⟨pn, hpn⟩ : ∃ z, Keep (z = V.pl.length ∧ z = V.ps.length) := ⟨_, ⟨rfl, hfew.2⟩⟩
 have HPn : Keep (pn ≤ 285216768) := ⟨by have := hpn.out.2; have := hfew.1; omega⟩
 rw [← hpn.out.1] at hP hJ hN hpc
 obtain ⟨m0, hm0⟩ : ∃ m : Nat, Keep (V.pr = (m : Int) ∧ m < 256) := by
  have h := openV_bnd (Fk D.fs)
  rw [hX.ji.rd] at h
  exact ⟨V.pr.toNat, ⟨by omega, by omega⟩⟩
 have HK := Keep.mk (KI.start hX hn hpl)
 have Hpl := Keep.mk hpl
 have Hc : Keep (c ≤ m0) := ⟨by have := hm0.out.1; omega⟩
 have Hpc := Keep.mk hpc
 have HJ := Keep.mk hJ
 have HP := Keep.mk hP
 have Hn : Keep (n < pn) := ⟨by have := hpn.out.2; omega⟩
 clear hJ hP hfew hpl hcp hpc hn
 have HT := Keep.mk hT
 have HDk := Keep.mk hDk
 have HD := Keep.mk hD
 have HN := Keep.mk hN
 have HNl := Keep.mk hNl
 have H0 := Keep.mk h0
 have Hd := Keep.mk hd
 have HX := Keep.mk hX
 have HA := Keep.mk hA
 have HZ : Keep (0 < w.heap.size) := ⟨Nat.lt_of_le_of_lt (Nat.zero_le _) hDk.lt⟩
 clear hT hDk hD hN hNl h0 hd hX hA
 go_enter Tryd.func10, Tryd.ntmps10
 have c5 := HJ.out.c 5 (by rfl : (jA d (.slice (some ⟨pg, 0, none⟩) pn pc) V.pr V.sz la false)[5]? = some (.bool false))
 have c1 := HJ.out.c 1 (by rfl : (jA d (.slice (some ⟨pg, 0, none⟩) pn pc) V.pr V.sz la false)[1]? = some (.slice (some ⟨pg, 0, none⟩) pn pc))
 have hn1 : ¬ (n : Int) < 0 := by omega
 have hn2 : ¬ (pn : Int) < (n : Int) := by have := Hn.out; omega
 have hn3 : ¬ (n : Int) = (pn : Int) := by have := Hn.out; omega
 have hn4 : ¬ n = pn := by have := Hn.out; omega
 have hlt : n < pn := Hn.out
 have hlt' : (n : Int) < (pn : Int) := by omega
 have HRg := Keep.mk (HP.out.at Hpl.out)
 refine wp_seq_k fun K1 hK1 => rgn ?_
 refine VlS (.int .i64 0) ?_
 refine WL.nil (hK1 _ _ ?_)
 refine wp_seq_k fun K2 hK2 => ?_
 refine wp_block ?_
 refine wp_seq_k fun K3 hK3 => rgn ?_
 refine VlS (.pointer (some ⟨g, 0, none⟩)) ?_
 refine VlS (.pointer (some ⟨g, 0, none⟩)) ?_
 refine VlS (.pointer (some ⟨g, 5, none⟩)) ?_
 refine VlS (.bool false) ?_
 refine VlS (.bool false) ?_
 refine WL.nil (hK3 _ _ ?_)
 refine wp_cond_false rfl ?_
 refine wp_seq_k fun K4 hK4 => rgn ?_
 refine VlS (.int .i64 (n : Int)) ?_
 refine VlS (.bool false) ?_
 refine VlS (.bool false) ?_
 refine VlS (.int .i64 (n : Int)) ?_
 refine VlS (.pointer (some ⟨g, 0, none⟩)) ?_
 refine VlS (.pointer (some ⟨g, 0, none⟩)) ?_
 refine VlS (.pointer (some ⟨g, 1, none⟩)) ?_
 refine VlS (.slice (some ⟨pg, 0, none⟩) pn pc) ?_
 refine VlS (.int .i64 (pn : Int)) ?_
 refine VlS (.bool false) ?_
 refine VlS (.bool false) ?_
 refine VlS (.bool false) ?_
 refine WL.nil (hK4 _ _ ?_)
 refine wp_cond_false rfl ?_
 refine wp_seq_k fun K5 hK5 => rgn ?_
 refine VlS (.int .i64 (n : Int)) ?_
 refine VlS (.pointer (some ⟨g, 0, none⟩)) ?_
 refine VlS (.pointer (some ⟨g, 0, none⟩)) ?_
 refine VlS (.pointer (some ⟨g, 1, none⟩)) ?_
 refine VlS (.slice (some ⟨pg, 0, none⟩) pn pc) ?_
 refine VlS (.int .i64 (pn : Int)) ?_
 refine VlS (.bool false) ?_
 refine VlS (.bool false) ?_
 refine WL.nil (hK5 _ _ ?_)
 refine wp_cond_false rfl ?_
 refine wp_skip ?_
 refine hK2 _ _ ?_
 refine wp_seq_k fun K6 hK6 => rgn ?_
 refine VlS (.pointer (some ⟨g, 0, none⟩)) ?_
 refine VlS (.pointer (some ⟨g, 0, none⟩)) ?_
 refine VlS (.pointer (some ⟨g, 1, none⟩)) ?_
 refine VlS (.slice (some ⟨pg, 0, none⟩) pn pc) ?_
 refine VlS (.int .i64 (n : Int)) ?_
 refine VlS (.pointer (some ⟨pg, n * 2, none⟩)) ?_
 refine WL.midA (by kernel_rfl) 79 (.tmp 39) rfl pg (n * 2) rfl #[.int .i64 (c : Int), .int .i64 (a : Int)] _ HRg.out Tryd.underlying79 rfl (by kernel_rfl) ?_
 simp only [Act.put, pqA, pqB, pqC]
 refine WL.new (by kernel_rfl) 79 rfl _ Tryd.newPl ?_
 have HQ0 := Keep.mk (Blk.new w 79 #[.int .i64 0, .int .i64 0])
 have B2 := Keep.mk (below_new w (.cells #[.int .i64 0, .int .i64 0] 79))
 change WL _ _ _ _ _ (w.alloc (.cells #[.int .i64 0, .int .i64 0] 79))
 generalize w.alloc (.cells #[.int .i64 0, .int .i64 0] 79) = w2 at *
 obtain ⟨q, hq⟩ : ∃ p, Keep (p = w.heap.size) := ⟨_, ⟨rfl⟩⟩
 rw [← hq.out] at HQ0 ⊢
 have hqw : Keep (w.heap.size ≤ q) := ⟨by rw [hq.out]; exact Nat.le_refl _⟩
 simp only [Act.put, pqA, pqB, pqC]
 refine WL.storeR (by kernel_rfl) 79 (.tmp 5) (.tmp 40) rfl q #[.int .i64 (c : Int), .int .i64 (a : Int)] rfl rfl 79 #[.int .i64 0, .int .i64 0] HQ0.out (by kernel_rfl) rfl (by kernel_rfl) ?_
 have HQ := Keep.mk (HQ0.out.setRow #[.int .i64 (c : Int), .int .i64 (a : Int)])
 have B3 : Keep (Below w.heap.size w (w2.setRow q #[.int .i64 (c : Int), .int .i64 (a : Int)])) := ⟨below_setRow B2.out hqw.out _⟩
 clear HQ0 B2 hq HRg c5 c1 hn1 hn2 hn3 hn4 hlt hlt'
 generalize w2.setRow q #[.int .i64 (c : Int), .int .i64 (a : Int)] = w3 at *
 have J3 : Keep (Blk w3 g 61 (jA d (.slice (some ⟨pg, 0, none⟩) pn pc) V.pr V.sz la false)) := ⟨HJ.out.below B3.out HJ.out.lt⟩
 have P3 : Keep (OwnP w3 (.slice (some ⟨pg, 0, none⟩) pn pc) V.pl) := ⟨HP.out.grown (Grown.below (S := fun _ => False) B3.out) fun _ _ h => h⟩
 have D3 : Keep (DskAt w3 p vf cs D) := ⟨HD.out.below B3.out⟩
 have G3 : Keep (Grown w w3 N) := ⟨Grown.below B3.out⟩
 clear HJ HP HD B3
 have c2 : w3.cell? ⟨g, 2, none⟩ = some (.int .i64 (m0 : Int)) := by rw [← hm0.out.1]; exact J3.out.c 2 rfl
 simp only [Act.put]
 refine WL.nil (hK6 _ _ ?_)
 refine wp_seq_k fun K7 hK7 => ?_
 refine wp_seq_k fun K8 hK8 => rgn ?_
 refine VlS (.pointer (some ⟨g, 0, none⟩)) ?_
 refine VlS (.pointer (some ⟨g, 0, none⟩)) ?_
 refine VlS (.pointer (some ⟨g, 2, none⟩)) ?_
 refine VlS (.int .i64 (m0 : Int)) ?_
 refine VlS (.int .i64 (m0 : Int)) ?_
 refine WL.nil (hK8 _ _ ?_)
 refine wp_block ?_
 clear c2
 refine wp_loop (fun ac wr => ∃ (k : Nat) (y4 y7 y45 y46 y47 y48 y49 y50 y51 y52 y53 y54 y55 y56 y57 y58 y59 y60 y61 y62 vf : Value) (cs : List FC) (Dk : DV) (Vk : JV), ac = { tmps := #[.pointer (some ⟨g, 0, none⟩), .int .i64 (n : Int), undef, undef, y4, .pointer (some ⟨q, 0, none⟩), .int .i64 (k : Int), y7, undef, .bool false, .pointer (some ⟨g, 0, none⟩), .pointer (some ⟨g, 0, none⟩), .pointer (some ⟨g, 5, none⟩), .bool false, .bool false, .int .i64 (n : Int), .bool false, .bool false, .int .i64 (n : Int), .pointer (some ⟨g, 0, none⟩), .pointer (some ⟨g, 0, none⟩), .pointer (some ⟨g, 1, none⟩), .slice (some ⟨pg, 0, none⟩) pn pc, .int .i64 (pn : Int), .bool false, .bool false, .bool false, .int .i64 (n : Int), .pointer (some ⟨g, 0, none⟩), .pointer (some ⟨g, 0, none⟩), .pointer (some ⟨g, 1, none⟩), .slice (some ⟨pg, 0, none⟩) pn pc, .int .i64 (pn : Int), .bool false, .pointer (some ⟨g, 0, none⟩), .pointer (some ⟨g, 0, none⟩), .pointer (some ⟨g, 1, none⟩), .slice (some ⟨pg, 0, none⟩) pn pc, .int .i64 (n : Int), .pointer (some ⟨pg, n * 2, none⟩), .agg #[.int .i64 (c : Int), .int .i64 (a : Int)], .pointer (some ⟨g, 0, none⟩), .pointer (some ⟨g, 0, none⟩), .pointer (some ⟨g, 2, none⟩), .int .i64 (m0 : Int), y45, y46, y47, y48, y49, y50, y51, y52, y53, y54, y55, y56, y57, y58, y59, y60, y61, y62, undef, undef, undef, undef, undef, undef, undef, undef, undef, undef, undef, undef, undef, undef, undef, undef, undef, undef, undef, undef, undef, undef, undef, undef, undef, undef, undef, undef, undef, undef, undef, undef, undef, undef], defers := [] } ∧ c ≤ k ∧ k < 256 ∧ Vk.pr = (k : Int) ∧ KI D V n sure c a la Dk Vk ∧ DskAt wr p vf cs Dk ∧ (∀ j, DskS p vf cs j → N j ∨ w.heap.size ≤ j) ∧ Grown w wr N ∧ Blk wr g 61 (jA d (.slice (some ⟨pg, 0, none⟩) pn pc) V.pr V.sz la false) ∧ OwnP wr (.slice (some ⟨pg, 0, none⟩) pn pc) V.pl ∧ Blk wr q 79 #[.int .i64 (c : Int), .int .i64 (a : Int)]) (fun ac _ => (intOf (ac.tmps.getD 6 undef) + 1).toNat) ⟨m0, .int .i64 0, undef, undef, undef, undef, undef, undef, undef, undef, undef, undef, undef, undef, undef, undef, undef, undef, undef, undef, undef, vf, cs, D, V, rfl, Hc.out, hm0.out.2, hm0.out.1, HK.out, D3.out, fun k h => .inl (HN.out k (.inl h)), G3.out, J3.out, P3.out, HQ.out⟩ ?_
 clear D3 G3 J3 P3 HQ HK
 rintro ac wr ⟨k, y4, y7, y45, y46, y47, y48, y49, y50, y51, y52, y53, y54, y55, y56, y57, y58, y59, y60, y61, y62, vf9, cs9, Dk, Vk, rfl, hck, hk6, h1, h2, h3, h4, h5, h6, h7, h8⟩
 have hVk := Keep.mk h1
 have KN := Keep.mk h2
 have DN := Keep.mk h3
 have NS := Keep.mk h4
 have GW := Keep.mk h5
 have JN := Keep.mk h6
 have PN := Keep.mk h7
 have QN := Keep.mk h8
 clear h1 h2 h3 h4 h5 h6 h7 h8
 have q0 := QN.out.c 0 (by rfl : (#[.int .i64 (c : Int), .int .i64 (a : Int)] : Array Value)[0]? = some (.int .i64 (c : Int)))
 by_cases hlt : (c : Int) < (k : Int)
 ·have hwk : IntKind.i64.wrap ((k : Int) - 1) = (k : Int) - 1 := by rw [IntKind.wrap_i64]; omega
  obtain ⟨_, f, _, hf, -⟩ := KN.out.ji.last hVk.out
  obtain ⟨i, hfi, hfn, hfd⟩ := fnd_is KN.out.ji.ok.srt hf
  have HFi := Keep.mk hfi
  have HFn := Keep.mk hfn
  have HFd := Keep.mk hfd
  clear hf hfi hfn hfd
  refine wp_seq_k fun K9 hK9 => ?_
  refine wp_seq_k fun K10 hK10 => rgn ?_
  refine VlS (.int .i64 (k : Int)) ?_
  refine VlS (.pointer (some ⟨q, 0, none⟩)) ?_
  refine VlS (.int .i64 (c : Int)) ?_
  refine VlS (.bool true) ?_
  refine WL.nil (hK10 _ _ ?_)
  refine wp_cond_true rfl ?_
  refine wp_skip ?_
  refine hK9 _ _ ?_
  refine wp_seq_k fun K11 hK11 => ?_
  refine wp_block ?_
  refine wp_seq_k fun K12 hK12 => ?_
  clear q0
  have D4 : Keep (Below wr.heap.size wr wr.drew) := ⟨(Below.refl _ _).drew⟩
  have T4 : Keep (Tab wr) := ⟨HT.out.grown GW.out H0.out⟩
  have K4 : Keep (Blk wr d 75 #[ptr p]) := ⟨GW.out.blk HDk.out Hd.out⟩
  have HSx : Keep (∀ wx de, Blk wx g 61 (jA d (.slice (some ⟨pg, 0, none⟩) pn pc) V.pr V.sz la de) → Blk wx q 79 #[.int .i64 (c : Int), .int .i64 (a : Int)] → wx.cell? ⟨g, 0, none⟩ = some (ptr d)) := ⟨fun wx de h1 h2 => h1.c 0 rfl⟩
  refine wp_region_held_drew (S := fun wx => wx.cell? ⟨g, 0, none⟩ = some (ptr d)) (by kernel_rfl) (HSx.out _ _ JN.out.drew QN.out.drew) (fun hHeld => ?_)
  refine tkS (i := 0) (oi := ⟨some 51, Op.move (Operand.tmp 0), 22, _, _, none⟩) (v := .pointer (some ⟨g, 0, none⟩)) rfl (Or.inl ⟨by rfl, fun w hS => by go_simp⟩) hHeld ?_
  refine tkS (i := 1) (oi := ⟨some 52, Op.move (Operand.tmp 0), 22, _, _, none⟩) (v := .pointer (some ⟨g, 0, none⟩)) rfl (Or.inl ⟨by rfl, fun w hS => by go_simp⟩) hHeld ?_
  refine tkS (i := 2) (oi := ⟨some 53, Op.nilCheck (Operand.tmp 52), 0, _, _, none⟩) (v := .pointer (some ⟨g, 0, none⟩)) rfl (Or.inl ⟨by rfl, fun w hS => by go_simp⟩) hHeld ?_
  refine tkS (i := 3) (oi := ⟨some 54, Op.fieldAddr 61 (Operand.tmp 53) 0, 0, _, _, none⟩) (v := .pointer (some ⟨g, 0, none⟩)) rfl (Or.inl ⟨by rfl, fun w hS => by go_simp⟩) hHeld ?_
  refine tkS (i := 4) (oi := ⟨some 55, Op.load 30 (Operand.tmp 54), 30, _, _, none⟩) (v := .pointer (some ⟨d, 0, none⟩)) rfl (Or.inl ⟨by rfl, fun w hS => by go_simp⟩) hHeld ?_
  refine tkS (i := 5) (oi := ⟨some 56, Op.move (Operand.tmp 6), 3, _, _, none⟩) (v := .int .i64 (k : Int)) rfl (Or.inl ⟨by rfl, fun w hS => by go_simp⟩) hHeld ?_
  refine wpAnyH_ready (rs := [6]) (by kernel_rfl) (by simp) ?_
  refine AllReadyH.cons (o := ⟨some 57, Op.call { callee := Callee.value (Operand.func 31), args := #[Operand.tmp 56], argTypes := #[3] }, 9, _, _, none⟩) rfl (fun K hK => ?_) AllReadyH.nil
  rw [if_pos (by rfl)]
  refine wp_callF 31 _ _ rfl Tryd.in31 #[.int .i64 (k : Int)] (by simp [Act.eval]) (fun vz wz => vz = .string (nmS k) ∧ Below wr.heap.size wr wz) ?_ ?_
  ·refine (name_any k (by omega) wr.drew (T4.out.below D4.out (Nat.lt_of_le_of_lt (Nat.zero_le _) JN.out.lt))).mono ?_
   rintro e wz ⟨rfl, h⟩
   exact ⟨_, rfl, rfl, D4.out.trans (h.mono D4.out.size)⟩
  rintro vz w5 ⟨rfl, h5⟩
  have B5 := Keep.mk h5
  clear h5
  obtain ⟨nn, hnn⟩ : ∃ s, Keep (s = nmS k) := ⟨_, ⟨rfl⟩⟩
  rw [← hnn.out]
  refine hK _ _ (HSx.out _ _ (JN.out.below B5.out JN.out.lt) (QN.out.below B5.out QN.out.lt)) fun hH5 => ?_
  clear hK
  simp only [Act.put, pqA, pqB, pqC]
  refine wpAnyH_ready (rs := [7]) (by kernel_rfl) (by simp) ?_
  refine AllReadyH.cons (o := ⟨some 58, Op.call { callee := Callee.value (Operand.func 30), args := #[Operand.tmp 55, Operand.tmp 57], argTypes := #[30, 9] }, 24, _, _, none⟩) rfl (fun K hK => ?_) AllReadyH.nil
  rw [if_pos (by rfl)]
  refine wp_callF 30 _ _ rfl Tryd.in30 #[ptr d, .string nn] (by simp [Act.eval]) (fun vz wz => vz = .int .i64 (pw Dk) ∧ ∃ vf' cs', DskAt wz p vf' cs' (if Dk.fuse = 0 then Dk.act else Dk.act.del i f) ∧ Grown w5 wz (DskS p vf9 cs9) ∧ ∀ k, DskS p vf' cs' k → DskS p vf9 cs9 k ∨ w5.heap.size ≤ k) ?_ ?_
  ·refine (drop_is d p i nn vf9 cs9 Dk f w5 (K4.out.below B5.out K4.out.lt) (DN.out.below B5.out) KN.out.out (by rw [hnn.out]; exact HFd.out) HFi.out (by rw [DN.out.fcs.len]; exact KN.out.ji.ok.len) (KN.out.ji.ok.at HFi.out) ⟨KN.out.ji.ok.acts, by have := KN.out.acts; have := HA.out; have := hVk.out; have := hm0.out; omega⟩ ⟨by have := KN.out.ji.ok.fuse; omega, KN.out.ji.ok.fuse.2⟩).mono ?_
   rintro e wz ⟨rfl, vf', cs', h1, h2, h3⟩
   exact ⟨_, rfl, rfl, vf', cs', h1, h2.mono (fun k _ e => .inl e), h3⟩
  rintro vz w7 ⟨rfl, vf7, cs7, h1, h2, h3⟩
  have D7 := Keep.mk h1
  have N7 : Keep (∀ k, DskS p vf7 cs7 k → N k ∨ w.heap.size ≤ k) := ⟨fun k hk => by rcases h3 k hk with h | h; exact NS.out k h; exact .inr (by have := B5.out.size; have := GW.out.size; omega)⟩
  have hne : ∀ {k : Nat} {T : TypeId}, Typ wr k T → T = 61 ∨ T = 79 → ¬ DskS p vf9 cs9 k := fun hk hT e => by rcases DN.out.sTyp e with h | h | h <;> (have := h.one hk; rcases hT with hT | hT <;> (rw [hT] at this; revert this; decide))
  have J7 : Keep (Blk w7 g 61 (jA d (.slice (some ⟨pg, 0, none⟩) pn pc) V.pr V.sz la false)) := ⟨h2.blk (JN.out.below B5.out JN.out.lt) (hne JN.out.typ (.inl rfl))⟩
  have Q7 : Keep (Blk w7 q 79 #[.int .i64 (c : Int), .int .i64 (a : Int)]) := ⟨h2.blk (QN.out.below B5.out QN.out.lt) (hne QN.out.typ (.inr rfl))⟩
  have P7 : Keep (OwnP w7 (.slice (some ⟨pg, 0, none⟩) pn pc) V.pl) := ⟨(PN.out.grown (Grown.below (S := fun _ => False) B5.out) fun _ _ h => h).grown h2 fun k hk => hne (PN.out.typ hk) (.inr rfl)⟩
  have G7 : Keep (Grown w w7 N) := ⟨(GW.out.trans (Grown.below B5.out)).next h2 fun k hk e => (NS.out k e).elim id fun h => by omega⟩
  clear h1 h2 h3 hne
  obtain ⟨ee, hee⟩ : ∃ z, Keep (z = pw Dk) := ⟨_, ⟨rfl⟩⟩
  rw [← hee.out]
  refine hK _ _ (HSx.out _ _ J7.out Q7.out) fun hH7 => ?_
  clear hK
  simp only [Act.put, pqA, pqB, pqC]
  refine wpAnyH_ready (rs := [8]) (by kernel_rfl) (by simp) ?_
  refine AllReadyH.cons (o := ⟨some 59, Op.call { callee := Callee.value (Operand.func 29), args := #[Operand.tmp 51, Operand.tmp 58], argTypes := #[22, 24] }, 24, _, _, none⟩) rfl (fun K hK => ?_) AllReadyH.nil
  rw [if_pos (by rfl)]
  refine wp_callF 29 _ _ rfl Tryd.in29 #[ptr g, .int .i64 ee] (by simp [Act.eval]) (fun vz wz => vz = .int .i64 ee ∧ (∃ de', Blk wz g 61 (jA d (.slice (some ⟨pg, 0, none⟩) pn pc) V.pr V.sz la de') ∧ (ee ≠ 7 → de' = false)) ∧ Grown w7 wz fun k => k = g) ?_ ?_
  ·refine (told_gen g d (.slice (some ⟨pg, 0, none⟩) pn pc) V.pr V.sz ee la false w7 J7.out).mono ?_
   rintro e wz ⟨rfl, h1, h2⟩
   exact ⟨_, rfl, rfl, h1, h2⟩
  rintro vz w8 ⟨rfl, ⟨de8, h1, h1'⟩, h2⟩
  have J8 := Keep.mk h1
  have HE8 := Keep.mk h1'
  have hgt : ∀ {k : Nat} {T : TypeId}, Typ w7 k T → T ≠ 61 → ¬ k = g := fun hk hT e => by subst e; exact hT (hk.one J7.out.typ)
  have D8 : Keep (DskAt w8 p vf7 cs7 (if Dk.fuse = 0 then Dk.act else Dk.act.del i f)) := ⟨D7.out.grown h2 fun k hk => by rcases hk with h | h | h <;> exact hgt h (by decide)⟩
  have Q8 : Keep (Blk w8 q 79 #[.int .i64 (c : Int), .int .i64 (a : Int)]) := ⟨h2.blk Q7.out (hgt Q7.out.typ (by decide))⟩
  have P8 : Keep (OwnP w8 (.slice (some ⟨pg, 0, none⟩) pn pc) V.pl) := ⟨P7.out.grown h2 fun k hk => hgt (P7.out.typ hk) (by decide)⟩
  have G8 : Keep (Grown w w8 N) := ⟨G7.out.trans (h2.mono fun k _ e => HN.out k (.inr (.inl e)))⟩
  clear h1 h1' h2 hgt D7 Q7 P7 G7 J7
  refine hK _ _ (HSx.out _ _ J8.out Q8.out) fun hH8 => ?_
  clear hK
  simp only [Act.put, pqA, pqB, pqC]
  refine tkS (i := 9) (oi := ⟨some 7, Op.assign (Operand.tmp 59), 24, _, _, none⟩) (v := .int .i64 ee) rfl (Or.inl ⟨by rfl, fun w hS => by go_simp⟩) hH8 ?_
  refine wpAnyH_done (by kernel_rfl) ?_ _
  refine hK12 _ _ ?_
  refine wp_seq_k fun K13 hK13 => ?_
  rcases Decidable.em (Dk.fuse = 0) with hfu | hfu
  ·have he : ee = 7 := by rw [hee.out]; unfold pw; rw [if_pos hfu]
   subst he
   have D9 := D8
   rw [if_pos hfu] at D9
   refine rgn ?_
   refine VlS (.int .i64 7) ?_
   refine VlS (.bool true) ?_
   refine WL.nil (hK13 _ _ ?_)
   refine wp_cond_true rfl ?_
   refine wp_seq_k fun K14 hK14 => rgn ?_
   refine VlS (.int .i64 7) ?_
   refine VlS (.int .i64 7) ?_
   refine WL.nil (hK14 _ _ ?_)
   refine wp_ret ?_
   go_ret
   exact ⟨7, Dk.act, V, de8, rfl, ⟨G8.out.blk HDk.out Hd.out, vf7, cs7, .slice (some ⟨pg, 0, none⟩) pn pc, D9.out, J8.out, P8.out, fun k hk => ⟨by rcases hk with h | h; exact N7.out k h; exact .inl (HN.out k (.inr h)), by rcases hk with h | h | h; exact D9.out.sLt h; rw [h]; exact J8.out.lt; exact (P8.out.typ h).lt⟩⟩, G8.out, by have h := KN.out.acts; have h1 := hVk.out; have h2 := hm0.out; show D.acts ≤ Dk.acts + 1 ∧ Dk.acts + 1 ≤ D.acts + 300; omega, .inr (.inl ⟨rfl, by omega, by have := Hn.out; have := hpn.out.2; omega, KN.out.dead⟩)⟩
  ·have he : ee = 0 := by rw [hee.out]; unfold pw; rw [if_neg hfu]
   subst he
   have D9 := D8
   rw [if_neg hfu] at D9
   have hde : de8 = false := HE8.out (by decide)
   subst hde
   refine rgn ?_
   refine VlS (.int .i64 0) ?_
   refine VlS (.bool false) ?_
   refine WL.nil (hK13 _ _ ?_)
   refine wp_cond_false rfl ?_
   refine wp_skip ?_
   refine hK11 _ _ ?_
   refine rgn ?_
   refine VlS (.int .i64 (k : Int)) ?_
   refine VlS (.int .i64 ((k : Int) - 1)) ?_
   refine VlS (.int .i64 ((k : Int) - 1)) ?_
   refine WL.nil ?_
   obtain ⟨s, hs1, hs2⟩ := KN.out.drop hVk.out (by omega) HFi.out HFn.out hfu
   obtain ⟨k1, hk1⟩ : ∃ k1 : Nat, (k : Int) - 1 = (k1 : Int) := ⟨k - 1, by omega⟩
   refine ⟨⟨k1, y4, .int .i64 0, .int .i64 (k : Int), .pointer (some ⟨q, 0, none⟩), .int .i64 (c : Int), .bool true, .int .i64 (k : Int), .int .i64 ((k : Int) - 1), .pointer (some ⟨g, 0, none⟩), .pointer (some ⟨g, 0, none⟩), .pointer (some ⟨g, 0, none⟩), .pointer (some ⟨g, 0, none⟩), .pointer (some ⟨d, 0, none⟩), .int .i64 (k : Int), .string nn, .int .i64 0, .int .i64 0, .int .i64 0, .bool false, y62, vf7, cs7, Dk.act.del i f, s, by rw [hk1], by omega, by omega, by rw [hs1, hk1], hs2, D9.out, N7.out, G8.out, J8.out, P8.out, Q8.out⟩, ?_⟩
   simp only [intOf]
   show ((k : Int) - 1 + 1).toNat < ((k : Int) + 1).toNat
   omega
 ·obtain rfl : c = k := by omega
  obtain ⟨_, f, _, hf, -⟩ := KN.out.ji.last hVk.out
  obtain ⟨i, hfi, hfn, hfd⟩ := fnd_is KN.out.ji.ok.srt hf
  have HFi := Keep.mk hfi
  have HFn := Keep.mk hfn
  have HFd := Keep.mk hfd
  clear hf hfi hfn hfd
  have HM2 := Keep.mk (KN.out.cut hVk.out HFi.out HFn.out)
  refine wp_seq_k fun K15 hK15 => ?_
  refine wp_seq_k fun K16 hK16 => rgn ?_
  refine VlS (.int .i64 (c : Int)) ?_
  refine VlS (.pointer (some ⟨q, 0, none⟩)) ?_
  refine VlS (.int .i64 (c : Int)) ?_
  refine VlS (.bool false) ?_
  refine WL.nil (hK16 _ _ ?_)
  refine wp_cond_false rfl ?_
  refine wp_exit ?_
  refine hK7 _ _ ?_
  refine wp_seq_k fun K17 hK17 => ?_
  refine wp_seq_k fun K18 hK18 => ?_
  clear q0
  have D4 : Keep (Below wr.heap.size wr wr.drew) := ⟨(Below.refl _ _).drew⟩
  have T4 : Keep (Tab wr) := ⟨HT.out.grown GW.out H0.out⟩
  have K4 : Keep (Blk wr d 75 #[ptr p]) := ⟨GW.out.blk HDk.out Hd.out⟩
  have HSx : Keep (∀ wx de, Blk wx g 61 (jA d (.slice (some ⟨pg, 0, none⟩) pn pc) V.pr V.sz la de) → Blk wx q 79 #[.int .i64 (c : Int), .int .i64 (a : Int)] → wx.cell? ⟨g, 0, none⟩ = some (ptr d) ∧ wx.cell? ⟨q, 0, none⟩ = some (.int .i64 (c : Int)) ∧ wx.cell? ⟨q, 1, none⟩ = some (.int .i64 (a : Int))) := ⟨fun wx de h1 h2 => ⟨h1.c 0 rfl, h2.c 0 rfl, h2.c 1 rfl⟩⟩
  refine wp_region_held_drew (S := fun wx => wx.cell? ⟨g, 0, none⟩ = some (ptr d) ∧ wx.cell? ⟨q, 0, none⟩ = some (.int .i64 (c : Int)) ∧ wx.cell? ⟨q, 1, none⟩ = some (.int .i64 (a : Int))) (by kernel_rfl) (HSx.out _ _ JN.out.drew QN.out.drew) (fun hHeld => ?_)
  refine tkS (i := 0) (oi := ⟨some 63, Op.move (Operand.tmp 0), 22, _, _, none⟩) (v := .pointer (some ⟨g, 0, none⟩)) rfl (Or.inl ⟨by rfl, fun w hS => by obtain ⟨hS1, hS2, hS3⟩ := hS; go_simp⟩) hHeld ?_
  refine tkS (i := 1) (oi := ⟨some 64, Op.move (Operand.tmp 0), 22, _, _, none⟩) (v := .pointer (some ⟨g, 0, none⟩)) rfl (Or.inl ⟨by rfl, fun w hS => by obtain ⟨hS1, hS2, hS3⟩ := hS; go_simp⟩) hHeld ?_
  refine tkS (i := 2) (oi := ⟨some 65, Op.nilCheck (Operand.tmp 64), 0, _, _, none⟩) (v := .pointer (some ⟨g, 0, none⟩)) rfl (Or.inl ⟨by rfl, fun w hS => by obtain ⟨hS1, hS2, hS3⟩ := hS; go_simp⟩) hHeld ?_
  refine tkS (i := 3) (oi := ⟨some 66, Op.fieldAddr 61 (Operand.tmp 65) 0, 0, _, _, none⟩) (v := .pointer (some ⟨g, 0, none⟩)) rfl (Or.inl ⟨by rfl, fun w hS => by obtain ⟨hS1, hS2, hS3⟩ := hS; go_simp⟩) hHeld ?_
  refine tkS (i := 4) (oi := ⟨some 67, Op.load 30 (Operand.tmp 66), 30, _, _, none⟩) (v := .pointer (some ⟨d, 0, none⟩)) rfl (Or.inl ⟨by rfl, fun w hS => by obtain ⟨hS1, hS2, hS3⟩ := hS; go_simp⟩) hHeld ?_
  refine tkS (i := 5) (oi := ⟨some 68, Op.fieldAddr 79 (Operand.tmp 5) 0, 0, _, _, none⟩) (v := .pointer (some ⟨q, 0, none⟩)) rfl (Or.inl ⟨by rfl, fun w hS => by obtain ⟨hS1, hS2, hS3⟩ := hS; go_simp⟩) hHeld ?_
  refine tkS (i := 6) (oi := ⟨some 69, Op.load 3 (Operand.tmp 68), 3, _, _, none⟩) (v := .int .i64 (c : Int)) rfl (Or.inl ⟨by rfl, fun w hS => by obtain ⟨hS1, hS2, hS3⟩ := hS; go_simp⟩) hHeld ?_
  refine tkS (i := 8) (oi := ⟨some 71, Op.fieldAddr 79 (Operand.tmp 5) 1, 0, _, _, none⟩) (v := .pointer (some ⟨q, 1, none⟩)) rfl (Or.inl ⟨by rfl, fun w hS => by obtain ⟨hS1, hS2, hS3⟩ := hS; go_simp⟩) hHeld ?_
  refine tkS (i := 9) (oi := ⟨some 72, Op.load 3 (Operand.tmp 71), 3, _, _, none⟩) (v := .int .i64 (a : Int)) rfl (Or.inl ⟨by rfl, fun w hS => by obtain ⟨hS1, hS2, hS3⟩ := hS; go_simp⟩) hHeld ?_
  refine wpAnyH_ready (rs := [7]) (by kernel_rfl) (by simp) ?_
  refine AllReadyH.cons (o := ⟨some 70, Op.call { callee := Callee.value (Operand.func 31), args := #[Operand.tmp 69], argTypes := #[3] }, 9, _, _, none⟩) rfl (fun K hK => ?_) AllReadyH.nil
  rw [if_pos (by rfl)]
  refine wp_callF 31 _ _ rfl Tryd.in31 #[.int .i64 (c : Int)] (by simp [Act.eval]) (fun vz wz => vz = .string (nmS c) ∧ Below wr.heap.size wr wz) ?_ ?_
  ·refine (name_any c (by omega) wr.drew (T4.out.below D4.out (Nat.lt_of_le_of_lt (Nat.zero_le _) JN.out.lt))).mono ?_
   rintro e wz ⟨rfl, h⟩
   exact ⟨_, rfl, rfl, D4.out.trans (h.mono D4.out.size)⟩
  rintro vz w5 ⟨rfl, h5⟩
  have B5 := Keep.mk h5
  clear h5
  obtain ⟨nn, hnn⟩ : ∃ s, Keep (s = nmS c) := ⟨_, ⟨rfl⟩⟩
  rw [← hnn.out]
  refine hK _ _ (HSx.out _ _ (JN.out.below B5.out JN.out.lt) (QN.out.below B5.out QN.out.lt)) fun hH5 => ?_
  clear hK
  simp only [Act.put, pqA, pqB, pqC]
  refine wpAnyH_ready (rs := [10]) (by kernel_rfl) (by simp) ?_
  refine AllReadyH.cons (o := ⟨some 73, Op.call { callee := Callee.value (Operand.func 32), args := #[Operand.tmp 67, Operand.tmp 70, Operand.tmp 72], argTypes := #[30, 9, 3] }, 24, _, _, none⟩) rfl (fun K hK => ?_) AllReadyH.nil
  rw [if_pos (by rfl)]
  refine wp_callF 32 _ _ rfl Tryd.in32 #[ptr d, .string nn, .int .i64 (a : Int)] (by simp [Act.eval]) (fun vz wz => vz = .int .i64 (pw Dk) ∧ ∃ vf' cs', DskAt wz p vf' cs' (if Dk.fuse = 0 then Dk.act else Dk.act.cut i f a) ∧ Grown w5 wz (DskS p vf9 cs9) ∧ ∀ k, DskS p vf' cs' k → DskS p vf9 cs9 k ∨ w5.heap.size ≤ k) ?_ ?_
  ·refine (cut_is d p i a nn vf9 cs9 Dk f w5 (K4.out.below B5.out K4.out.lt) (DN.out.below B5.out) KN.out.out (by rw [hnn.out]; exact HFd.out) HFi.out (by rw [DN.out.fcs.len]; exact KN.out.ji.ok.len) HM2.out.1 (KN.out.ji.ok.at HFi.out) ⟨KN.out.ji.ok.acts, by have := KN.out.acts; have := HA.out; have := hVk.out; have := hm0.out; omega⟩ ⟨by have := KN.out.ji.ok.fuse; omega, KN.out.ji.ok.fuse.2⟩).mono ?_
   rintro e wz ⟨rfl, vf', cs', h1, h2, h3⟩
   exact ⟨_, rfl, rfl, vf', cs', h1, h2.mono (fun k _ e => e.elim .inl fun e => .inr (.inl e)), h3⟩
  rintro vz w7 ⟨rfl, vf7, cs7, h1, h2, h3⟩
  have D7 := Keep.mk h1
  have N7 : Keep (∀ k, DskS p vf7 cs7 k → N k ∨ w.heap.size ≤ k) := ⟨fun k hk => by rcases h3 k hk with h | h; exact NS.out k h; exact .inr (by have := B5.out.size; have := GW.out.size; omega)⟩
  have hne : ∀ {k : Nat} {T : TypeId}, Typ wr k T → T = 61 ∨ T = 79 → ¬ DskS p vf9 cs9 k := fun hk hT e => by rcases DN.out.sTyp e with h | h | h <;> (have := h.one hk; rcases hT with hT | hT <;> (rw [hT] at this; revert this; decide))
  have J7 : Keep (Blk w7 g 61 (jA d (.slice (some ⟨pg, 0, none⟩) pn pc) V.pr V.sz la false)) := ⟨h2.blk (JN.out.below B5.out JN.out.lt) (hne JN.out.typ (.inl rfl))⟩
  have Q7 : Keep (Blk w7 q 79 #[.int .i64 (c : Int), .int .i64 (a : Int)]) := ⟨h2.blk (QN.out.below B5.out QN.out.lt) (hne QN.out.typ (.inr rfl))⟩
  have P7 : Keep (OwnP w7 (.slice (some ⟨pg, 0, none⟩) pn pc) V.pl) := ⟨(PN.out.grown (Grown.below (S := fun _ => False) B5.out) fun _ _ h => h).grown h2 fun k hk => hne (PN.out.typ hk) (.inr rfl)⟩
  have G7 : Keep (Grown w w7 N) := ⟨(GW.out.trans (Grown.below B5.out)).next h2 fun k hk e => (NS.out k e).elim id fun h => by omega⟩
  clear h1 h2 h3 hne
  obtain ⟨ee, hee⟩ : ∃ z, Keep (z = pw Dk) := ⟨_, ⟨rfl⟩⟩
  rw [← hee.out]
  refine hK _ _ (HSx.out _ _ J7.out Q7.out) fun hH7 => ?_
  clear hK
  simp only [Act.put, pqA, pqB, pqC]
  refine wpAnyH_ready (rs := [11]) (by kernel_rfl) (by simp) ?_
  refine AllReadyH.cons (o := ⟨some 74, Op.call { callee := Callee.value (Operand.func 29), args := #[Operand.tmp 63, Operand.tmp 73], argTypes := #[22, 24] }, 24, _, _, none⟩) rfl (fun K hK => ?_) AllReadyH.nil
  rw [if_pos (by rfl)]
  refine wp_callF 29 _ _ rfl Tryd.in29 #[ptr g, .int .i64 ee] (by simp [Act.eval]) (fun vz wz => vz = .int .i64 ee ∧ (∃ de', Blk wz g 61 (jA d (.slice (some ⟨pg, 0, none⟩) pn pc) V.pr V.sz la de') ∧ (ee ≠ 7 → de' = false)) ∧ Grown w7 wz fun k => k = g) ?_ ?_
  ·refine (told_gen g d (.slice (some ⟨pg, 0, none⟩) pn pc) V.pr V.sz ee la false w7 J7.out).mono ?_
   rintro e wz ⟨rfl, h1, h2⟩
   exact ⟨_, rfl, rfl, h1, h2⟩
  rintro vz w8 ⟨rfl, ⟨de8, h1, h1'⟩, h2⟩
  have J8 := Keep.mk h1
  have HE8 := Keep.mk h1'
  have hgt : ∀ {k : Nat} {T : TypeId}, Typ w7 k T → T ≠ 61 → ¬ k = g := fun hk hT e => by subst e; exact hT (hk.one J7.out.typ)
  have D8 : Keep (DskAt w8 p vf7 cs7 (if Dk.fuse = 0 then Dk.act else Dk.act.cut i f a)) := ⟨D7.out.grown h2 fun k hk => by rcases hk with h | h | h <;> exact hgt h (by decide)⟩
  have Q8 : Keep (Blk w8 q 79 #[.int .i64 (c : Int), .int .i64 (a : Int)]) := ⟨h2.blk Q7.out (hgt Q7.out.typ (by decide))⟩
  have P8 : Keep (OwnP w8 (.slice (some ⟨pg, 0, none⟩) pn pc) V.pl) := ⟨P7.out.grown h2 fun k hk => hgt (P7.out.typ hk) (by decide)⟩
  have G8 : Keep (Grown w w8 N) := ⟨G7.out.trans (h2.mono fun k _ e => HN.out k (.inr (.inl e)))⟩
  clear h1 h1' h2 hgt D7 Q7 P7 G7 J7
  refine hK _ _ (HSx.out _ _ J8.out Q8.out) fun hH8 => ?_
  clear hK
  simp only [Act.put, pqA, pqB, pqC]
  refine tkS (i := 12) (oi := ⟨some 8, Op.assign (Operand.tmp 74), 24, _, _, none⟩) (v := .int .i64 ee) rfl (Or.inl ⟨by rfl, fun w hS => by obtain ⟨hS1, hS2, hS3⟩ := hS; go_simp⟩) hH8 ?_
  refine wpAnyH_done (by kernel_rfl) ?_ _
  refine hK18 _ _ ?_
  refine wp_seq_k fun K19 hK19 => ?_
  rcases Decidable.em (Dk.fuse = 0) with hfu | hfu
  ·have he : ee = 7 := by rw [hee.out]; unfold pw; rw [if_pos hfu]
   subst he
   have D9 := D8
   rw [if_pos hfu] at D9
   refine rgn ?_
   refine VlS (.int .i64 7) ?_
   refine VlS (.bool true) ?_
   refine WL.nil (hK19 _ _ ?_)
   refine wp_cond_true rfl ?_
   refine wp_seq_k fun K20 hK20 => rgn ?_
   refine VlS (.int .i64 7) ?_
   refine VlS (.int .i64 7) ?_
   refine WL.nil (hK20 _ _ ?_)
   refine wp_ret ?_
   go_ret
   exact ⟨7, Dk.act, V, de8, rfl, ⟨G8.out.blk HDk.out Hd.out, vf7, cs7, .slice (some ⟨pg, 0, none⟩) pn pc, D9.out, J8.out, P8.out, fun k hk => ⟨by rcases hk with h | h; exact N7.out k h; exact .inl (HN.out k (.inr h)), by rcases hk with h | h | h; exact D9.out.sLt h; rw [h]; exact J8.out.lt; exact (P8.out.typ h).lt⟩⟩, G8.out, by have h := KN.out.acts; have h1 := hVk.out; have h2 := hm0.out; show D.acts ≤ Dk.acts + 1 ∧ Dk.acts + 1 ≤ D.acts + 300; omega, .inr (.inl ⟨rfl, by omega, by have := Hn.out; have := hpn.out.2; omega, KN.out.dead⟩)⟩
  ·have he : ee = 0 := by rw [hee.out]; unfold pw; rw [if_neg hfu]
   subst he
   have D9 := D8
   rw [if_neg hfu] at D9
   have hde : de8 = false := HE8.out (by decide)
   subst hde
   have HJX := Keep.mk (HM2.out.2 hfu)
   clear D8 HE8 HSx
   have c1 := J8.out.c 1 (by rfl : (jA d (.slice (some ⟨pg, 0, none⟩) pn pc) V.pr V.sz la false)[1]? = some (.slice (some ⟨pg, 0, none⟩) pn pc))
   have f_o := J8.out.frozen 1
   refine rgn ?_
   refine VlS (.int .i64 0) ?_
   refine VlS (.bool false) ?_
   refine WL.nil (hK19 _ _ ?_)
   refine wp_cond_false rfl ?_
   refine wp_skip ?_
   refine hK17 _ _ ?_
   refine wp_seq_k fun K21 hK21 => rgn ?_
   refine VlS (.pointer (some ⟨g, 0, none⟩)) ?_
   refine VlS (.pointer (some ⟨g, 0, none⟩)) ?_
   refine VlS (.pointer (some ⟨g, 0, none⟩)) ?_
   refine VlS (.pointer (some ⟨g, 1, none⟩)) ?_
   refine VlS (.slice (some ⟨pg, 0, none⟩) pn pc) ?_
   refine VlS (.int .i64 (n : Int)) ?_
   refine WL.slHiP (by kernel_rfl) (.tmp 82) (.tmp 83) rfl (.slice (some ⟨pg, 0, none⟩) pn pc) (.int .i64 (n : Int)) (.slice (some ⟨pg, 0, none⟩) n pc) rfl rfl (sl_runP _ _ _ _ (by have := Hn.out; have := Hpc.out; omega) _) ?_
   simp only [Act.put, pqA, pqB, pqC]
   refine VlS (.pointer (some ⟨g, 0, none⟩)) ?_
   refine VlS (.pointer (some ⟨g, 1, none⟩)) ?_
   refine WL.cell (by kernel_rfl) (w8.setCell ⟨g, 1, none⟩ (.slice (some ⟨pg, 0, none⟩) n pc)) (by go_simp) ?_
   clear f_o c1
   have hgs : Grown w8 (w8.setCell ⟨g, 1, none⟩ (.slice (some ⟨pg, 0, none⟩) n pc)) fun k => k = g := Grown.setCell w8 g 1 _ fun _ => rfl
   have hgt : ∀ {k : Nat} {T : TypeId}, Typ w8 k T → T ≠ 61 → ¬ k = g := fun hk hT e => by subst e; exact hT (hk.one J8.out.typ)
   have J12 : Keep (Blk (w8.setCell ⟨g, 1, none⟩ (.slice (some ⟨pg, 0, none⟩) n pc)) g 61 (jA d (.slice (some ⟨pg, 0, none⟩) n pc) V.pr V.sz la false)) := ⟨J8.out.set 1 (.slice (some ⟨pg, 0, none⟩) n pc)⟩
   have Q12 : Keep (Blk (w8.setCell ⟨g, 1, none⟩ (.slice (some ⟨pg, 0, none⟩) n pc)) q 79 #[.int .i64 (c : Int), .int .i64 (a : Int)]) := ⟨hgs.blk Q8.out (hgt Q8.out.typ (by decide))⟩
   have P12 : Keep (OwnP (w8.setCell ⟨g, 1, none⟩ (.slice (some ⟨pg, 0, none⟩) n pc)) (.slice (some ⟨pg, 0, none⟩) n pc) (V.pl.take n)) := ⟨(P8.out.grown hgs fun k hk => hgt (P8.out.typ hk) (by decide)).take n (by have := Hn.out; have := hpn.out.1; omega)⟩
   have D12 : Keep (DskAt (w8.setCell ⟨g, 1, none⟩ (.slice (some ⟨pg, 0, none⟩) n pc)) p vf7 cs7 (Dk.act.cut i f a)) := ⟨D9.out.grown hgs fun k hk => by rcases hk with h | h | h <;> exact hgt h (by decide)⟩
   have G12 : Keep (Grown w (w8.setCell ⟨g, 1, none⟩ (.slice (some ⟨pg, 0, none⟩) n pc)) N) := ⟨G8.out.trans (hgs.mono fun k _ e => HN.out k (.inr (.inl e)))⟩
   clear hgs hgt J8 Q8 P8 D9 G8
   generalize (w8.setCell ⟨g, 1, none⟩ (.slice (some ⟨pg, 0, none⟩) n pc)) = w12 at *
   simp only [Act.put]
   refine WL.nil (hK21 _ _ ?_)
   refine wp_seq_k fun K22 hK22 => ?_
   have J13 : Keep (Blk w12.drew g 61 (jA d (.slice (some ⟨pg, 0, none⟩) n pc) V.pr V.sz la false)) := ⟨J12.out.drew⟩
   have Q13 : Keep (Blk w12.drew q 79 #[.int .i64 (c : Int), .int .i64 (a : Int)]) := ⟨Q12.out.drew⟩
   have P13 : Keep (OwnP w12.drew (.slice (some ⟨pg, 0, none⟩) n pc) (V.pl.take n)) := ⟨P12.out⟩
   have D13 : Keep (DskAt w12.drew p vf7 cs7 (Dk.act.cut i f a)) := ⟨D12.out.grown (Grown.refl w12 (fun _ => False)).drew fun _ _ h => h⟩
   have G13 : Keep (Grown w w12.drew N) := ⟨G12.out.drew⟩
   clear J12 Q12 P12 D12 G12
   refine wp_region_held_drew (S := fun wx => Blk wx q 79 #[.int .i64 (c : Int), .int .i64 (a : Int)]) (by kernel_rfl) Q13.out (fun hHeld => ?_)
   generalize w12.drew = w13 at *
   refine tkS (i := 0) (oi := ⟨some 87, Op.move (Operand.tmp 0), 22, _, _, none⟩) (v := .pointer (some ⟨g, 0, none⟩)) rfl (Or.inl ⟨by rfl, fun w hS => by have q0 := hS.c 0 (by rfl : (#[.int .i64 (c : Int), .int .i64 (a : Int)] : Array Value)[0]? = some (.int .i64 (c : Int))); have q1 := hS.c 1 (by rfl : (#[.int .i64 (c : Int), .int .i64 (a : Int)] : Array Value)[1]? = some (.int .i64 (a : Int))); go_simp⟩) hHeld ?_
   refine tkS (i := 1) (oi := ⟨some 88, Op.move (Operand.tmp 0), 22, _, _, none⟩) (v := .pointer (some ⟨g, 0, none⟩)) rfl (Or.inl ⟨by rfl, fun w hS => by have q0 := hS.c 0 (by rfl : (#[.int .i64 (c : Int), .int .i64 (a : Int)] : Array Value)[0]? = some (.int .i64 (c : Int))); have q1 := hS.c 1 (by rfl : (#[.int .i64 (c : Int), .int .i64 (a : Int)] : Array Value)[1]? = some (.int .i64 (a : Int))); go_simp⟩) hHeld ?_
   refine tkS (i := 2) (oi := ⟨some 89, Op.fieldAddr 79 (Operand.tmp 5) 0, 0, _, _, none⟩) (v := .pointer (some ⟨q, 0, none⟩)) rfl (Or.inl ⟨by rfl, fun w hS => by have q0 := hS.c 0 (by rfl : (#[.int .i64 (c : Int), .int .i64 (a : Int)] : Array Value)[0]? = some (.int .i64 (c : Int))); have q1 := hS.c 1 (by rfl : (#[.int .i64 (c : Int), .int .i64 (a : Int)] : Array Value)[1]? = some (.int .i64 (a : Int))); go_simp⟩) hHeld ?_
   refine tkS (i := 3) (oi := ⟨some 90, Op.load 3 (Operand.tmp 89), 3, _, _, none⟩) (v := .int .i64 (c : Int)) rfl (Or.inl ⟨by rfl, fun w hS => by have q0 := hS.c 0 (by rfl : (#[.int .i64 (c : Int), .int .i64 (a : Int)] : Array Value)[0]? = some (.int .i64 (c : Int))); have q1 := hS.c 1 (by rfl : (#[.int .i64 (c : Int), .int .i64 (a : Int)] : Array Value)[1]? = some (.int .i64 (a : Int))); go_simp⟩) hHeld ?_
   refine tkS (i := 4) (oi := ⟨some 91, Op.fieldAddr 79 (Operand.tmp 5) 1, 0, _, _, none⟩) (v := .pointer (some ⟨q, 1, none⟩)) rfl (Or.inl ⟨by rfl, fun w hS => by have q0 := hS.c 0 (by rfl : (#[.int .i64 (c : Int), .int .i64 (a : Int)] : Array Value)[0]? = some (.int .i64 (c : Int))); have q1 := hS.c 1 (by rfl : (#[.int .i64 (c : Int), .int .i64 (a : Int)] : Array Value)[1]? = some (.int .i64 (a : Int))); go_simp⟩) hHeld ?_
   refine tkS (i := 5) (oi := ⟨some 92, Op.load 3 (Operand.tmp 91), 3, _, _, none⟩) (v := .int .i64 (a : Int)) rfl (Or.inl ⟨by rfl, fun w hS => by have q0 := hS.c 0 (by rfl : (#[.int .i64 (c : Int), .int .i64 (a : Int)] : Array Value)[0]? = some (.int .i64 (c : Int))); have q1 := hS.c 1 (by rfl : (#[.int .i64 (c : Int), .int .i64 (a : Int)] : Array Value)[1]? = some (.int .i64 (a : Int))); go_simp⟩) hHeld ?_
   refine tkS (i := 6) (oi := ⟨some 93, Op.nilCheck (Operand.tmp 87), 0, _, _, none⟩) (v := .pointer (some ⟨g, 0, none⟩)) rfl (Or.inl ⟨by rfl, fun w hS => by have q0 := hS.c 0 (by rfl : (#[.int .i64 (c : Int), .int .i64 (a : Int)] : Array Value)[0]? = some (.int .i64 (c : Int))); have q1 := hS.c 1 (by rfl : (#[.int .i64 (c : Int), .int .i64 (a : Int)] : Array Value)[1]? = some (.int .i64 (a : Int))); go_simp⟩) hHeld ?_
   refine tkS (i := 7) (oi := ⟨some 94, Op.fieldAddr 61 (Operand.tmp 93) 2, 0, _, _, none⟩) (v := .pointer (some ⟨g, 2, none⟩)) rfl (Or.inl ⟨by rfl, fun w hS => by have q0 := hS.c 0 (by rfl : (#[.int .i64 (c : Int), .int .i64 (a : Int)] : Array Value)[0]? = some (.int .i64 (c : Int))); have q1 := hS.c 1 (by rfl : (#[.int .i64 (c : Int), .int .i64 (a : Int)] : Array Value)[1]? = some (.int .i64 (a : Int))); go_simp⟩) hHeld ?_
   refine wpAnyH_ready (rs := [8]) (by kernel_rfl) (by simp) ?_
   refine AllReadyH.cons (o := ⟨none, Op.store 3 (Operand.tmp 94) (Operand.tmp 90), 0, _, _, none⟩) rfl (fun K hK => ?_) AllReadyH.nil
   rw [if_pos (by rfl)]
   have f_o := J13.out.frozen 2
   have cl : w13.cell? ⟨g, 2, none⟩ = some (.int .i64 V.pr) := J13.out.c 2 rfl
   refine wp_cellS (w13.setCell ⟨g, 2, none⟩ (.int .i64 (c : Int))) (by go_simp) ?_
   clear f_o cl
   have hgs : Grown w13 (w13.setCell ⟨g, 2, none⟩ (.int .i64 (c : Int))) fun k => k = g := Grown.setCell w13 g 2 _ fun _ => rfl
   have hgt : ∀ {k : Nat} {T : TypeId}, Typ w13 k T → T ≠ 61 → ¬ k = g := fun hk hT e => by subst e; exact hT (hk.one J13.out.typ)
   have J14 : Keep (Blk (w13.setCell ⟨g, 2, none⟩ (.int .i64 (c : Int))) g 61 (jA d (.slice (some ⟨pg, 0, none⟩) n pc) (c : Int) V.sz la false)) := ⟨J13.out.set 2 (.int .i64 (c : Int))⟩
   have Q14 : Keep (Blk (w13.setCell ⟨g, 2, none⟩ (.int .i64 (c : Int))) q 79 #[.int .i64 (c : Int), .int .i64 (a : Int)]) := ⟨hgs.blk Q13.out (hgt Q13.out.typ (by decide))⟩
   have P14 : Keep (OwnP (w13.setCell ⟨g, 2, none⟩ (.int .i64 (c : Int))) (.slice (some ⟨pg, 0, none⟩) n pc) (V.pl.take n)) := ⟨P13.out.grown hgs fun k hk => hgt (P13.out.typ hk) (by decide)⟩
   have D14 : Keep (DskAt (w13.setCell ⟨g, 2, none⟩ (.int .i64 (c : Int))) p vf7 cs7 (Dk.act.cut i f a)) := ⟨D13.out.grown hgs fun k hk => by rcases hk with h | h | h <;> exact hgt h (by decide)⟩
   have G14 : Keep (Grown w (w13.setCell ⟨g, 2, none⟩ (.int .i64 (c : Int))) N) := ⟨G13.out.trans (hgs.mono fun k _ e => HN.out k (.inr (.inl e)))⟩
   clear hgs hgt J13 Q13 P13 D13 G13
   generalize (w13.setCell ⟨g, 2, none⟩ (.int .i64 (c : Int))) = w14 at *
   refine hK _ _ (Q14.out) fun hS14 => ?_
   clear hK
   simp only [Act.put, pqA, pqB, pqC]
   refine tkS (i := 9) (oi := ⟨some 95, Op.nilCheck (Operand.tmp 88), 0, _, _, none⟩) (v := .pointer (some ⟨g, 0, none⟩)) rfl (Or.inl ⟨by rfl, fun w hS => by have q0 := hS.c 0 (by rfl : (#[.int .i64 (c : Int), .int .i64 (a : Int)] : Array Value)[0]? = some (.int .i64 (c : Int))); have q1 := hS.c 1 (by rfl : (#[.int .i64 (c : Int), .int .i64 (a : Int)] : Array Value)[1]? = some (.int .i64 (a : Int))); go_simp⟩) hS14 ?_
   refine tkS (i := 10) (oi := ⟨some 96, Op.fieldAddr 61 (Operand.tmp 95) 3, 0, _, _, none⟩) (v := .pointer (some ⟨g, 3, none⟩)) rfl (Or.inl ⟨by rfl, fun w hS => by have q0 := hS.c 0 (by rfl : (#[.int .i64 (c : Int), .int .i64 (a : Int)] : Array Value)[0]? = some (.int .i64 (c : Int))); have q1 := hS.c 1 (by rfl : (#[.int .i64 (c : Int), .int .i64 (a : Int)] : Array Value)[1]? = some (.int .i64 (a : Int))); go_simp⟩) hS14 ?_
   refine wpAnyH_ready (rs := [11]) (by kernel_rfl) (by simp) ?_
   refine AllReadyH.cons (o := ⟨none, Op.store 3 (Operand.tmp 96) (Operand.tmp 92), 0, _, _, none⟩) rfl (fun K hK => ?_) AllReadyH.nil
   rw [if_pos (by rfl)]
   have f_o := J14.out.frozen 3
   have cl : w14.cell? ⟨g, 3, none⟩ = some (.int .i64 V.sz) := J14.out.c 3 rfl
   refine wp_cellS (w14.setCell ⟨g, 3, none⟩ (.int .i64 (a : Int))) (by go_simp) ?_
   clear f_o cl
   have hgs : Grown w14 (w14.setCell ⟨g, 3, none⟩ (.int .i64 (a : Int))) fun k => k = g := Grown.setCell w14 g 3 _ fun _ => rfl
   have hgt : ∀ {k : Nat} {T : TypeId}, Typ w14 k T → T ≠ 61 → ¬ k = g := fun hk hT e => by subst e; exact hT (hk.one J14.out.typ)
   have J15 : Keep (Blk (w14.setCell ⟨g, 3, none⟩ (.int .i64 (a : Int))) g 61 (jA d (.slice (some ⟨pg, 0, none⟩) n pc) (c : Int) (a : Int) la false)) := ⟨J14.out.set 3 (.int .i64 (a : Int))⟩
   have Q15 : Keep (Blk (w14.setCell ⟨g, 3, none⟩ (.int .i64 (a : Int))) q 79 #[.int .i64 (c : Int), .int .i64 (a : Int)]) := ⟨hgs.blk Q14.out (hgt Q14.out.typ (by decide))⟩
   have P15 : Keep (OwnP (w14.setCell ⟨g, 3, none⟩ (.int .i64 (a : Int))) (.slice (some ⟨pg, 0, none⟩) n pc) (V.pl.take n)) := ⟨P14.out.grown hgs fun k hk => hgt (P14.out.typ hk) (by decide)⟩
   have D15 : Keep (DskAt (w14.setCell ⟨g, 3, none⟩ (.int .i64 (a : Int))) p vf7 cs7 (Dk.act.cut i f a)) := ⟨D14.out.grown hgs fun k hk => by rcases hk with h | h | h <;> exact hgt h (by decide)⟩
   have G15 : Keep (Grown w (w14.setCell ⟨g, 3, none⟩ (.int .i64 (a : Int))) N) := ⟨G14.out.trans (hgs.mono fun k _ e => HN.out k (.inr (.inl e)))⟩
   clear hgs hgt J14 Q14 P14 D14 G14
   generalize (w14.setCell ⟨g, 3, none⟩ (.int .i64 (a : Int))) = w15 at *
   refine hK _ _ (Q15.out) fun hS15 => ?_
   clear hK
   simp only [Act.put, pqA, pqB, pqC]
   refine wpAnyH_done (by kernel_rfl) ?_ _
   refine hK22 _ _ ?_
   refine wp_seq_k fun K23 hK23 => rgn ?_
   refine VlS (.int .i64 0) ?_
   refine WL.nil (hK23 _ _ ?_)
   refine wp_ret ?_
   go_ret
   refine ⟨0, Dk.act.cut i f a, V.keep n c a, false, rfl, ⟨G15.out.blk HDk.out Hd.out, vf7, cs7, .slice (some ⟨pg, 0, none⟩) n pc, D15.out, J15.out, P15.out, fun k hk => ⟨?_, by rcases hk with h | h | h; exact D15.out.sLt h; rw [h]; exact J15.out.lt; exact (P15.out.typ h).lt⟩⟩, G15.out, by have h := KN.out.acts; have h1 := hVk.out; have h2 := hm0.out; show D.acts ≤ Dk.acts + 1 ∧ Dk.acts + 1 ≤ D.acts + 300; omega, .inl ⟨rfl, rfl, by omega, by have := Hn.out; have := hpn.out.2; omega, by rw [Int.toNat_natCast]; rfl, by rw [Int.toNat_natCast]; exact HJX.out⟩⟩
   rcases hk with h | h | h
   ·exact N7.out k h
   ·exact .inl (HN.out k (.inr (.inl h)))
   ·exact .inl (HN.out k (.inr (.inr h)))

theorem keep_any (g d p : Nat) (n : Int) (D : DV) (V : JV) (la : Bool) (sure : Nat) (N : Nat → Prop) (w : World) (hT : Tab w) (hDN : JDN w g d p D V la false N) (hNl : ∀ k, N k → k < w.heap.size) (h0 : ¬ N 0) (hd : ¬ N d) (hX : JX D V la sure) (hA : D.acts ≤ 4611686018427380000) : Calls Tryd.prog 10 #[ptr g, .int .i64 n] w (KeepPost D V la n sure g d p N w) := by
 by_cases h1 : n < 0
 ·exact keep_neg g d p n D V la sure N w hT hDN hNl h0 hd hX hA h1
 ·by_cases h2 : (V.ps.length : Int) < n
  ·exact keep_over g d p n D V la sure N w hT hDN hNl h0 hd hX hA h2
  ·obtain ⟨m, rfl⟩ : ∃ m : Nat, n = (m : Int) := ⟨n.toNat, by omega⟩
   by_cases h3 : m = V.ps.length
   ·exact keep_all g d p m D V la sure N w hT hDN hNl h0 hd hX hA h3
   ·exact keep_cut g d p m D V la sure N w hT hDN hNl h0 hd hX hA (by omega)
theorem bs_refl (a : ByteArray) : (a == a) = true := by rw [beq_toListBytes]; simp
end Go.Proofs.YtennogmeeefopaaDoor
