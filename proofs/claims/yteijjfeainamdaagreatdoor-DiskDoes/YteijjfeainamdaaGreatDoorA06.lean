import Derived.Test.YteijjfeainamdaaGreatDoorA05
import Derived.Test.YteijjfeainamdaaGreatDoorA01
import Derived.Deep.RegionHeld3
import Derived.Lib.Small
import Derived.Scope
import Derived.OwnWalk
import Derived.WalkKit
import Derived.WalkSpells
import Derived.WalkLawsBesides
import Derived.BigQuiet
import Derived.BigRegion
import Derived.Deep.WholeRow
import Derived.Deep.MidRow
import Derived.Deep.RegionWith
import Derived.Deep.DeepCutAuto
import Derived.Laws.CopyRow
namespace Go.Proofs.YteijjfeainamdaaGreatDoor
open Go.RowKit
set_option linter.unusedSimpArgs false
set_option linter.unusedVariables false

def IntsAt (w : World) (v : Value) (l : List Int) : Prop :=
 (∃ a c, v = .slice a 0 c ∧ l = []) ∨ ∃ q o c, v = .slice (some ⟨q, o, none⟩) l.length c ∧ ∀ i, i < l.length → w.cell? ⟨q, o + i, none⟩ = some (.int .i64 (l.getD i 0))
theorem IntsAt.form {w : World} {v : Value} {l : List Int} (h : IntsAt w v l) : ∃ a c, v = .slice a l.length c := by
 rcases h with ⟨a, c, rfl, rfl⟩ | ⟨q, o, c, rfl, _⟩
 ·exact ⟨_, _, rfl⟩
 ·exact ⟨_, _, rfl⟩
theorem IntsAt.grown {w w' : World} {v : Value} {l : List Int} {S : Nat → Prop} (h : IntsAt w v l) (hg : Grown w w' S) (hs : ∀ k, v.ownBlock = some k → ¬ S k) : IntsAt w' v l := by
 rcases h with h | ⟨q, o, c, rfl, h⟩
 ·exact .inl h
 ·exact .inr ⟨q, o, c, rfl, fun i hi => hg.cell (h i hi) (hs q rfl)⟩
theorem IntsAt.below {w w' : World} {v : Value} {l : List Int} (h : IntsAt w v l) (hb : Below w.heap.size w w') : IntsAt w' v l := h.grown (Grown.below (S := fun _ => False) hb) fun _ _ h => h
theorem IntsAt.at {w : World} {a : Option Addr} {n c : Nat} {l : List Int} (h : IntsAt w (.slice a n c) l) {t : Nat} (ht : t < l.length) : ∃ q o, a = some ⟨q, o, none⟩ ∧ w.cell? ⟨q, o + t, none⟩ = some (.int .i64 (l.getD t 0)) := by
 rcases h with ⟨a', c', h1, rfl⟩ | ⟨q, o, c', h1, h2⟩
 ·simp at ht
 ·injection h1 with h1
  exact ⟨q, o, h1, h2 t ht⟩
def kpN (kp : List Int) (i : Nat) (f : PF) : Int :=
 if i < kp.length then Int.tmod (Int.tmod (kp.getD i 0) ((f.bs.length : Int) - f.sf + 1) + ((f.bs.length : Int) - f.sf + 1)) ((f.bs.length : Int) - f.sf + 1) else 0
theorem tm_bnd (a k : Int) (h : 0 < k) : -k < Int.tmod a k ∧ Int.tmod a k < k := ⟨Int.lt_tmod_of_pos a h, Int.tmod_lt_of_pos a h⟩
theorem tm_pos (a k : Int) (h : 0 < k) (ha : 0 ≤ a) : 0 ≤ Int.tmod a k := Int.tmod_nonneg k ha
theorem kpN_le (kp : List Int) (i : Nat) (f : PF) (h : 0 ≤ f.sf ∧ f.sf ≤ (f.bs.length : Int)) : 0 ≤ kpN kp i f ∧ kpN kp i f ≤ (f.bs.length : Int) - f.sf := by
 unfold kpN
 split
 ·have h1 := tm_bnd (kp.getD i 0) ((f.bs.length : Int) - f.sf + 1) (by omega)
  have h2 := tm_bnd (Int.tmod (kp.getD i 0) ((f.bs.length : Int) - f.sf + 1) + ((f.bs.length : Int) - f.sf + 1)) ((f.bs.length : Int) - f.sf + 1) (by omega)
  have h3 := tm_pos (Int.tmod (kp.getD i 0) ((f.bs.length : Int) - f.sf + 1) + ((f.bs.length : Int) - f.sf + 1)) ((f.bs.length : Int) - f.sf + 1) (by omega) (by omega)
  omega
 ·omega
def PF.crash (f : PF) (n : Int) : PF := ⟨f.nm, f.bs.take (f.sf + n).toNat, f.sf + n⟩
def crT (kp : List Int) (t : Nat) (fs : List PF) : List PF := fs.mapIdx fun i f => if i < t then f.crash (kpN kp i f) else f
theorem crT_len (kp : List Int) (t : Nat) (fs : List PF) : (crT kp t fs).length = fs.length := by simp [crT]
theorem crT_zero (kp : List Int) (fs : List PF) : crT kp 0 fs = fs := by
 apply List.ext_getElem?
 intro i
 unfold crT
 rw [List.getElem?_mapIdx]
 cases fs[i]? <;> simp
theorem crT_at (kp : List Int) (t : Nat) (fs : List PF) : (crT kp t fs)[t]? = fs[t]? := by
 unfold crT
 rw [List.getElem?_mapIdx]
 cases fs[t]? <;> simp
theorem crT_step (kp : List Int) (t : Nat) (fs : List PF) (f : PF) (h : fs[t]? = some f) : crT kp (t + 1) fs = (crT kp t fs).set t (f.crash (kpN kp t f)) := by
 have hl := (List.getElem?_eq_some_iff.1 h).1
 apply List.ext_getElem?
 intro i
 by_cases hi : t = i
 ·subst hi
  rw [List.getElem?_set_self (by rw [crT_len]; exact hl)]
  unfold crT
  rw [List.getElem?_mapIdx, h]
  simp
 ·rw [List.getElem?_set_ne hi]
  unfold crT
  rw [List.getElem?_mapIdx, List.getElem?_mapIdx]
  cases fs[i]? with
  | none => rfl
  | some g =>
   simp only [Option.map_some]
   by_cases h1 : i < t
   ·rw [if_pos h1, if_pos (by omega)]
   ·rw [if_neg h1, if_neg (by omega)]
def usd (fs : List PF) : Int := (fs.map fun f => (f.bs.length : Int)).sum
theorem usd_app (a b : List PF) : usd (a ++ b) = usd a + usd b := by simp [usd]
theorem usd_nonneg : ∀ fs : List PF, 0 ≤ usd fs
 | [] => by simp [usd]
 | f :: r => by
  have := usd_nonneg r
  simp only [usd, List.map_cons, List.sum_cons] at this ⊢
  omega
theorem usd_take (fs : List PF) (t : Nat) : usd (fs.take t) ≤ usd fs := by
 have h := usd_app (fs.take t) (fs.drop t)
 rw [List.take_append_drop] at h
 have := usd_nonneg (fs.drop t)
 omega
theorem usd_step (l : List PF) (t : Nat) (x : PF) (h : t < l.length) : usd ((l.set t x).take (t + 1)) = usd (l.take t) + (x.bs.length : Int) := by
 have e : (l.set t x).take (t + 1) = l.take t ++ [x] := by
  rw [List.take_add_one, List.take_set_of_le (Nat.le_refl _), List.getElem?_set_self h]
  rfl
 rw [e, usd_app]
 simp [usd]
theorem usd_mem {fs : List PF} {t : Nat} {f : PF} (h : fs[t]? = some f) : usd (fs.take t) + (f.bs.length : Int) ≤ usd fs := by
 have h1 := usd_take fs (t + 1)
 rw [List.take_add_one, h, usd_app] at h1
 simp [usd] at h1 ⊢
 omega
theorem usd_at {fs : List PF} {t : Nat} {f : PF} (h : fs[t]? = some f) : (f.bs.length : Int) ≤ usd fs := by
 have h1 := usd_mem h
 have := usd_nonneg (fs.take t)
 omega
theorem usd_crT (kp : List Int) (fs : List PF) (hS : ∀ f ∈ fs, 0 ≤ f.sf ∧ f.sf ≤ (f.bs.length : Int)) : ∀ t, t ≤ fs.length → usd ((crT kp t fs).take t) ≤ usd (fs.take t)
 | 0, _ => by simp [usd]
 | t + 1, h => by
  have hf : fs[t]? = some (fs[t]'(by omega)) := List.getElem?_eq_getElem _
  rw [crT_step kp t fs _ hf, usd_step _ _ _ (by rw [crT_len]; omega), List.take_add_one, hf, usd_app]
  have h1 := usd_crT kp fs hS t (by omega)
  have h2 := kpN_le kp t (fs[t]'(by omega)) (hS _ (List.getElem_mem _))
  have h3 := hS (fs[t]'(by omega)) (List.getElem_mem _)
  simp only [PF.crash, List.length_take, usd, Option.toList_some, List.map_cons, List.map_nil, List.sum_cons, List.sum_nil] at h1 ⊢
  omega
def DV.crash (D : DV) (kp : List Int) : DV := { D with fs := crT kp D.fs.length D.fs, used := usd (crT kp D.fs.length D.fs), fuse := -1, out := false }
def FilesAt (w : World) (v : Value) (xs : List PF) : Prop :=
 ∃ V : Nat → FC, ((∃ a c, v = .slice a 0 c ∧ xs = []) ∨ ∃ q o cap, v = .slice (some ⟨q, o, none⟩) xs.length cap ∧ ∀ i, i < xs.length → w.rangeAt q (o + i * 3) (fA (V i)).toList) ∧ ∀ i x, xs[i]? = some x → (V i).nm = x.nm ∧ (V i).sf = x.sf ∧ RowAt w (V i).b x.bs
theorem FilesAt.form {w : World} {v : Value} {xs : List PF} (h : FilesAt w v xs) : ∃ a c, v = .slice a xs.length c := by
 obtain ⟨V, ⟨a, c, rfl, rfl⟩ | ⟨q, o, cap, rfl, _⟩, _⟩ := h
 ·exact ⟨_, _, rfl⟩
 ·exact ⟨_, _, rfl⟩
theorem FilesAt.below {w w' : World} {v : Value} {xs : List PF} (h : FilesAt w v xs) (hb : Below w.heap.size w w') : FilesAt w' v xs := by
 obtain ⟨V, h1, h2⟩ := h
 refine ⟨V, ?_, fun i x hx => ⟨(h2 i x hx).1, (h2 i x hx).2.1, (h2 i x hx).2.2.below hb⟩⟩
 rcases h1 with h1 | ⟨q, o, cap, h1, h3⟩
 ·exact .inl h1
 ·exact .inr ⟨q, o, cap, h1, fun i hi j u hu => by rw [hb.cell (p := ⟨q, o + i * 3 + j, none⟩) (cell_lt (h3 i hi j u hu))]; exact h3 i hi j u hu⟩
theorem FilesAt.at {w : World} {a : Option Addr} {n c : Nat} {xs : List PF} (h : FilesAt w (.slice a n c) xs) {t : Nat} {x : PF} (hx : xs[t]? = some x) : ∃ q o y, a = some ⟨q, o, none⟩ ∧ w.rangeAt q (o + t * 3) (fA y).toList ∧ y.nm = x.nm ∧ y.sf = x.sf ∧ RowAt w y.b x.bs := by
 obtain ⟨V, ⟨a', c', h1, rfl⟩ | ⟨q, o, cap, h1, h3⟩, h2⟩ := h
 ·simp at hx
 ·injection h1 with h1
  exact ⟨q, o, V t, h1, h3 t (List.getElem?_eq_some_iff.1 hx).1, h2 t x hx⟩
theorem files_of {w : World} {vf : Value} {cs : List FC} {fs : List PF} (ho : OwnF w vf cs) (hf : FcsAt w cs fs) : FilesAt w vf fs := by
 refine ⟨fun i => cs.getD i zeroF, ?_, fun i x hx => ?_⟩
 ·rcases ho.form with ⟨rfl, h⟩ | ⟨g, cap, cur, rfl, _⟩
  ·subst h
   have := hf.len
   exact .inl ⟨_, _, rfl, List.eq_nil_of_length_eq_zero this.symm⟩
  ·refine .inr ⟨g, 0, cap, by rw [hf.len], fun i hi => ?_⟩
   have hi' : i < cs.length := by rw [hf.len]; exact hi
   obtain ⟨g', e, hr⟩ := ho.at (List.getElem?_eq_getElem hi')
   injection e with e
   injection e with e
   subst e
   have e2 : cs.getD i zeroF = cs[i] := by rw [List.getD_eq_getElem?_getD, List.getElem?_eq_getElem hi']; rfl
   show w.rangeAt g (0 + i * 3) (fA (cs.getD i zeroF)).toList
   rw [Nat.zero_add, e2]
   exact hr
 ·have hi' : i < cs.length := by rw [hf.len]; exact (List.getElem?_eq_some_iff.1 hx).1
  have h := hf.each i _ x (List.getElem?_eq_getElem hi') hx
  have e2 : cs.getD i zeroF = cs[i] := by rw [List.getD_eq_getElem?_getD, List.getElem?_eq_getElem hi']; rfl
  show (cs.getD i zeroF).nm = x.nm ∧ (cs.getD i zeroF).sf = x.sf ∧ RowAt w (cs.getD i zeroF).b x.bs
  rw [e2]
  exact ⟨h.1, h.2.1, h.2.2.row⟩
def layX (x : PF) : PF := ⟨x.nm, x.bs, min (max 0 x.sf) (x.bs.length : Int)⟩
def layStep (fs : List PF) (x : PF) : List PF :=
 if (fnd x.nm fs 0).2 = true ∨ rgt x.nm = false ∨ 256 ≤ fs.length then fs else fs.take (fnd x.nm fs 0).1 ++ [layX x] ++ fs.drop (fnd x.nm fs 0).1
def layT (xs : List PF) : List PF := xs.foldl layStep []
theorem layT_snoc {xs : List PF} {t : Nat} {x : PF} (h : xs[t]? = some x) : layT (xs.take (t + 1)) = layStep (layT (xs.take t)) x := by
 unfold layT
 rw [List.take_add_one, h, List.foldl_append]
 rfl
structure LayOk (fs : List PF) : Prop where
 srt : Srt fs
 len : fs.length ≤ 256
 sf : ∀ f ∈ fs, 0 ≤ f.sf ∧ f.sf ≤ (f.bs.length : Int)
 nms : ∀ f ∈ fs, rgt f.nm = true
theorem ins_mem {α : Type} {l : List α} {i : Nat} {x y : α} (h : y ∈ l.take i ++ [x] ++ l.drop i) : y ∈ l ∨ y = x := by
 rw [List.append_assoc, List.mem_append] at h
 rcases h with h | h
 ·exact .inl (List.mem_of_mem_take h)
 ·rcases List.mem_append.1 h with h | h
  ·exact .inr (List.mem_singleton.1 h)
  ·exact .inl (List.mem_of_mem_drop h)
theorem LayOk.step {fs : List PF} (h : LayOk fs) (x : PF) : LayOk (layStep fs x) := by
 unfold layStep
 split
 ·exact h
 ·rename_i hn
  rcases hf : fnd x.nm fs 0 with ⟨i, is⟩
  rw [hf] at hn
  have e : is = false := by
   cases is with
   | false => rfl
   | true => exact absurd (.inl rfl) hn
  subst e
  have hi := (fnd_le x.nm fs 0).2
  rw [hf] at hi
  simp only at hi ⊢
  refine ⟨srt_ins h.srt hf rfl, ?_, fun f hf => ?_, fun f hf => ?_⟩
  ·simp only [List.length_append, List.length_take, List.length_drop, List.length_singleton]
   omega
  ·rcases ins_mem hf with hf | rfl
   ·exact h.sf f hf
   ·simp only [layX]
    omega
  ·rcases ins_mem hf with hf | rfl
   ·exact h.nms f hf
   ·simp only [layX]
    cases hr : rgt x.nm with
    | true => rfl
    | false => exact absurd (.inr (.inl hr)) hn
theorem layT_ok (xs : List PF) : ∀ t, LayOk (layT (xs.take t))
 | 0 => ⟨List.Pairwise.nil, Nat.zero_le _, fun f h => by simp [layT] at h, fun f h => by simp [layT] at h⟩
 | t + 1 => by
  cases h : xs[t]? with
  | none =>
   have := layT_ok xs t
   rw [List.take_of_length_le (by have := List.getElem?_eq_none_iff.1 h; omega)] at this
   rw [List.take_of_length_le (by have := List.getElem?_eq_none_iff.1 h; omega)]
   exact this
  | some x =>
   rw [layT_snoc h]
   exact (layT_ok xs t).step x
theorem usd_ins (fs : List PF) (i : Nat) (x : PF) : usd (fs.take i ++ [x] ++ fs.drop i) = usd fs + (x.bs.length : Int) := by
 have h : usd (fs.take i) + usd (fs.drop i) = usd fs := by rw [← usd_app, List.take_append_drop]
 rw [usd_app, usd_app]
 simp only [usd, List.map_cons, List.map_nil, List.sum_cons, List.sum_nil] at h ⊢
 omega
theorem layStep_usd (fs : List PF) (x : PF) : usd (layStep fs x) ≤ usd fs + (x.bs.length : Int) := by
 unfold layStep
 split
 ·omega
 ·rw [usd_ins]
  simp only [layX]
  omega
theorem layT_usd (xs : List PF) : ∀ t, usd (layT (xs.take t)) ≤ usd (xs.take t)
 | 0 => by simp [layT]
 | t + 1 => by
  have h1 := layT_usd xs t
  cases h : xs[t]? with
  | none =>
   rw [List.take_of_length_le (by have := List.getElem?_eq_none_iff.1 h; omega)] at h1
   rw [List.take_of_length_le (by have := List.getElem?_eq_none_iff.1 h; omega)]
   exact h1
  | some x =>
   rw [layT_snoc h, List.take_add_one, h, usd_app]
   have h2 := layStep_usd (layT (xs.take t)) x
   simp only [usd, Option.toList_some, List.map_cons, List.map_nil, List.sum_cons, List.sum_nil] at h1 h2 ⊢
   omega
theorem layT_mem (xs : List PF) : ∀ t, ∀ f ∈ layT (xs.take t), ∃ x ∈ xs, f = layX x
 | 0, f, h => by simp [layT] at h
 | t + 1, f, hf => by
  cases h : xs[t]? with
  | none =>
   rw [List.take_of_length_le (by have := List.getElem?_eq_none_iff.1 h; omega)] at hf
   have := layT_mem xs t f
   rw [List.take_of_length_le (by have := List.getElem?_eq_none_iff.1 h; omega)] at this
   exact this hf
  | some x =>
   rw [layT_snoc h] at hf
   unfold layStep at hf
   split at hf
   ·exact layT_mem xs t f hf
   ·rcases ins_mem hf with hf | rfl
    ·exact layT_mem xs t f hf
    ·exact ⟨x, List.mem_of_getElem? h, rfl⟩
theorem layT_self (xs : List PF) (h : LayOk xs) : ∀ t, layT (xs.take t) = xs.take t
 | 0 => rfl
 | t + 1 => by
  have ih := layT_self xs h t
  cases hx : xs[t]? with
  | none =>
   rw [List.take_of_length_le (by have := List.getElem?_eq_none_iff.1 hx; omega)] at ih
   rw [List.take_of_length_le (by have := List.getElem?_eq_none_iff.1 hx; omega)]
   exact ih
  | some x =>
   have hl := (List.getElem?_eq_some_iff.1 hx).1
   have hmem := List.mem_of_getElem? hx
   rw [layT_snoc hx, ih]
   have hlt : ∀ f ∈ xs.take t, nlt f.nm x.nm := fun f hf => by
    obtain ⟨j, hj, rfl⟩ := List.getElem_of_mem hf
    rw [List.length_take] at hj
    have := List.pairwise_iff_getElem.1 h.srt j t (by omega) hl (by omega)
    rw [(List.getElem?_eq_some_iff.1 hx).2] at this
    rw [List.getElem_take]
    exact this
   have hfd : ∀ (l : List PF) (a : Nat), (∀ f ∈ l, nlt f.nm x.nm) → fnd x.nm l a = (a + l.length, false) := fun l => by
    induction l with
    | nil => intro a _; rfl
    | cons g r ih => intro a hg; unfold fnd; rw [bless_eq, if_pos (decide_eq_true (hg g (by simp))), ih (a + 1) fun f hf => hg f (by simp [hf])]; simp; omega
   have h1 := hfd (xs.take t) 0 hlt
   have h2 : (xs.take t).length = t := by rw [List.length_take]; omega
   unfold layStep
   rw [h1, h2, if_neg]
   ·have e : layX x = x := by
     have := h.sf x hmem
     unfold layX
     rw [show min (max 0 x.sf) (x.bs.length : Int) = x.sf by omega]
    simp only [Nat.zero_add]
    rw [List.take_take, Nat.min_self, List.drop_of_length_le (by omega), List.append_nil, e, List.take_add_one, hx]
    rfl
   ·have := h.len
    have := h.nms x hmem
    rintro (h3 | h3 | h3)
    ·cases h3
    ·rw [this] at h3; cases h3
    ·omega
def layD (r : Int) (xs : List PF) : DV := ⟨layT xs, max (max 0 r) (usd (layT xs)), usd (layT xs), -1, false, 0⟩
theorem FcsAt.insx {w : World} {cs : List FC} {fs : List PF} {y : FC} {f : PF} (h : FcsAt w cs fs) (i : Nat) (hi : i ≤ cs.length) (hy : FcAt w y f) (hap : ∀ (j : Nat) (z : FC) (k : Nat), cs[j]? = some z → z.b.ownBlock = some k → y.b.ownBlock ≠ some k) : FcsAt w (cs.take i ++ [y] ++ cs.drop i) (fs.take i ++ [f] ++ fs.drop i) := by
 have h1 := h.ins i hi y.nm
 have hl := h.len
 have e1 := ins_set cs (⟨y.nm, .slice none 0 0, 0⟩ : FC) y i hi
 have e2 := ins_set fs (⟨y.nm, [], 0⟩ : PF) f i (by omega)
 rw [← e1, ← e2]
 have hz : ∀ (j : Nat) (z : FC), i ≠ j → (cs.take i ++ [(⟨y.nm, .slice none 0 0, 0⟩ : FC)] ++ cs.drop i)[j]? = some z → ∃ j', cs[j']? = some z := fun j z hj hz => by
  rw [ins_get _ _ _ _ hi] at hz
  split at hz
  ·exact ⟨j, hz⟩
  ·split at hz
   ·omega
   ·exact ⟨_, hz⟩
 refine h1.set (by simp; omega) hy (fun j x z hj hx hzz => h1.each j x z hx hzz) (fun j x k hj hx hk hxk => ?_)
 obtain ⟨j', hj'⟩ := hz j x (by omega) hx
 exact hap j' x k hj' hxk hk
theorem Tryz.in22 (w : World) (vs : Array Value) : (callFunc 22 vs).run Tryz.prog w = .ok (.enter 22 vs) w := by kernel_rfl
theorem Tryz.in24 (w : World) (vs : Array Value) : (callFunc 24 vs).run Tryz.prog w = .ok (.enter 24 vs) w := by kernel_rfl
structure AC where
 kd : Int
 nm : ByteArray
 n : Int
 b : Value
def acA (x : AC) : Array Value := #[.int .i64 x.kd, .string x.nm, .int .i64 x.n, x.b]
def zeroAc : AC := ⟨0, ⟨#[]⟩, 0, .slice none 0 0⟩
def SlAc (x : AC) : Prop := ∃ a n c, x.b = .slice a n c
theorem SlAc.one {x : AC} (h : SlAc x) : (acA x).all (·.oneCell') = true := by
 obtain ⟨a, n, c, h⟩ := h
 obtain ⟨kd, nm, m, b⟩ := x
 have h' : b = .slice a n c := h
 subst h'
 simp [acA, Value.oneCell']
theorem acA_len (x : AC) : (acA x).toList.length = 4 := rfl
def acL (cs : List AC) : List Value := cs.flatMap fun c => (acA c).toList
theorem acL_len : ∀ cs : List AC, (acL cs).length = cs.length * 4
 | [] => rfl
 | c :: r => by
  have h := acL_len r
  unfold acL at h ⊢
  rw [List.flatMap_cons, List.length_append, h, acA_len, List.length_cons]
  omega
theorem acL_one {cs : List AC} (h : ∀ x ∈ cs, SlAc x) : ∀ u ∈ acL cs, u.oneCell' = true := fun u hu => by
 unfold acL at hu
 obtain ⟨x, hx, hu⟩ := List.mem_flatMap.1 hu
 exact (Array.all_eq_true_iff_forall_mem.1 (h x hx).one) u (by simpa using hu)
def OwnAc (w : World) (v : Value) (cs : List AC) : Prop := w.ownsRow 0 103 4 v cs.length (acL cs)
theorem OwnAc.form {w : World} {v : Value} {l : List AC} (h : OwnAc w v l) : (v = .slice none 0 0 ∧ l = []) ∨ ∃ g cap cur, v = .slice (some ⟨g, 0, none⟩) l.length cap ∧ Blk w g 103 cur ∧ l.length ≤ cap ∧ cap ≤ maxLen ∧ cur.size = cap * 4 ∧ cur.toList.take (l.length * 4) = acL l := by
 rcases h.2 with ⟨rfl, h0⟩ | ⟨g, cap, cur, rfl, _, h3, h4, h5, h6, h7⟩
 ·exact .inl ⟨rfl, List.eq_nil_of_length_eq_zero h0⟩
 ·exact .inr ⟨g, cap, cur, rfl, h3, h4, h5, h6, h7⟩
theorem OwnAc.sl {w : World} {v : Value} {l : List AC} (h : OwnAc w v l) : ∃ a c, v = .slice a l.length c := by
 rcases h.form with ⟨rfl, rfl⟩ | ⟨g, cap, cur, rfl, _⟩
 ·exact ⟨_, _, rfl⟩
 ·exact ⟨_, _, rfl⟩
theorem OwnAc.grown {w w' : World} {v : Value} {l : List AC} {S : Nat → Prop} (h : OwnAc w v l) (hg : Grown w w' S) (hs : ∀ k, v.ownBlock = some k → ¬ S k) : OwnAc w' v l := by
 refine ⟨h.1, ?_⟩
 rcases h.2 with h1 | ⟨g, cap, cur, rfl, h2, h3, h4⟩
 ·exact .inl h1
 ·exact .inr ⟨g, cap, cur, rfl, h2, hg.blk h3 (hs g rfl), h4⟩
theorem OwnAc.typ {w : World} {v : Value} {l : List AC} (h : OwnAc w v l) {k : Nat} (hk : v.ownBlock = some k) : Typ w k 103 := by
 rcases h.form with ⟨rfl, _⟩ | ⟨g, cap, cur, rfl, h3, _⟩
 ·simp [Value.ownBlock] at hk
 ·simp [Value.ownBlock] at hk
  subst hk
  exact h3.typ
theorem OwnAc.ne {w : World} {v : Value} {l : List AC} {p : Nat} {T : TypeId} {cs : Array Value} (h : OwnAc w v l) (hp : Blk w p T cs) (hT : T ≠ 103) : v.ownBlock ≠ some p := fun e => hT ((h.typ e).one hp.typ).symm
theorem ownAc_empty (w : World) : OwnAc (w.alloc (.cells #[] 103)) (.slice (some ⟨w.heap.size, 0, none⟩) 0 0) [] :=
 ⟨rfl, .inr ⟨w.heap.size, 0, #[], rfl, Nat.zero_le _, Blk.new w 103 #[], Nat.le_refl _, by decide, rfl, rfl⟩⟩
theorem ownAc_nil (w : World) : OwnAc w (.slice none 0 0) [] := ⟨rfl, .inl ⟨rfl, rfl⟩⟩
theorem Tryz.infoAc : (Tryz.prog.info? 103).map (fun i => (i.zero, i.size, i.bytes)) = some (some (.agg (acA zeroAc)), 4, 56) := by kernel_rfl
theorem run_appAc (w : World) (ty : TypeId) (v : Value) (l : List AC) (hown : OwnAc w v l) (g off c : Nat) (m : List AC) (hm : ∀ x ∈ m, SlAc x) (hg : ∀ j u, (acL m)[j]? = some u → w.cell? ⟨g, off + j, none⟩ = some u) (hb : l.length + m.length ≤ 1000000000000) :
  ∃ v' w', (Builtin.append_ #[60, 60] ty #[v, .slice (some ⟨g, off, none⟩) m.length c]).run Tryz.prog w = .ok v' w' ∧ OwnAc w' v' (l ++ m) ∧ (Grown w w' fun k => v.ownBlock = some k) ∧ Moved w v v' := by
 obtain ⟨i, hi, hzz⟩ := Option.map_eq_some_iff.1 Tryz.infoAc
 simp only [Prod.mk.injEq] at hzz
 obtain ⟨hz, hsz, hby⟩ := hzz
 obtain ⟨v', w', hr, h1, h2, _, h3⟩ := run_append_own_at (P := Tryz.prog) w 0 60 ty 103 i (.agg (acA zeroAc)) 4 56 Tryz.underlying60 hi hz hsz hby rfl (by omega) v l.length (acL l) hown ⟨g, off, none⟩ m.length c (acL m) (by rw [acL_len]) (fun j u hu => by
   rw [Addr.add_mid]; exact hg j u hu)
  (acL_one hm) (by unfold maxLen; omega) (by omega) (Nat.zero_le _)
 refine ⟨v', w', hr, ?_, Grown.of h2 fun k _ e => e, ?_⟩
 ·unfold OwnAc
  rw [List.length_append, show acL (l ++ m) = acL l ++ acL m by simp [acL]]
  exact h1
 ·rcases h3 with h3 | h3
  ·exact .inl h3
  ·exact .inr ⟨_, h3, Nat.le_refl _⟩
def RcAt (w : World) (x : FC) (f : PF) : Prop := x.nm = f.nm ∧ x.sf = f.sf ∧ RowAt w x.b f.bs ∧ ∀ k, x.b.ownBlock = some k → Typ w k 5
theorem RcAt.grown {w w' : World} {x : FC} {f : PF} {S : Nat → Prop} (h : RcAt w x f) (hg : Grown w w' S) (hs : ∀ k, x.b.ownBlock = some k → ¬ S k) : RcAt w' x f := ⟨h.1, h.2.1, h.2.2.1.grown hg fun k hk _ => hs k hk, fun k hk => hg.typ (h.2.2.2 k hk) (hs k hk)⟩
theorem RcAt.sl {w : World} {x : FC} {f : PF} (h : RcAt w x f) : SlF x := by
 obtain ⟨a, c, e⟩ := row_form h.2.2.1
 exact ⟨a, _, c, e⟩
theorem FcAt.rc {w : World} {x : FC} {f : PF} (h : FcAt w x f) : RcAt w x f := ⟨h.1, h.2.1, h.2.2.row, fun k hk => h.2.2.typ hk⟩
structure RcsAt (w : World) (cs : List FC) (fs : List PF) : Prop where
 len : cs.length = fs.length
 each : ∀ (i : Nat) (x : FC) (f : PF), cs[i]? = some x → fs[i]? = some f → RcAt w x f
theorem RcsAt.nil (w : World) : RcsAt w [] [] := ⟨rfl, fun i x f h => by simp at h⟩
theorem RcsAt.grown {w w' : World} {cs : List FC} {fs : List PF} {S : Nat → Prop} (h : RcsAt w cs fs) (hg : Grown w w' S) (hs : ∀ (i : Nat) (x : FC) (k : Nat), cs[i]? = some x → x.b.ownBlock = some k → ¬ S k) : RcsAt w' cs fs := ⟨h.len, fun i x f h1 h2 => (h.each i x f h1 h2).grown hg fun k hk => hs i x k h1 hk⟩
theorem RcsAt.at {w : World} {cs : List FC} {fs : List PF} (h : RcsAt w cs fs) {i : Nat} {x : FC} (hx : cs[i]? = some x) : ∃ f, fs[i]? = some f ∧ RcAt w x f := by
 have hi := (List.getElem?_eq_some_iff.1 hx).1
 exact ⟨_, List.getElem?_eq_getElem (by rw [← h.len]; exact hi), h.each i x _ hx (List.getElem?_eq_getElem (by rw [← h.len]; exact hi))⟩
theorem RcsAt.sl {w : World} {cs : List FC} {fs : List PF} (h : RcsAt w cs fs) : ∀ x ∈ cs, SlF x := fun x hx => by
 obtain ⟨i, hi, rfl⟩ := List.getElem_of_mem hx
 obtain ⟨f, _, h2⟩ := h.at (List.getElem?_eq_getElem hi)
 exact h2.sl
theorem RcsAt.typ {w : World} {cs : List FC} {fs : List PF} (h : RcsAt w cs fs) {i : Nat} {x : FC} {k : Nat} (hx : cs[i]? = some x) (hk : x.b.ownBlock = some k) : Typ w k 5 := by
 obtain ⟨f, _, h2⟩ := h.at hx
 exact h2.2.2.2 k hk
def rdA (vf va : Value) (D : DV) : Array Value := #[vf, .int .i64 D.room, .int .i64 D.fuse, .bool D.out, va]
structure RDAt (w : World) (x : Nat) (vf va : Value) (cs : List FC) (ms : List AC) (D : DV) : Prop where
 blk : Blk w x 62 (rdA vf va D)
 own : OwnF w vf cs
 rcs : RcsAt w cs D.fs
 acs : OwnAc w va ms
 num : (ms.length : Int) = D.acts ∧ ∀ a ∈ ms, SlAc a
def RdW (x : Nat) (vf va : Value) (k : Nat) : Prop := k = x ∨ vf.ownBlock = some k ∨ va.ownBlock = some k
def RdS (x : Nat) (vf va : Value) (cs : List FC) (k : Nat) : Prop := RdW x vf va k ∨ ∃ (i : Nat) (y : FC), cs[i]? = some y ∧ y.b.ownBlock = some k
theorem RDAt.grown {w w' : World} {x : Nat} {vf va : Value} {cs : List FC} {ms : List AC} {D : DV} {S : Nat → Prop} (h : RDAt w x vf va cs ms D) (hg : Grown w w' S) (hs : ∀ k, RdS x vf va cs k → ¬ S k) : RDAt w' x vf va cs ms D :=
 ⟨hg.blk h.blk (hs x (.inl (.inl rfl))), h.own.grown hg fun k hk => hs k (.inl (.inr (.inl hk))), h.rcs.grown hg fun i y k hy hk => hs k (.inr ⟨i, y, hy, hk⟩), h.acs.grown hg fun k hk => hs k (.inl (.inr (.inr hk))), h.num⟩
theorem RDAt.below {w w' : World} {x : Nat} {vf va : Value} {cs : List FC} {ms : List AC} {D : DV} (h : RDAt w x vf va cs ms D) (hb : Below w.heap.size w w') : RDAt w' x vf va cs ms D := h.grown (Grown.below (S := fun _ => False) hb) fun _ _ h => h
theorem RDAt.sTyp {w : World} {x : Nat} {vf va : Value} {cs : List FC} {ms : List AC} {D : DV} (h : RDAt w x vf va cs ms D) {k : Nat} (hk : RdS x vf va cs k) : Typ w k 5 ∨ Typ w k 49 ∨ Typ w k 103 ∨ Typ w k 62 := by
 rcases hk with (rfl | hk | hk) | ⟨i, y, hy, hk⟩
 ·exact .inr (.inr (.inr h.blk.typ))
 ·exact .inr (.inl (h.own.typ hk))
 ·exact .inr (.inr (.inl (h.acs.typ hk)))
 ·exact .inl (h.rcs.typ hy hk)
theorem RDAt.put {w : World} {x : Nat} {vf va : Value} {cs : List FC} {ms : List AC} {D D' : DV} (h : RDAt w x vf va cs ms D) {j : Nat} {v : Value} (hy : (rdA vf va D).setIfInBounds j v = rdA vf va D') (hf : D'.fs = D.fs) (ha : D'.acts = D.acts) : RDAt (w.setCell ⟨x, j, none⟩ v) x vf va cs ms D' := by
 have hg : Grown w (w.setCell ⟨x, j, none⟩ v) fun k => k = x := Grown.setCell w x j v fun _ => rfl
 refine ⟨hy ▸ h.blk.set j v, h.own.grown hg fun k hk e => h.own.ne h.blk (by decide) (e ▸ hk), ?_, h.acs.grown hg fun k hk e => h.acs.ne h.blk (by decide) (e ▸ hk), by rw [ha]; exact h.num⟩
 rw [hf]
 exact h.rcs.grown hg fun i y k hy hk e => absurd ((h.rcs.typ hy hk).one (e ▸ h.blk.typ)) (by decide)
def fdI (n : ByteArray) (fs : List PF) : Int := if (fnd n fs 0).2 = true then ((fnd n fs 0).1 : Int) else -1
set_option maxRecDepth 8000 in
set_option maxHeartbeats 2000000 in
theorem rfind_any (x : Nat) (n : ByteArray) (vf va : Value) (cs : List FC) (ms : List AC) (D : DV) (w : World) (hD : RDAt w x vf va cs ms D) (hSr : Srt D.fs) (hL : cs.length ≤ 1000000000000) : Calls Tryz.prog 22 #[ptr x, .string n] w fun e w' => e = .returned (.int .i64 (fdI n D.fs)) ∧ w' = w := by
 obtain ⟨vfa, vfc, rfl⟩ := hD.own.sl
 have HD := Keep.mk hD
 have HL := Keep.mk hL
 have HSr := Keep.mk hSr
 clear hD hL hSr
 go_enter Tryz.func22, Tryz.ntmps22
 have c0 := HD.out.blk.c 0 (by rfl : (rdA (.slice vfa cs.length vfc) va D)[0]? = some (.slice vfa cs.length vfc))
 refine wp_seq_k fun K1 hK1 => rgn ?_
 refine VlS (.int .i64 0) ?_
 refine WL.nil (hK1 _ _ ?_)
 refine wp_seq_k fun K2 hK2 => ?_
 refine wp_seq_k fun K3 hK3 => rgn ?_
 refine VlS (.int .i64 0) ?_
 refine WL.nil (hK3 _ _ ?_)
 refine wp_block ?_
 refine wp_loop (fun ac wr => ∃ (t : Nat), ac = apF (fun f => { tmps := #[.pointer (some ⟨x, 0, none⟩), .string n, undef, undef, f 4, .int .i64 (t : Int), f 6, f 7, f 8, f 9, f 10, f 11, f 12, f 13, f 14, f 15, f 16, f 17, f 18, f 19, f 20, f 21, f 22, f 23, f 24, f 25], defers := [] }) ac ∧ t ≤ cs.length ∧ wr = w ∧ ∀ f ∈ D.fs.take t, f.nm ≠ n) (fun a _ => cs.length - (intOf (a.tmps.getD 5 undef)).toNat) ⟨0, rfl, by omega, rfl, fun f hf => by simp at hf⟩ ?_
 rintro ac wr ⟨t, hac, ht, rfl, hF⟩
 obtain ⟨f, rfl⟩ := unF hac
 have JF := Keep.mk hF
 clear hF
 by_cases hlt : t < cs.length
 ·have hlt' : (t : Int) < (cs.length : Int) := by omega
  have hwt : IntKind.i64.wrap ((t : Int) + 1) = (t : Int) + 1 := by rw [IntKind.wrap_i64]; have := HL.out; omega
  obtain ⟨y, hy⟩ : ∃ y, cs[t]? = some y := ⟨cs[t], List.getElem?_eq_getElem hlt⟩
  obtain ⟨f_, hf_, hrc⟩ := HD.out.rcs.at hy
  obtain ⟨g, ha, hrg⟩ := HD.out.own.at hy
  subst ha
  obtain ⟨nx, hnx⟩ : ∃ nx, nx = y.nm := ⟨_, rfl⟩
  have c1 : wr.cell? ⟨g, t * 3, none⟩ = some (.string nx) := by have h := hrg 0 (.string y.nm) rfl; rw [hnx]; exact h
  have Hnm : Keep (nx = f_.nm) := ⟨by rw [hnx]; exact hrc.1⟩
  have Hf := Keep.mk hf_
  clear hnx hrc hrg hy hf_
  have cx := c0
  refine wp_seq_k fun K4 hK4 => ?_
  refine wp_seq_k fun K5 hK5 => rgn ?_
  refine VlS (.int .i64 (t : Int)) ?_
  refine VlS (.pointer (some ⟨x, 0, none⟩)) ?_
  refine VlS (.pointer (some ⟨x, 0, none⟩)) ?_
  refine VlS (.pointer (some ⟨x, 0, none⟩)) ?_
  refine VlS (.slice (some ⟨g, 0, none⟩) cs.length vfc) ?_
  refine VlS (.int .i64 (cs.length : Int)) ?_
  refine VbT ?_
  refine WL.nil (hK5 _ _ ?_)
  refine wp_cond_true rfl ?_
  refine wp_skip ?_
  refine hK4 _ _ ?_
  refine wp_seq_k fun K6 hK6 => ?_
  refine wp_block ?_
  refine wp_seq_k fun K7 hK7 => ?_
  rcases Bool.eq_false_or_eq_true (nx.toList == n.toList) with hbl | hbl
  ·skip
   refine rgn ?_
   refine VlS (.pointer (some ⟨x, 0, none⟩)) ?_
   refine VlS (.pointer (some ⟨x, 0, none⟩)) ?_
   refine VlS (.pointer (some ⟨x, 0, none⟩)) ?_
   refine VlS (.slice (some ⟨g, 0, none⟩) cs.length vfc) ?_
   refine VlS (.int .i64 (t : Int)) ?_
   refine VlS (.pointer (some ⟨g, t * 3, none⟩)) ?_
   refine VlS (.pointer (some ⟨g, t * 3, none⟩)) ?_
   refine VlS (.string nx) ?_
   refine VlS (.string n) ?_
   refine VbT ?_
   refine WL.nil (hK7 _ _ ?_)
   refine wp_cond_true rfl ?_
   refine wp_seq_k fun K8 hK8 => rgn ?_
   refine VlS (.int .i64 (t : Int)) ?_
   refine VlS (.int .i64 (t : Int)) ?_
   refine WL.nil (hK8 _ _ ?_)
   refine wp_ret ?_
   go_ret
   have e : f_.nm = n := by rw [← Hnm.out]; exact toList_ext (by simpa using hbl)
   have h := fnd_of D.fs 0 t f_ HSr.out Hf.out
   rw [e, Nat.zero_add] at h
   unfold fdI
   rw [h, if_pos rfl]
   exact ⟨rfl, rfl⟩
  ·skip
   refine rgn ?_
   refine VlS (.pointer (some ⟨x, 0, none⟩)) ?_
   refine VlS (.pointer (some ⟨x, 0, none⟩)) ?_
   refine VlS (.pointer (some ⟨x, 0, none⟩)) ?_
   refine VlS (.slice (some ⟨g, 0, none⟩) cs.length vfc) ?_
   refine VlS (.int .i64 (t : Int)) ?_
   refine VlS (.pointer (some ⟨g, t * 3, none⟩)) ?_
   refine VlS (.pointer (some ⟨g, t * 3, none⟩)) ?_
   refine VlS (.string nx) ?_
   refine VlS (.string n) ?_
   refine VbF ?_
   refine WL.nil (hK7 _ _ ?_)
   refine wp_cond_false rfl ?_
   refine wp_skip ?_
   refine hK6 _ _ ?_
   refine rgn ?_
   refine VlS (.int .i64 (t : Int)) ?_
   refine VlS (.int .i64 ((t : Int) + 1)) ?_
   refine VlS (.int .i64 ((t : Int) + 1)) ?_
   refine WL.nil ?_
   have hne : f_.nm ≠ n := fun e => by rw [← Hnm.out] at e; rw [e] at hbl; simp at hbl
   have h : ∀ f ∈ D.fs.take (t + 1), f.nm ≠ n := fun f hf => by
    rw [List.take_add_one, Hf.out] at hf
    rcases List.mem_append.1 hf with h | h
    ·exact JF.out f h
    ·simp at h; rw [h]; exact hne
   refine ⟨⟨t + 1, rfl, by omega, rfl, h⟩, ?_⟩
   simp only [intOf]; show cs.length - ((t : Int) + 1).toNat < cs.length - ((t : Int)).toNat; omega
 ·have hte : Keep (t = cs.length) := ⟨by omega⟩
  have hlt' : ¬ (t : Int) < (cs.length : Int) := by omega
  refine wp_seq_k fun K9 hK9 => ?_
  refine wp_seq_k fun K10 hK10 => rgn ?_
  refine VlS (.int .i64 (t : Int)) ?_
  refine VlS (.pointer (some ⟨x, 0, none⟩)) ?_
  refine VlS (.pointer (some ⟨x, 0, none⟩)) ?_
  refine VlS (.pointer (some ⟨x, 0, none⟩)) ?_
  refine VlS (.slice vfa cs.length vfc) ?_
  refine VlS (.int .i64 (cs.length : Int)) ?_
  refine VbF ?_
  refine WL.nil (hK10 _ _ ?_)
  refine wp_cond_false rfl ?_
  refine wp_exit ?_
  refine hK2 _ _ ?_
  refine wp_seq_k fun K11 hK11 => rgn ?_
  refine VlS (.int .i64 (-1)) ?_
  refine WL.nil (hK11 _ _ ?_)
  refine wp_ret ?_
  go_ret
  have h := JF.out
  rw [hte.out, List.take_of_length_le (by have := HD.out.rcs.len; omega)] at h
  unfold fdI
  rw [fnd_not D.fs n 0 h, if_neg (by simp)]
  exact ⟨rfl, rfl⟩
set_option maxRecDepth 8000 in
set_option maxHeartbeats 2000000 in
theorem rused_any (x : Nat) (vf va : Value) (cs : List FC) (ms : List AC) (D : DV) (w : World) (hD : RDAt w x vf va cs ms D) (hU : usd D.fs ≤ 1000000000000000) (hL : cs.length ≤ 1000000000000) : Calls Tryz.prog 24 #[ptr x] w fun e w' => e = .returned (.int .i64 (usd D.fs)) ∧ w' = w := by
 obtain ⟨vfa, vfc, rfl⟩ := hD.own.sl
 have HD := Keep.mk hD
 have HL := Keep.mk hL
 have HU := Keep.mk hU
 clear hD hL hU
 go_enter Tryz.func24, Tryz.ntmps24
 have c0 := HD.out.blk.c 0 (by rfl : (rdA (.slice vfa cs.length vfc) va D)[0]? = some (.slice vfa cs.length vfc))
 refine wp_seq_k fun K1 hK1 => rgn ?_
 refine VlS (.int .i64 0) ?_
 refine WL.nil (hK1 _ _ ?_)
 refine wp_seq_k fun K2 hK2 => rgn ?_
 refine VlS (.int .i64 0) ?_
 refine WL.nil (hK2 _ _ ?_)
 refine wp_seq_k fun K3 hK3 => ?_
 refine wp_seq_k fun K4 hK4 => rgn ?_
 refine VlS (.int .i64 0) ?_
 refine WL.nil (hK4 _ _ ?_)
 refine wp_block ?_
 refine wp_loop (fun ac wr => ∃ (t : Nat), ac = apF (fun f => { tmps := #[.pointer (some ⟨x, 0, none⟩), undef, .int .i64 0, .int .i64 (usd (D.fs.take t)), .int .i64 (t : Int), f 5, f 6, f 7, f 8, f 9, f 10, f 11, f 12, f 13, f 14, f 15, f 16, f 17, f 18, f 19, f 20, f 21, f 22, f 23, f 24, undef], defers := [] }) ac ∧ t ≤ cs.length ∧ wr = w) (fun a _ => cs.length - (intOf (a.tmps.getD 4 undef)).toNat) ⟨0, rfl, by omega, rfl⟩ ?_
 rintro ac wr ⟨t, hac, ht, rfl⟩
 obtain ⟨f, rfl⟩ := unF hac
 obtain ⟨z, hz⟩ : ∃ z, Keep (z = usd (D.fs.take t)) := ⟨_, ⟨rfl⟩⟩
 rw [← hz.out]
 by_cases hlt : t < cs.length
 ·have hlt' : (t : Int) < (cs.length : Int) := by omega
  have hwt : IntKind.i64.wrap ((t : Int) + 1) = (t : Int) + 1 := by rw [IntKind.wrap_i64]; have := HL.out; omega
  obtain ⟨y, hy⟩ : ∃ y, cs[t]? = some y := ⟨cs[t], List.getElem?_eq_getElem hlt⟩
  obtain ⟨f_, hf_, hrc⟩ := HD.out.rcs.at hy
  obtain ⟨g, ha, hrg⟩ := HD.out.own.at hy
  subst ha
  obtain ⟨ba, bc, hb⟩ := row_form hrc.2.2.1
  have c1 : wr.cell? ⟨g, t * 3 + 1, none⟩ = some (.slice ba f_.bs.length bc) := by have h := hrg 1 y.b rfl; rw [← hb]; exact h
  have Hs : Keep (z + (f_.bs.length : Int) = usd (D.fs.take (t + 1))) := ⟨by rw [List.take_add_one, hf_, usd_app, hz.out]; simp [usd]⟩
  have hws : IntKind.i64.wrap (z + (f_.bs.length : Int)) = z + (f_.bs.length : Int) := by rw [IntKind.wrap_i64]; have h1 := HU.out; have h2 := usd_take D.fs (t + 1); have h3 := usd_nonneg (D.fs.take (t + 1)); rw [← Hs.out] at h2 h3; omega
  clear hrc hrg hy hf_ hb
  have cx := c0
  refine wp_seq_k fun K5 hK5 => ?_
  refine wp_seq_k fun K6 hK6 => rgn ?_
  refine VlS (.int .i64 (t : Int)) ?_
  refine VlS (.pointer (some ⟨x, 0, none⟩)) ?_
  refine VlS (.pointer (some ⟨x, 0, none⟩)) ?_
  refine VlS (.pointer (some ⟨x, 0, none⟩)) ?_
  refine VlS (.slice (some ⟨g, 0, none⟩) cs.length vfc) ?_
  refine VlS (.int .i64 (cs.length : Int)) ?_
  refine VbT ?_
  refine WL.nil (hK6 _ _ ?_)
  refine wp_cond_true rfl ?_
  refine wp_skip ?_
  refine hK5 _ _ ?_
  refine wp_seq_k fun K7 hK7 => ?_
  refine wp_block ?_
  refine rgn ?_
  refine VlS (.int .i64 z) ?_
  refine VlS (.pointer (some ⟨x, 0, none⟩)) ?_
  refine VlS (.pointer (some ⟨x, 0, none⟩)) ?_
  refine VlS (.pointer (some ⟨x, 0, none⟩)) ?_
  refine VlS (.slice (some ⟨g, 0, none⟩) cs.length vfc) ?_
  refine VlS (.int .i64 (t : Int)) ?_
  refine VlS (.pointer (some ⟨g, t * 3, none⟩)) ?_
  refine VlS (.pointer (some ⟨g, t * 3 + 1, none⟩)) ?_
  refine VlS (.slice ba f_.bs.length bc) ?_
  refine VlS (.int .i64 (f_.bs.length : Int)) ?_
  refine VlS (.int .i64 (z + (f_.bs.length : Int))) ?_
  refine VlS (.int .i64 (z + (f_.bs.length : Int))) ?_
  refine WL.nil (hK7 _ _ ?_)
  refine rgn ?_
  refine VlS (.int .i64 (t : Int)) ?_
  refine VlS (.int .i64 ((t : Int) + 1)) ?_
  refine VlS (.int .i64 ((t : Int) + 1)) ?_
  refine WL.nil ?_
  rw [Hs.out]
  refine ⟨⟨t + 1, rfl, by omega, rfl⟩, ?_⟩
  simp only [intOf]; show cs.length - ((t : Int) + 1).toNat < cs.length - ((t : Int)).toNat; omega
 ·have hte : Keep (t = cs.length) := ⟨by omega⟩
  have hlt' : ¬ (t : Int) < (cs.length : Int) := by omega
  refine wp_seq_k fun K8 hK8 => ?_
  refine wp_seq_k fun K9 hK9 => rgn ?_
  refine VlS (.int .i64 (t : Int)) ?_
  refine VlS (.pointer (some ⟨x, 0, none⟩)) ?_
  refine VlS (.pointer (some ⟨x, 0, none⟩)) ?_
  refine VlS (.pointer (some ⟨x, 0, none⟩)) ?_
  refine VlS (.slice vfa cs.length vfc) ?_
  refine VlS (.int .i64 (cs.length : Int)) ?_
  refine VbF ?_
  refine WL.nil (hK9 _ _ ?_)
  refine wp_cond_false rfl ?_
  refine wp_exit ?_
  refine hK3 _ _ ?_
  refine wp_seq_k fun K10 hK10 => rgn ?_
  refine VlS (.int .i64 z) ?_
  refine VlS (.int .i64 z) ?_
  refine WL.nil (hK10 _ _ ?_)
  refine wp_ret ?_
  go_ret
  have h := hz.out
  rw [hte.out, List.take_of_length_le (by have := HD.out.rcs.len; omega)] at h
  rw [h]
  exact ⟨rfl, rfl⟩
theorem Tryz.in54 (w : World) (vs : Array Value) : (callFunc 54 vs).run Tryz.prog w = .ok (.enter 54 vs) w := by kernel_rfl
theorem Tryz.in20 (w : World) (vs : Array Value) : (callFunc 20 vs).run Tryz.prog w = .ok (.enter 20 vs) w := by kernel_rfl
theorem Tryz.in16 (w : World) (vs : Array Value) : (callFunc 16 vs).run Tryz.prog w = .ok (.enter 16 vs) w := by kernel_rfl
theorem Tryz.in53 (w : World) (vs : Array Value) : (callFunc 53 vs).run Tryz.prog w = .ok (.enter 53 vs) w := by kernel_rfl
theorem Tryz.in52 (w : World) (vs : Array Value) : (callFunc 52 vs).run Tryz.prog w = .ok (.enter 52 vs) w := by kernel_rfl
theorem Tryz.in51 (w : World) (vs : Array Value) : (callFunc 51 vs).run Tryz.prog w = .ok (.enter 51 vs) w := by kernel_rfl
theorem Tryz.in17 (w : World) (vs : Array Value) : (callFunc 17 vs).run Tryz.prog w = .ok (.enter 17 vs) w := by kernel_rfl
def jA (d : Nat) (vf : Value) (pr sz : Int) (la de : Bool) : Array Value := #[ptr d, vf, .int .i64 pr, .int .i64 sz, .bool la, .bool de]
theorem bsSE (w : World) : (Instr.buildSlice 85 0 #[]).run Tryz.prog w = .ok (.slice (some ⟨w.heap.size, 0, none⟩) 0 0) (w.alloc (.cells #[] 9)) := by kernel_rfl
theorem bsRE (w : World) : (Instr.buildSlice 31 0 #[]).run Tryz.prog w = .ok (.slice (some ⟨w.heap.size, 0, none⟩) 0 0) (w.alloc (.cells #[] 40)) := by kernel_rfl
theorem j_built (d : Nat) : Tryz.prog.built 92 [(0, ptr d), (2, .int .i64 (-1))] = some (jA d (.slice none 0 0) (-1) 0 false false) := by kernel_rfl
set_option maxRecDepth 8000 in
theorem told_ok (g : Nat) (e : Int) (he : ¬ e = 7) (w : World) : Calls Tryz.prog 54 #[ptr g, .int .i64 e] w fun r w' => r = .returned (.int .i64 e) ∧ w' = w := by
 go_enter Tryz.func54, Tryz.ntmps54
 refine wp_seq_k fun K1 hK1 => rgn ?_
 refine VlS (.int .i64 0) ?_
 refine WL.nil (hK1 _ _ ?_)
 refine wp_seq_k fun K2 hK2 => ?_
 refine wp_seq_k fun K3 hK3 => rgn ?_
 refine VlS (.int .i64 e) ?_
 refine VbF ?_
 refine WL.nil (hK3 _ _ ?_)
 refine wp_cond_false rfl ?_
 refine wp_skip ?_
 refine hK2 _ _ ?_
 refine wp_seq_k fun K4 hK4 => rgn ?_
 refine VlS (.int .i64 e) ?_
 refine VlS (.int .i64 e) ?_
 refine WL.nil (hK4 _ _ ?_)
 refine wp_ret ?_
 go_ret
 exact ⟨rfl, rfl⟩
set_option maxRecDepth 8000 in
theorem len_any (g : Nat) (va : Option Addr) (n vc : Nat) (w : World) (c1 : w.cell? ⟨g, 1, none⟩ = some (.slice va n vc)) : Calls Tryz.prog 20 #[ptr g] w fun r w' => r = .returned (.int .i64 (n : Int)) ∧ w' = w := by
 go_enter Tryz.func20, Tryz.ntmps20
 refine wp_seq_k fun K1 hK1 => rgn ?_
 refine VlS (.int .i64 0) ?_
 refine WL.nil (hK1 _ _ ?_)
 refine wp_seq_k fun K2 hK2 => rgn ?_
 refine VlS (.pointer (some ⟨g, 0, none⟩)) ?_
 refine VlS (.pointer (some ⟨g, 0, none⟩)) ?_
 refine VlS (.pointer (some ⟨g, 1, none⟩)) ?_
 refine VlS (.slice va n vc) ?_
 refine VlS (.int .i64 (n : Int)) ?_
 refine VlS (.int .i64 (n : Int)) ?_
 refine WL.nil (hK2 _ _ ?_)
 refine wp_ret ?_
 go_ret
 exact ⟨rfl, rfl⟩
set_option maxRecDepth 8000 in
theorem acts_any (h p : Nat) (n : Int) (w : World) (c0 : w.cell? ⟨h, 0, none⟩ = some (ptr p)) (c5 : w.cell? ⟨p, 5, none⟩ = some (.int .i64 n)) : Calls Tryz.prog 16 #[ptr h] w fun r w' => r = .returned (.int .i64 n) ∧ w' = w := by
 go_enter Tryz.func16, Tryz.ntmps16
 refine wp_seq_k fun K1 hK1 => rgn ?_
 refine VlS (.int .i64 0) ?_
 refine WL.nil (hK1 _ _ ?_)
 refine wp_seq_k fun K2 hK2 => rgn ?_
 refine VlS (.pointer (some ⟨h, 0, none⟩)) ?_
 refine VlS (.pointer (some ⟨h, 0, none⟩)) ?_
 refine VlS (.pointer (some ⟨h, 0, none⟩)) ?_
 refine VlS (.pointer (some ⟨p, 0, none⟩)) ?_
 refine VlS (.pointer (some ⟨p, 0, none⟩)) ?_
 refine VlS (.pointer (some ⟨p, 5, none⟩)) ?_
 refine VlS (.int .i64 n) ?_
 refine VlS (.int .i64 n) ?_
 refine WL.nil (hK2 _ _ ?_)
 refine wp_ret ?_
 go_ret
 exact ⟨rfl, rfl⟩
set_option maxRecDepth 8000 in
theorem names_none (d p : Nat) (w : World) (cd : w.cell? ⟨d, 0, none⟩ = some (ptr p)) (c4 : w.cell? ⟨p, 4, none⟩ = some (.bool false)) (c0 : w.cell? ⟨p, 0, none⟩ = some (.slice none 0 0)) : Calls Tryz.prog 44 #[ptr d] w fun r w' => ∃ g, r = .returned (.tuple #[.slice (some ⟨g, 0, none⟩) 0 0, .int .i64 0]) ∧ Below w.heap.size w w' := by
 go_enter Tryz.func44, Tryz.ntmps44
 refine wp_seq_k fun K1 hK1 => rgn ?_
 refine VlS (.slice none 0 0) ?_
 refine VlS (.int .i64 0) ?_
 refine WL.nil (hK1 _ _ ?_)
 refine wp_seq_k fun K2 hK2 => rgn ?_
 refine VlS (.pointer (some ⟨d, 0, none⟩)) ?_
 refine VlS (.pointer (some ⟨d, 0, none⟩)) ?_
 refine VlS (.pointer (some ⟨d, 0, none⟩)) ?_
 refine VlS (.pointer (some ⟨p, 0, none⟩)) ?_
 refine VlS (.pointer (some ⟨p, 0, none⟩)) ?_
 refine WL.nil (hK2 _ _ ?_)
 refine wp_seq_k fun K3 hK3 => ?_
 refine wp_seq_k fun K4 hK4 => rgn ?_
 refine VlS (.pointer (some ⟨p, 0, none⟩)) ?_
 refine VlS (.pointer (some ⟨p, 0, none⟩)) ?_
 refine VlS (.pointer (some ⟨p, 4, none⟩)) ?_
 refine VbF ?_
 refine WL.nil (hK4 _ _ ?_)
 refine wp_cond_false rfl ?_
 refine wp_skip ?_
 refine hK3 _ _ ?_
 refine wp_seq_k fun K5 hK5 => rgn ?_
 refine WL.bs (by kernel_rfl) 85 0 _ rfl #[] (by simp) _ _ (bsSE w) ?_
 have c0' : (w.alloc (.cells #[] 9)).cell? ⟨p, 0, none⟩ = some (.slice none 0 0) := by rw [World.cell?_alloc_lt _ _ _ (cell_lt c0)]; exact c0
 have B1 := Keep.mk (below_new w (.cells #[] 9))
 clear c0 c4 cd
 generalize w.alloc (.cells #[] 9) = w1 at *
 generalize w.heap.size = g1 at *
 simp only [Act.put, pqA, pqB, pqC]
 refine VlS (.slice (some ⟨g1, 0, none⟩) 0 0) ?_
 refine WL.nil (hK5 _ _ ?_)
 refine wp_seq_k fun K6 hK6 => ?_
 refine wp_seq_k fun K7 hK7 => rgn ?_
 refine VlS (.pointer (some ⟨p, 0, none⟩)) ?_
 refine VlS (.pointer (some ⟨p, 0, none⟩)) ?_
 refine VlS (.pointer (some ⟨p, 0, none⟩)) ?_
 refine VlS (.slice none 0 0) ?_
 refine VlS (.int .i64 0) ?_
 refine VlS (.int .i64 0) ?_
 refine WL.nil (hK7 _ _ ?_)
 refine wp_block ?_
 refine wp_loop (fun ac wr => ac = { tmps := #[.pointer (some ⟨d, 0, none⟩), undef, .slice none 0 0, .int .i64 0, .pointer (some ⟨p, 0, none⟩), .slice (some ⟨g1, 0, none⟩) 0 0, undef, undef, .pointer (some ⟨d, 0, none⟩), .pointer (some ⟨d, 0, none⟩), .pointer (some ⟨d, 0, none⟩), .pointer (some ⟨p, 0, none⟩), .pointer (some ⟨p, 0, none⟩), .pointer (some ⟨p, 0, none⟩), .pointer (some ⟨p, 4, none⟩), .bool false, .slice (some ⟨g1, 0, none⟩) 0 0, .pointer (some ⟨p, 0, none⟩), .pointer (some ⟨p, 0, none⟩), .pointer (some ⟨p, 0, none⟩), .slice none 0 0, .int .i64 0, .int .i64 0, undef, undef, undef, undef, undef, undef, undef, undef, undef, undef], defers := [] } ∧ wr = w1) (fun _ _ => 0) ⟨rfl, rfl⟩ ?_
 rintro ac wr ⟨rfl, rfl⟩
 refine wp_seq_k fun K8 hK8 => rgn ?_
 refine VbF ?_
 refine WL.nil (hK8 _ _ ?_)
 refine wp_seq_k fun K9 hK9 => ?_
 refine wp_cond_false rfl ?_
 refine wp_exit ?_
 refine hK6 _ _ ?_
 refine wp_seq_k fun K10 hK10 => rgn ?_
 refine VlS (.slice (some ⟨g1, 0, none⟩) 0 0) ?_
 refine VlS (.slice (some ⟨g1, 0, none⟩) 0 0) ?_
 refine VlS (.int .i64 0) ?_
 refine WL.nil (hK10 _ _ ?_)
 refine wp_ret ?_
 go_ret2
 exact ⟨g1, rfl, B1.out⟩
theorem Tryz.in60 (w : World) (vs : Array Value) : (callFunc 60 vs).run Tryz.prog w = .ok (.enter 60 vs) w := by kernel_rfl
theorem bcell {B : Nat} {a b : World} (h : Below B a b) {k j : Nat} {v : Value} (hk : k < B ∧ a.cell? ⟨k, j, none⟩ = some v) : b.cell? ⟨k, j, none⟩ = some v := by
 have : b.cell? ⟨k, j, none⟩ = a.cell? ⟨k, j, none⟩ := by simp only [World.cell?, h.block k hk.1]
 rw [this]; exact hk.2
set_option maxRecDepth 8000 in
theorem mend_none (g ng : Nat) (w : World) (hT : Tab w) (c2 : w.cell? ⟨g, 2, none⟩ = some (.int .i64 (-1))) : Calls Tryz.prog 52 #[ptr g, .slice (some ⟨ng, 0, none⟩) 0 0, .bool false] w fun r w' => r = .returned (.int .i64 0) ∧ Below w.heap.size w w' := by
 have HT := Keep.mk hT
 have HC : Keep (g < w.heap.size ∧ w.cell? ⟨g, 2, none⟩ = some (.int .i64 (-1))) := ⟨cell_lt c2, c2⟩
 have HZ : Keep (0 < w.heap.size) := ⟨Nat.lt_of_le_of_lt (Nat.zero_le _) (cell_lt c2)⟩
 clear hT c2
 go_enter Tryz.func52, Tryz.ntmps52
 refine wp_seq_k fun K1 hK1 => rgn ?_
 refine VlS (.int .i64 0) ?_
 refine WL.nil (hK1 _ _ ?_)
 refine wp_seq_k fun K2 hK2 => ?_
 refine wp_seq_k fun K3 hK3 => rgn ?_
 refine VlS (.int .i64 255) ?_
 refine WL.nil (hK3 _ _ ?_)
 refine wp_block ?_
 refine wp_loop (fun ac wr => ∃ (t : Nat), ac = apF (fun f => { tmps := #[.pointer (some ⟨g, 0, none⟩), .slice (some ⟨ng, 0, none⟩) 0 0, .bool false, undef, undef, undef, f 6, .int .i64 (255 - (t : Int)), f 8, undef, f 10, f 11, f 12, f 13, f 14, f 15, f 16, f 17, f 18, f 19, f 20, f 21, f 22, f 23, f 24, f 25, f 26, f 27, f 28, f 29, f 30, f 31, f 32, undef, undef, undef, undef, undef, undef, undef, undef, undef, undef, undef, undef, undef, undef, undef, undef, undef, undef, undef, undef, undef, undef, undef, undef, undef, undef, undef, undef, undef, undef, undef, undef, undef], defers := [] }) ac ∧ t ≤ 256 ∧ Below w.heap.size w wr) (fun a _ => (intOf (a.tmps.getD 7 undef) + 1).toNat) ⟨0, rfl, by omega, Below.refl _ _⟩ ?_
 rintro ac wr ⟨t, hac, ht, hB⟩
 obtain ⟨f, rfl⟩ := unF hac
 have JB := Keep.mk hB
 clear hB
 have c2 : wr.cell? ⟨g, 2, none⟩ = some (.int .i64 (-1)) := bcell JB.out HC.out
 have JT : Keep (Tab wr) := ⟨HT.out.below JB.out HZ.out⟩
 by_cases hlt : t < 256
 ·obtain ⟨k, hk⟩ : ∃ k : Nat, Keep (255 - (t : Int) = (k : Int) ∧ k < 10000) := ⟨255 - t, ⟨by omega, by omega⟩⟩
  rw [hk.out.1]
  have hgt : (-1 : Int) < (k : Int) := by omega
  have hwk : IntKind.i64.wrap ((k : Int) - 1) = (k : Int) - 1 := by rw [IntKind.wrap_i64]; have := hk.out; omega
  refine wp_seq_k fun K4 hK4 => ?_
  refine wp_seq_k fun K5 hK5 => rgn ?_
  refine VlS (.int .i64 (k : Int)) ?_
  refine VlS (.pointer (some ⟨g, 0, none⟩)) ?_
  refine VlS (.pointer (some ⟨g, 0, none⟩)) ?_
  refine VlS (.pointer (some ⟨g, 2, none⟩)) ?_
  refine VlS (.int .i64 (-1)) ?_
  refine VbT ?_
  refine WL.nil (hK5 _ _ ?_)
  refine wp_cond_true rfl ?_
  refine wp_skip ?_
  refine hK4 _ _ ?_
  refine wp_seq_k fun K6 hK6 => ?_
  refine wp_block ?_
  refine wp_seq_k fun K7 hK7 => ?_
  refine wp_seq_k fun K8 hK8 => rgn ?_
  refine VlS (.slice (some ⟨ng, 0, none⟩) 0 0) ?_
  refine VlS (.int .i64 (k : Int)) ?_
  refine WL.callF (by kernel_rfl) 55 _ _ rfl Tryz.in55 #[.int .i64 (k : Int)] (by simp [Act.eval]) ?_
  refine (name_any k hk.out.2 wr JT.out).mono ?_
  rintro e w1 ⟨rfl, hb1⟩
  refine ⟨_, rfl, ?_⟩
  have B1 : Keep (Below w.heap.size w w1) := ⟨JB.out.trans (hb1.mono JB.out.size)⟩
  clear hb1 c2
  obtain ⟨nn, hnn⟩ : ∃ s, Keep (s = nmS k) := ⟨_, ⟨rfl⟩⟩
  rw [← hnn.out]
  simp only [Act.put, pqA, pqB, pqC]
  refine WL.callF (by kernel_rfl) 60 _ _ rfl Tryz.in60 #[.slice (some ⟨ng, 0, none⟩) 0 0, .string nn] (by simp [Act.eval]) ?_
  refine (Tryz.slices_Contains_string_empty _ _ _ w1).mono ?_
  rintro e w2 ⟨rfl, hw⟩
  refine ⟨_, rfl, ?_⟩
  subst hw
  simp only [Act.put, pqA, pqB, pqC]
  refine VbT ?_
  refine WL.nil (hK8 _ _ ?_)
  refine wp_cond_true rfl ?_
  refine wp_exit ?_
  refine hK6 _ _ ?_
  refine rgn ?_
  refine VlS (.int .i64 (k : Int)) ?_
  refine VlS (.int .i64 ((k : Int) - 1)) ?_
  refine VlS (.int .i64 ((k : Int) - 1)) ?_
  refine WL.nil ?_
  refine ⟨⟨t + 1, ?_, by omega, B1.out⟩, ?_⟩
  ·have e : (255 : Int) - ((t + 1 : Nat) : Int) = (k : Int) - 1 := by have := hk.out.1; omega
   rw [e]; rfl
  ·simp only [intOf]; show ((k : Int) - 1 + 1).toNat < ((k : Int) + 1).toNat; omega
 ·have e : (255 : Int) - (t : Int) = -1 := by omega
  rw [e]
  refine wp_seq_k fun K9 hK9 => ?_
  refine wp_seq_k fun K10 hK10 => rgn ?_
  refine VlS (.int .i64 (-1)) ?_
  refine VlS (.pointer (some ⟨g, 0, none⟩)) ?_
  refine VlS (.pointer (some ⟨g, 0, none⟩)) ?_
  refine VlS (.pointer (some ⟨g, 2, none⟩)) ?_
  refine VlS (.int .i64 (-1)) ?_
  refine VbF ?_
  refine WL.nil (hK10 _ _ ?_)
  refine wp_cond_false rfl ?_
  refine wp_exit ?_
  refine hK2 _ _ ?_
  refine wp_seq_k fun K11 hK11 => ?_
  refine wp_seq_k fun K12 hK12 => rgn ?_
  refine VbF ?_
  refine WL.nil (hK12 _ _ ?_)
  refine wp_cond_false rfl ?_
  refine wp_skip ?_
  refine hK11 _ _ ?_
  refine wp_seq_k fun K13 hK13 => ?_
  refine wp_seq_k fun K14 hK14 => rgn ?_
  refine VlS (.pointer (some ⟨g, 0, none⟩)) ?_
  refine VlS (.pointer (some ⟨g, 0, none⟩)) ?_
  refine VlS (.pointer (some ⟨g, 2, none⟩)) ?_
  refine VlS (.int .i64 (-1)) ?_
  refine VbT ?_
  refine WL.nil (hK14 _ _ ?_)
  refine wp_cond_true rfl ?_
  refine wp_seq_k fun K15 hK15 => rgn ?_
  refine VlS (.int .i64 0) ?_
  refine WL.nil (hK15 _ _ ?_)
  refine wp_ret ?_
  go_ret
  exact ⟨rfl, JB.out⟩
set_option maxRecDepth 8000 in
theorem read_none (g ng : Nat) (w : World) (hT : Tab w) (hg : 0 < w.heap.size) : Calls Tryz.prog 51 #[ptr g, .slice (some ⟨ng, 0, none⟩) 0 0] w fun r w' => ∃ pg, r = .returned (.tuple #[.slice (some ⟨pg, 0, none⟩) 0 0, .bool false, .int .i64 0]) ∧ Below w.heap.size w w' := by
 have HT := Keep.mk hT
 have HZ := Keep.mk hg
 clear hT hg
 go_enter Tryz.func51, Tryz.ntmps51
 refine wp_seq_k fun K1 hK1 => rgn ?_
 refine VlS (.slice none 0 0) ?_
 refine VbF ?_
 refine VlS (.int .i64 0) ?_
 refine WL.nil (hK1 _ _ ?_)
 refine wp_scope_straight ?_
 refine wp_seq_k fun K2 hK2 => rgn ?_
 refine WL.bs (by kernel_rfl) 31 0 _ rfl #[] (by simp) _ _ (bsRE w) ?_
 have B1 := Keep.mk (below_new w (.cells #[] 40))
 have HT1 : Keep (Tab (w.alloc (.cells #[] 40))) := ⟨HT.out.below B1.out HZ.out⟩
 clear HT
 generalize w.alloc (.cells #[] 40) = w1 at *
 obtain ⟨pg, hpg⟩ : ∃ p, Keep (p = w.heap.size) := ⟨_, ⟨rfl⟩⟩
 rw [← hpg.out]
 simp only [Act.put, pqA, pqB, pqC]
 refine VlS (.slice (some ⟨pg, 0, none⟩) 0 0) ?_
 refine WL.nil (hK2 _ _ ?_)
 refine wp_seq_k fun K3 hK3 => rgn ?_
 refine VbF ?_
 refine WL.nil (hK3 _ _ ?_)
 refine wp_seq_k fun K4 hK4 => ?_
 refine wp_label ?_
 refine hK4 _ _ ?_
 refine wp_seq_k fun K5 hK5 => ?_
 refine wp_seq_k fun K6 hK6 => rgn ?_
 refine VlS (.int .i64 0) ?_
 refine WL.nil (hK6 _ _ ?_)
 refine wp_block ?_
 refine wp_loop (fun ac wr => ac = { tmps := #[.pointer (some ⟨g, 0, none⟩), .slice (some ⟨ng, 0, none⟩) 0 0, undef, undef, .slice none 0 0, .bool false, .int .i64 0, .slice (some ⟨pg, 0, none⟩) 0 0, .bool false, undef, undef, undef, undef, .slice (some ⟨pg, 0, none⟩) 0 0, .int .i64 0, undef, undef, undef, undef, undef, undef, undef, undef, undef, undef, undef, undef, undef, undef, undef, undef, undef, undef, undef, undef, undef, undef, undef, undef, undef, undef, undef, undef, undef, undef, undef, undef, undef, undef, undef, undef, undef, undef, undef, undef, undef, undef, undef, undef, undef, undef, undef, undef, undef, undef, undef, undef, undef, undef, undef, undef, undef, undef, undef, undef, undef, undef, undef, undef, undef, undef, undef, undef, undef, undef, undef, undef], defers := [] } ∧ w1 = wr) (fun _ _ => 0) ⟨rfl, rfl⟩ ?_
 rintro ac wr ⟨rfl, rfl⟩
 refine wp_seq_k fun K7 hK7 => rgn ?_
 refine VbT ?_
 refine WL.nil (hK7 _ _ ?_)
 refine wp_seq_k fun K8 hK8 => ?_
 refine wp_cond_true rfl ?_
 refine wp_skip ?_
 refine hK8 _ _ ?_
 refine wp_seq_k fun K9 hK9 => ?_
 refine wp_block ?_
 refine wp_seq_k fun K10 hK10 => rgn ?_
 refine VlS (.int .i64 0) ?_
 refine VlS (.int .i64 0) ?_
 refine WL.nil (hK10 _ _ ?_)
 refine wp_seq_k fun K11 hK11 => ?_
 refine wp_seq_k fun K12 hK12 => rgn ?_
 refine VlS (.slice (some ⟨ng, 0, none⟩) 0 0) ?_
 refine VlS (.int .i64 0) ?_
 refine WL.callF (by kernel_rfl) 55 _ _ rfl Tryz.in55 #[.int .i64 ((0 : Nat) : Int)] (by simp [Act.eval]) ?_
 refine (name_any 0 (by omega) w1 HT1.out).mono ?_
 rintro e w2 ⟨rfl, hb1⟩
 refine ⟨_, rfl, ?_⟩
 have B2 : Keep (Below w.heap.size w w2) := ⟨B1.out.trans (hb1.mono B1.out.size)⟩
 clear hb1
 obtain ⟨nn, hnn⟩ : ∃ s, Keep (s = nmS 0) := ⟨_, ⟨rfl⟩⟩
 rw [← hnn.out]
 simp only [Act.put, pqA, pqB, pqC]
 refine WL.callF (by kernel_rfl) 60 _ _ rfl Tryz.in60 #[.slice (some ⟨ng, 0, none⟩) 0 0, .string nn] (by simp [Act.eval]) ?_
 refine (Tryz.slices_Contains_string_empty _ _ _ w2).mono ?_
 rintro e w3 ⟨rfl, hw⟩
 refine ⟨_, rfl, ?_⟩
 subst hw
 simp only [Act.put, pqA, pqB, pqC]
 refine VbT ?_
 refine WL.nil (hK12 _ _ ?_)
 refine wp_cond_true rfl ?_
 refine wp_exit ?_
 refine hK5 _ _ ?_
 refine wp_seq_k fun K13 hK13 => rgn ?_
 refine VlS (.slice (some ⟨pg, 0, none⟩) 0 0) ?_
 refine VbF ?_
 refine VlS (.slice (some ⟨pg, 0, none⟩) 0 0) ?_
 refine VbF ?_
 refine VlS (.int .i64 0) ?_
 refine WL.nil (hK13 _ _ ?_)
 refine wp_ret ?_
 try rw [Exit.noGoto_ret]
 go_ret3
 exact ⟨pg, rfl, B2.out⟩
set_option maxRecDepth 8000 in
theorem open_none (d p : Nat) (w : World) (hT : Tab w) (cd : w.cell? ⟨d, 0, none⟩ = some (ptr p)) (c4 : w.cell? ⟨p, 4, none⟩ = some (.bool false)) (c0 : w.cell? ⟨p, 0, none⟩ = some (.slice none 0 0)) : Calls Tryz.prog 17 #[ptr d] w fun r w' => ∃ g pg, r = .returned (.tuple #[ptr g, .slice (some ⟨pg, 0, none⟩) 0 0, .int .i64 0]) ∧ Blk w' g 92 (jA d (.slice none 0 0) (-1) 0 false false) ∧ w.heap.size ≤ g ∧ Below w.heap.size w w' := by
 have HT := Keep.mk hT
 have HZ : Keep (0 < w.heap.size) := ⟨Nat.lt_of_le_of_lt (Nat.zero_le _) (cell_lt cd)⟩
 clear hT
 go_enter Tryz.func17, Tryz.ntmps17
 refine wp_seq_k fun K1 hK1 => rgn ?_
 refine VlS (.pointer none) ?_
 refine VlS (.slice none 0 0) ?_
 refine VlS (.int .i64 0) ?_
 refine WL.nil (hK1 _ _ ?_)
 refine wp_seq_k fun K2 hK2 => ?_
 refine wp_seq_k fun K3 hK3 => rgn ?_
 refine VlS (.pointer (some ⟨d, 0, none⟩)) ?_
 refine VbF ?_
 refine WL.nil (hK3 _ _ ?_)
 refine wp_cond_false rfl ?_
 refine wp_skip ?_
 refine hK2 _ _ ?_
 refine wp_seq_k fun K4 hK4 => rgn ?_
 refine VlS (.pointer (some ⟨d, 0, none⟩)) ?_
 refine WL.callF (by kernel_rfl) 44 _ _ rfl Tryz.in44 #[.pointer (some ⟨d, 0, none⟩)] (by simp [Act.eval]) ?_
 refine (names_none d p w cd c4 c0).mono ?_
 rintro e w1 ⟨ng, rfl, hb1⟩
 refine ⟨_, rfl, ?_⟩
 have B1 := Keep.mk hb1
 have HT1 : Keep (Tab w1) := ⟨HT.out.below hb1 HZ.out⟩
 clear hb1 cd c4 c0 HT
 simp only [Act.put, pqA, pqB, pqC]
 refine VlS (.tuple #[.slice (some ⟨ng, 0, none⟩) 0 0, .int .i64 0]) ?_
 refine VlS (.slice (some ⟨ng, 0, none⟩) 0 0) ?_
 refine VlS (.int .i64 0) ?_
 refine VlS (.slice (some ⟨ng, 0, none⟩) 0 0) ?_
 refine VlS (.int .i64 0) ?_
 refine WL.nil (hK4 _ _ ?_)
 refine wp_seq_k fun K5 hK5 => ?_
 refine wp_seq_k fun K6 hK6 => rgn ?_
 refine VlS (.int .i64 0) ?_
 refine VbF ?_
 refine WL.nil (hK6 _ _ ?_)
 refine wp_cond_false rfl ?_
 refine wp_skip ?_
 refine hK5 _ _ ?_
 refine wp_seq_k fun K7 hK7 => rgn ?_
 refine VlS (.pointer (some ⟨d, 0, none⟩)) ?_
 refine WL.bld (by kernel_rfl) 92 _ rfl [(0, ptr d), (2, .int .i64 (-1))] (by simp [Act.eval]) _ (j_built _) ?_
 simp only [Act.put, pqA, pqB, pqC]
 refine WL.box (by kernel_rfl) 92 (.tmp 22) rfl _ rfl ?_
 have HJ := Keep.mk (Blk.new w1 92 (jA d (.slice none 0 0) (-1) 0 false false))
 have hbx := below_new w1 (.cells (jA d (.slice none 0 0) (-1) 0 false false) 92)
 have B2 : Keep (Below w.heap.size w (w1.alloc (.cells (jA d (.slice none 0 0) (-1) 0 false false) 92))) := ⟨B1.out.trans (hbx.mono B1.out.size)⟩
 have HT2 : Keep (Tab (w1.alloc (.cells (jA d (.slice none 0 0) (-1) 0 false false) 92))) := ⟨HT1.out.below hbx (Nat.lt_of_lt_of_le HZ.out B1.out.size)⟩
 clear hbx HT1
 generalize w1.alloc (.cells (jA d (.slice none 0 0) (-1) 0 false false) 92) = w2 at *
 obtain ⟨g, hg⟩ : ∃ p, Keep (p = w1.heap.size) := ⟨_, ⟨rfl⟩⟩
 rw [← hg.out] at HJ ⊢
 have hlt2 : Keep (g < w2.heap.size ∧ w.heap.size ≤ g) := ⟨HJ.out.lt, by rw [hg.out]; exact B1.out.size⟩
 simp only [Act.put, pqA, pqB, pqC]
 refine VlS (.pointer (some ⟨g, 0, none⟩)) ?_
 refine WL.nil (hK7 _ _ ?_)
 refine wp_seq_k fun K8 hK8 => rgn ?_
 refine VlS (.pointer (some ⟨g, 0, none⟩)) ?_
 refine VlS (.slice (some ⟨ng, 0, none⟩) 0 0) ?_
 refine WL.callF (by kernel_rfl) 51 _ _ rfl Tryz.in51 #[ptr g, .slice (some ⟨ng, 0, none⟩) 0 0] (by simp [Act.eval]) ?_
 refine (read_none g ng w2 HT2.out (Nat.lt_of_le_of_lt (Nat.zero_le _) hlt2.out.1)).mono ?_
 rintro e w3 ⟨pg, rfl, hb3⟩
 refine ⟨_, rfl, ?_⟩
 have B3 : Keep (Below w.heap.size w w3) := ⟨B2.out.trans (hb3.mono B2.out.size)⟩
 have HJ3 := Keep.mk (HJ.out.below hb3 hlt2.out.1)
 have HT3 : Keep (Tab w3) := ⟨HT2.out.below hb3 (Nat.lt_of_le_of_lt (Nat.zero_le _) hlt2.out.1)⟩
 clear hb3 HT2 HJ
 simp only [Act.put, pqA, pqB, pqC]
 refine VlS (.tuple #[.slice (some ⟨pg, 0, none⟩) 0 0, .bool false, .int .i64 0]) ?_
 refine VlS (.slice (some ⟨pg, 0, none⟩) 0 0) ?_
 refine VbF ?_
 refine VlS (.int .i64 0) ?_
 refine VlS (.slice (some ⟨pg, 0, none⟩) 0 0) ?_
 refine VbF ?_
 refine VlS (.int .i64 0) ?_
 refine WL.nil (hK8 _ _ ?_)
 refine wp_seq_k fun K9 hK9 => ?_
 refine wp_seq_k fun K10 hK10 => rgn ?_
 refine VlS (.int .i64 0) ?_
 refine VbF ?_
 refine WL.nil (hK10 _ _ ?_)
 refine wp_cond_false rfl ?_
 refine wp_skip ?_
 refine hK9 _ _ ?_
 refine wp_seq_k fun K11 hK11 => ?_
 refine wp_seq_k fun K12 hK12 => rgn ?_
 refine VlS (.pointer (some ⟨g, 0, none⟩)) ?_
 refine VlS (.slice (some ⟨ng, 0, none⟩) 0 0) ?_
 refine VbF ?_
 refine WL.callF (by kernel_rfl) 52 _ _ rfl Tryz.in52 #[ptr g, .slice (some ⟨ng, 0, none⟩) 0 0, .bool false] (by simp [Act.eval]) ?_
 refine (mend_none g ng w3 HT3.out (HJ3.out.c 2 rfl)).mono ?_
 rintro e w4 ⟨rfl, hb4⟩
 refine ⟨_, rfl, ?_⟩
 have B4 : Keep (Below w.heap.size w w4) := ⟨B3.out.trans (hb4.mono B3.out.size)⟩
 have HJ4 := Keep.mk (HJ3.out.below hb4 HJ3.out.lt)
 clear hb4 HT3 HJ3
 simp only [Act.put, pqA, pqB, pqC]
 refine VlS (.int .i64 0) ?_
 refine WL.nil (hK12 _ _ ?_)
 refine wp_seq_k fun K13 hK13 => rgn ?_
 refine VlS (.int .i64 0) ?_
 refine VbF ?_
 refine WL.nil (hK13 _ _ ?_)
 refine wp_cond_false rfl ?_
 refine wp_skip ?_
 refine hK11 _ _ ?_
 refine wp_seq_k fun K14 hK14 => rgn ?_
 refine VlS (.pointer (some ⟨g, 0, none⟩)) ?_
 refine VlS (.slice (some ⟨pg, 0, none⟩) 0 0) ?_
 refine VlS (.pointer (some ⟨g, 0, none⟩)) ?_
 refine VlS (.slice (some ⟨pg, 0, none⟩) 0 0) ?_
 refine VlS (.int .i64 0) ?_
 refine WL.nil (hK14 _ _ ?_)
 refine wp_ret ?_
 go_ret3
 exact ⟨g, pg, rfl, HJ4.out, hlt2.out.2, B4.out⟩
theorem Tryz.newPl (w : World) : (Instr.alloc 97 true (.tuple #[])).run Tryz.prog w = .ok (.pointer (some ⟨w.heap.size, 0, none⟩)) (w.alloc (.cells #[.int .i64 0, .int .i64 0] 97)) := by kernel_rfl
set_option maxRecDepth 8000 in
theorem next_none (g : Nat) (n : Int) (w : World) (c2 : w.cell? ⟨g, 2, none⟩ = some (.int .i64 (-1))) : Calls Tryz.prog 53 #[ptr g, .int .i64 n] w fun r w' => r = .returned (.agg #[.int .i64 0, .int .i64 0]) ∧ Below w.heap.size w w' := by
 go_enter Tryz.func53, Tryz.ntmps53
 refine wp_seq_k fun K1 hK1 => rgn ?_
 refine WL.new (by kernel_rfl) 97 rfl _ Tryz.newPl ?_
 have HP := Keep.mk (Blk.new w 97 #[.int .i64 0, .int .i64 0])
 have B1 := Keep.mk (below_new w (.cells #[.int .i64 0, .int .i64 0] 97))
 have c2' : (w.alloc (.cells #[.int .i64 0, .int .i64 0] 97)).cell? ⟨g, 2, none⟩ = some (.int .i64 (-1)) := by rw [World.cell?_alloc_lt _ _ _ (cell_lt c2)]; exact c2
 clear c2
 have hw0 : IntKind.i64.wrap 0 = 0 := by rw [IntKind.wrap_i64]; rfl
 generalize w.alloc (.cells #[.int .i64 0, .int .i64 0] 97) = w1 at *
 obtain ⟨q, hq⟩ : ∃ p, Keep (p = w.heap.size) := ⟨_, ⟨rfl⟩⟩
 rw [← hq.out] at HP ⊢
 simp only [Act.put, pqA, pqB, pqC]
 refine WL.nil (hK1 _ _ ?_)
 refine wp_seq_k fun K2 hK2 => ?_
 refine wp_seq_k fun K3 hK3 => rgn ?_
 refine VlS (.pointer (some ⟨g, 0, none⟩)) ?_
 refine VlS (.pointer (some ⟨g, 0, none⟩)) ?_
 refine VlS (.pointer (some ⟨g, 2, none⟩)) ?_
 refine VlS (.int .i64 (-1)) ?_
 refine VbT ?_
 refine VbT ?_
 refine SkS ?_
 refine SkS ?_
 refine SkS ?_
 refine SkS ?_
 refine SkS ?_
 refine SkS ?_
 refine SkS ?_
 refine SkS ?_
 refine SkS ?_
 refine SkS ?_
 refine SkS ?_
 refine SkS ?_
 refine SkS ?_
 refine SkS ?_
 refine VbT ?_
 refine WL.nil (hK3 _ _ ?_)
 refine wp_cond_true rfl ?_
 refine wp_seq_k fun K4 hK4 => rgn ?_
 refine VlS (.pointer (some ⟨g, 0, none⟩)) ?_
 refine VlS (.pointer (some ⟨g, 0, none⟩)) ?_
 refine VlS (.pointer (some ⟨g, 2, none⟩)) ?_
 refine VlS (.int .i64 (-1)) ?_
 refine VlS (.int .i64 0) ?_
 refine WL.bld (by kernel_rfl) 97 _ rfl [(0, .int .i64 0)] (by simp [Act.eval]) #[.int .i64 0, .int .i64 0] (by kernel_rfl) ?_
 simp only [Act.put, pqA, pqB, pqC]
 refine WL.storeR (by kernel_rfl) 97 (.tmp 4) (.tmp 31) rfl q #[.int .i64 0, .int .i64 0] rfl rfl 97 #[.int .i64 0, .int .i64 0] HP.out (by kernel_rfl) rfl (by kernel_rfl) ?_
 have HP2 := Keep.mk (HP.out.setRow #[.int .i64 0, .int .i64 0])
 have B2 : Keep (Below w.heap.size w (w1.setRow q #[.int .i64 0, .int .i64 0])) := ⟨below_setRow B1.out (by rw [hq.out]; exact Nat.le_refl _) _⟩
 clear HP
 generalize w1.setRow q #[.int .i64 0, .int .i64 0] = w2 at *
 simp only [Act.put]
 refine WL.nil (hK4 _ _ ?_)
 refine wp_ret ?_
 try simp only [Exit.inBlock, Exit.then]
 refine bodyPost_ret (v := .agg #[.int .i64 0, .int .i64 0]) (results_cell1_row Tryz.results53 _ _ q 97 _ (0, 0) _ rfl HP2.out Tryz.underlying97 rfl (by kernel_rfl)) rfl ?_
 exact ⟨rfl, B2.out⟩
end Go.Proofs.YteijjfeainamdaaGreatDoor
namespace Go.Proofs.YteijjfeainamdaaGreatDoor
open Go.RowKit

def wordsA (n : Nat) (c : Nat → Int) : Array Value := Array.ofFn (n := n) fun i => .int .u32 (c i.val)
theorem wordsA_size (n : Nat) (c : Nat → Int) : (wordsA n c).size = n := by simp [wordsA]
theorem wordsA_get (n : Nat) (c : Nat → Int) (j : Nat) (h : j < n) : (wordsA n c)[j]? = some (.int .u32 (c j)) := by simp [wordsA, h]
theorem wordsA_set (n : Nat) (c : Nat → Int) (j : Nat) (v : Int) : (wordsA n c).setIfInBounds j (.int .u32 v) = wordsA n (upd c j v) := by
 apply Array.ext_getElem?
 intro i
 rw [Array.getElem?_setIfInBounds]
 by_cases e : j = i
 ·subst e
  by_cases hj : j < n <;> simp [wordsA, upd, hj]
 ·by_cases hi : i < n <;> simp [wordsA, upd, hi, e, Ne.symm e]
theorem wordsA_one (n : Nat) (c : Nat → Int) : (wordsA n c).all (·.oneCell') = true := by
 rw [Array.all_eq_true_iff_forall_mem]; intro v hv; simp [wordsA] at hv; obtain ⟨i, rfl⟩ := hv; rfl
theorem Tryz.size156 : (Tryz.prog.info? 156).map (·.size) = some 8 := by kernel_rfl
theorem Tryz.size164 : (Tryz.prog.info? 164).map (·.size) = some 64 := by kernel_rfl
theorem Tryz.size158 : (Tryz.prog.info? 158).map (·.size) = some 64 := by kernel_rfl
theorem Tryz.size156W (c : Nat → Int) : (Tryz.prog.info? 156).map (·.size) = some (wordsA 8 c).size := by rw [wordsA_size]; exact Tryz.size156
theorem Tryz.size164W (c : Nat → Int) : (Tryz.prog.info? 164).map (·.size) = some (wordsA 64 c).size := by rw [wordsA_size]; exact Tryz.size164
theorem Tryz.size158B (c : Nat → Int) : (Tryz.prog.info? 158).map (·.size) = some (bytesA 64 c).size := by rw [bytesA_size]; exact Tryz.size158
theorem wordsA_sizes (n : Nat) (c d : Nat → Int) : (wordsA n c).size = (wordsA n d).size := by rw [wordsA_size, wordsA_size]
section
variable {P : Program}
end
theorem Tryz.new164 (w : World) : (Instr.alloc 164 true (.tuple #[])).run Tryz.prog w = .ok (.pointer (some ⟨w.heap.size, 0, none⟩)) (w.alloc (.cells (wordsA 64 fun _ => 0) 164)) := by kernel_rfl
theorem Tryz.new156 (w : World) : (Instr.alloc 156 true (.tuple #[])).run Tryz.prog w = .ok (.pointer (some ⟨w.heap.size, 0, none⟩)) (w.alloc (.cells (wordsA 8 fun _ => 0) 156)) := by kernel_rfl
section
variable {P : Program} {ops : Array Oper} {Q : Exit → Act → World → Prop} {md : Region.Mode}

theorem getD_lt {l : Array Bool} {i : Nat} (h : l.getD i true = false) : ∃ hi : i < l.size, l[i] = false := by
 by_cases hi : i < l.size
 ·exact ⟨hi, by simpa [Array.getD, hi] using h⟩
 ·simp [Array.getD, hi] at h

theorem wpAny_inv (I : Array Bool → Act → World → Prop)
  (hs : ∀ l a w, I l a w → l.size = ops.size)
  (hstep : ∀ l a w i o, I l a w → l.getD i true = false → ops[i]? = some o → (∀ e ∈ o.after, Region.binds md e = true → l.getD e.on false = true) →
   o.guard = none ∧ o.wp P a w (I (l.setIfInBounds i true)) Q)
  (hback : ∀ i o, ops[i]? = some o → ∀ e ∈ o.after, Region.binds md e = true → e.on < i)
  (hdone : ∀ l a w, I l a w → (∀ i, i < ops.size → l.getD i false = true) → Q .normal a w) :
  ∀ fuel l a w, l.toList.countP (fun b => !b) ≤ fuel → I l a w → wpAny P md ops Q fuel l a w := by
 have hall : ∀ l a w, I l a w → Region.ready md ops l = [] → ∀ i, i < ops.size → l.getD i false = true := by
  intro l a w hI hr i
  induction i using Nat.strongRecOn with
  | ind i ih =>
   intro hi
   by_cases hc : l.getD i true = false
   ·have : i ∈ Region.ready md ops l := mem_ready.2 ⟨hc, ops[i], Array.getElem?_eq_getElem hi, fun e he hb => ih _ (hback i _ (Array.getElem?_eq_getElem hi) e he hb) (Nat.lt_trans (hback i _ (Array.getElem?_eq_getElem hi) e he hb) hi)⟩
    rw [hr] at this; simp at this
   ·have hl : i < l.size := by rw [hs l a w hI]; exact hi
    simpa [Array.getD, hl] using hc
 intro fuel
 induction fuel with
 | zero =>
  intro l a w hf hI
  have hnil : Region.ready md ops l = [] := by
   rw [List.eq_nil_iff_forall_not_mem]
   intro j hj
   obtain ⟨hj0, _⟩ := mem_ready.1 hj
   obtain ⟨hlt, hv⟩ := getD_lt hj0
   have : 0 < l.toList.countP (fun b => !b) := List.countP_pos_iff.2 ⟨l[j], by simp, by simp [hv]⟩
   omega
  exact ⟨hnil, hdone l a w hI (hall l a w hI hnil)⟩
 | succ fuel ih =>
  intro l a w hf hI
  refine ⟨fun hnil => hdone l a w hI (hall l a w hI hnil), fun i hi => ?_⟩
  obtain ⟨hj0, o, ho, he⟩ := mem_ready.1 hi
  obtain ⟨hlt, hv⟩ := getD_lt hj0
  obtain ⟨hg, hw⟩ := hstep l a w i o hI hj0 ho he
  unfold wpOp
  simp only [ho, Region.wanted, hg, if_true]
  refine .inl (Oper.wp_mono (fun a' w' h' => ih _ a' w' ?_ h') hw)
  have hc := List.countP_set (p := fun b => !b) (l := l.toList) (i := i) (a := true) (by simpa using hlt)
  have hp : 0 < l.toList.countP (fun b => !b) := List.countP_pos_iff.2 ⟨l[i], by simp, by simp [hv]⟩
  have e1 : l.toList[i]'(by simpa using hlt) = false := by simpa using hv
  rw [Array.toList_setIfInBounds, hc, e1]
  generalize List.countP (fun b => !b) l.toList = n at *
  simp
  omega

theorem wp_region_inv {id : Nat} {a : Act} {w : World} (hm : P.follows .mixedOrders = true) (I : Array Bool → Act → World → Prop)
  (hs : ∀ l a w, I l a w → l.size = ops.size)
  (hstep : ∀ l a w i o, I l a w → l.getD i true = false → ops[i]? = some o → (∀ e ∈ o.after, Region.binds .any e = true → l.getD e.on false = true) →
   o.guard = none ∧ o.wp P a w (I (l.setIfInBounds i true)) Q)
  (hback : ∀ i o, ops[i]? = some o → ∀ e ∈ o.after, Region.binds .any e = true → e.on < i)
  (hdone : ∀ l a w, I l a w → (∀ i, i < ops.size → l.getD i false = true) → Q .normal a w)
  (h0 : I (Array.replicate ops.size false) a w.drew) : (Code.region id ops true).wp P Q a w :=
 wp_region_any hm (wpAny_inv I hs hstep hback hdone _ _ _ _ (by simp [List.countP_replicate]) h0)

theorem wp_new {o : Oper} {a : Act} {w : World} {K : Act → World → Prop} (t : TypeId) (ho : o.op = .alloc t)
  (cells : Array Value) (hf : ∀ w : World, (Instr.alloc t true (.tuple #[])).run P w = .ok (.pointer (some ⟨w.heap.size, 0, none⟩)) (w.alloc (.cells cells t)))
  (h : K (a.put o.dst (.pointer (some ⟨w.heap.size, 0, none⟩))) (w.alloc (.cells cells t))) : o.wp P a w K Q := by
 unfold Oper.wp execOp
 simp only [ho, Sem.run_bind, hf w, Result.andThen_ok]
 exact h

end
theorem Tryz.enter103 (w : World) (vs : Array Value) : (callFunc 103 vs).run Tryz.prog w = .ok (.enter 103 vs) w := by kernel_rfl
theorem Tryz.enter104 (w : World) (vs : Array Value) : (callFunc 104 vs).run Tryz.prog w = .ok (.enter 104 vs) w := by kernel_rfl
section
variable {P : Program} {ops : Array Oper} {Q : Exit → Act → World → Prop}

def backB (ops : Array Oper) : Bool := (List.range ops.size).all fun i => match ops[i]? with
 | some o => o.after.all fun e => !Region.binds .any e || decide (e.on < i)
 | none => true
theorem back_of (h : backB ops = true) : ∀ i o, ops[i]? = some o → ∀ e ∈ o.after, Region.binds .any e = true → e.on < i := by
 intro i o ho e he hb
 have hi : i < ops.size := (Array.getElem?_eq_some_iff.1 ho).1
 have h1 := List.all_eq_true.1 h i (List.mem_range.2 hi)
 simp only [ho] at h1
 have h2 := Array.all_eq_true_iff_forall_mem.1 h1 e he
 simpa [hb] using h2

def dstsB (ops : Array Oper) (n : Nat) : Bool := (List.range ops.size).all fun i => match ops[i]? with
 | some o => (match o.dst with
  | some d => decide (d < n) && (List.range ops.size).all fun j => match ops[j]? with
   | some o' => (o'.dst != some d) || i == j
   | none => true
  | none => true)
 | none => true
theorem dsts_lt {n : Nat} (h : dstsB ops n = true) (i : Nat) (o : Oper) (d : Nat) (ho : ops[i]? = some o) (hd : o.dst = some d) : d < n := by
 have hi : i < ops.size := (Array.getElem?_eq_some_iff.1 ho).1
 have h1 := List.all_eq_true.1 h i (List.mem_range.2 hi)
 simp only [ho, hd, Bool.and_eq_true, decide_eq_true_eq] at h1
 exact h1.1
theorem dsts_inj {n : Nat} (h : dstsB ops n = true) (i j : Nat) (o o' : Oper) (d : Nat) (ho : ops[i]? = some o) (ho' : ops[j]? = some o') (hd : o.dst = some d) (hd' : o'.dst = some d) : i = j := by
 have hi : i < ops.size := (Array.getElem?_eq_some_iff.1 ho).1
 have hj : j < ops.size := (Array.getElem?_eq_some_iff.1 ho').1
 have h1 := List.all_eq_true.1 h i (List.mem_range.2 hi)
 simp only [ho, hd, Bool.and_eq_true, decide_eq_true_eq] at h1
 have h2 := List.all_eq_true.1 h1.2 j (List.mem_range.2 hj)
 simpa [ho', hd'] using h2

def putsTo (ops : Array Oper) (V : Nat → Value) (a0 : Act) : Nat → Act
 | 0 => a0
 | n + 1 => match ops[n]? with
  | some o => (putsTo ops V a0 n).put o.dst (V n)
  | none => putsTo ops V a0 n

theorem putsTo_facts (V : Nat → Value) (a0 : Act) (hd : dstsB ops a0.tmps.size = true) (n : Nat) :
  (putsTo ops V a0 n).defers = a0.defers ∧ (putsTo ops V a0 n).tmps.size = a0.tmps.size ∧
  (∀ t : Nat, (∀ j o, j < n → ops[j]? = some o → o.dst ≠ some t) → (putsTo ops V a0 n).tmps[t]? = a0.tmps[t]?) ∧
  (∀ j o d, j < n → ops[j]? = some o → o.dst = some d → (putsTo ops V a0 n).tmps[d]? = some (V j)) := by
 induction n with
 | zero => exact ⟨rfl, rfl, fun _ _ => rfl, fun j _ _ h => absurd h (by omega)⟩
 | succ n ih =>
  obtain ⟨i1, i2, i3, i4⟩ := ih
  cases hn : ops[n]? with
  | none =>
   have e : putsTo ops V a0 (n + 1) = putsTo ops V a0 n := by simp only [putsTo, hn]
   rw [e]
   refine ⟨i1, i2, fun t ht => i3 t (fun j o hj ho => ht j o (by omega) ho), fun j o d hj ho hdd => ?_⟩
   have : j ≠ n := fun e => by subst e; rw [hn] at ho; cases ho
   exact i4 j o d (by omega) ho hdd
  | some o =>
   have e : putsTo ops V a0 (n + 1) = (putsTo ops V a0 n).put o.dst (V n) := by simp only [putsTo, hn]
   rw [e]
   cases hod : o.dst with
   | none =>
    have e2 : (putsTo ops V a0 n).put none (V n) = putsTo ops V a0 n := rfl
    rw [e2]
    refine ⟨i1, i2, fun t ht => i3 t (fun j o hj ho => ht j o (by omega) ho), fun j o' d hj ho hdd => ?_⟩
    have : j ≠ n := fun e => by subst e; rw [hn] at ho; cases ho; rw [hod] at hdd; cases hdd
    exact i4 j o' d (by omega) ho hdd
   | some dn =>
    have hlt : dn < a0.tmps.size := dsts_lt hd n o dn hn hod
    refine ⟨by simpa [Act.put] using i1, by simpa [Act.put] using i2, fun t ht => ?_, fun j o' d hj ho hdd => ?_⟩
    ·have hne : dn ≠ t := fun e => ht n o (by omega) hn (by rw [hod, e])
     simp only [Act.put]
     rw [Array.getElem?_setIfInBounds_ne hne]
     exact i3 t (fun j o hj ho => ht j o (by omega) ho)
    ·by_cases hjn : j = n
     ·subst hjn
      rw [hn] at ho; cases ho
      rw [hod] at hdd; cases hdd
      simp [Act.put, i2, hlt]
     ·have hne : dn ≠ d := fun e => hjn (dsts_inj hd j n o' o d ho hn hdd (by rw [hod, e]))
      simp only [Act.put]
      rw [Array.getElem?_setIfInBounds_ne hne]
      exact i4 j o' d (by omega) ho hdd

theorem act_ext {a b : Act} (h1 : a.tmps = b.tmps) (h2 : a.defers = b.defers) : a = b := by
 cases a; cases b; simp_all

theorem eval_of_get {a : Act} {t : Nat} {v : Value} (h : a.tmps[t]? = some v) : a.eval (.tmp t) = v := by
 simp [Act.eval, h]

theorem wp_region_vals {id : Nat} {a0 : Act} {w : World} (hm : P.follows .mixedOrders = true) (V : Nat → Value) (W : Array Bool → World → Prop)
  (hd : dstsB ops a0.tmps.size = true) (hb : backB ops = true)
  (hstep : ∀ (l : Array Bool) (a : Act) (w : World) (i : Nat) (o : Oper),
   (∀ t : Nat, (∀ (j : Nat) (o' : Oper), ops[j]? = some o' → o'.dst ≠ some t) → a.eval (.tmp t) = a0.eval (.tmp t)) →
   (∀ (j : Nat) (o' : Oper) (d : Nat), ops[j]? = some o' → o'.dst = some d → l.getD j false = true → a.eval (.tmp d) = V j) →
   W l w → l.size = ops.size → l.getD i true = false → ops[i]? = some o → (∀ e ∈ o.after, Region.binds .any e = true → l.getD e.on false = true) →
   o.guard = none ∧ o.wp P a w (fun a' w' => a' = a.put o.dst (V i) ∧ W (l.setIfInBounds i true) w') Q)
  (hdone : ∀ l w, W l w → (∀ i, i < ops.size → l.getD i false = true) → Q .normal (putsTo ops V a0 ops.size) w)
  (h0 : W (Array.replicate ops.size false) w.drew) : (Code.region id ops true).wp P Q a0 w := by
 refine wp_region_inv hm (fun l a w => l.size = ops.size ∧ a.defers = a0.defers ∧ a.tmps.size = a0.tmps.size ∧
  (∀ t : Nat, (∀ (j : Nat) (o' : Oper), ops[j]? = some o' → o'.dst ≠ some t) → a.tmps[t]? = a0.tmps[t]?) ∧
  (∀ (j : Nat) (o' : Oper) (d : Nat), ops[j]? = some o' → o'.dst = some d → l.getD j false = true → a.tmps[d]? = some (V j)) ∧ W l w) ?_ ?_ (back_of hb) ?_ ?_
 ·intro l a w h; exact h.1
 ·rintro l a w i o ⟨h1, h2, h3, h4, h5, h6⟩ hi ho he
  obtain ⟨hg, hw⟩ := hstep l a w i o (fun t ht => by simp only [Act.eval, Array.getD_eq_getD_getElem?]; rw [h4 t ht]) (fun j o' d hj hdd hl => eval_of_get (h5 j o' d hj hdd hl)) h6 h1 hi ho he
  refine ⟨hg, Oper.wp_mono ?_ hw⟩
  rintro a' w' ⟨rfl, hW⟩
  refine ⟨by simpa using h1, ?_, ?_, ?_, ?_, hW⟩
  ·cases hod : o.dst <;> simpa [Act.put] using h2
  ·cases hod : o.dst <;> simpa [Act.put] using h3
  ·intro t ht
   cases hod : o.dst with
   | none => exact h4 t ht
   | some dn =>
    have hne : dn ≠ t := fun e => ht i o ho (by rw [hod, e])
    simp only [Act.put]
    rw [Array.getElem?_setIfInBounds_ne hne]
    exact h4 t ht
  ·intro j o' d hj hdd hl
   cases hod : o.dst with
   | none =>
    have hji : i ≠ j := fun e => by subst e; rw [ho] at hj; cases hj; rw [hod] at hdd; cases hdd
    rw [getD_set_ne false hji] at hl
    exact h5 j o' d hj hdd hl
   | some dn =>
    have hlt : dn < a0.tmps.size := dsts_lt hd i o dn ho hod
    by_cases hji : i = j
    ·subst hji
     rw [ho] at hj; cases hj
     rw [hod] at hdd; cases hdd
     simp [Act.put, h3, hlt]
    ·have hne : dn ≠ d := fun e => hji (dsts_inj hd i j o o' d ho hj (by rw [hod, e]) hdd)
     rw [getD_set_ne false hji] at hl
     simp only [Act.put]
     rw [Array.getElem?_setIfInBounds_ne hne]
     exact h5 j o' d hj hdd hl
 ·rintro l a w ⟨h1, h2, h3, h4, h5, h6⟩ hall
  obtain ⟨p1, p2, p3, p4⟩ := putsTo_facts V a0 hd ops.size
  have e : a = putsTo ops V a0 ops.size := by
   refine act_ext (Array.ext_getElem? fun t => ?_) (h2.trans p1.symm)
   by_cases hx : ∃ (j : Nat) (o' : Oper), ops[j]? = some o' ∧ o'.dst = some t
   ·obtain ⟨j, o', hj, hdd⟩ := hx
    have hlt : j < ops.size := (Array.getElem?_eq_some_iff.1 hj).1
    rw [h5 j o' t hj hdd (hall j hlt), p4 j o' t hlt hj hdd]
   ·have hn : ∀ (j : Nat) (o' : Oper), ops[j]? = some o' → o'.dst ≠ some t := fun j o' hj hdd => hx ⟨j, o', hj, hdd⟩
    rw [h4 t hn, p3 t (fun j o' _ hj => hn j o' hj)]
  rw [e]
  exact hdone l w h6 hall
 ·refine ⟨by simp, rfl, rfl, fun _ _ => rfl, fun j o' d _ _ hl => ?_, h0⟩
  simp [Array.getD] at hl

theorem wp_move {o : Oper} {a : Act} {w : World} {K : Act → World → Prop} (x : Operand) (ho : o.op = .move x) (v : Value) (hv : a.eval x = v) (h : K (a.put o.dst v) w) : o.wp P a w K Q :=
 wp_val v (by unfold execOp; simp only [ho, hv]; rfl) h
theorem wp_nilCheck {o : Oper} {a : Act} {w : World} {K : Act → World → Prop} (x : Operand) (ho : o.op = .nilCheck x) (b : Addr) (hv : a.eval x = .pointer (some b)) (h : K (a.put o.dst (.pointer (some b))) w) : o.wp P a w K Q :=
 wp_val _ (by unfold execOp; simp only [ho, hv]; rfl) h
theorem wp_fieldAddr {o : Oper} {a : Act} {w : World} {K : Act → World → Prop} (t : TypeId) (x : Operand) (k : Nat) (ho : o.op = .fieldAddr t x k) (v u : Value) (hv : a.eval x = v)
  (hf : ∀ w : World, (Instr.fieldAt t v k).run P w = .ok u w) (h : K (a.put o.dst u) w) : o.wp P a w K Q := by
 refine wp_val u ?_ h
 unfold execOp
 simp only [ho, hv, Sem.run_bind, hf w, Result.andThen_ok]
 rfl
theorem wp_store_part {o : Oper} {a : Act} {w : World} {K : Act → World → Prop} (ty : TypeId) (x y : Operand) (ho : o.op = .store ty x y)
  (g off : Nat) (cells : Array Value) (hx : a.eval x = .pointer (some ⟨g, off, none⟩)) (hy : a.eval y = .agg cells)
  (t : TypeId) (cur : Array Value) (hg : w.heap[g]? = some (.cells cur t (0, 0))) (hi : (P.info? ty).map (·.size) = some cells.size) (hfit : off + cells.size ≤ cur.size)
  (h1 : cells.all (·.oneCell') = true)
  (h : K (a.put o.dst undef) (w.setRow g (cur.toList.take off ++ cells.toList ++ cur.toList.drop (off + cells.size)).toArray)) : o.wp P a w K Q := by
 have hst := run_storeCells_at P g off t cells.toList 0 cur w hg (by simpa using hfit) (fun v hv => (Array.all_eq_true_iff_forall_mem.1 h1) v (by simpa using hv))
 have hrun : (storeVar ty ⟨g, off, none⟩ (.agg cells)).run P w = .ok () (w.setRow g (cur.toList.take off ++ cells.toList ++ cur.toList.drop (off + cells.size)).toArray) := by
  cases hq : P.info? ty with
  | none => simp [hq] at hi
  | some i =>
   have hs : cells.size = i.size := by simp [hq] at hi; omega
   simp only [Nat.add_zero, Array.length_toList] at hst
   simp [storeVar, sizeOf, typeInfo, hq, Value.cells, hs, hst]
 unfold Oper.wp execOp
 simp only [ho, hx, hy, Instr.storeAt, Instr.sureAddr, Sem.run_bind, Sem.run_pure, Result.andThen_ok, hrun]
 exact h
end
def rot (x n : Int) : Int := bits .or .u32 (x * 2 ^ (32 - n).toNat % 4294967296) (x / 2 ^ n.toNat)

theorem and31 (n : Int) (h1 : 1 ≤ n) (h2 : n ≤ 31) : bits .and .u64 (IntKind.u64.wrap (-n)) 31 = 32 - n := by
 obtain ⟨k, rfl⟩ := Int.eq_ofNat_of_zero_le (show 0 ≤ n by omega)
 have hk : k < 32 := by omega
 have hk1 : 1 ≤ k := by omega
 have : ∀ k : Fin 32, 1 ≤ k.val → bits .and .u64 (IntKind.u64.wrap (-((k.val : Nat) : Int))) 31 = 32 - ((k.val : Nat) : Int) := by decide +kernel
 exact this ⟨k, hk⟩ hk1

set_option maxRecDepth 8000 in
set_option maxHeartbeats 400000 in
theorem rotl_any (x n : Int) (w : World) (h1 : 1 ≤ n) (h2 : n ≤ 31) :
  Calls Tryz.prog 106 #[.int .u32 x, .int .i64 (-n)] w fun e w' => e = .returned (.int .u32 (rot x n)) ∧ w' = w := by
 have ha := and31 n h1 h2
 have hs : 32 - n ≤ 32 := by omega
 have hs0 : 0 ≤ 32 - n := by omega
 have hw : IntKind.u64.wrap (32 - (32 - n)) = n := by rw [IntKind.wrap_u64]; omega
 go_enter Tryz.func106, Tryz.ntmps106
 go_wp2
 go_ret
 exact ⟨rfl, rfl⟩

set_option maxRecDepth 8000 in
set_option maxHeartbeats 400000 in
theorem turn_any (x n : Int) (w : World) (h1 : 1 ≤ n) (h2 : n ≤ 31) :
  Calls Tryz.prog 105 #[.int .u32 x, .int .i64 n] w fun e w' => e = .returned (.int .u32 (rot x n)) ∧ w' = w := by
 go_enter Tryz.func105, Tryz.ntmps105
 go_wp2_with fail
 refine (rotl_any x n _ h1 h2).mono ?_
 rintro e w' ⟨rfl, rfl⟩
 go_wp2
 go_ret
 exact ⟨rfl, rfl⟩

def beginL : List Int := [0x6a09e667, 0xbb67ae85, 0x3c6ef372, 0xa54ff53a, 0x510e527f, 0x9b05688c, 0x1f83d9ab, 0x5be0cd19]
def beginF (i : Nat) : Int := beginL.getD i 0
def roundsL : List Int := [0x428a2f98, 0x71374491, 0xb5c0fbcf, 0xe9b5dba5, 0x3956c25b, 0x59f111f1, 0x923f82a4, 0xab1c5ed5, 0xd807aa98, 0x12835b01, 0x243185be, 0x550c7dc3, 0x72be5d74, 0x80deb1fe, 0x9bdc06a7, 0xc19bf174, 0xe49b69c1, 0xefbe4786, 0x0fc19dc6, 0x240ca1cc, 0x2de92c6f, 0x4a7484aa, 0x5cb0a9dc, 0x76f988da, 0x983e5152, 0xa831c66d, 0xb00327c8, 0xbf597fc7, 0xc6e00bf3, 0xd5a79147, 0x06ca6351, 0x14292967, 0x27b70a85, 0x2e1b2138, 0x4d2c6dfc, 0x53380d13, 0x650a7354, 0x766a0abb, 0x81c2c92e, 0x92722c85, 0xa2bfe8a1, 0xa81a664b, 0xc24b8b70, 0xc76c51a3, 0xd192e819, 0xd6990624, 0xf40e3585, 0x106aa070, 0x19a4c116, 0x1e376c08, 0x2748774c, 0x34b0bcb5, 0x391c0cb3, 0x4ed8aa4a, 0x5b9cca4f, 0x682e6ff3, 0x748f82ee, 0x78a5636f, 0x84c87814, 0x8cc70208, 0x90befffa, 0xa4506ceb, 0xbef9a3f7, 0xc67178f2]
def roundsF (i : Nat) : Int := roundsL.getD i 0

set_option maxRecDepth 10000 in
theorem begin_any (w : World) :
  Calls Tryz.prog 97 #[] w fun e w' => e = .returned (.agg (wordsA 8 beginF)) ∧ w' = w.alloc (.cells (wordsA 8 beginF) 156) := by
 go_enter Tryz.func97, Tryz.ntmps97
 go_step; go_step; go_step
 refine wpList_new rfl 156 rfl _ Tryz.new156 ?_
 go_step; go_step; go_step; go_step; go_step
 refine wpList_bld rfl 156 _ rfl (wordsA 8 beginF) (by kernel_rfl) ?_
 refine wpList_plain rfl fun _ hK => ?_
 refine wp_store_row 156 _ _ rfl w.heap.size (wordsA 8 beginF) rfl rfl 156 (wordsA 8 fun _ => 0) (Blk.new w 156 _) (by simpa [wordsA_size] using Tryz.size156) (by simp [wordsA_size]) (wordsA_one _ _) (hK _ _ ?_)
 rw [World.setRow_alloc_new]
 go_step; go_step; go_step; go_step
 exact bodyPost_ret (v := .agg (wordsA 8 beginF)) (results_cell_row Tryz.results97 _ _ w.heap.size 156 _ (0, 0) _ rfl (heap_alloc_new _ _) Tryz.underlying156 rfl (by simpa [wordsA_size] using Tryz.size156)) rfl ⟨rfl, rfl⟩

set_option maxRecDepth 10000 in
theorem rounds_any (w : World) :
  Calls Tryz.prog 103 #[] w fun e w' => e = .returned (.agg (wordsA 64 roundsF)) ∧ w' = w.alloc (.cells (wordsA 64 roundsF) 164) := by
 go_enter Tryz.func103, Tryz.ntmps103
 go_step; go_step; go_step
 refine wpList_new rfl 164 rfl _ Tryz.new164 ?_
 go_step; go_step; go_step; go_step; go_step
 refine wpList_bld rfl 164 _ rfl (wordsA 64 roundsF) (by kernel_rfl) ?_
 refine wpList_plain rfl fun _ hK => ?_
 refine wp_store_row 164 _ _ rfl w.heap.size (wordsA 64 roundsF) rfl rfl 164 (wordsA 64 fun _ => 0) (Blk.new w 164 _) (by simpa [wordsA_size] using Tryz.size164) (by simp [wordsA_size]) (wordsA_one _ _) (hK _ _ ?_)
 rw [World.setRow_alloc_new]
 go_step; go_step; go_step; go_step
 exact bodyPost_ret (v := .agg (wordsA 64 roundsF)) (results_cell_row Tryz.results103 _ _ w.heap.size 164 _ (0, 0) _ rfl (heap_alloc_new _ _) Tryz.underlying164 rfl (by simpa [wordsA_size] using Tryz.size164)) rfl ⟨rfl, rfl⟩

def be32 (b : Nat → Int) (t : Nat) : Int :=
 bits .or .u32 (bits .or .u32 (bits .or .u32 (b (4 * t) % 4294967296 * 16777216 % 4294967296) (b (4 * t + 1) % 4294967296 * 65536 % 4294967296)) (b (4 * t + 2) % 4294967296 * 256 % 4294967296)) (b (4 * t + 3) % 4294967296)
def sig0 (x : Int) : Int := bits .xor .u32 (bits .xor .u32 (rot x 7) (rot x 18)) (x / 8)
def sig1 (x : Int) : Int := bits .xor .u32 (bits .xor .u32 (rot x 17) (rot x 19)) (x / 1024)
def nextW (c : Nat → Int) (t : Nat) : Int := (((c (t - 16) + sig0 (c (t - 15))) % 4294967296 + c (t - 7)) % 4294967296 + sig1 (c (t - 2))) % 4294967296
def sched (b : Nat → Int) : Nat → (Nat → Int)
 | 0 => fun _ => 0
 | t + 1 => upd (sched b t) t (if t < 16 then be32 b t else nextW (sched b t) t)

set_option maxRecDepth 8000 in
set_option maxHeartbeats 2000000 in
theorem spread_any (b : Nat → Int) (w : World) :
  Calls Tryz.prog 104 #[.agg (bytesA 64 b)] w fun e w' => e = .returned (.agg (wordsA 64 (sched b 64))) ∧ Below w.heap.size w w' := by
 go_enter Tryz.func104, Tryz.ntmps104
 go_wp2_with (first | (refine wpList_boxA rfl 158 _ rfl (bytesA 64 b) rfl ?_) | (refine wpList_new rfl 164 rfl _ Tryz.new164 ?_))
 have hP := ((Blk.new w 158 (bytesA 64 b)).alloc (.cells (wordsA 64 fun _ => 0) 164)).alloc (.cells (wordsA 64 fun _ => 0) 164)
 have hR := (Blk.new (w.alloc (.cells (bytesA 64 b) 158)) 164 (wordsA 64 fun _ => 0)).alloc (.cells (wordsA 64 fun _ => 0) 164)
 have hW := (Blk.new ((w.alloc (.cells (bytesA 64 b) 158)).alloc (.cells (wordsA 64 fun _ => 0) 164)) 164 (wordsA 64 fun _ => 0))
 have hB : Below w.heap.size w (((w.alloc (.cells (bytesA 64 b) 158)).alloc (.cells (wordsA 64 fun _ => 0) 164)).alloc (.cells (wordsA 64 fun _ => 0) 164)) :=
  (((Below.refl _ _).alloc (Nat.le_refl _) _).alloc (by simp) _).alloc (by simp; omega) _
 simp only [World.size_alloc] at hR hW ⊢
 generalize (((w.alloc (.cells (bytesA 64 b) 158)).alloc (.cells (wordsA 64 fun _ => 0) 164)).alloc (.cells (wordsA 64 fun _ => 0) 164)) = w0 at *
 go_loopw [8] (fun i wr => ∃ t : Nat, t ≤ 16 ∧ i = .int .i64 t ∧ Blk wr w.heap.size 158 (bytesA 64 b) ∧ Blk wr (w.heap.size + 1) 164 (wordsA 64 fun _ => 0) ∧ Blk wr (w.heap.size + 1 + 1) 164 (wordsA 64 (sched b t)) ∧ Below w.heap.size w wr) (fun i _ => 16 - (intOf i).toNat)
 case atStart => exact ⟨0, by omega, rfl, hP, hR, hW, hB⟩
 case round =>
  clear hP hR hW hB
  obtain ⟨t, ht, rfl, hP, hR, hW, hB⟩ := hrel
  by_cases hlt : t < 16
  ·have e0 : wr.cell? ⟨w.heap.size, 4 * t, none⟩ = some (.int .u8 (b (4 * t))) := by rw [hP.cell, bytesA_get _ _ _ (by omega)]
   have e1 : wr.cell? ⟨w.heap.size, 4 * t + 1, none⟩ = some (.int .u8 (b (4 * t + 1))) := by rw [hP.cell, bytesA_get _ _ _ (by omega)]
   have e2 : wr.cell? ⟨w.heap.size, 4 * t + 2, none⟩ = some (.int .u8 (b (4 * t + 2))) := by rw [hP.cell, bytesA_get _ _ _ (by omega)]
   have e3 : wr.cell? ⟨w.heap.size, 4 * t + 3, none⟩ = some (.int .u8 (b (4 * t + 3))) := by rw [hP.cell, bytesA_get _ _ _ (by omega)]
   have e4 : wr.cell? ⟨w.heap.size + 1 + 1, t, none⟩ = some (.int .u32 (sched b t t)) := by rw [hW.cell, wordsA_get _ _ _ (by omega)]
   have e5 : wr.frozen? ⟨w.heap.size + 1 + 1, t, none⟩ = false := hW.frozen t
   go_wp2
   go_region
   go_wp2
   go_roundw
   case rel => exact ⟨t + 1, by omega, by go_num, (hP.set_ne (by omega) _).drew, (hR.set_ne (by omega) _).drew, by
    have h := (hW.set t (.int .u32 (be32 b t))).drew
    rw [wordsA_set] at h
    simp only [sched, if_pos hlt]; exact h, (hB.setCell (by show w.heap.size ≤ w.heap.size + 1 + 1; omega) _).drew⟩
   case measure => simp [intOf]; omega
  ·obtain rfl : t = 16 := by omega
   clear hlt ht
   go_wp2
   go_loopw [5] (fun i wr => ∃ t : Nat, 16 ≤ t ∧ t ≤ 64 ∧ i = .int .i64 t ∧ Blk wr (w.heap.size + 1) 164 (wordsA 64 fun _ => 0) ∧ Blk wr (w.heap.size + 1 + 1) 164 (wordsA 64 (sched b t)) ∧ Below w.heap.size w wr) (fun i _ => 64 - (intOf i).toNat)
   case atStart => exact ⟨16, by omega, by omega, rfl, hR, hW, hB⟩
   case round =>
    clear hP hR hW hB
    obtain ⟨t, ht0, ht, rfl, hR, hW, hB⟩ := hrel
    by_cases hlt : t < 64
    ·have e16 : wr.cell? ⟨w.heap.size + 1 + 1, t - 16, none⟩ = some (.int .u32 (sched b t (t - 16))) := by rw [hW.cell, wordsA_get _ _ _ (by omega)]
     have e15 : wr.cell? ⟨w.heap.size + 1 + 1, t - 15, none⟩ = some (.int .u32 (sched b t (t - 15))) := by rw [hW.cell, wordsA_get _ _ _ (by omega)]
     have e7 : wr.cell? ⟨w.heap.size + 1 + 1, t - 7, none⟩ = some (.int .u32 (sched b t (t - 7))) := by rw [hW.cell, wordsA_get _ _ _ (by omega)]
     have e2 : wr.cell? ⟨w.heap.size + 1 + 1, t - 2, none⟩ = some (.int .u32 (sched b t (t - 2))) := by rw [hW.cell, wordsA_get _ _ _ (by omega)]
     have e0 : wr.cell? ⟨w.heap.size + 1 + 1, t, none⟩ = some (.int .u32 (sched b t t)) := by rw [hW.cell, wordsA_get _ _ _ (by omega)]
     have ef : wr.frozen? ⟨w.heap.size + 1 + 1, t, none⟩ = false := hW.frozen t
     have hlt' : (t : Int) < 64 := by omega
     have ht0' : (16 : Int) ≤ (t : Int) := by omega
     have w16 : IntKind.i64.wrap ((t : Int) - 16) = (t : Int) - 16 := by rw [IntKind.wrap_i64]; omega
     have w7 : IntKind.i64.wrap ((t : Int) - 7) = (t : Int) - 7 := by rw [IntKind.wrap_i64]; omega
     have n16 : ((t : Int) - 16).toNat = t - 16 := by omega
     have n7 : ((t : Int) - 7).toNat = t - 7 := by omega
     have g16 : 0 ≤ (t : Int) - 16 := by omega
     have g7 : 0 ≤ (t : Int) - 7 := by omega
     have l16 : (t : Int) - 16 < 64 := by omega
     have l7 : (t : Int) - 7 < 64 := by omega
     have h7 : (7 : Int) ≤ (t : Int) := by omega
     have k16 : ∀ v, (wr.setCell ⟨w.heap.size + 1 + 1, t, none⟩ v).cell? ⟨w.heap.size + 1 + 1, t - 16, none⟩ = some (.int .u32 (sched b t (t - 16))) := fun v => by rw [World.cell?_setCell_other _ _ _ _ (by intro e; injection e; omega)]; exact e16
     have k7 : ∀ v, (wr.setCell ⟨w.heap.size + 1 + 1, t, none⟩ v).cell? ⟨w.heap.size + 1 + 1, t - 7, none⟩ = some (.int .u32 (sched b t (t - 7))) := fun v => by rw [World.cell?_setCell_other _ _ _ _ (by intro e; injection e; omega)]; exact e7
     go_wp2
     go_region
     go_wp2
     go_region_held3 (fun w' => w'.cell? ⟨w.heap.size + 1 + 1, t - 16, none⟩ = some (.int .u32 (sched b t (t - 16))) ∧ w'.cell? ⟨w.heap.size + 1 + 1, t - 7, none⟩ = some (.int .u32 (sched b t (t - 7)))) (go_keep) (first | (go_at_call 105; refine (turn_any _ _ _ (by omega) (by omega)).mono ?_; rintro e w' ⟨rfl, rfl⟩))
     go_wp2
     go_roundw
     case rel =>
      go_tidy
      simp only [IntKind.wrap_u32']
      repeat apply Exists.intro
      refine ⟨?_, rfl⟩
      exact ⟨t + 1, by omega, by omega, by go_num, (hR.set_ne (by omega) _).drew.drew, by
       have h := (hW.set t (.int .u32 (nextW (sched b t) t))).drew.drew
       rw [wordsA_set] at h
       simp only [sched, if_neg (show ¬ t < 16 by omega)]; exact h, (hB.setCell (by show w.heap.size ≤ w.heap.size + 1 + 1; omega) _).drew.drew⟩
     case measure => simp [intOf]; omega
    ·obtain rfl : t = 64 := by omega
     clear hlt ht ht0
     obtain ⟨c, hc⟩ : ∃ c, Hid (c = sched b 64) := ⟨_, rfl⟩
     rw [← hc.out] at hW
     go_wp2_with (refine wpList_load_row rfl 164 (.tmp 3) rfl (w.heap.size + 1 + 1) rfl 164 (wordsA 64 c) (0, 0) (.array 64 115) hW Tryz.underlying164 rfl (Tryz.size164W _) ?_; refine wpList_store_row rfl 164 (.tmp 2) (.tmp 84) rfl (w.heap.size + 1) (wordsA 64 c) rfl rfl 164 (wordsA 64 fun _ => 0) hR (Tryz.size164W _) (wordsA_sizes _ _ _) (wordsA_one _ _) ?_)
     exact bodyPost_ret (v := .agg (wordsA 64 c)) (results_cell_row Tryz.results104 _ _ (w.heap.size + 1) 164 _ (0, 0) _ rfl (hR.setRow _) Tryz.underlying164 rfl (Tryz.size164W _)) rfl ⟨by rw [hc.out], below_setRow hB (by omega) _⟩
end Go.Proofs.YteijjfeainamdaaGreatDoor
