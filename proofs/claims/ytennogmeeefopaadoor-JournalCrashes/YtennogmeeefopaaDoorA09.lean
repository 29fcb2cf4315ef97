import Derived.Test.YtennogmeeefopaaDoorA07
import Derived.Test.YtennogmeeefopaaDoorA08
import Derived.Test.YtennogmeeefopaaDoorRows
import Derived.Deep.RegionHeld3
import Derived.ProofKit
import Derived.OpenShut
import Derived.ChangeOld
import Derived.Below
import Derived.SizedLaws
import Derived.Deep.Slices
namespace Go.Proofs.YtennogmeeefopaaDoor
open Go.RowKit
set_option linter.unusedSimpArgs false
set_option linter.unusedVariables false

def IntsAt (w : World) (v : Value) (l : List Int) : Prop :=
 (∃ a c, v = .slice a 0 c ∧ l = []) ∨ ∃ q o c, v = .slice (some ⟨q, o, none⟩) l.length c ∧ ∀ i, i < l.length → w.cell? ⟨q, o + i, none⟩ = some (.int .i64 (l.getD i 0))
theorem IntsAt.form {w : World} {v : Value} {l : List Int} (h : IntsAt w v l) : ∃ a c, v = .slice a l.length c := by
 rcases h with ⟨a, c, rfl, rfl⟩ | ⟨q, o, c, rfl, _⟩
 ·exact ⟨_, _, rfl⟩
 ·exact ⟨_, _, rfl⟩
theorem IntsAt.grown {w w' : World} {v : Value} {l : List Int} {S : Nat → Prop} (h : IntsAt w v l) (hg : Grown w w' S) (hs : ∀ k, v.ownBlock = some k → ¬ S k) : IntsAt w' v l := by
 rcases h with h | ⟨q, o, c, rfl, h⟩
 ·exact .inl h
 ·exact .inr ⟨q, o, c, rfl, fun i hi => hg.cell (h i hi) (hs q rfl)⟩
theorem IntsAt.at {w : World} {a : Option Addr} {n c : Nat} {l : List Int} (h : IntsAt w (.slice a n c) l) {t : Nat} (ht : t < l.length) : ∃ q o, a = some ⟨q, o, none⟩ ∧ w.cell? ⟨q, o + t, none⟩ = some (.int .i64 (l.getD t 0)) := by
 rcases h with ⟨a', c', h1, rfl⟩ | ⟨q, o, c', h1, h2⟩
 ·simp at ht
 ·injection h1 with h1
  exact ⟨q, o, h1, h2 t ht⟩
def kpN (kp : List Int) (i : Nat) (f : PF) : Int :=
 if i < kp.length then Int.tmod (Int.tmod (kp.getD i 0) ((f.bs.length : Int) - f.sf + 1) + ((f.bs.length : Int) - f.sf + 1)) ((f.bs.length : Int) - f.sf + 1) else 0
theorem tm_bnd (a k : Int) (h : 0 < k) : -k < Int.tmod a k ∧ Int.tmod a k < k := ⟨Int.lt_tmod_of_pos a h, Int.tmod_lt_of_pos a h⟩
theorem tm_pos (a k : Int) (h : 0 < k) (ha : 0 ≤ a) : 0 ≤ Int.tmod a k := Int.tmod_nonneg k ha
theorem kpN_le (kp : List Int) (i : Nat) (f : PF) (h : 0 ≤ f.sf ∧ f.sf ≤ (f.bs.length : Int)) : 0 ≤ kpN kp i f ∧ kpN kp i f ≤ (f.bs.length : Int) - f.sf := by
 unfold kpN
 split
 ·have h1 := tm_bnd (kp.getD i 0) ((f.bs.length : Int) - f.sf + 1) (by omega)
  have h2 := tm_bnd (Int.tmod (kp.getD i 0) ((f.bs.length : Int) - f.sf + 1) + ((f.bs.length : Int) - f.sf + 1)) ((f.bs.length : Int) - f.sf + 1) (by omega)
  have h3 := tm_pos (Int.tmod (kp.getD i 0) ((f.bs.length : Int) - f.sf + 1) + ((f.bs.length : Int) - f.sf + 1)) ((f.bs.length : Int) - f.sf + 1) (by omega) (by omega)
  omega
 ·omega
def PF.crash (f : PF) (n : Int) : PF := ⟨f.nm, f.bs.take (f.sf + n).toNat, f.sf + n⟩
def crT (kp : List Int) (t : Nat) (fs : List PF) : List PF := fs.mapIdx fun i f => if i < t then f.crash (kpN kp i f) else f
theorem crT_len (kp : List Int) (t : Nat) (fs : List PF) : (crT kp t fs).length = fs.length := by simp [crT]
theorem crT_zero (kp : List Int) (fs : List PF) : crT kp 0 fs = fs := by
 apply List.ext_getElem?
 intro i
 unfold crT
 rw [List.getElem?_mapIdx]
 cases fs[i]? <;> simp
theorem crT_at (kp : List Int) (t : Nat) (fs : List PF) : (crT kp t fs)[t]? = fs[t]? := by
 unfold crT
 rw [List.getElem?_mapIdx]
 cases fs[t]? <;> simp
theorem crT_step (kp : List Int) (t : Nat) (fs : List PF) (f : PF) (h : fs[t]? = some f) : crT kp (t + 1) fs = (crT kp t fs).set t (f.crash (kpN kp t f)) := by
 have hl := (List.getElem?_eq_some_iff.1 h).1
 apply List.ext_getElem?
 intro i
 by_cases hi : t = i
 ·subst hi
  rw [List.getElem?_set_self (by rw [crT_len]; exact hl)]
  unfold crT
  rw [List.getElem?_mapIdx, h]
  simp
 ·rw [List.getElem?_set_ne hi]
  unfold crT
  rw [List.getElem?_mapIdx, List.getElem?_mapIdx]
  cases fs[i]? with
  | none => rfl
  | some g =>
   simp only [Option.map_some]
   by_cases h1 : i < t
   ·rw [if_pos h1, if_pos (by omega)]
   ·rw [if_neg h1, if_neg (by omega)]
def usd (fs : List PF) : Int := (fs.map fun f => (f.bs.length : Int)).sum
theorem usd_app (a b : List PF) : usd (a ++ b) = usd a + usd b := by simp [usd]
theorem usd_nonneg : ∀ fs : List PF, 0 ≤ usd fs
 | [] => by simp [usd]
 | f :: r => by
  have := usd_nonneg r
  simp only [usd, List.map_cons, List.sum_cons] at this ⊢
  omega
theorem usd_take (fs : List PF) (t : Nat) : usd (fs.take t) ≤ usd fs := by
 have h := usd_app (fs.take t) (fs.drop t)
 rw [List.take_append_drop] at h
 have := usd_nonneg (fs.drop t)
 omega
theorem usd_step (l : List PF) (t : Nat) (x : PF) (h : t < l.length) : usd ((l.set t x).take (t + 1)) = usd (l.take t) + (x.bs.length : Int) := by
 have e : (l.set t x).take (t + 1) = l.take t ++ [x] := by
  rw [List.take_add_one, List.take_set_of_le (Nat.le_refl _), List.getElem?_set_self h]
  rfl
 rw [e, usd_app]
 simp [usd]
theorem usd_mem {fs : List PF} {t : Nat} {f : PF} (h : fs[t]? = some f) : usd (fs.take t) + (f.bs.length : Int) ≤ usd fs := by
 have h1 := usd_take fs (t + 1)
 rw [List.take_add_one, h, usd_app] at h1
 simp [usd] at h1 ⊢
 omega
theorem usd_at {fs : List PF} {t : Nat} {f : PF} (h : fs[t]? = some f) : (f.bs.length : Int) ≤ usd fs := by
 have h1 := usd_mem h
 have := usd_nonneg (fs.take t)
 omega
theorem usd_crT (kp : List Int) (fs : List PF) (hS : ∀ f ∈ fs, 0 ≤ f.sf ∧ f.sf ≤ (f.bs.length : Int)) : ∀ t, t ≤ fs.length → usd ((crT kp t fs).take t) ≤ usd (fs.take t)
 | 0, _ => by simp [usd]
 | t + 1, h => by
  have hf : fs[t]? = some (fs[t]'(by omega)) := List.getElem?_eq_getElem _
  rw [crT_step kp t fs _ hf, usd_step _ _ _ (by rw [crT_len]; omega), List.take_add_one, hf, usd_app]
  have h1 := usd_crT kp fs hS t (by omega)
  have h2 := kpN_le kp t (fs[t]'(by omega)) (hS _ (List.getElem_mem _))
  have h3 := hS (fs[t]'(by omega)) (List.getElem_mem _)
  simp only [PF.crash, List.length_take, usd, Option.toList_some, List.map_cons, List.map_nil, List.sum_cons, List.sum_nil] at h1 ⊢
  omega
def DV.crash (D : DV) (kp : List Int) : DV := { D with fs := crT kp D.fs.length D.fs, used := usd (crT kp D.fs.length D.fs), fuse := -1, out := false }
theorem usd_ins (fs : List PF) (i : Nat) (x : PF) : usd (fs.take i ++ [x] ++ fs.drop i) = usd fs + (x.bs.length : Int) := by
 have h : usd (fs.take i) + usd (fs.drop i) = usd fs := by rw [← usd_app, List.take_append_drop]
 rw [usd_app, usd_app]
 simp only [usd, List.map_cons, List.map_nil, List.sum_cons, List.sum_nil] at h ⊢
 omega
end Go.Proofs.YtennogmeeefopaaDoor
namespace Go.Proofs.YtennogmeeefopaaDoor
open Go.ChangeShapes Go.WideShapes Go.ChangeAt Go.RowKit Go.Deep
set_option linter.unusedSimpArgs false
set_option linter.unusedVariables false

theorem Tryd.jcells37 : Tryd.prog.cellsOf 37 = 1 := by kernel_rfl
theorem Tryd.jcells5 : Tryd.prog.cellsOf 5 = 1 := by kernel_rfl
theorem Tryd.jcells3 : Tryd.prog.cellsOf 3 = 1 := by kernel_rfl
theorem Tryd.undIs : Tryd.prog.underlying 29 = some (.slice 3) := by kernel_rfl
theorem jadd_none (b o i : Nat) : (⟨b, o, none⟩ : Addr).add i = ⟨b, o + i, none⟩ := by
 simp [Addr.add]
theorem jwf_u8 {n : Int} (h : (Lit.int .u8 n).wf = true) : 0 ≤ n ∧ n < 256 := by
 have h1 : IntKind.u8.min = 0 := by decide
 have h2 : IntKind.u8.max = 255 := by decide
 simp only [Lit.wf, h1, h2, Bool.and_eq_true, decide_eq_true_eq] at h
 omega
theorem jwf_i64 {n : Int} (h : (Lit.int .i64 n).wf = true) : -9223372036854775808 ≤ n ∧ n ≤ 9223372036854775807 := by
 have h1 : IntKind.i64.min = -9223372036854775808 := by decide
 have h2 : IntKind.i64.max = 9223372036854775807 := by decide
 simp only [Lit.wf, h1, h2, Bool.and_eq_true, decide_eq_true_eq] at h
 omega

theorem bulk_one {H : Type} (d : DataW H) : 1 ≤ Rows.uptoBulk d := by
 unfold Rows.uptoBulk
 split <;> omega
theorem bulk_all {H : Type} : ∀ l : List (DataW H), l.length ≤ Rows.uptoBulkAll l
 | [] => Nat.zero_le _
 | d :: r => by
  have h1 := bulk_all r
  have h2 := bulk_one d
  simp only [Rows.uptoBulkAll, List.length_cons]
  omega
theorem jrow_of_trod {H : Type} {enc : TypeId × Value → H} {W : World} {sp : Nat → Bool} {held : Bool} {n base : Nat} {v : Value} {x : DataW H × List MemPlace} (hf : DataW.trod enc Tryd.prog W base sp held n 37 [v] = some x) :
  ∃ l : List Int, RowAt W v l ∧ Byts l ∧ l.length ≤ Rows.uptoBulk x.1 := by
 rcases open_ints Tryd.underlying37 Tryd.underlying5 Tryd.jcells5 hf with ⟨hcs, _⟩ | ⟨a, len, cap, zs, hcs, _, hl, hm, hz, hx, hcell, hwz⟩
 ·simp at hcs
  subst hcs
  exact ⟨[], .inl ⟨rfl, rfl⟩, fun c hc => by simp at hc, by simp⟩
 ·simp at hcs
  subst hcs
  have hlz : len ≤ zs.length := by rw [hz]; split <;> omega
  have hbz : Byts zs := fun c hc => jwf_u8 (hwz c hc)
  have hbk : len ≤ Rows.uptoBulk x.1 := by
   rw [hx]
   have h1 := bulk_all (lits (H := H) .u8 (zs.take len))
   simp only [Rows.uptoBulk]
   simp [lits] at h1
   simp [lits]
   omega
  by_cases h0 : len = 0
  ·subst h0
   exact ⟨[], .inr (.inl ⟨a, cap, rfl, rfl⟩), fun c hc => by simp at hc, by simp⟩
  ·have hs : a.spot = none := by
    have := hcell 0 (by omega)
    rw [show a.add 0 = a from rfl] at this
    exact World.cell?_spot this
   obtain ⟨b, off, sp⟩ := a
   obtain rfl : sp = none := hs
   have hlen : (zs.take len).length = len := by rw [List.length_take]; omega
   refine ⟨zs.take len, .inr (.inr ⟨b, off, cap, by rw [hlen], by omega, fun i hi => ?_⟩), fun c hc => hbz c (List.mem_of_mem_take hc), by omega⟩
   rw [hlen] at hi
   have := hcell i (by omega)
   rw [jadd_none] at this
   rw [this]
   simp [List.getD, hi]
theorem jints_of_trod {H : Type} {enc : TypeId × Value → H} {W : World} {sp : Nat → Bool} {held : Bool} {n base : Nat} {v : Value} {x : DataW H × List MemPlace} (hf : DataW.trod enc Tryd.prog W base sp held n 29 [v] = some x) :
  ∃ l : List Int, IntsAt W v l ∧ (l ≠ [] → ∀ k, v.ownBlock = some k → k < W.heap.size) := by
 rcases open_ints Tryd.undIs Tryd.underlying3 Tryd.jcells3 hf with ⟨hcs, _⟩ | ⟨a, len, cap, zs, hcs, _, hl, hm, hz, hx, hcell, hwz⟩
 ·simp at hcs
  subst hcs
  exact ⟨[], .inl ⟨none, 0, rfl, rfl⟩, fun h => absurd rfl h⟩
 ·simp at hcs
  subst hcs
  have hlz : len ≤ zs.length := by rw [hz]; split <;> omega
  have hlen : (zs.take len).length = len := by rw [List.length_take]; omega
  by_cases h0 : len = 0
  ·subst h0
   exact ⟨[], .inl ⟨_, _, rfl, rfl⟩, fun h => absurd rfl h⟩
  ·have hs : a.spot = none := by
    have := hcell 0 (by omega)
    rw [show a.add 0 = a from rfl] at this
    exact World.cell?_spot this
   obtain ⟨b, off, sp⟩ := a
   obtain rfl : sp = none := hs
   refine ⟨zs.take len, .inr ⟨b, off, cap, by rw [hlen], fun i hi => ?_⟩, fun _ k hk => ?_⟩
   ·rw [hlen] at hi
    have := hcell i (by omega)
    rw [jadd_none] at this
    rw [this]
    simp [List.getD, hi]
   ·have e : b = k := Option.some.inj hk
    subst e
    have := hcell 0 (by omega)
    exact cell_lt this
end Go.Proofs.YtennogmeeefopaaDoor
namespace Go.Proofs.YtennogmeeefopaaDoor
open Go.RowKit
set_option linter.unusedSimpArgs false
set_option linter.unusedVariables false

structure DOk (D : DV) : Prop where
 srt : Srt D.fs
 len : D.fs.length ≤ 256
 sf : ∀ f ∈ D.fs, 0 ≤ f.sf ∧ f.sf ≤ (f.bs.length : Int)
 byt : ∀ f ∈ D.fs, Byts f.bs
 used : D.used = usd D.fs
 big : usd D.fs ≤ 1000000000
 acts : 0 ≤ D.acts
 fuse : -1 ≤ D.fuse ∧ D.fuse ≤ 9223372036854775807
theorem DOk.at {D : DV} (h : DOk D) {i : Nat} {f : PF} (hf : D.fs[i]? = some f) : 0 ≤ D.used ∧ D.used ≤ 70368744177664 ∧ (f.bs.length : Int) ≤ D.used := by
 rw [h.used]
 exact ⟨usd_nonneg _, by have := h.big; omega, usd_at hf⟩
theorem DOk.act {D : DV} (h : DOk D) : DOk D.act := by
 refine ⟨h.srt, h.len, h.sf, h.byt, h.used, h.big, ?_, ?_⟩
 ·have := h.acts
  simp only [DV.act]
  omega
 ·have := h.fuse
  simp only [DV.act]
  split
  ·omega
  ·split <;> omega
theorem usd_del {fs : List PF} {i : Nat} {f : PF} (h : fs[i]? = some f) : usd (fs.take i ++ fs.drop (i + 1)) = usd fs - (f.bs.length : Int) := by
 have hl := (List.getElem?_eq_some_iff.1 h).1
 have e : fs = fs.take i ++ ([f] ++ fs.drop (i + 1)) := by
  have h1 := List.drop_eq_getElem_cons hl
  rw [(List.getElem?_eq_some_iff.1 h).2] at h1
  rw [List.singleton_append, ← h1, List.take_append_drop]
 have h2 := congrArg usd e
 rw [usd_app, usd_app] at h2
 rw [usd_app]
 simp [usd] at h2 ⊢
 omega
theorem usd_set {fs : List PF} {i : Nat} {f x : PF} (h : fs[i]? = some f) : usd (fs.set i x) = usd fs - (f.bs.length : Int) + (x.bs.length : Int) := by
 have hl := (List.getElem?_eq_some_iff.1 h).1
 have h1 := usd_del h
 have h2 := usd_del (fs := fs.set i x) (i := i) (f := x) (List.getElem?_set_self hl)
 rw [List.take_set_of_le (Nat.le_refl _), List.drop_set_of_lt (by omega)] at h2
 omega
theorem del_sub {fs : List PF} {i : Nat} {f : PF} (h : f ∈ fs.take i ++ fs.drop (i + 1)) : f ∈ fs := by
 obtain ⟨j, _, hj⟩ := del_mem h
 exact List.mem_of_getElem? hj
theorem DOk.del {D : DV} (h : DOk D) {i : Nat} {f : PF} (hf : D.fs[i]? = some f) : DOk (D.del i f) := by
 have hu := usd_del hf
 have hl := (List.getElem?_eq_some_iff.1 hf).1
 refine ⟨srt_del h.srt i, ?_, fun g hg => h.sf g (del_sub hg), fun g hg => h.byt g (del_sub hg), ?_, ?_, h.acts, h.fuse⟩
 ·have := h.len
  simp only [DV.del, List.length_append, List.length_take, List.length_drop]
  omega
 ·simp only [DV.del]
  rw [hu, h.used]
 ·simp only [DV.del]
  rw [hu]
  have := h.big
  omega
theorem set_sub {fs : List PF} {i : Nat} {x f : PF} (h : f ∈ fs.set i x) : f ∈ fs ∨ f = x := by
 rcases List.mem_or_eq_of_mem_set h with h | h
 ·exact .inl h
 ·exact .inr h
theorem DOk.cut {D : DV} (h : DOk D) {i : Nat} {f : PF} (hf : D.fs[i]? = some f) (m : Nat) (hm : m ≤ f.bs.length) : DOk (D.cut i f m) := by
 have hu := usd_set (x := f.cut m) hf
 have hmem := List.mem_of_getElem? hf
 have hl : ((f.cut m).bs.length : Int) = (m : Int) := by simp [PF.cut]; omega
 refine ⟨srt_set h.srt hf rfl, by simp only [DV.cut, List.length_set]; exact h.len, fun g hg => ?_, fun g hg => ?_, ?_, ?_, h.acts, h.fuse⟩
 ·rcases set_sub hg with hg | rfl
  ·exact h.sf g hg
  ·have := h.sf f hmem
   rw [hl]
   simp only [PF.cut]
   omega
 ·rcases set_sub hg with hg | rfl
  ·exact h.byt g hg
  ·intro c hc
   exact h.byt f hmem c (List.mem_of_mem_take hc)
 ·simp only [DV.cut]
  rw [hu, h.used, hl]
  omega
 ·simp only [DV.cut]
  rw [hu, hl]
  have := h.big
  omega
theorem sync_set (fs : List PF) (i : Nat) (f : PF) (hf : fs[i]? = some f) : fs.modify i PF.sync = fs.set i f.sync := by
 have hl := (List.getElem?_eq_some_iff.1 hf).1
 apply List.ext_getElem?
 intro j
 rw [List.getElem?_modify]
 by_cases h : i = j
 ·subst h
  rw [List.getElem?_set_self hl, hf]
  simp
 ·rw [List.getElem?_set_ne h]
  simp [h]
theorem DOk.sync {D : DV} (h : DOk D) {i : Nat} {f : PF} (hf : D.fs[i]? = some f) : DOk (D.sync i) := by
 have e : (D.sync i).fs = D.fs.set i f.sync := sync_set _ _ _ hf
 have hu := usd_set (x := f.sync) hf
 have hmem := List.mem_of_getElem? hf
 have hu2 : usd (D.sync i).fs = usd D.fs := by rw [e, hu]; simp only [PF.sync]; omega
 refine ⟨by rw [e]; exact srt_set h.srt hf rfl, by rw [e, List.length_set]; exact h.len, fun g hg => ?_, fun g hg => ?_, by rw [hu2]; exact h.used, by rw [hu2]; exact h.big, h.acts, h.fuse⟩
 ·rw [e] at hg
  rcases set_sub hg with hg | rfl
  ·exact h.sf g hg
  ·simp only [PF.sync]
   omega
 ·rw [e] at hg
  rcases set_sub hg with hg | rfl
  ·exact h.byt g hg
  ·exact h.byt f hmem
theorem act_on {D : DV} (h : ¬ D.fuse = 0) : D.act.out = D.out ∧ D.act.acts = D.acts + 1 ∧ (D.fuse = -1 → D.act.fuse = -1) := by
 refine ⟨by simp [DV.act, h], rfl, fun e => ?_⟩
 simp [DV.act, e]
theorem act_off {D : DV} (h : D.fuse = 0) : D.act.out = true ∧ D.act.acts = D.acts + 1 := ⟨by simp [DV.act, h], rfl⟩
structure MI (D Dt : DV) (k : Int) (t : Nat) : Prop where
 ok : DOk Dt
 out : Dt.out = false
 low : ∀ j : Nat, j < 256 → (j : Int) ≤ k → lk Dt.fs (nmS j) = lk D.fs (nmS j)
 high : ∀ j : Nat, j < 256 → k < (j : Int) → lk Dt.fs (nmS j) = none
 sub : ∀ f ∈ Dt.fs, f ∈ D.fs
 room : Dt.room = D.room
 acts : D.acts ≤ Dt.acts ∧ Dt.acts ≤ D.acts + (t : Int)
 fuse : D.fuse = -1 → Dt.fuse = -1
 idle : (∀ j : Nat, j < 256 → k < (j : Int) → lk D.fs (nmS j) = none) → Dt = D
theorem MI.start {D : DV} (h : DOk D) (ho : D.out = false) : MI D D 255 0 :=
 ⟨h, ho, fun _ _ _ => rfl, fun j h1 h2 => by omega, fun _ h => h, rfl, by omega, fun h => h, fun _ => rfl⟩
theorem MI.skip {D Dt : DV} {k t : Nat} (h : MI D Dt (k : Int) t) (hn : lk D.fs (nmS k) = none) : MI D Dt ((k : Int) - 1) (t + 1) := by
 refine ⟨h.ok, h.out, fun j h1 h2 => h.low j h1 (by omega), fun j h1 h2 => ?_, h.sub, h.room, ⟨h.acts.1, by have := h.acts.2; omega⟩, h.fuse, fun hi => h.idle fun j h1 h2 => hi j h1 (by omega)⟩
 by_cases e : j = k
 ·subst e
  rw [h.low j h1 (by omega), hn]
 ·exact h.high j h1 (by omega)
theorem MI.drop {D Dt : DV} {k t i : Nat} {f : PF} (h : MI D Dt (k : Int) t) (hk : k < 256) (hf : Dt.fs[i]? = some f) (hn : f.nm = nmS k) (hfu : ¬ Dt.fuse = 0) : MI D (Dt.act.del i f) ((k : Int) - 1) (t + 1) := by
 obtain ⟨a1, a2, a3⟩ := act_on hfu
 have hlk : ∀ j : Nat, lk (Dt.act.del i f).fs (nmS j) = if k = j then none else lk Dt.fs (nmS j) := fun j => by
  show lk (Dt.fs.take i ++ Dt.fs.drop (i + 1)) (nmS j) = _
  rw [lk_del h.ok.srt hf, hn]
  by_cases e : k = j
  ·rw [if_pos (by rw [e]), if_pos e]
  ·rw [if_neg fun h => e (nmS_inj h), if_neg e]
 refine ⟨(h.ok.act).del hf, by rw [← h.out]; exact a1, fun j h1 h2 => ?_, fun j h1 h2 => ?_, fun g hg => h.sub g (del_sub hg), h.room, ?_, fun e => a3 (h.fuse e), fun hi => ?_⟩
 ·rw [hlk, if_neg (by omega)]
  exact h.low j h1 (by omega)
 ·rw [hlk]
  split
  ·rfl
  ·exact h.high j h1 (by omega)
 ·have := h.acts
  show D.acts ≤ Dt.acts + 1 ∧ Dt.acts + 1 ≤ _
  omega
 ·exfalso
  have h1 := hi k hk (by omega)
  rw [← h.low k hk (Int.le_refl _)] at h1
  exact lk_none h1 f (List.mem_of_getElem? hf) hn
structure MPost (D D' : DV) (e : Int) (V : JV) : Prop where
 ok : DOk D'
 ans : (e = 0 ∧ D'.out = false ∧ Mended (Fk D.fs) (Fk D'.fs) V) ∨ (e = 7 ∧ D'.out = true ∧ Mid (Fk D.fs) (Fk D'.fs) V)
 nms : ∀ f ∈ D'.fs, ∃ g ∈ D.fs, g.nm = f.nm
 room : D'.room = D.room
 acts : D.acts ≤ D'.acts ∧ D'.acts ≤ D.acts + 300
 idle : (∀ j : Nat, j < 256 → V.pr < (j : Int) → lk D.fs (nmS j) = none) → V.torn = false → e = 0 → D'.acts = D.acts + if V.pr = -1 then 0 else 1
 fuse : D.fuse = -1 → e = 0 ∧ D'.fuse = -1
 safe : (∀ f ∈ D.fs, f.sf = (f.bs.length : Int)) → ∀ f ∈ D'.fs, f.sf = (f.bs.length : Int)
 low : ∀ j : Nat, j < 256 → (j : Int) < V.pr → lk D'.fs (nmS j) = lk D.fs (nmS j)
 pres : e = 0 → ∀ (j : Nat) (f : PF), (j : Int) = V.pr → lk D'.fs (nmS j) = some f → f.sf = (f.bs.length : Int)
theorem Fk_eq {fs fs' : List PF} {j : Nat} (h : lk fs' (nmS j) = lk fs (nmS j)) : Fk fs' j = Fk fs j := by unfold Fk; rw [h]
theorem Fk_none {fs : List PF} {j : Nat} (h : lk fs (nmS j) = none) : Fk fs j = none := by unfold Fk; rw [h]; rfl
theorem MI.dead {D Dt : DV} {k t : Nat} {V : JV} (h : MI D Dt (k : Int) t) (hk : V.pr < (k : Int)) (hk2 : k < 256) (ht : t ≤ 256) (hfu : Dt.fuse = 0) : MPost D Dt.act 7 V := by
 obtain ⟨a1, a2⟩ := act_off hfu
 refine ⟨h.ok.act, .inr ⟨rfl, a1, fun j hj => Fk_eq (h.low j (by omega) (by omega)), fun j hj => .inl (Fk_eq (h.low j (by omega) (by omega))), fun j h1 h2 => ?_⟩, fun f hf => ⟨f, h.sub f hf, rfl⟩, h.room, ?_, fun _ _ e => absurd e (by decide), fun e => ?_, fun hs f hf => hs f (h.sub f hf), fun j h1 h2 => h.low j h1 (by omega), fun e => absurd e (by decide)⟩
 ·by_cases e : (j : Int) ≤ (k : Int)
  ·exact .inl (Fk_eq (h.low j h2 e))
  ·exact .inr (Fk_none (h.high j h2 (by omega)))
 ·have := h.acts
  rw [a2]
  omega
 ·have := h.fuse e
  omega
theorem openV_at (F : Nat → Option (List Int)) : (openV F).pr = -1 ∧ (openV F).torn = false ∨ ∃ (m : Nat) (b : List Int), m < 256 ∧ F m = some b ∧ (openV F).pr = (m : Int) ∧ (openV F).sz = (enB b : Int) ∧ (openV F).torn = decide (enB b < b.length) := by
 rcases rdJ_at F 256 0 JV.nil rfl rfl with h | ⟨m, b, h1, h2⟩
 ·left
  unfold openV
  rw [h]
  exact ⟨rfl, rfl⟩
 ·exact .inr ⟨m, b, by omega, h2⟩
theorem MI.cutDead {D Dt : DV} {k t : Nat} (h : MI D Dt (k : Int) t) (hV : (openV (Fk D.fs)).pr = (k : Int)) (hk2 : k < 256) (ht : t ≤ 256) (hfu : Dt.fuse = 0) : MPost D Dt.act 7 (openV (Fk D.fs)) := by
 obtain ⟨a1, a2⟩ := act_off hfu
 refine ⟨h.ok.act, .inr ⟨rfl, a1, fun j hj => Fk_eq (h.low j (by omega) (by omega)), fun j hj => .inl (Fk_eq (h.low j (by omega) (by omega))), fun j h1 h2 => .inr (Fk_none (h.high j h2 (by omega)))⟩, fun f hf => ⟨f, h.sub f hf, rfl⟩, h.room, ?_, fun _ _ e => absurd e (by decide), fun e => ?_, fun hs f hf => hs f (h.sub f hf), fun j h1 h2 => h.low j h1 (by omega), fun e => absurd e (by decide)⟩
 ·have := h.acts
  rw [a2]
  omega
 ·have := h.fuse e
  omega
structure MC (D Dt : DV) (k : Nat) (V : JV) (t : Nat) : Prop where
 ok : DOk Dt
 out : Dt.out = false
 low : ∀ j : Nat, j < 256 → (j : Int) < (k : Int) → lk Dt.fs (nmS j) = lk D.fs (nmS j)
 at' : ∃ f g, lk D.fs (nmS k) = some g ∧ lk Dt.fs (nmS k) = some f ∧ f.bs = g.bs.take V.sz.toNat ∧ (g.sf = (g.bs.length : Int) → f.sf = (f.bs.length : Int))
 high : ∀ j : Nat, j < 256 → (k : Int) < (j : Int) → lk Dt.fs (nmS j) = none
 sub : ∀ f ∈ Dt.fs, f ∈ D.fs ∨ (f.nm = nmS k ∧ ∃ g ∈ D.fs, g.nm = f.nm)
 room : Dt.room = D.room
 acts : D.acts ≤ Dt.acts ∧ Dt.acts ≤ D.acts + (t : Int)
 fuse : D.fuse = -1 → Dt.fuse = -1
 idle : (∀ j : Nat, j < 256 → (k : Int) < (j : Int) → lk D.fs (nmS j) = none) → V.torn = false → Dt = D
theorem MI.noCut {D Dt : DV} {k t : Nat} (h : MI D Dt (k : Int) t) (hk2 : k < 256) (hV : (openV (Fk D.fs)).pr = (k : Int)) (ht : (openV (Fk D.fs)).torn = false) : MC D Dt k (openV (Fk D.fs)) t := by
 rcases openV_at (Fk D.fs) with ⟨h1, _⟩ | ⟨m, b, h1, h2, h3, h4, h5⟩
 ·omega
 ·obtain rfl : m = k := by omega
  unfold Fk at h2
  obtain ⟨g, hg, hgb⟩ := Option.map_eq_some_iff.1 h2
  have he : enB b = b.length := by
   have h6 := enB_le b
   rw [ht] at h5
   have h7 : ¬ enB b < b.length := of_decide_eq_false h5.symm
   omega
  refine ⟨h.ok, h.out, fun j h1 h2 => h.low j h1 (by omega), ⟨g, g, hg, by rw [h.low m hk2 (Int.le_refl _)]; exact hg, ?_, fun e => e⟩, h.high, fun f hf => .inl (h.sub f hf), h.room, h.acts, h.fuse, fun hi _ => h.idle hi⟩
  rw [h4, Int.toNat_natCast, he, ← hgb, List.take_of_length_le (Nat.le_refl _)]
theorem MI.cut {D Dt : DV} {k t i : Nat} {f : PF} (h : MI D Dt (k : Int) t) (hk2 : k < 256) (hV : (openV (Fk D.fs)).pr = (k : Int)) (ht : (openV (Fk D.fs)).torn = true) (hf : Dt.fs[i]? = some f) (hn : f.nm = nmS k) (hfu : ¬ Dt.fuse = 0) : MC D (Dt.act.cut i f (openV (Fk D.fs)).sz.toNat) k (openV (Fk D.fs)) (t + 1) ∧ (openV (Fk D.fs)).sz.toNat ≤ f.bs.length := by
 obtain ⟨a1, a2, a3⟩ := act_on hfu
 have hg : lk D.fs (nmS k) = some f := by
  rw [← h.low k hk2 (Int.le_refl _), ← hn]
  exact lk_at h.ok.srt hf
 have hsz : (openV (Fk D.fs)).sz.toNat ≤ f.bs.length := by
  rcases openV_at (Fk D.fs) with ⟨h1, _⟩ | ⟨m, b, h1, h2, h3, h4, h5⟩
  ·omega
  ·obtain rfl : m = k := by omega
   unfold Fk at h2
   rw [hg] at h2
   injection h2 with h2
   have h6 := enB_le b
   have h7 : f.bs.length = b.length := by rw [← h2]
   rw [h4]
   omega
 generalize hm : (openV (Fk D.fs)).sz.toNat = m at *
 have hlk : ∀ j : Nat, lk (Dt.act.cut i f m).fs (nmS j) = if k = j then some (f.cut m) else lk Dt.fs (nmS j) := fun j => by
  show lk (Dt.fs.set i (f.cut m)) (nmS j) = _
  rw [lk_set (g := f.cut m) h.ok.srt hf rfl, hn]
  by_cases e : k = j
  ·rw [if_pos (by rw [e]), if_pos e]
  ·rw [if_neg fun h => e (nmS_inj h), if_neg e]
 refine ⟨⟨(h.ok.act).cut hf m hsz, by rw [← h.out]; exact a1, fun j h1 h2 => ?_, ⟨f.cut m, f, hg, by rw [hlk, if_pos rfl], by rw [hm]; rfl, fun e => ?_⟩, fun j h1 h2 => ?_, fun g hg2 => ?_, h.room, ?_, fun e => a3 (h.fuse e), fun _ e => by rw [ht] at e; cases e⟩, hsz⟩
 ·rw [hlk, if_neg (by omega)]
  exact h.low j h1 (by omega)
 ·simp only [PF.cut, List.length_take]
  omega
 ·rw [hlk, if_neg (by omega)]
  exact h.high j h1 h2
 ·rcases set_sub (fs := Dt.fs) hg2 with h1 | rfl
  ·exact .inl (h.sub g h1)
  ·exact .inr ⟨hn, f, h.sub f (List.mem_of_getElem? hf), rfl⟩
 ·have := h.acts
  show D.acts ≤ Dt.acts + 1 ∧ Dt.acts + 1 ≤ _
  omega
theorem MC.mended {D Dt : DV} {k t : Nat} {V : JV} (h : MC D Dt k V t) (hV : V.pr = (k : Int)) (hk2 : k < 256) : Mended (Fk D.fs) (Fk Dt.fs) V := by
 obtain ⟨f, g, h1, h2, h3, _⟩ := h.at'
 refine ⟨fun j hj => Fk_eq (h.low j (by omega) (by omega)), fun j hj => ?_, fun j h1 h2 => Fk_none (h.high j h2 (by omega))⟩
 obtain rfl : j = k := by omega
 unfold Fk
 rw [h1, h2]
 simp [h3]
theorem MC.safe {D Dt : DV} {k t : Nat} {V : JV} (h : MC D Dt k V t) (hs : ∀ f ∈ D.fs, f.sf = (f.bs.length : Int)) : ∀ f ∈ Dt.fs, f.sf = (f.bs.length : Int) := fun f hf => by
 rcases h.sub f hf with h1 | ⟨h1, _⟩
 ·exact hs f h1
 ·obtain ⟨x, g, h2, h3, h4, h5⟩ := h.at'
  have h6 := lk_mem h.ok.srt hf
  rw [h1, h3] at h6
  injection h6 with h6
  subst h6
  exact h5 (hs g (by obtain ⟨j, hj, _⟩ := lk_some h2; exact List.mem_of_getElem? hj))
theorem MC.nms {D Dt : DV} {k t : Nat} {V : JV} (h : MC D Dt k V t) : ∀ f ∈ Dt.fs, ∃ g ∈ D.fs, g.nm = f.nm := fun f hf => by
 rcases h.sub f hf with h1 | ⟨_, h1⟩
 ·exact ⟨f, h1, rfl⟩
 ·exact h1
theorem MC.dead {D Dt : DV} {k t : Nat} {V : JV} (h : MC D Dt k V t) (hV : V.pr = (k : Int)) (hk2 : k < 256) (ht : t ≤ 257) (hfu : Dt.fuse = 0) : MPost D Dt.act 7 V := by
 obtain ⟨a1, a2⟩ := act_off hfu
 refine ⟨h.ok.act, .inr ⟨rfl, a1, (h.mended hV hk2).mid⟩, h.nms, h.room, ?_, fun _ _ e => absurd e (by decide), fun e => ?_, h.safe, fun j h1 h2 => h.low j h1 (by omega), fun e => absurd e (by decide)⟩
 ·have := h.acts
  rw [a2]
  omega
 ·have := h.fuse e
  omega
theorem MC.done {D Dt : DV} {k t i : Nat} {f : PF} {V : JV} (h : MC D Dt k V t) (hV : V.pr = (k : Int)) (hk2 : k < 256) (ht : t ≤ 257) (hf : Dt.fs[i]? = some f) (hn : f.nm = nmS k) (hfu : ¬ Dt.fuse = 0) : MPost D (Dt.act.sync i) 0 V := by
 obtain ⟨a1, a2, a3⟩ := act_on hfu
 have e : (Dt.act.sync i).fs = Dt.fs.set i f.sync := sync_set _ _ _ hf
 have hlk : ∀ j : Nat, lk (Dt.act.sync i).fs (nmS j) = if k = j then some f.sync else lk Dt.fs (nmS j) := fun j => by
  rw [e, lk_set (g := f.sync) h.ok.srt hf rfl, hn]
  by_cases e : k = j
  ·rw [if_pos (by rw [e]), if_pos e]
  ·rw [if_neg fun h => e (nmS_inj h), if_neg e]
 have hkf : lk Dt.fs (nmS k) = some f := by rw [← hn]; exact lk_at h.ok.srt hf
 have hFk : ∀ j, Fk (Dt.act.sync i).fs j = Fk Dt.fs j := fun j => by
  unfold Fk
  rw [hlk]
  split
  ·rename_i e; subst e; rw [hkf]; rfl
  ·rfl
 have hM := h.mended hV hk2
 refine ⟨h.ok.act.sync hf, .inl ⟨rfl, by rw [← h.out]; exact a1, fun j hj => by rw [hFk]; exact hM.low j hj, fun j hj => by rw [hFk]; exact hM.at' j hj, fun j h1 h2 => by rw [hFk]; exact hM.high j h1 h2⟩, fun g hg => ?_, h.room, ?_, fun hi h1 _ => ?_, fun e => ⟨rfl, a3 (h.fuse e)⟩, fun hs g hg => ?_, fun j h1 h2 => ?_, fun _ j g h1 h2 => ?_⟩
 ·rw [e] at hg
  rcases set_sub hg with hg | rfl
  ·exact h.nms g hg
  ·exact h.nms f (List.mem_of_getElem? hf)
 ·have := h.acts
  show D.acts ≤ Dt.acts + 1 ∧ Dt.acts + 1 ≤ _
  omega
 ·have h2 := h.idle (fun j h3 h4 => hi j h3 (by omega)) h1
  rw [if_neg (by omega)]
  show Dt.acts + 1 = _
  rw [h2]
 ·rw [e] at hg
  rcases set_sub hg with hg | rfl
  ·exact h.safe hs g hg
  ·rfl
 ·rw [hlk, if_neg (by omega)]
  exact h.low j h1 (by omega)
 ·obtain rfl : j = k := by omega
  rw [hlk, if_pos rfl] at h2
  injection h2 with h2
  subst h2
  rfl
theorem MI.none {D Dt : DV} {t : Nat} {V : JV} (h : MI D Dt (-1) t) (hV : V.pr = -1) (ht : t ≤ 256) (hn : lk D.fs (nmS 0) = none) : MPost D Dt 0 V := by
 refine ⟨h.ok, .inl ⟨rfl, h.out, fun j hj => by omega, fun j hj => by omega, fun j h1 h2 => Fk_none (h.high j h2 (by omega))⟩, fun f hf => ⟨f, h.sub f hf, rfl⟩, h.room, ?_, fun hi _ _ => ?_, fun e => ⟨rfl, h.fuse e⟩, fun hs f hf => hs f (h.sub f hf), fun j h1 h2 => by omega, fun _ j f h1 => by omega⟩
 ·have := h.acts
  omega
 ·rw [if_pos hV, h.idle fun j h1 h2 => hi j h1 (by omega)]
  omega
end Go.Proofs.YtennogmeeefopaaDoor
