import Derived.Test.YtlggejehaonkcaaDoorA07
import Derived.Test.YtlggejehaonkcaaDoorA08
import Derived.Deep.RegionHeld3
import Derived.Lib.Small
import Derived.Lib.SlicesS
namespace Go.Proofs.YtlggejehaonkcaaDoor
open Go.RowKit
set_option linter.unusedSimpArgs false
set_option linter.unusedVariables false

def IntsAt (w : World) (v : Value) (l : List Int) : Prop :=
 (∃ a c, v = .slice a 0 c ∧ l = []) ∨ ∃ q o c, v = .slice (some ⟨q, o, none⟩) l.length c ∧ ∀ i, i < l.length → w.cell? ⟨q, o + i, none⟩ = some (.int .i64 (l.getD i 0))
theorem IntsAt.form {w : World} {v : Value} {l : List Int} (h : IntsAt w v l) : ∃ a c, v = .slice a l.length c := by
 rcases h with ⟨a, c, rfl, rfl⟩ | ⟨q, o, c, rfl, _⟩
 ·exact ⟨_, _, rfl⟩
 ·exact ⟨_, _, rfl⟩
theorem IntsAt.grown {w w' : World} {v : Value} {l : List Int} {S : Nat → Prop} (h : IntsAt w v l) (hg : Grown w w' S) (hs : ∀ k, v.ownBlock = some k → ¬ S k) : IntsAt w' v l := by
 rcases h with h | ⟨q, o, c, rfl, h⟩
 ·exact .inl h
 ·exact .inr ⟨q, o, c, rfl, fun i hi => hg.cell (h i hi) (hs q rfl)⟩
theorem IntsAt.below {w w' : World} {v : Value} {l : List Int} (h : IntsAt w v l) (hb : Below w.heap.size w w') : IntsAt w' v l := h.grown (Grown.below (S := fun _ => False) hb) fun _ _ h => h
theorem IntsAt.at {w : World} {a : Option Addr} {n c : Nat} {l : List Int} (h : IntsAt w (.slice a n c) l) {t : Nat} (ht : t < l.length) : ∃ q o, a = some ⟨q, o, none⟩ ∧ w.cell? ⟨q, o + t, none⟩ = some (.int .i64 (l.getD t 0)) := by
 rcases h with ⟨a', c', h1, rfl⟩ | ⟨q, o, c', h1, h2⟩
 ·simp at ht
 ·injection h1 with h1
  exact ⟨q, o, h1, h2 t ht⟩
def kpN (kp : List Int) (i : Nat) (f : PF) : Int :=
 if i < kp.length then Int.tmod (Int.tmod (kp.getD i 0) ((f.bs.length : Int) - f.sf + 1) + ((f.bs.length : Int) - f.sf + 1)) ((f.bs.length : Int) - f.sf + 1) else 0
theorem tm_bnd (a k : Int) (h : 0 < k) : -k < Int.tmod a k ∧ Int.tmod a k < k := ⟨Int.lt_tmod_of_pos a h, Int.tmod_lt_of_pos a h⟩
theorem tm_pos (a k : Int) (h : 0 < k) (ha : 0 ≤ a) : 0 ≤ Int.tmod a k := Int.tmod_nonneg k ha
theorem kpN_le (kp : List Int) (i : Nat) (f : PF) (h : 0 ≤ f.sf ∧ f.sf ≤ (f.bs.length : Int)) : 0 ≤ kpN kp i f ∧ kpN kp i f ≤ (f.bs.length : Int) - f.sf := by
 unfold kpN
 split
 ·have h1 := tm_bnd (kp.getD i 0) ((f.bs.length : Int) - f.sf + 1) (by omega)
  have h2 := tm_bnd (Int.tmod (kp.getD i 0) ((f.bs.length : Int) - f.sf + 1) + ((f.bs.length : Int) - f.sf + 1)) ((f.bs.length : Int) - f.sf + 1) (by omega)
  have h3 := tm_pos (Int.tmod (kp.getD i 0) ((f.bs.length : Int) - f.sf + 1) + ((f.bs.length : Int) - f.sf + 1)) ((f.bs.length : Int) - f.sf + 1) (by omega) (by omega)
  omega
 ·omega
def PF.crash (f : PF) (n : Int) : PF := ⟨f.nm, f.bs.take (f.sf + n).toNat, f.sf + n⟩
def crT (kp : List Int) (t : Nat) (fs : List PF) : List PF := fs.mapIdx fun i f => if i < t then f.crash (kpN kp i f) else f
theorem crT_len (kp : List Int) (t : Nat) (fs : List PF) : (crT kp t fs).length = fs.length := by simp [crT]
theorem crT_zero (kp : List Int) (fs : List PF) : crT kp 0 fs = fs := by
 apply List.ext_getElem?
 intro i
 unfold crT
 rw [List.getElem?_mapIdx]
 cases fs[i]? <;> simp
theorem crT_at (kp : List Int) (t : Nat) (fs : List PF) : (crT kp t fs)[t]? = fs[t]? := by
 unfold crT
 rw [List.getElem?_mapIdx]
 cases fs[t]? <;> simp
theorem crT_step (kp : List Int) (t : Nat) (fs : List PF) (f : PF) (h : fs[t]? = some f) : crT kp (t + 1) fs = (crT kp t fs).set t (f.crash (kpN kp t f)) := by
 have hl := (List.getElem?_eq_some_iff.1 h).1
 apply List.ext_getElem?
 intro i
 by_cases hi : t = i
 ·subst hi
  rw [List.getElem?_set_self (by rw [crT_len]; exact hl)]
  unfold crT
  rw [List.getElem?_mapIdx, h]
  simp
 ·rw [List.getElem?_set_ne hi]
  unfold crT
  rw [List.getElem?_mapIdx, List.getElem?_mapIdx]
  cases fs[i]? with
  | none => rfl
  | some g =>
   simp only [Option.map_some]
   by_cases h1 : i < t
   ·rw [if_pos h1, if_pos (by omega)]
   ·rw [if_neg h1, if_neg (by omega)]
def usd (fs : List PF) : Int := (fs.map fun f => (f.bs.length : Int)).sum
theorem usd_app (a b : List PF) : usd (a ++ b) = usd a + usd b := by simp [usd]
theorem usd_nonneg : ∀ fs : List PF, 0 ≤ usd fs
 | [] => by simp [usd]
 | f :: r => by
  have := usd_nonneg r
  simp only [usd, List.map_cons, List.sum_cons] at this ⊢
  omega
theorem usd_take (fs : List PF) (t : Nat) : usd (fs.take t) ≤ usd fs := by
 have h := usd_app (fs.take t) (fs.drop t)
 rw [List.take_append_drop] at h
 have := usd_nonneg (fs.drop t)
 omega
theorem usd_step (l : List PF) (t : Nat) (x : PF) (h : t < l.length) : usd ((l.set t x).take (t + 1)) = usd (l.take t) + (x.bs.length : Int) := by
 have e : (l.set t x).take (t + 1) = l.take t ++ [x] := by
  rw [List.take_add_one, List.take_set_of_le (Nat.le_refl _), List.getElem?_set_self h]
  rfl
 rw [e, usd_app]
 simp [usd]
theorem usd_mem {fs : List PF} {t : Nat} {f : PF} (h : fs[t]? = some f) : usd (fs.take t) + (f.bs.length : Int) ≤ usd fs := by
 have h1 := usd_take fs (t + 1)
 rw [List.take_add_one, h, usd_app] at h1
 simp [usd] at h1 ⊢
 omega
theorem usd_at {fs : List PF} {t : Nat} {f : PF} (h : fs[t]? = some f) : (f.bs.length : Int) ≤ usd fs := by
 have h1 := usd_mem h
 have := usd_nonneg (fs.take t)
 omega
theorem usd_crT (kp : List Int) (fs : List PF) (hS : ∀ f ∈ fs, 0 ≤ f.sf ∧ f.sf ≤ (f.bs.length : Int)) : ∀ t, t ≤ fs.length → usd ((crT kp t fs).take t) ≤ usd (fs.take t)
 | 0, _ => by simp [usd]
 | t + 1, h => by
  have hf : fs[t]? = some (fs[t]'(by omega)) := List.getElem?_eq_getElem _
  rw [crT_step kp t fs _ hf, usd_step _ _ _ (by rw [crT_len]; omega), List.take_add_one, hf, usd_app]
  have h1 := usd_crT kp fs hS t (by omega)
  have h2 := kpN_le kp t (fs[t]'(by omega)) (hS _ (List.getElem_mem _))
  have h3 := hS (fs[t]'(by omega)) (List.getElem_mem _)
  simp only [PF.crash, List.length_take, usd, Option.toList_some, List.map_cons, List.map_nil, List.sum_cons, List.sum_nil] at h1 ⊢
  omega
def DV.crash (D : DV) (kp : List Int) : DV := { D with fs := crT kp D.fs.length D.fs, used := usd (crT kp D.fs.length D.fs), fuse := -1, out := false }
structure DOk (D : DV) : Prop where
 srt : Srt D.fs
 len : D.fs.length ≤ 256
 sf : ∀ f ∈ D.fs, 0 ≤ f.sf ∧ f.sf ≤ (f.bs.length : Int)
 byt : ∀ f ∈ D.fs, Byts f.bs
 used : D.used = usd D.fs
 big : usd D.fs ≤ 1000000000
 acts : 0 ≤ D.acts
 fuse : -1 ≤ D.fuse ∧ D.fuse ≤ 9223372036854775807
theorem DOk.at {D : DV} (h : DOk D) {i : Nat} {f : PF} (hf : D.fs[i]? = some f) : 0 ≤ D.used ∧ D.used ≤ 70368744177664 ∧ (f.bs.length : Int) ≤ D.used := by
 rw [h.used]
 exact ⟨usd_nonneg _, by have := h.big; omega, usd_at hf⟩
theorem DOk.act {D : DV} (h : DOk D) : DOk D.act := by
 refine ⟨h.srt, h.len, h.sf, h.byt, h.used, h.big, ?_, ?_⟩
 ·have := h.acts
  simp only [DV.act]
  omega
 ·have := h.fuse
  simp only [DV.act]
  split
  ·omega
  ·split <;> omega
theorem usd_del {fs : List PF} {i : Nat} {f : PF} (h : fs[i]? = some f) : usd (fs.take i ++ fs.drop (i + 1)) = usd fs - (f.bs.length : Int) := by
 have hl := (List.getElem?_eq_some_iff.1 h).1
 have e : fs = fs.take i ++ ([f] ++ fs.drop (i + 1)) := by
  have h1 := List.drop_eq_getElem_cons hl
  rw [(List.getElem?_eq_some_iff.1 h).2] at h1
  rw [List.singleton_append, ← h1, List.take_append_drop]
 have h2 := congrArg usd e
 rw [usd_app, usd_app] at h2
 rw [usd_app]
 simp [usd] at h2 ⊢
 omega
theorem usd_set {fs : List PF} {i : Nat} {f x : PF} (h : fs[i]? = some f) : usd (fs.set i x) = usd fs - (f.bs.length : Int) + (x.bs.length : Int) := by
 have hl := (List.getElem?_eq_some_iff.1 h).1
 have h1 := usd_del h
 have h2 := usd_del (fs := fs.set i x) (i := i) (f := x) (List.getElem?_set_self hl)
 rw [List.take_set_of_le (Nat.le_refl _), List.drop_set_of_lt (by omega)] at h2
 omega
theorem del_sub {fs : List PF} {i : Nat} {f : PF} (h : f ∈ fs.take i ++ fs.drop (i + 1)) : f ∈ fs := by
 obtain ⟨j, _, hj⟩ := del_mem h
 exact List.mem_of_getElem? hj
theorem DOk.del {D : DV} (h : DOk D) {i : Nat} {f : PF} (hf : D.fs[i]? = some f) : DOk (D.del i f) := by
 have hu := usd_del hf
 have hl := (List.getElem?_eq_some_iff.1 hf).1
 refine ⟨srt_del h.srt i, ?_, fun g hg => h.sf g (del_sub hg), fun g hg => h.byt g (del_sub hg), ?_, ?_, h.acts, h.fuse⟩
 ·have := h.len
  simp only [DV.del, List.length_append, List.length_take, List.length_drop]
  omega
 ·simp only [DV.del]
  rw [hu, h.used]
 ·simp only [DV.del]
  rw [hu]
  have := h.big
  omega
theorem set_sub {fs : List PF} {i : Nat} {x f : PF} (h : f ∈ fs.set i x) : f ∈ fs ∨ f = x := by
 rcases List.mem_or_eq_of_mem_set h with h | h
 ·exact .inl h
 ·exact .inr h
theorem DOk.cut {D : DV} (h : DOk D) {i : Nat} {f : PF} (hf : D.fs[i]? = some f) (m : Nat) (hm : m ≤ f.bs.length) : DOk (D.cut i f m) := by
 have hu := usd_set (x := f.cut m) hf
 have hmem := List.mem_of_getElem? hf
 have hl : ((f.cut m).bs.length : Int) = (m : Int) := by simp [PF.cut]; omega
 refine ⟨srt_set h.srt hf rfl, by simp only [DV.cut, List.length_set]; exact h.len, fun g hg => ?_, fun g hg => ?_, ?_, ?_, h.acts, h.fuse⟩
 ·rcases set_sub hg with hg | rfl
  ·exact h.sf g hg
  ·have := h.sf f hmem
   rw [hl]
   simp only [PF.cut]
   omega
 ·rcases set_sub hg with hg | rfl
  ·exact h.byt g hg
  ·intro c hc
   exact h.byt f hmem c (List.mem_of_mem_take hc)
 ·simp only [DV.cut]
  rw [hu, h.used, hl]
  omega
 ·simp only [DV.cut]
  rw [hu, hl]
  have := h.big
  omega
theorem sync_set (fs : List PF) (i : Nat) (f : PF) (hf : fs[i]? = some f) : fs.modify i PF.sync = fs.set i f.sync := by
 have hl := (List.getElem?_eq_some_iff.1 hf).1
 apply List.ext_getElem?
 intro j
 rw [List.getElem?_modify]
 by_cases h : i = j
 ·subst h
  rw [List.getElem?_set_self hl, hf]
  simp
 ·rw [List.getElem?_set_ne h]
  simp [h]
theorem DOk.sync {D : DV} (h : DOk D) {i : Nat} {f : PF} (hf : D.fs[i]? = some f) : DOk (D.sync i) := by
 have e : (D.sync i).fs = D.fs.set i f.sync := sync_set _ _ _ hf
 have hu := usd_set (x := f.sync) hf
 have hmem := List.mem_of_getElem? hf
 have hu2 : usd (D.sync i).fs = usd D.fs := by rw [e, hu]; simp only [PF.sync]; omega
 refine ⟨by rw [e]; exact srt_set h.srt hf rfl, by rw [e, List.length_set]; exact h.len, fun g hg => ?_, fun g hg => ?_, by rw [hu2]; exact h.used, by rw [hu2]; exact h.big, h.acts, h.fuse⟩
 ·rw [e] at hg
  rcases set_sub hg with hg | rfl
  ·exact h.sf g hg
  ·simp only [PF.sync]
   omega
 ·rw [e] at hg
  rcases set_sub hg with hg | rfl
  ·exact h.byt g hg
  ·exact h.byt f hmem
theorem act_on {D : DV} (h : ¬ D.fuse = 0) : D.act.out = D.out ∧ D.act.acts = D.acts + 1 ∧ (D.fuse = -1 → D.act.fuse = -1) := by
 refine ⟨by simp [DV.act, h], rfl, fun e => ?_⟩
 simp [DV.act, e]
theorem act_off {D : DV} (h : D.fuse = 0) : D.act.out = true ∧ D.act.acts = D.acts + 1 := ⟨by simp [DV.act, h], rfl⟩
structure MI (D Dt : DV) (k : Int) (t : Nat) : Prop where
 ok : DOk Dt
 out : Dt.out = false
 low : ∀ j : Nat, j < 256 → (j : Int) ≤ k → lk Dt.fs (nmS j) = lk D.fs (nmS j)
 high : ∀ j : Nat, j < 256 → k < (j : Int) → lk Dt.fs (nmS j) = none
 sub : ∀ f ∈ Dt.fs, f ∈ D.fs
 room : Dt.room = D.room
 acts : D.acts ≤ Dt.acts ∧ Dt.acts ≤ D.acts + (t : Int)
 fuse : D.fuse = -1 → Dt.fuse = -1
 idle : (∀ j : Nat, j < 256 → k < (j : Int) → lk D.fs (nmS j) = none) → Dt = D
theorem MI.start {D : DV} (h : DOk D) (ho : D.out = false) : MI D D 255 0 :=
 ⟨h, ho, fun _ _ _ => rfl, fun j h1 h2 => by omega, fun _ h => h, rfl, by omega, fun h => h, fun _ => rfl⟩
theorem MI.skip {D Dt : DV} {k t : Nat} (h : MI D Dt (k : Int) t) (hn : lk D.fs (nmS k) = none) : MI D Dt ((k : Int) - 1) (t + 1) := by
 refine ⟨h.ok, h.out, fun j h1 h2 => h.low j h1 (by omega), fun j h1 h2 => ?_, h.sub, h.room, ⟨h.acts.1, by have := h.acts.2; omega⟩, h.fuse, fun hi => h.idle fun j h1 h2 => hi j h1 (by omega)⟩
 by_cases e : j = k
 ·subst e
  rw [h.low j h1 (by omega), hn]
 ·exact h.high j h1 (by omega)
theorem MI.drop {D Dt : DV} {k t i : Nat} {f : PF} (h : MI D Dt (k : Int) t) (hk : k < 256) (hf : Dt.fs[i]? = some f) (hn : f.nm = nmS k) (hfu : ¬ Dt.fuse = 0) : MI D (Dt.act.del i f) ((k : Int) - 1) (t + 1) := by
 obtain ⟨a1, a2, a3⟩ := act_on hfu
 have hlk : ∀ j : Nat, lk (Dt.act.del i f).fs (nmS j) = if k = j then none else lk Dt.fs (nmS j) := fun j => by
  show lk (Dt.fs.take i ++ Dt.fs.drop (i + 1)) (nmS j) = _
  rw [lk_del h.ok.srt hf, hn]
  by_cases e : k = j
  ·rw [if_pos (by rw [e]), if_pos e]
  ·rw [if_neg fun h => e (nmS_inj h), if_neg e]
 refine ⟨(h.ok.act).del hf, by rw [← h.out]; exact a1, fun j h1 h2 => ?_, fun j h1 h2 => ?_, fun g hg => h.sub g (del_sub hg), h.room, ?_, fun e => a3 (h.fuse e), fun hi => ?_⟩
 ·rw [hlk, if_neg (by omega)]
  exact h.low j h1 (by omega)
 ·rw [hlk]
  split
  ·rfl
  ·exact h.high j h1 (by omega)
 ·have := h.acts
  show D.acts ≤ Dt.acts + 1 ∧ Dt.acts + 1 ≤ _
  omega
 ·exfalso
  have h1 := hi k hk (by omega)
  rw [← h.low k hk (Int.le_refl _)] at h1
  exact lk_none h1 f (List.mem_of_getElem? hf) hn
structure MPost (D D' : DV) (e : Int) (V : JV) : Prop where
 ok : DOk D'
 ans : (e = 0 ∧ D'.out = false ∧ Mended (Fk D.fs) (Fk D'.fs) V) ∨ (e = 7 ∧ D'.out = true ∧ Mid (Fk D.fs) (Fk D'.fs) V)
 nms : ∀ f ∈ D'.fs, ∃ g ∈ D.fs, g.nm = f.nm
 room : D'.room = D.room
 acts : D.acts ≤ D'.acts ∧ D'.acts ≤ D.acts + 300
 idle : (∀ j : Nat, j < 256 → V.pr < (j : Int) → lk D.fs (nmS j) = none) → V.torn = false → e = 0 → D'.acts = D.acts + if V.pr = -1 then 0 else 1
 fuse : D.fuse = -1 → e = 0 ∧ D'.fuse = -1
 safe : (∀ f ∈ D.fs, f.sf = (f.bs.length : Int)) → ∀ f ∈ D'.fs, f.sf = (f.bs.length : Int)
 low : ∀ j : Nat, j < 256 → (j : Int) < V.pr → lk D'.fs (nmS j) = lk D.fs (nmS j)
 pres : e = 0 → ∀ (j : Nat) (f : PF), (j : Int) = V.pr → lk D'.fs (nmS j) = some f → f.sf = (f.bs.length : Int)
theorem Fk_eq {fs fs' : List PF} {j : Nat} (h : lk fs' (nmS j) = lk fs (nmS j)) : Fk fs' j = Fk fs j := by unfold Fk; rw [h]
theorem Fk_none {fs : List PF} {j : Nat} (h : lk fs (nmS j) = none) : Fk fs j = none := by unfold Fk; rw [h]; rfl
theorem MI.dead {D Dt : DV} {k t : Nat} {V : JV} (h : MI D Dt (k : Int) t) (hk : V.pr < (k : Int)) (hk2 : k < 256) (ht : t ≤ 256) (hfu : Dt.fuse = 0) : MPost D Dt.act 7 V := by
 obtain ⟨a1, a2⟩ := act_off hfu
 refine ⟨h.ok.act, .inr ⟨rfl, a1, fun j hj => Fk_eq (h.low j (by omega) (by omega)), fun j hj => .inl (Fk_eq (h.low j (by omega) (by omega))), fun j h1 h2 => ?_⟩, fun f hf => ⟨f, h.sub f hf, rfl⟩, h.room, ?_, fun _ _ e => absurd e (by decide), fun e => ?_, fun hs f hf => hs f (h.sub f hf), fun j h1 h2 => h.low j h1 (by omega), fun e => absurd e (by decide)⟩
 ·by_cases e : (j : Int) ≤ (k : Int)
  ·exact .inl (Fk_eq (h.low j h2 e))
  ·exact .inr (Fk_none (h.high j h2 (by omega)))
 ·have := h.acts
  rw [a2]
  omega
 ·have := h.fuse e
  omega
theorem openV_at (F : Nat → Option (List Int)) : (openV F).pr = -1 ∧ (openV F).torn = false ∨ ∃ (m : Nat) (b : List Int), m < 256 ∧ F m = some b ∧ (openV F).pr = (m : Int) ∧ (openV F).sz = (enB b : Int) ∧ (openV F).torn = decide (enB b < b.length) := by
 rcases rdJ_at F 256 0 JV.nil rfl rfl with h | ⟨m, b, h1, h2⟩
 ·left
  unfold openV
  rw [h]
  exact ⟨rfl, rfl⟩
 ·exact .inr ⟨m, b, by omega, h2⟩
theorem MI.cutDead {D Dt : DV} {k t : Nat} (h : MI D Dt (k : Int) t) (hV : (openV (Fk D.fs)).pr = (k : Int)) (hk2 : k < 256) (ht : t ≤ 256) (hfu : Dt.fuse = 0) : MPost D Dt.act 7 (openV (Fk D.fs)) := by
 obtain ⟨a1, a2⟩ := act_off hfu
 refine ⟨h.ok.act, .inr ⟨rfl, a1, fun j hj => Fk_eq (h.low j (by omega) (by omega)), fun j hj => .inl (Fk_eq (h.low j (by omega) (by omega))), fun j h1 h2 => .inr (Fk_none (h.high j h2 (by omega)))⟩, fun f hf => ⟨f, h.sub f hf, rfl⟩, h.room, ?_, fun _ _ e => absurd e (by decide), fun e => ?_, fun hs f hf => hs f (h.sub f hf), fun j h1 h2 => h.low j h1 (by omega), fun e => absurd e (by decide)⟩
 ·have := h.acts
  rw [a2]
  omega
 ·have := h.fuse e
  omega
structure MC (D Dt : DV) (k : Nat) (V : JV) (t : Nat) : Prop where
 ok : DOk Dt
 out : Dt.out = false
 low : ∀ j : Nat, j < 256 → (j : Int) < (k : Int) → lk Dt.fs (nmS j) = lk D.fs (nmS j)
 at' : ∃ f g, lk D.fs (nmS k) = some g ∧ lk Dt.fs (nmS k) = some f ∧ f.bs = g.bs.take V.sz.toNat ∧ (g.sf = (g.bs.length : Int) → f.sf = (f.bs.length : Int))
 high : ∀ j : Nat, j < 256 → (k : Int) < (j : Int) → lk Dt.fs (nmS j) = none
 sub : ∀ f ∈ Dt.fs, f ∈ D.fs ∨ (f.nm = nmS k ∧ ∃ g ∈ D.fs, g.nm = f.nm)
 room : Dt.room = D.room
 acts : D.acts ≤ Dt.acts ∧ Dt.acts ≤ D.acts + (t : Int)
 fuse : D.fuse = -1 → Dt.fuse = -1
 idle : (∀ j : Nat, j < 256 → (k : Int) < (j : Int) → lk D.fs (nmS j) = none) → V.torn = false → Dt = D
theorem MI.noCut {D Dt : DV} {k t : Nat} (h : MI D Dt (k : Int) t) (hk2 : k < 256) (hV : (openV (Fk D.fs)).pr = (k : Int)) (ht : (openV (Fk D.fs)).torn = false) : MC D Dt k (openV (Fk D.fs)) t := by
 rcases openV_at (Fk D.fs) with ⟨h1, _⟩ | ⟨m, b, h1, h2, h3, h4, h5⟩
 ·omega
 ·obtain rfl : m = k := by omega
  unfold Fk at h2
  obtain ⟨g, hg, hgb⟩ := Option.map_eq_some_iff.1 h2
  have he : enB b = b.length := by
   have h6 := enB_le b
   rw [ht] at h5
   have h7 : ¬ enB b < b.length := of_decide_eq_false h5.symm
   omega
  refine ⟨h.ok, h.out, fun j h1 h2 => h.low j h1 (by omega), ⟨g, g, hg, by rw [h.low m hk2 (Int.le_refl _)]; exact hg, ?_, fun e => e⟩, h.high, fun f hf => .inl (h.sub f hf), h.room, h.acts, h.fuse, fun hi _ => h.idle hi⟩
  rw [h4, Int.toNat_natCast, he, ← hgb, List.take_of_length_le (Nat.le_refl _)]
theorem MI.cut {D Dt : DV} {k t i : Nat} {f : PF} (h : MI D Dt (k : Int) t) (hk2 : k < 256) (hV : (openV (Fk D.fs)).pr = (k : Int)) (ht : (openV (Fk D.fs)).torn = true) (hf : Dt.fs[i]? = some f) (hn : f.nm = nmS k) (hfu : ¬ Dt.fuse = 0) : MC D (Dt.act.cut i f (openV (Fk D.fs)).sz.toNat) k (openV (Fk D.fs)) (t + 1) ∧ (openV (Fk D.fs)).sz.toNat ≤ f.bs.length := by
 obtain ⟨a1, a2, a3⟩ := act_on hfu
 have hg : lk D.fs (nmS k) = some f := by
  rw [← h.low k hk2 (Int.le_refl _), ← hn]
  exact lk_at h.ok.srt hf
 have hsz : (openV (Fk D.fs)).sz.toNat ≤ f.bs.length := by
  rcases openV_at (Fk D.fs) with ⟨h1, _⟩ | ⟨m, b, h1, h2, h3, h4, h5⟩
  ·omega
  ·obtain rfl : m = k := by omega
   unfold Fk at h2
   rw [hg] at h2
   injection h2 with h2
   have h6 := enB_le b
   have h7 : f.bs.length = b.length := by rw [← h2]
   rw [h4]
   omega
 generalize hm : (openV (Fk D.fs)).sz.toNat = m at *
 have hlk : ∀ j : Nat, lk (Dt.act.cut i f m).fs (nmS j) = if k = j then some (f.cut m) else lk Dt.fs (nmS j) := fun j => by
  show lk (Dt.fs.set i (f.cut m)) (nmS j) = _
  rw [lk_set (g := f.cut m) h.ok.srt hf rfl, hn]
  by_cases e : k = j
  ·rw [if_pos (by rw [e]), if_pos e]
  ·rw [if_neg fun h => e (nmS_inj h), if_neg e]
 refine ⟨⟨(h.ok.act).cut hf m hsz, by rw [← h.out]; exact a1, fun j h1 h2 => ?_, ⟨f.cut m, f, hg, by rw [hlk, if_pos rfl], by rw [hm]; rfl, fun e => ?_⟩, fun j h1 h2 => ?_, fun g hg2 => ?_, h.room, ?_, fun e => a3 (h.fuse e), fun _ e => by rw [ht] at e; cases e⟩, hsz⟩
 ·rw [hlk, if_neg (by omega)]
  exact h.low j h1 (by omega)
 ·simp only [PF.cut, List.length_take]
  omega
 ·rw [hlk, if_neg (by omega)]
  exact h.high j h1 h2
 ·rcases set_sub (fs := Dt.fs) hg2 with h1 | rfl
  ·exact .inl (h.sub g h1)
  ·exact .inr ⟨hn, f, h.sub f (List.mem_of_getElem? hf), rfl⟩
 ·have := h.acts
  show D.acts ≤ Dt.acts + 1 ∧ Dt.acts + 1 ≤ _
  omega
theorem MC.mended {D Dt : DV} {k t : Nat} {V : JV} (h : MC D Dt k V t) (hV : V.pr = (k : Int)) (hk2 : k < 256) : Mended (Fk D.fs) (Fk Dt.fs) V := by
 obtain ⟨f, g, h1, h2, h3, _⟩ := h.at'
 refine ⟨fun j hj => Fk_eq (h.low j (by omega) (by omega)), fun j hj => ?_, fun j h1 h2 => Fk_none (h.high j h2 (by omega))⟩
 obtain rfl : j = k := by omega
 unfold Fk
 rw [h1, h2]
 simp [h3]
theorem MC.safe {D Dt : DV} {k t : Nat} {V : JV} (h : MC D Dt k V t) (hs : ∀ f ∈ D.fs, f.sf = (f.bs.length : Int)) : ∀ f ∈ Dt.fs, f.sf = (f.bs.length : Int) := fun f hf => by
 rcases h.sub f hf with h1 | ⟨h1, _⟩
 ·exact hs f h1
 ·obtain ⟨x, g, h2, h3, h4, h5⟩ := h.at'
  have h6 := lk_mem h.ok.srt hf
  rw [h1, h3] at h6
  injection h6 with h6
  subst h6
  exact h5 (hs g (by obtain ⟨j, hj, _⟩ := lk_some h2; exact List.mem_of_getElem? hj))
theorem MC.nms {D Dt : DV} {k t : Nat} {V : JV} (h : MC D Dt k V t) : ∀ f ∈ Dt.fs, ∃ g ∈ D.fs, g.nm = f.nm := fun f hf => by
 rcases h.sub f hf with h1 | ⟨_, h1⟩
 ·exact ⟨f, h1, rfl⟩
 ·exact h1
theorem MC.dead {D Dt : DV} {k t : Nat} {V : JV} (h : MC D Dt k V t) (hV : V.pr = (k : Int)) (hk2 : k < 256) (ht : t ≤ 257) (hfu : Dt.fuse = 0) : MPost D Dt.act 7 V := by
 obtain ⟨a1, a2⟩ := act_off hfu
 refine ⟨h.ok.act, .inr ⟨rfl, a1, (h.mended hV hk2).mid⟩, h.nms, h.room, ?_, fun _ _ e => absurd e (by decide), fun e => ?_, h.safe, fun j h1 h2 => h.low j h1 (by omega), fun e => absurd e (by decide)⟩
 ·have := h.acts
  rw [a2]
  omega
 ·have := h.fuse e
  omega
theorem MC.done {D Dt : DV} {k t i : Nat} {f : PF} {V : JV} (h : MC D Dt k V t) (hV : V.pr = (k : Int)) (hk2 : k < 256) (ht : t ≤ 257) (hf : Dt.fs[i]? = some f) (hn : f.nm = nmS k) (hfu : ¬ Dt.fuse = 0) : MPost D (Dt.act.sync i) 0 V := by
 obtain ⟨a1, a2, a3⟩ := act_on hfu
 have e : (Dt.act.sync i).fs = Dt.fs.set i f.sync := sync_set _ _ _ hf
 have hlk : ∀ j : Nat, lk (Dt.act.sync i).fs (nmS j) = if k = j then some f.sync else lk Dt.fs (nmS j) := fun j => by
  rw [e, lk_set (g := f.sync) h.ok.srt hf rfl, hn]
  by_cases e : k = j
  ·rw [if_pos (by rw [e]), if_pos e]
  ·rw [if_neg fun h => e (nmS_inj h), if_neg e]
 have hkf : lk Dt.fs (nmS k) = some f := by rw [← hn]; exact lk_at h.ok.srt hf
 have hFk : ∀ j, Fk (Dt.act.sync i).fs j = Fk Dt.fs j := fun j => by
  unfold Fk
  rw [hlk]
  split
  ·rename_i e; subst e; rw [hkf]; rfl
  ·rfl
 have hM := h.mended hV hk2
 refine ⟨h.ok.act.sync hf, .inl ⟨rfl, by rw [← h.out]; exact a1, fun j hj => by rw [hFk]; exact hM.low j hj, fun j hj => by rw [hFk]; exact hM.at' j hj, fun j h1 h2 => by rw [hFk]; exact hM.high j h1 h2⟩, fun g hg => ?_, h.room, ?_, fun hi h1 _ => ?_, fun e => ⟨rfl, a3 (h.fuse e)⟩, fun hs g hg => ?_, fun j h1 h2 => ?_, fun _ j g h1 h2 => ?_⟩
 ·rw [e] at hg
  rcases set_sub hg with hg | rfl
  ·exact h.nms g hg
  ·exact h.nms f (List.mem_of_getElem? hf)
 ·have := h.acts
  show D.acts ≤ Dt.acts + 1 ∧ Dt.acts + 1 ≤ _
  omega
 ·have h2 := h.idle (fun j h3 h4 => hi j h3 (by omega)) h1
  rw [if_neg (by omega)]
  show Dt.acts + 1 = _
  rw [h2]
 ·rw [e] at hg
  rcases set_sub hg with hg | rfl
  ·exact h.safe hs g hg
  ·rfl
 ·rw [hlk, if_neg (by omega)]
  exact h.low j h1 (by omega)
 ·obtain rfl : j = k := by omega
  rw [hlk, if_pos rfl] at h2
  injection h2 with h2
  subst h2
  rfl
theorem MI.none {D Dt : DV} {t : Nat} {V : JV} (h : MI D Dt (-1) t) (hV : V.pr = -1) (ht : t ≤ 256) (hn : lk D.fs (nmS 0) = none) : MPost D Dt 0 V := by
 refine ⟨h.ok, .inl ⟨rfl, h.out, fun j hj => by omega, fun j hj => by omega, fun j h1 h2 => Fk_none (h.high j h2 (by omega))⟩, fun f hf => ⟨f, h.sub f hf, rfl⟩, h.room, ?_, fun hi _ _ => ?_, fun e => ⟨rfl, h.fuse e⟩, fun hs f hf => hs f (h.sub f hf), fun j h1 h2 => by omega, fun _ j f h1 => by omega⟩
 ·have := h.acts
  omega
 ·rw [if_pos hV, h.idle fun j h1 h2 => hi j h1 (by omega)]
  omega
theorem Tryd.in30 (w : World) (vs : Array Value) : (callFunc 30 vs).run Tryd.prog w = .ok (.enter 30 vs) w := by kernel_rfl
theorem Tryd.in32 (w : World) (vs : Array Value) : (callFunc 32 vs).run Tryd.prog w = .ok (.enter 32 vs) w := by kernel_rfl
theorem Tab.grown {w w' : World} {S : Nat → Prop} (h : Tab w) (hg : Grown w w' S) (h0 : ¬ S 0) : Tab w' := by
 unfold Tab Lib.TabIs at h ⊢
 unfold World.var? at h ⊢
 simp only [Tryd.gPow, Option.bind_some] at h ⊢
 by_cases hz : 0 < w.heap.size
 ·rw [hg.block 0 hz h0]
  exact h
 ·rw [Array.getElem?_eq_none (by omega)] at h
  cases h
theorem OwnS.cell {w : World} {g c : Nat} {l : List ByteArray} (h : OwnS w (.slice (some ⟨g, 0, none⟩) l.length c) l) {j : Nat} (hj : j < l.length) : w.cell? ⟨g, 0 + j, none⟩ = some (.string (l.getD j ByteArray.empty)) := by
 unfold OwnS at h
 rw [Nat.zero_add, World.ownsRow.cellAt h j (by simpa [sL] using hj)]
 simp [sL, List.getD_eq_getElem?_getD, hj]
theorem contains_any (v : Value) (l : List ByteArray) (x : ByteArray) (w : World) (h : OwnS w v l) (hL : l.length ≤ 1000000) : Calls Tryd.prog 37 #[v, .string x] w fun e w' => e = .returned (.bool (Lib.containsS l x)) ∧ w' = w := by
 rcases h.2 with ⟨rfl, h0⟩ | ⟨g, cap, cur, rfl, _⟩
 ·obtain rfl := List.eq_nil_of_length_eq_zero h0
  exact Tryd.slices_Contains_string_empty _ _ _ w
 ·have := Tryd.slices_Contains_string g 0 l.length cap l x w (Nat.le_refl _) (by omega) fun j hj => h.cell hj
  rwa [List.take_of_length_le (Nat.le_refl _)] at this
theorem cont_lk (fs : List PF) (x : ByteArray) : (Lib.containsS (fs.map PF.nm) x = true → ∃ f, lk fs x = some f) ∧ (¬ Lib.containsS (fs.map PF.nm) x = true → lk fs x = none) := by
 rw [Lib.containsS_iff]
 refine ⟨fun h => ?_, fun h => lk_absent fun f hf e => h (List.mem_map.2 ⟨f, hf, e⟩)⟩
 cases hl : lk fs x with
 | none =>
  obtain ⟨f, hf, e⟩ := List.mem_map.1 h
  exact absurd e (lk_none hl f hf)
 | some f => exact ⟨f, rfl⟩
theorem openV_none {F : Nat → Option (List Int)} (h : (openV F).pr = -1) : F 0 = none := by
 unfold openV at h
 rw [rdJ] at h
 cases hF : F 0 with
 | none => rfl
 | some b =>
  rw [hF] at h
  simp only at h
  split at h
  ·simp only [JV.more] at h; omega
  ·have h2 := rdJ_pr F 255 1 (JV.nil.more 0 b) rfl
   have h3 : (JV.nil.more 0 b).pr = 0 := rfl
   change (rdJ F 255 1 (JV.nil.more 0 b)).pr = -1 at h
   omega
theorem openV_bnd (F : Nat → Option (List Int)) : -1 ≤ (openV F).pr ∧ (openV F).pr ≤ 255 := by
 have := rdJ_pr F 256 0 JV.nil rfl
 unfold openV
 simp only [JV.nil] at this ⊢
 omega
set_option maxRecDepth 8000 in
set_option maxHeartbeats 4000000 in
theorem mend_any (g d p : Nat) (vn vf vp : Value) (cs : List FC) (D : DV) (V : JV) (tn la de : Bool) (N : Nat → Prop) (w : World) (hT : Tab w) (hJ : Blk w g 81 (jA d vp V.pr V.sz la de)) (hDk : Blk w d 53 #[ptr p]) (hD : DskAt w p vf cs D) (hN : ∀ k, DskS p vf cs k → N k) (hNn : ¬ N 0 ∧ ¬ N g ∧ ¬ N d ∧ ∀ k, vn.ownBlock = some k → ¬ N k) (hOk : DOk D) (hO : D.out = false) (hA : D.acts ≤ 4611686018427380000) (hVn : OwnS w vn (D.fs.map PF.nm)) (hV : V = openV (Fk D.fs)) (htn : V.torn = tn) :
  Calls Tryd.prog 27 #[ptr g, vn, .bool tn] w fun e w' => ∃ (ee : Int) (D' : DV) (vf' : Value) (cs' : List FC), e = .returned (.int .i64 ee) ∧ MPost D D' ee V ∧ DskAt w' p vf' cs' D' ∧ (∀ k, DskS p vf' cs' k → N k ∨ w.heap.size ≤ k) ∧ Grown w w' N := by
 have HT := Keep.mk hT
 have HJ := Keep.mk hJ
 have HDk := Keep.mk hDk
 have HD := Keep.mk hD
 have HN := Keep.mk hN
 have HNn := Keep.mk hNn
 have HOk := Keep.mk hOk
 have HO := Keep.mk hO
 have HA := Keep.mk hA
 have HVn := Keep.mk hVn
 have HV := Keep.mk hV
 have Htn := Keep.mk htn
 have HVb : Keep (-1 ≤ V.pr ∧ V.pr ≤ 255) := ⟨by rw [hV]; exact openV_bnd _⟩
 clear hT hJ hDk hD hN hNn hOk hO hA hVn hV htn
 go_enter Tryd.func27, Tryd.ntmps27
 refine wp_seq_k fun K1 hK1 => rgn ?_
 refine VlS (.int .i64 0) ?_
 refine WL.nil (hK1 _ _ ?_)
 refine wp_seq_k fun K2 hK2 => ?_
 refine wp_seq_k fun K3 hK3 => rgn ?_
 refine VlS (.int .i64 255) ?_
 refine WL.nil (hK3 _ _ ?_)
 refine wp_block ?_
 refine wp_loop (fun ac wr => ∃ (t : Nat) (fz : Nat → Value) (vf : Value) (cs : List FC) (Dt : DV), ac = { tmps := #[.pointer (some ⟨g, 0, none⟩), vn, .bool tn, undef, undef, undef, fz 6, .int .i64 (255 - (t : Int)), fz 8, undef, fz 10, fz 11, fz 12, fz 13, fz 14, fz 15, fz 16, fz 17, fz 18, fz 19, fz 20, fz 21, fz 22, fz 23, fz 24, fz 25, fz 26, fz 27, fz 28, fz 29, fz 30, fz 31, fz 32, undef, undef, undef, undef, undef, undef, undef, undef, undef, undef, undef, undef, undef, undef, undef, undef, undef, undef, undef, undef, undef, undef, undef, undef, undef, undef, undef, undef, undef, undef, undef, undef, undef], defers := [] } ∧ t ≤ 256 ∧ V.pr ≤ 255 - (t : Int) ∧ MI D Dt (255 - (t : Int)) t ∧ DskAt wr p vf cs Dt ∧ (∀ k, DskS p vf cs k → N k ∨ w.heap.size ≤ k) ∧ Grown w wr N) (fun a _ => (intOf (a.tmps.getD 7 undef) + 1).toNat) ⟨0, fun zz => [.pointer (some ⟨g, 0, none⟩), vn, .bool tn, undef, undef, undef, .int .i64 0, .int .i64 255, undef, undef, undef, undef, undef, undef, undef, undef, undef, undef, undef, undef, undef, undef, undef, undef, undef, undef, undef, undef, undef, undef, undef, undef, undef, undef, undef, undef, undef, undef, undef, undef, undef, undef, undef, undef, undef, undef, undef, undef, undef, undef, undef, undef, undef, undef, undef, undef, undef, undef, undef, undef, undef, undef, undef, undef, undef, undef].getD zz undef, vf, cs, D, rfl, by omega, by have := HVb.out; omega, MI.start HOk.out HO.out, HD.out, fun k h => .inl (HN.out k h), Grown.refl _ _⟩ ?_
 clear HD HN
 rintro ac wr ⟨t, fz, vf, cs, Dt, rfl, ht, hpt, hJ1, hJ2, hJ3, hJ4⟩
 have JM := Keep.mk hJ1
 have JD := Keep.mk hJ2
 have JS := Keep.mk hJ3
 have JG := Keep.mk hJ4
 clear hJ1 hJ2 hJ3 hJ4
 have T_wr : Keep (Tab wr) := ⟨HT.out.grown JG.out HNn.out.1⟩
 have J_wr : Keep (Blk wr g 81 (jA d vp V.pr V.sz la de)) := ⟨JG.out.blk HJ.out HNn.out.2.1⟩
 have K_wr : Keep (Blk wr d 53 #[ptr p]) := ⟨JG.out.blk HDk.out HNn.out.2.2.1⟩
 have c2 := J_wr.out.c 2 (by rfl : (jA d vp V.pr V.sz la de)[2]? = some (.int .i64 V.pr))
 by_cases hlt : V.pr < 255 - (t : Int)
 ·obtain ⟨k, hk⟩ : ∃ k : Nat, Keep (255 - (t : Int) = (k : Int) ∧ k < 10000 ∧ k < 256) := ⟨255 - t, ⟨by have := HVb.out; omega, by omega, by have := HVb.out; omega⟩⟩
  rw [hk.out.1]
  rw [hk.out.1] at JM
  have hgt : V.pr < (k : Int) := by have := hk.out.1; omega
  have hwk : IntKind.i64.wrap ((k : Int) - 1) = (k : Int) - 1 := by rw [IntKind.wrap_i64]; have := hk.out; omega
  have N_wr : Keep (OwnS wr vn (D.fs.map PF.nm)) := ⟨HVn.out.grown JG.out HNn.out.2.2.2⟩
  refine wp_seq_k fun K4 hK4 => ?_
  refine wp_seq_k fun K5 hK5 => rgn ?_
  refine VlS (.int .i64 (k : Int)) ?_
  refine VlS (.pointer (some ⟨g, 0, none⟩)) ?_
  refine VlS (.pointer (some ⟨g, 0, none⟩)) ?_
  refine VlS (.pointer (some ⟨g, 2, none⟩)) ?_
  refine VlS (.int .i64 V.pr) ?_
  refine VlS (.bool true) ?_
  refine WL.nil (hK5 _ _ ?_)
  refine wp_cond_true rfl ?_
  refine wp_skip ?_
  refine hK4 _ _ ?_
  refine wp_seq_k fun K6 hK6 => ?_
  refine wp_block ?_
  refine wp_seq_k fun K7 hK7 => ?_
  refine wp_seq_k fun K8 hK8 => rgn ?_
  refine VlS (vn) ?_
  refine VlS (.int .i64 (k : Int)) ?_
  refine WL.callF (by kernel_rfl) 31 _ _ rfl Tryd.in31 #[.int .i64 (k : Int)] (by simp [Act.eval]) ?_
  refine (name_any k hk.out.2.1 wr T_wr.out).mono ?_
  rintro e w1 ⟨rfl, hb1⟩
  refine ⟨_, rfl, ?_⟩
  have B1 := Keep.mk hb1
  have GW : Keep (Grown w w1 N) := ⟨JG.out.trans (Grown.below B1.out)⟩
  have D1 := Keep.mk (JD.out.below hb1)
  have N_w1 := Keep.mk (N_wr.out.below hb1)
  clear hb1 c2 T_wr J_wr K_wr N_wr JD
  have T_w1 : Keep (Tab w1) := ⟨HT.out.grown GW.out HNn.out.1⟩
  have J_w1 : Keep (Blk w1 g 81 (jA d vp V.pr V.sz la de)) := ⟨GW.out.blk HJ.out HNn.out.2.1⟩
  have K_w1 : Keep (Blk w1 d 53 #[ptr p]) := ⟨GW.out.blk HDk.out HNn.out.2.2.1⟩
  have NS := JS
  obtain ⟨nn, hnn⟩ : ∃ s, Keep (s = nmS k) := ⟨_, ⟨rfl⟩⟩
  rw [← hnn.out]
  simp only [Act.put, pqA, pqB, pqC]
  refine WL.callF (by kernel_rfl) 37 _ _ rfl Tryd.in37 #[vn, .string nn] (by simp [Act.eval]) ?_
  refine (contains_any vn _ nn w1 N_w1.out (by rw [List.length_map]; have := HOk.out.len; omega)).mono ?_
  rintro e w2 ⟨rfl, hw⟩
  refine ⟨_, rfl, ?_⟩
  obtain rfl : w1 = w2 := hw.symm
  clear hw
  obtain ⟨bb, hbb⟩ : ∃ s, Keep (s = Lib.containsS (D.fs.map PF.nm) nn) := ⟨_, ⟨rfl⟩⟩
  rw [← hbb.out]
  simp only [Act.put, pqA, pqB, pqC]
  by_cases h4_4 : bb = true
  ·obtain ⟨f, hf⟩ := (cont_lk D.fs nn).1 (by rw [← hbb.out]; exact h4_4)
   have hft : lk Dt.fs nn = some f := by rw [hnn.out]; rw [hnn.out] at hf; rw [JM.out.low k hk.out.2.2 (Int.le_refl _)]; exact hf
   obtain ⟨i, hfi, hfn, hfd⟩ := fnd_is JM.out.ok.srt hft
   have HFi := Keep.mk hfi
   have HFn := Keep.mk hfn
   have HFd := Keep.mk hfd
   clear hf hft hfi hfn hfd hbb
   refine VlS (.bool false) ?_
   refine WL.nil (hK8 _ _ ?_)
   refine wp_cond_false rfl ?_
   refine wp_skip ?_
   refine hK7 _ _ ?_
   refine wp_seq_k fun K9 hK9 => ?_
   have D4 : Keep (Below w1.heap.size w1 w1.drew) := ⟨(Below.refl _ _).drew⟩
   refine wp_region_held_drew (S := fun wx => wx.cell? ⟨g, 0, none⟩ = some (ptr d)) (by kernel_rfl) (J_w1.out.drew.c 0 rfl) (fun hHeld => ?_)
   refine tkS (i := 0) (oi := ⟨some 23, Op.move (Operand.tmp 0), 56, _, _, none⟩) (v := .pointer (some ⟨g, 0, none⟩)) rfl (Or.inl ⟨by rfl, fun w hS => by go_simp⟩) hHeld ?_
   refine tkS (i := 1) (oi := ⟨some 24, Op.nilCheck (Operand.tmp 23), 0, _, _, none⟩) (v := .pointer (some ⟨g, 0, none⟩)) rfl (Or.inl ⟨by rfl, fun w hS => by go_simp⟩) hHeld ?_
   refine tkS (i := 2) (oi := ⟨some 25, Op.fieldAddr 81 (Operand.tmp 24) 0, 0, _, _, none⟩) (v := .pointer (some ⟨g, 0, none⟩)) rfl (Or.inl ⟨by rfl, fun w hS => by go_simp⟩) hHeld ?_
   refine tkS (i := 3) (oi := ⟨some 26, Op.load 26 (Operand.tmp 25), 26, _, _, none⟩) (v := .pointer (some ⟨d, 0, none⟩)) rfl (Or.inl ⟨by rfl, fun w hS => by go_simp⟩) hHeld ?_
   refine tkS (i := 4) (oi := ⟨some 27, Op.move (Operand.tmp 7), 3, _, _, none⟩) (v := .int .i64 (k : Int)) rfl (Or.inl ⟨by rfl, fun w hS => by go_simp⟩) hHeld ?_
   refine wpAnyH_ready (rs := [5]) (by kernel_rfl) (by simp) ?_
   refine AllReadyH.cons (o := ⟨some 28, Op.call { callee := Callee.value (Operand.func 31), args := #[Operand.tmp 27], argTypes := #[3] }, 9, _, _, none⟩) rfl (fun K hK => ?_) AllReadyH.nil
   rw [if_pos (by rfl)]
   refine wp_callF 31 _ _ rfl Tryd.in31 #[.int .i64 (k : Int)] (by simp [Act.eval]) (fun vz wz => vz = .string (nmS k) ∧ Below w1.heap.size w1 wz) ?_ ?_
   ·refine (name_any k hk.out.2.1 w1.drew (T_w1.out.below D4.out (Nat.lt_of_le_of_lt (Nat.zero_le _) J_w1.out.lt))).mono ?_
    rintro e wz ⟨rfl, h⟩
    exact ⟨_, rfl, rfl, D4.out.trans (h.mono D4.out.size)⟩
   rintro vz w5 ⟨rfl, h5⟩
   have B5 := Keep.mk h5
   clear h5
   rw [← hnn.out]
   refine hK _ _ ((J_w1.out.below B5.out J_w1.out.lt).c 0 rfl) fun hH5 => ?_
   clear hK
   simp only [Act.put, pqA, pqB, pqC]
   refine wpAnyH_ready (rs := [6]) (by kernel_rfl) (by simp) ?_
   refine AllReadyH.cons (o := ⟨some 29, Op.call { callee := Callee.value (Operand.func 30), args := #[Operand.tmp 26, Operand.tmp 28], argTypes := #[26, 9] }, 31, _, _, none⟩) rfl (fun K hK => ?_) AllReadyH.nil
   rw [if_pos (by rfl)]
   refine wp_callF 30 _ _ rfl Tryd.in30 #[ptr d, .string nn] (by simp [Act.eval]) (fun vz wz => vz = .int .i64 (pw Dt) ∧ ∃ vf' cs', DskAt wz p vf' cs' (if Dt.fuse = 0 then Dt.act else Dt.act.del i f) ∧ (Grown w5 wz fun k => k = p) ∧ ∀ k, DskS p vf' cs' k → DskS p vf cs k ∨ w5.heap.size ≤ k) ?_ ?_
   ·refine (drop_is d p i nn vf cs Dt f w5 (K_w1.out.below B5.out K_w1.out.lt) (D1.out.below B5.out) JM.out.out HFd.out HFi.out (by rw [D1.out.fcs.len]; exact JM.out.ok.len) (JM.out.ok.at HFi.out) ⟨JM.out.ok.acts, by have := JM.out.acts; have := HA.out; omega⟩ ⟨by have := JM.out.ok.fuse; omega, JM.out.ok.fuse.2⟩).mono ?_
    rintro e wz ⟨rfl, vf', cs', h1, h2, h3⟩
    exact ⟨_, rfl, rfl, vf', cs', h1, h2, h3⟩
   rintro vz w7 ⟨rfl, vf7, cs7, h1, h2, h3⟩
   have D7 := Keep.mk h1
   have N7 : Keep (∀ k, DskS p vf7 cs7 k → N k ∨ w.heap.size ≤ k) := ⟨fun k hk => by rcases h3 k hk with h | h; exact NS.out k h; exact .inr (by have := B5.out.size; have := GW.out.size; omega)⟩
   have G7 : Keep (Grown w w7 N) := ⟨(GW.out.trans (Grown.below B5.out)).next h2 fun k hk e => by exact (NS.out k (.inl e)).elim id fun h => by omega⟩
   clear h1 h2 h3
   have T_w7 : Keep (Tab w7) := ⟨HT.out.grown G7.out HNn.out.1⟩
   have J_w7 : Keep (Blk w7 g 81 (jA d vp V.pr V.sz la de)) := ⟨G7.out.blk HJ.out HNn.out.2.1⟩
   have K_w7 : Keep (Blk w7 d 53 #[ptr p]) := ⟨G7.out.blk HDk.out HNn.out.2.2.1⟩
   obtain ⟨ee, hee⟩ : ∃ z, Keep (z = pw Dt) := ⟨_, ⟨rfl⟩⟩
   rw [← hee.out]
   refine hK _ _ (J_w7.out.c 0 rfl) fun hH7 => ?_
   clear hK
   simp only [Act.put, pqA, pqB, pqC]
   refine tkS (i := 7) (oi := ⟨some 8, Op.assign (Operand.tmp 29), 31, _, _, none⟩) (v := .int .i64 ee) rfl (Or.inl ⟨by rfl, fun w hS => by go_simp⟩) hH7 ?_
   refine wpAnyH_done (by kernel_rfl) ?_ _
   refine hK9 _ _ ?_
   refine wp_seq_k fun K10 hK10 => ?_
   rcases Decidable.em (Dt.fuse = 0) with hfu | hfu
   ·have he : ee = 7 := by rw [hee.out]; unfold pw; rw [if_pos hfu]
    subst he
    have D8 := D7.out
    rw [if_pos hfu] at D8
    refine rgn ?_
    refine VlS (.int .i64 7) ?_
    refine VlS (.bool true) ?_
    refine WL.nil (hK10 _ _ ?_)
    refine wp_cond_true rfl ?_
    refine wp_seq_k fun K11 hK11 => rgn ?_
    refine VlS (.int .i64 7) ?_
    refine VlS (.int .i64 7) ?_
    refine WL.nil (hK11 _ _ ?_)
    refine wp_ret ?_
    go_ret
    exact ⟨7, _, vf7, cs7, rfl, JM.out.dead hgt hk.out.2.2 ht hfu, D8, N7.out, G7.out⟩
   ·have he : ee = 0 := by rw [hee.out]; unfold pw; rw [if_neg hfu]
    subst he
    have D8 := Keep.mk D7.out
    rw [if_neg hfu] at D8
    have JM8 : Keep (MI D (Dt.act.del i f) ((k : Int) - 1) (t + 1)) := ⟨JM.out.drop hk.out.2.2 HFi.out (by rw [HFn.out, hnn.out]) hfu⟩
    refine rgn ?_
    refine VlS (.int .i64 0) ?_
    refine VlS (.bool false) ?_
    refine WL.nil (hK10 _ _ ?_)
    refine wp_cond_false rfl ?_
    refine wp_skip ?_
    refine hK6 _ _ ?_
    refine rgn ?_
    refine VlS (.int .i64 (k : Int)) ?_
    refine VlS (.int .i64 ((k : Int) - 1)) ?_
    refine VlS (.int .i64 ((k : Int) - 1)) ?_
    refine WL.nil ?_
    refine ⟨⟨t + 1, fun zz => [.pointer (some ⟨g, 0, none⟩), vn, .bool tn, undef, undef, undef, fz 6, .int .i64 ((k : Int) - 1), .int .i64 0, undef, .int .i64 (k : Int), .pointer (some ⟨g, 0, none⟩), .pointer (some ⟨g, 0, none⟩), .pointer (some ⟨g, 2, none⟩), .int .i64 V.pr, .bool true, .int .i64 (k : Int), .int .i64 ((k : Int) - 1), vn, .int .i64 (k : Int), .string nn, .bool bb, .bool false, .pointer (some ⟨g, 0, none⟩), .pointer (some ⟨g, 0, none⟩), .pointer (some ⟨g, 0, none⟩), .pointer (some ⟨d, 0, none⟩), .int .i64 (k : Int), .string nn, .int .i64 0, .int .i64 0, .bool false, fz 32, undef, undef, undef, undef, undef, undef, undef, undef, undef, undef, undef, undef, undef, undef, undef, undef, undef, undef, undef, undef, undef, undef, undef, undef, undef, undef, undef, undef, undef, undef, undef, undef, undef].getD zz undef, vf7, cs7, Dt.act.del i f, ?_, by have := hk.out.1; omega, ?_, ?_⟩, ?_⟩
    ·have e : (255 : Int) - ((t + 1 : Nat) : Int) = (k : Int) - 1 := by have := hk.out.1; omega
     rw [e]; rfl
    ·have := hk.out.1; omega
    ·have e : (255 : Int) - ((t + 1 : Nat) : Int) = (k : Int) - 1 := by have := hk.out.1; omega
     rw [e]
     exact ⟨JM8.out, D8.out, N7.out, G7.out⟩
    ·simp only [intOf]; show ((k : Int) - 1 + 1).toNat < ((k : Int) + 1).toNat; omega
  ·have HNo : Keep (lk D.fs (nmS k) = none) := ⟨by have h := (cont_lk D.fs nn).2 (by rw [← hbb.out]; exact h4_4); rw [hnn.out] at h; exact h⟩
   clear hbb
   refine VlS (.bool true) ?_
   refine WL.nil (hK8 _ _ ?_)
   refine wp_cond_true rfl ?_
   refine wp_exit ?_
   refine hK6 _ _ ?_
   refine rgn ?_
   refine VlS (.int .i64 (k : Int)) ?_
   refine VlS (.int .i64 ((k : Int) - 1)) ?_
   refine VlS (.int .i64 ((k : Int) - 1)) ?_
   refine WL.nil ?_
   refine ⟨⟨t + 1, fun zz => [.pointer (some ⟨g, 0, none⟩), vn, .bool tn, undef, undef, undef, fz 6, .int .i64 ((k : Int) - 1), fz 8, undef, .int .i64 (k : Int), .pointer (some ⟨g, 0, none⟩), .pointer (some ⟨g, 0, none⟩), .pointer (some ⟨g, 2, none⟩), .int .i64 V.pr, .bool true, .int .i64 (k : Int), .int .i64 ((k : Int) - 1), vn, .int .i64 (k : Int), .string nn, .bool bb, .bool true, fz 23, fz 24, fz 25, fz 26, fz 27, fz 28, fz 29, fz 30, fz 31, fz 32, undef, undef, undef, undef, undef, undef, undef, undef, undef, undef, undef, undef, undef, undef, undef, undef, undef, undef, undef, undef, undef, undef, undef, undef, undef, undef, undef, undef, undef, undef, undef, undef, undef].getD zz undef, vf, cs, Dt, ?_, by have := hk.out.1; omega, ?_, ?_⟩, ?_⟩
   ·have e : (255 : Int) - ((t + 1 : Nat) : Int) = (k : Int) - 1 := by have := hk.out.1; omega
    rw [e]; rfl
   ·have := hk.out.1; omega
   ·have e : (255 : Int) - ((t + 1 : Nat) : Int) = (k : Int) - 1 := by have := hk.out.1; omega
    rw [e]
    exact ⟨JM.out.skip HNo.out, D1.out, JS.out, GW.out⟩
   ·simp only [intOf]; show ((k : Int) - 1 + 1).toNat < ((k : Int) + 1).toNat; omega
 ·have hte : Keep (255 - (t : Int) = V.pr) := ⟨by omega⟩
  rw [hte.out]
  rw [hte.out] at JM
  have hgt : ¬ V.pr < V.pr := by omega
  have NS := JS
  have GW := JG
  refine wp_seq_k fun K12 hK12 => ?_
  refine wp_seq_k fun K13 hK13 => rgn ?_
  refine VlS (.int .i64 V.pr) ?_
  refine VlS (.pointer (some ⟨g, 0, none⟩)) ?_
  refine VlS (.pointer (some ⟨g, 0, none⟩)) ?_
  refine VlS (.pointer (some ⟨g, 2, none⟩)) ?_
  refine VlS (.int .i64 V.pr) ?_
  refine VlS (.bool false) ?_
  refine WL.nil (hK13 _ _ ?_)
  refine wp_cond_false rfl ?_
  refine wp_exit ?_
  refine hK2 _ _ ?_
  refine wp_seq_k fun K14 hK14 => ?_
  refine wp_seq_k fun K15 hK15 => ?_
  rcases Bool.eq_false_or_eq_true tn with htt | htt
  ·subst htt
   obtain ⟨k, hk⟩ : ∃ k : Nat, Keep (V.pr = (k : Int) ∧ k < 10000 ∧ k < 256) := by
    have h := openV_at (Fk D.fs)
    rw [← HV.out] at h
    rcases h with ⟨_, h⟩ | ⟨m, b, h1, h2, h3, h4⟩
    ·rw [Htn.out] at h; cases h
    ·exact ⟨m, ⟨h3, by omega, h1⟩⟩
   obtain ⟨m, hm⟩ : ∃ m : Nat, Keep (V.sz = (m : Int)) := by
    have h := openV_at (Fk D.fs)
    rw [← HV.out] at h
    rcases h with ⟨_, h⟩ | ⟨_, b, h1, h2, h3, h4, h5⟩
    ·rw [Htn.out] at h; cases h
    ·exact ⟨_, ⟨h4⟩⟩
   refine rgn ?_
   refine VlS (.bool true) ?_
   refine WL.nil (hK15 _ _ ?_)
   refine wp_cond_true rfl ?_
   refine wp_seq_k fun K16 hK16 => ?_
   have c3 := J_wr.out.c 3 (by rfl : (jA d vp V.pr V.sz la de)[3]? = some (.int .i64 V.sz))
   clear c2 c3
   have D4 : Keep (Below wr.heap.size wr wr.drew) := ⟨(Below.refl _ _).drew⟩
   obtain ⟨f, hf⟩ : ∃ f, lk Dt.fs (nmS k) = some f := by
    have h := openV_at (Fk D.fs)
    rw [← HV.out] at h
    rcases h with ⟨h, _⟩ | ⟨m2, b, h1, h2, h3, h4⟩
    ·have := hk.out; omega
    ·obtain rfl : m2 = k := by have := hk.out; omega
     obtain ⟨f, hf, _⟩ := Option.map_eq_some_iff.1 h2
     exact ⟨f, by rw [JM.out.low m2 h1 (by omega)]; exact hf⟩
   obtain ⟨nn, hnn⟩ : ∃ s, Keep (s = nmS k) := ⟨_, ⟨rfl⟩⟩
   rw [← hnn.out] at hf
   obtain ⟨i, hfi, hfn, hfd⟩ := fnd_is JM.out.ok.srt hf
   have HFi := Keep.mk hfi
   have HFn := Keep.mk hfn
   have HFd := Keep.mk hfd
   clear hf hfi hfn hfd
   have HSx : Keep (∀ wx, Blk wx g 81 (jA d vp V.pr V.sz la de) → wx.cell? ⟨g, 0, none⟩ = some (ptr d) ∧ wx.cell? ⟨g, 2, none⟩ = some (.int .i64 (k : Int)) ∧ wx.cell? ⟨g, 3, none⟩ = some (.int .i64 (m : Int))) := ⟨fun wx h => ⟨h.c 0 rfl, by rw [← hk.out.1]; exact h.c 2 rfl, by rw [← hm.out]; exact h.c 3 rfl⟩⟩
   refine wp_region_held_drew (S := fun wx => wx.cell? ⟨g, 0, none⟩ = some (ptr d) ∧ wx.cell? ⟨g, 2, none⟩ = some (.int .i64 (k : Int)) ∧ wx.cell? ⟨g, 3, none⟩ = some (.int .i64 (m : Int))) (by kernel_rfl) (HSx.out _ J_wr.out.drew) (fun hHeld => ?_)
   have HM2 : Keep (m ≤ f.bs.length) := ⟨by
    have h := openV_at (Fk D.fs)
    rw [← HV.out] at h
    rcases h with ⟨h, _⟩ | ⟨m2, b, h1, h2, h3, h4, h5⟩
    ·have := hk.out; omega
    ·obtain rfl : m2 = k := by have := hk.out; omega
     obtain ⟨f2, hf2, hb2⟩ := Option.map_eq_some_iff.1 h2
     have e1 := lk_at JM.out.ok.srt HFi.out
     rw [HFn.out, hnn.out, JM.out.low m2 h1 (by omega), hf2] at e1
     injection e1 with e1
     have := enB_le b
     have := hm.out
     rw [← e1, hb2]
     omega⟩
   refine tkS (i := 0) (oi := ⟨some 34, Op.move (Operand.tmp 0), 56, _, _, none⟩) (v := .pointer (some ⟨g, 0, none⟩)) rfl (Or.inl ⟨by rfl, fun w hS => by obtain ⟨hS1, hS2, hS3⟩ := hS; go_simp⟩) hHeld ?_
   refine tkS (i := 1) (oi := ⟨some 35, Op.nilCheck (Operand.tmp 34), 0, _, _, none⟩) (v := .pointer (some ⟨g, 0, none⟩)) rfl (Or.inl ⟨by rfl, fun w hS => by obtain ⟨hS1, hS2, hS3⟩ := hS; go_simp⟩) hHeld ?_
   refine tkS (i := 2) (oi := ⟨some 36, Op.fieldAddr 81 (Operand.tmp 35) 0, 0, _, _, none⟩) (v := .pointer (some ⟨g, 0, none⟩)) rfl (Or.inl ⟨by rfl, fun w hS => by obtain ⟨hS1, hS2, hS3⟩ := hS; go_simp⟩) hHeld ?_
   refine tkS (i := 3) (oi := ⟨some 37, Op.load 26 (Operand.tmp 36), 26, _, _, none⟩) (v := .pointer (some ⟨d, 0, none⟩)) rfl (Or.inl ⟨by rfl, fun w hS => by obtain ⟨hS1, hS2, hS3⟩ := hS; go_simp⟩) hHeld ?_
   refine tkS (i := 4) (oi := ⟨some 38, Op.move (Operand.tmp 0), 56, _, _, none⟩) (v := .pointer (some ⟨g, 0, none⟩)) rfl (Or.inl ⟨by rfl, fun w hS => by obtain ⟨hS1, hS2, hS3⟩ := hS; go_simp⟩) hHeld ?_
   refine tkS (i := 5) (oi := ⟨some 39, Op.nilCheck (Operand.tmp 38), 0, _, _, none⟩) (v := .pointer (some ⟨g, 0, none⟩)) rfl (Or.inl ⟨by rfl, fun w hS => by obtain ⟨hS1, hS2, hS3⟩ := hS; go_simp⟩) hHeld ?_
   refine tkS (i := 6) (oi := ⟨some 40, Op.fieldAddr 81 (Operand.tmp 39) 2, 0, _, _, none⟩) (v := .pointer (some ⟨g, 2, none⟩)) rfl (Or.inl ⟨by rfl, fun w hS => by obtain ⟨hS1, hS2, hS3⟩ := hS; go_simp⟩) hHeld ?_
   refine tkS (i := 7) (oi := ⟨some 41, Op.load 3 (Operand.tmp 40), 3, _, _, none⟩) (v := .int .i64 (k : Int)) rfl (Or.inl ⟨by rfl, fun w hS => by obtain ⟨hS1, hS2, hS3⟩ := hS; go_simp⟩) hHeld ?_
   refine tkS (i := 9) (oi := ⟨some 43, Op.move (Operand.tmp 0), 56, _, _, none⟩) (v := .pointer (some ⟨g, 0, none⟩)) rfl (Or.inl ⟨by rfl, fun w hS => by obtain ⟨hS1, hS2, hS3⟩ := hS; go_simp⟩) hHeld ?_
   refine tkS (i := 10) (oi := ⟨some 44, Op.nilCheck (Operand.tmp 43), 0, _, _, none⟩) (v := .pointer (some ⟨g, 0, none⟩)) rfl (Or.inl ⟨by rfl, fun w hS => by obtain ⟨hS1, hS2, hS3⟩ := hS; go_simp⟩) hHeld ?_
   refine tkS (i := 11) (oi := ⟨some 45, Op.fieldAddr 81 (Operand.tmp 44) 3, 0, _, _, none⟩) (v := .pointer (some ⟨g, 3, none⟩)) rfl (Or.inl ⟨by rfl, fun w hS => by obtain ⟨hS1, hS2, hS3⟩ := hS; go_simp⟩) hHeld ?_
   refine tkS (i := 12) (oi := ⟨some 46, Op.load 3 (Operand.tmp 45), 3, _, _, none⟩) (v := .int .i64 (m : Int)) rfl (Or.inl ⟨by rfl, fun w hS => by obtain ⟨hS1, hS2, hS3⟩ := hS; go_simp⟩) hHeld ?_
   refine wpAnyH_ready (rs := [8]) (by kernel_rfl) (by simp) ?_
   refine AllReadyH.cons (o := ⟨some 42, Op.call { callee := Callee.value (Operand.func 31), args := #[Operand.tmp 41], argTypes := #[3] }, 9, _, _, none⟩) rfl (fun K hK => ?_) AllReadyH.nil
   rw [if_pos (by rfl)]
   refine wp_callF 31 _ _ rfl Tryd.in31 #[.int .i64 (k : Int)] (by simp [Act.eval]) (fun vz wz => vz = .string (nmS k) ∧ Below wr.heap.size wr wz) ?_ ?_
   ·refine (name_any k hk.out.2.1 wr.drew (T_wr.out.below D4.out (Nat.lt_of_le_of_lt (Nat.zero_le _) J_wr.out.lt))).mono ?_
    rintro e wz ⟨rfl, h⟩
    exact ⟨_, rfl, rfl, D4.out.trans (h.mono D4.out.size)⟩
   rintro vz w5 ⟨rfl, h5⟩
   have B5 := Keep.mk h5
   clear h5
   rw [← hnn.out]
   refine hK _ _ (HSx.out _ (J_wr.out.below B5.out J_wr.out.lt)) fun hH5 => ?_
   clear hK
   simp only [Act.put, pqA, pqB, pqC]
   refine wpAnyH_ready (rs := [13]) (by kernel_rfl) (by simp) ?_
   refine AllReadyH.cons (o := ⟨some 47, Op.call { callee := Callee.value (Operand.func 32), args := #[Operand.tmp 37, Operand.tmp 42, Operand.tmp 46], argTypes := #[26, 9, 3] }, 31, _, _, none⟩) rfl (fun K hK => ?_) AllReadyH.nil
   rw [if_pos (by rfl)]
   refine wp_callF 32 _ _ rfl Tryd.in32 #[ptr d, .string nn, .int .i64 (m : Int)] (by simp [Act.eval]) (fun vz wz => vz = .int .i64 (pw Dt) ∧ ∃ vf' cs', DskAt wz p vf' cs' (if Dt.fuse = 0 then Dt.act else Dt.act.cut i f m) ∧ (Grown w5 wz fun k => k = p ∨ vf.ownBlock = some k) ∧ ∀ k, DskS p vf' cs' k → DskS p vf cs k ∨ w5.heap.size ≤ k) ?_ ?_
   ·refine (cut_is d p i m nn vf cs Dt f w5 (K_wr.out.below B5.out K_wr.out.lt) (JD.out.below B5.out) JM.out.out HFd.out HFi.out (by rw [JD.out.fcs.len]; exact JM.out.ok.len) HM2.out (JM.out.ok.at HFi.out) ⟨JM.out.ok.acts, by have := JM.out.acts; have := HA.out; omega⟩ ⟨by have := JM.out.ok.fuse; omega, JM.out.ok.fuse.2⟩).mono ?_
    rintro e wz ⟨rfl, vf', cs', h1, h2, h3⟩
    exact ⟨_, rfl, rfl, vf', cs', h1, h2, h3⟩
   rintro vz w7 ⟨rfl, vf7, cs7, h1, h2, h3⟩
   have D7 := Keep.mk h1
   have N7 : Keep (∀ k, DskS p vf7 cs7 k → N k ∨ w.heap.size ≤ k) := ⟨fun k hk => by rcases h3 k hk with h | h; exact NS.out k h; exact .inr (by have := B5.out.size; have := GW.out.size; omega)⟩
   have G7 : Keep (Grown w w7 N) := ⟨(GW.out.trans (Grown.below B5.out)).next h2 fun k hk e => by rcases e with e | e; exact (NS.out k (.inl e)).elim id (fun h => by omega); exact (NS.out k (.inr (.inl e))).elim id (fun h => by omega)⟩
   clear h1 h2 h3
   have T_w7 : Keep (Tab w7) := ⟨HT.out.grown G7.out HNn.out.1⟩
   have J_w7 : Keep (Blk w7 g 81 (jA d vp V.pr V.sz la de)) := ⟨G7.out.blk HJ.out HNn.out.2.1⟩
   have K_w7 : Keep (Blk w7 d 53 #[ptr p]) := ⟨G7.out.blk HDk.out HNn.out.2.2.1⟩
   obtain ⟨ee, hee⟩ : ∃ z, Keep (z = pw Dt) := ⟨_, ⟨rfl⟩⟩
   rw [← hee.out]
   refine hK _ _ (HSx.out _ J_w7.out) fun hH7 => ?_
   clear hK
   simp only [Act.put, pqA, pqB, pqC]
   refine tkS (i := 14) (oi := ⟨some 9, Op.assign (Operand.tmp 47), 31, _, _, none⟩) (v := .int .i64 ee) rfl (Or.inl ⟨by rfl, fun w hS => by obtain ⟨hS1, hS2, hS3⟩ := hS; go_simp⟩) hH7 ?_
   refine wpAnyH_done (by kernel_rfl) ?_ _
   refine hK16 _ _ ?_
   refine wp_seq_k fun K17 hK17 => ?_
   rcases Decidable.em (Dt.fuse = 0) with hfu | hfu
   ·have he : ee = 7 := by rw [hee.out]; unfold pw; rw [if_pos hfu]
    subst he
    have D8 := D7.out
    rw [if_pos hfu] at D8
    refine rgn ?_
    refine VlS (.int .i64 7) ?_
    refine VlS (.bool true) ?_
    refine WL.nil (hK17 _ _ ?_)
    refine wp_cond_true rfl ?_
    refine wp_seq_k fun K18 hK18 => rgn ?_
    refine VlS (.int .i64 7) ?_
    refine VlS (.int .i64 7) ?_
    refine WL.nil (hK18 _ _ ?_)
    refine wp_ret ?_
    go_ret
    refine ⟨7, _, vf7, cs7, rfl, ?_, D8, N7.out, G7.out⟩
    have h := hk.out.1
    rw [HV.out] at h ⊢
    have hm := JM.out
    rw [HV.out, h] at hm
    exact hm.cutDead h hk.out.2.2 ht hfu
   ·have he : ee = 0 := by rw [hee.out]; unfold pw; rw [if_neg hfu]
    subst he
    have D8 := Keep.mk D7.out
    rw [if_neg hfu] at D8
    have JC : Keep (MC D (Dt.act.cut i f m) k V (t + 1)) := ⟨by
     have h := hk.out.1
     have h2 := Htn.out
     have h3 := hm.out
     have hj := JM.out
     rw [HV.out] at h h2 h3 hj
     rw [h] at hj
     have h4 := (hj.cut hk.out.2.2 h h2 HFi.out (by rw [HFn.out, hnn.out]) hfu).1
     rw [h3, Int.toNat_natCast, ← HV.out] at h4
     exact h4⟩
    have ht2 : t + 1 ≤ 257 := by omega
    have c2 := J_w7.out.c 2 (by rfl : (jA d vp V.pr V.sz la de)[2]? = some (.int .i64 V.pr))
    have GW := G7
    have NS := N7
    clear D4 B5 HSx HFi HFn HFd hnn hee HM2 D7 G7 N7
    obtain ⟨D2, hD2⟩ : ∃ z, Keep (z = Dt.act.cut i f m) := ⟨_, ⟨rfl⟩⟩
    rw [← hD2.out] at D8 JC
    refine rgn ?_
    refine VlS (.int .i64 0) ?_
    refine VlS (.bool false) ?_
    refine WL.nil (hK17 _ _ ?_)
    refine wp_cond_false rfl ?_
    refine wp_skip ?_
    refine hK14 _ _ ?_
    refine wp_seq_k fun K19 hK19 => ?_
    refine wp_seq_k fun K20 hK20 => ?_
    rw [hk.out.1] at c2
    have hn1 : ¬ ((k : Nat) : Int) = -1 := by omega
    refine rgn ?_
    refine VlS (.pointer (some ⟨g, 0, none⟩)) ?_
    refine VlS (.pointer (some ⟨g, 0, none⟩)) ?_
    refine VlS (.pointer (some ⟨g, 2, none⟩)) ?_
    refine VlS (.int .i64 (k : Int)) ?_
    refine VlS (.bool false) ?_
    refine WL.nil (hK20 _ _ ?_)
    refine wp_cond_false rfl ?_
    refine wp_skip ?_
    refine hK19 _ _ ?_
    refine wp_seq_k fun K21 hK21 => ?_
    clear c2
    have D4 : Keep (Below w7.heap.size w7 w7.drew) := ⟨(Below.refl _ _).drew⟩
    obtain ⟨f, hf⟩ : ∃ f, lk D2.fs (nmS k) = some f := by obtain ⟨f, g, _, h, _⟩ := JC.out.at'; exact ⟨f, h⟩
    obtain ⟨nn, hnn⟩ : ∃ s, Keep (s = nmS k) := ⟨_, ⟨rfl⟩⟩
    rw [← hnn.out] at hf
    obtain ⟨i, hfi, hfn, hfd⟩ := fnd_is JC.out.ok.srt hf
    have HFi := Keep.mk hfi
    have HFn := Keep.mk hfn
    have HFd := Keep.mk hfd
    clear hf hfi hfn hfd
    have HSx : Keep (∀ wx, Blk wx g 81 (jA d vp V.pr V.sz la de) → wx.cell? ⟨g, 0, none⟩ = some (ptr d) ∧ wx.cell? ⟨g, 2, none⟩ = some (.int .i64 (k : Int))) := ⟨fun wx h => ⟨h.c 0 rfl, by rw [← hk.out.1]; exact h.c 2 rfl⟩⟩
    refine wp_region_held_drew (S := fun wx => wx.cell? ⟨g, 0, none⟩ = some (ptr d) ∧ wx.cell? ⟨g, 2, none⟩ = some (.int .i64 (k : Int))) (by kernel_rfl) (HSx.out _ J_w7.out.drew) (fun hHeld => ?_)
    refine tkS (i := 0) (oi := ⟨some 56, Op.move (Operand.tmp 0), 56, _, _, none⟩) (v := .pointer (some ⟨g, 0, none⟩)) rfl (Or.inl ⟨by rfl, fun w hS => by obtain ⟨hS1, hS2⟩ := hS; go_simp⟩) hHeld ?_
    refine tkS (i := 1) (oi := ⟨some 57, Op.nilCheck (Operand.tmp 56), 0, _, _, none⟩) (v := .pointer (some ⟨g, 0, none⟩)) rfl (Or.inl ⟨by rfl, fun w hS => by obtain ⟨hS1, hS2⟩ := hS; go_simp⟩) hHeld ?_
    refine tkS (i := 2) (oi := ⟨some 58, Op.fieldAddr 81 (Operand.tmp 57) 0, 0, _, _, none⟩) (v := .pointer (some ⟨g, 0, none⟩)) rfl (Or.inl ⟨by rfl, fun w hS => by obtain ⟨hS1, hS2⟩ := hS; go_simp⟩) hHeld ?_
    refine tkS (i := 3) (oi := ⟨some 59, Op.load 26 (Operand.tmp 58), 26, _, _, none⟩) (v := .pointer (some ⟨d, 0, none⟩)) rfl (Or.inl ⟨by rfl, fun w hS => by obtain ⟨hS1, hS2⟩ := hS; go_simp⟩) hHeld ?_
    refine tkS (i := 4) (oi := ⟨some 60, Op.move (Operand.tmp 0), 56, _, _, none⟩) (v := .pointer (some ⟨g, 0, none⟩)) rfl (Or.inl ⟨by rfl, fun w hS => by obtain ⟨hS1, hS2⟩ := hS; go_simp⟩) hHeld ?_
    refine tkS (i := 5) (oi := ⟨some 61, Op.nilCheck (Operand.tmp 60), 0, _, _, none⟩) (v := .pointer (some ⟨g, 0, none⟩)) rfl (Or.inl ⟨by rfl, fun w hS => by obtain ⟨hS1, hS2⟩ := hS; go_simp⟩) hHeld ?_
    refine tkS (i := 6) (oi := ⟨some 62, Op.fieldAddr 81 (Operand.tmp 61) 2, 0, _, _, none⟩) (v := .pointer (some ⟨g, 2, none⟩)) rfl (Or.inl ⟨by rfl, fun w hS => by obtain ⟨hS1, hS2⟩ := hS; go_simp⟩) hHeld ?_
    refine tkS (i := 7) (oi := ⟨some 63, Op.load 3 (Operand.tmp 62), 3, _, _, none⟩) (v := .int .i64 (k : Int)) rfl (Or.inl ⟨by rfl, fun w hS => by obtain ⟨hS1, hS2⟩ := hS; go_simp⟩) hHeld ?_
    refine wpAnyH_ready (rs := [8]) (by kernel_rfl) (by simp) ?_
    refine AllReadyH.cons (o := ⟨some 64, Op.call { callee := Callee.value (Operand.func 31), args := #[Operand.tmp 63], argTypes := #[3] }, 9, _, _, none⟩) rfl (fun K hK => ?_) AllReadyH.nil
    rw [if_pos (by rfl)]
    refine wp_callF 31 _ _ rfl Tryd.in31 #[.int .i64 (k : Int)] (by simp [Act.eval]) (fun vz wz => vz = .string (nmS k) ∧ Below w7.heap.size w7 wz) ?_ ?_
    ·refine (name_any k hk.out.2.1 w7.drew (T_w7.out.below D4.out (Nat.lt_of_le_of_lt (Nat.zero_le _) J_w7.out.lt))).mono ?_
     rintro e wz ⟨rfl, h⟩
     exact ⟨_, rfl, rfl, D4.out.trans (h.mono D4.out.size)⟩
    rintro vz w5 ⟨rfl, h5⟩
    have B5 := Keep.mk h5
    clear h5
    rw [← hnn.out]
    refine hK _ _ (HSx.out _ (J_w7.out.below B5.out J_w7.out.lt)) fun hH5 => ?_
    clear hK
    simp only [Act.put, pqA, pqB, pqC]
    refine wpAnyH_ready (rs := [9]) (by kernel_rfl) (by simp) ?_
    refine AllReadyH.cons (o := ⟨some 65, Op.call { callee := Callee.value (Operand.func 34), args := #[Operand.tmp 59, Operand.tmp 64], argTypes := #[26, 9] }, 31, _, _, none⟩) rfl (fun K hK => ?_) AllReadyH.nil
    rw [if_pos (by rfl)]
    refine wp_callF 34 _ _ rfl Tryd.in34 #[ptr d, .string nn] (by simp [Act.eval]) (fun vz wz => vz = .int .i64 (pw D2) ∧ ∃ vf' cs', DskAt wz p vf' cs' (if D2.fuse = 0 then D2.act else D2.act.sync i) ∧ (Grown w5 wz fun k => k = p ∨ vf7.ownBlock = some k) ∧ ∀ k, DskS p vf' cs' k → DskS p vf7 cs7 k ∨ w5.heap.size ≤ k) ?_ ?_
    ·refine (syn_is d p i nn vf7 cs7 D2 w5 (K_w7.out.below B5.out K_w7.out.lt) (D8.out.below B5.out) JC.out.out HFd.out (by rw [D8.out.fcs.len]; exact JC.out.ok.len) ⟨JC.out.ok.acts, by have := JC.out.acts; have := HA.out; omega⟩ ⟨by have := JC.out.ok.fuse; omega, JC.out.ok.fuse.2⟩).mono ?_
     rintro e wz ⟨rfl, cs', h1, h2, h3⟩
     exact ⟨_, rfl, rfl, vf7, cs', h1, h2, fun k hk => .inl (h3 k hk)⟩
    rintro vz w9 ⟨rfl, vf9, cs9, h1, h2, h3⟩
    have D9 := Keep.mk h1
    have N9 : Keep (∀ k, DskS p vf9 cs9 k → N k ∨ w.heap.size ≤ k) := ⟨fun k hk => by rcases h3 k hk with h | h; exact NS.out k h; exact .inr (by have := B5.out.size; have := GW.out.size; omega)⟩
    have G9 : Keep (Grown w w9 N) := ⟨(GW.out.trans (Grown.below B5.out)).next h2 fun k hk e => by rcases e with e | e; exact (NS.out k (.inl e)).elim id (fun h => by omega); exact (NS.out k (.inr (.inl e))).elim id (fun h => by omega)⟩
    clear h1 h2 h3
    have T_w9 : Keep (Tab w9) := ⟨HT.out.grown G9.out HNn.out.1⟩
    have J_w9 : Keep (Blk w9 g 81 (jA d vp V.pr V.sz la de)) := ⟨G9.out.blk HJ.out HNn.out.2.1⟩
    have K_w9 : Keep (Blk w9 d 53 #[ptr p]) := ⟨G9.out.blk HDk.out HNn.out.2.2.1⟩
    obtain ⟨ee, hee⟩ : ∃ z, Keep (z = pw D2) := ⟨_, ⟨rfl⟩⟩
    rw [← hee.out]
    refine hK _ _ (HSx.out _ J_w9.out) fun hH7 => ?_
    clear hK
    simp only [Act.put, pqA, pqB, pqC]
    refine tkS (i := 10) (oi := ⟨some 6, Op.assign (Operand.tmp 65), 31, _, _, none⟩) (v := .int .i64 ee) rfl (Or.inl ⟨by rfl, fun w hS => by obtain ⟨hS1, hS2⟩ := hS; go_simp⟩) hH7 ?_
    refine wpAnyH_done (by kernel_rfl) ?_ _
    refine hK21 _ _ ?_
    refine wp_ret ?_
    go_ret
    rcases Decidable.em (D2.fuse = 0) with hfu | hfu
    ·have he : ee = 7 := by rw [hee.out]; unfold pw; rw [if_pos hfu]
     subst he
     have D8 := D9.out
     rw [if_pos hfu] at D8
     exact ⟨7, _, vf9, cs9, rfl, JC.out.dead hk.out.1 hk.out.2.2 ht2 hfu, D8, N9.out, G9.out⟩
    ·have he : ee = 0 := by rw [hee.out]; unfold pw; rw [if_neg hfu]
     subst he
     have D8 := D9.out
     rw [if_neg hfu] at D8
     exact ⟨0, _, vf9, cs9, rfl, JC.out.done hk.out.1 hk.out.2.2 ht2 HFi.out (by rw [HFn.out, hnn.out]) hfu, D8, N9.out, G9.out⟩
  ·subst htt
   refine rgn ?_
   refine VlS (.bool false) ?_
   refine WL.nil (hK15 _ _ ?_)
   refine wp_cond_false rfl ?_
   refine wp_skip ?_
   refine hK14 _ _ ?_
   refine wp_seq_k fun K22 hK22 => ?_
   refine wp_seq_k fun K23 hK23 => ?_
   by_cases hn1 : V.pr = -1
   ·refine rgn ?_
    refine VlS (.pointer (some ⟨g, 0, none⟩)) ?_
    refine VlS (.pointer (some ⟨g, 0, none⟩)) ?_
    refine VlS (.pointer (some ⟨g, 2, none⟩)) ?_
    refine VlS (.int .i64 V.pr) ?_
    refine VlS (.bool true) ?_
    refine WL.nil (hK23 _ _ ?_)
    refine wp_cond_true rfl ?_
    refine wp_seq_k fun K24 hK24 => rgn ?_
    refine VlS (.int .i64 0) ?_
    refine WL.nil (hK24 _ _ ?_)
    refine wp_ret ?_
    go_ret
    refine ⟨0, Dt, vf, cs, rfl, ?_, JD.out, JS.out, JG.out⟩
    have hj := JM.out
    rw [hn1] at hj
    refine hj.none hn1 ht ?_
    have h := openV_none (F := Fk D.fs) (by rw [← HV.out]; exact hn1)
    cases hl : lk D.fs (nmS 0) with
    | none => rfl
    | some f => unfold Fk at h; rw [hl] at h; cases h
   ·obtain ⟨k, hk⟩ : ∃ k : Nat, Keep (V.pr = (k : Int) ∧ k < 10000 ∧ k < 256) := by
     have h := openV_at (Fk D.fs)
     rw [← HV.out] at h
     rcases h with ⟨h, _⟩ | ⟨m, b, h1, h2, h3, h4⟩
     ·exact absurd h hn1
     ·exact ⟨m, ⟨h3, by omega, h1⟩⟩
    have JC : Keep (MC D Dt k V t) := ⟨by
     have h := hk.out.1
     have h2 := Htn.out
     have hj := JM.out
     rw [HV.out] at h h2 hj
     rw [h] at hj
     rw [HV.out]
     exact hj.noCut hk.out.2.2 h h2⟩
    have ht2 : t ≤ 257 := by omega
    refine rgn ?_
    refine VlS (.pointer (some ⟨g, 0, none⟩)) ?_
    refine VlS (.pointer (some ⟨g, 0, none⟩)) ?_
    refine VlS (.pointer (some ⟨g, 2, none⟩)) ?_
    refine VlS (.int .i64 V.pr) ?_
    refine VlS (.bool false) ?_
    refine WL.nil (hK23 _ _ ?_)
    refine wp_cond_false rfl ?_
    refine wp_skip ?_
    refine hK22 _ _ ?_
    refine wp_seq_k fun K25 hK25 => ?_
    clear c2
    have D4 : Keep (Below wr.heap.size wr wr.drew) := ⟨(Below.refl _ _).drew⟩
    obtain ⟨f, hf⟩ : ∃ f, lk Dt.fs (nmS k) = some f := by obtain ⟨f, g, _, h, _⟩ := JC.out.at'; exact ⟨f, h⟩
    obtain ⟨nn, hnn⟩ : ∃ s, Keep (s = nmS k) := ⟨_, ⟨rfl⟩⟩
    rw [← hnn.out] at hf
    obtain ⟨i, hfi, hfn, hfd⟩ := fnd_is JC.out.ok.srt hf
    have HFi := Keep.mk hfi
    have HFn := Keep.mk hfn
    have HFd := Keep.mk hfd
    clear hf hfi hfn hfd
    have HSx : Keep (∀ wx, Blk wx g 81 (jA d vp V.pr V.sz la de) → wx.cell? ⟨g, 0, none⟩ = some (ptr d) ∧ wx.cell? ⟨g, 2, none⟩ = some (.int .i64 (k : Int))) := ⟨fun wx h => ⟨h.c 0 rfl, by rw [← hk.out.1]; exact h.c 2 rfl⟩⟩
    refine wp_region_held_drew (S := fun wx => wx.cell? ⟨g, 0, none⟩ = some (ptr d) ∧ wx.cell? ⟨g, 2, none⟩ = some (.int .i64 (k : Int))) (by kernel_rfl) (HSx.out _ J_wr.out.drew) (fun hHeld => ?_)
    refine tkS (i := 0) (oi := ⟨some 56, Op.move (Operand.tmp 0), 56, _, _, none⟩) (v := .pointer (some ⟨g, 0, none⟩)) rfl (Or.inl ⟨by rfl, fun w hS => by obtain ⟨hS1, hS2⟩ := hS; go_simp⟩) hHeld ?_
    refine tkS (i := 1) (oi := ⟨some 57, Op.nilCheck (Operand.tmp 56), 0, _, _, none⟩) (v := .pointer (some ⟨g, 0, none⟩)) rfl (Or.inl ⟨by rfl, fun w hS => by obtain ⟨hS1, hS2⟩ := hS; go_simp⟩) hHeld ?_
    refine tkS (i := 2) (oi := ⟨some 58, Op.fieldAddr 81 (Operand.tmp 57) 0, 0, _, _, none⟩) (v := .pointer (some ⟨g, 0, none⟩)) rfl (Or.inl ⟨by rfl, fun w hS => by obtain ⟨hS1, hS2⟩ := hS; go_simp⟩) hHeld ?_
    refine tkS (i := 3) (oi := ⟨some 59, Op.load 26 (Operand.tmp 58), 26, _, _, none⟩) (v := .pointer (some ⟨d, 0, none⟩)) rfl (Or.inl ⟨by rfl, fun w hS => by obtain ⟨hS1, hS2⟩ := hS; go_simp⟩) hHeld ?_
    refine tkS (i := 4) (oi := ⟨some 60, Op.move (Operand.tmp 0), 56, _, _, none⟩) (v := .pointer (some ⟨g, 0, none⟩)) rfl (Or.inl ⟨by rfl, fun w hS => by obtain ⟨hS1, hS2⟩ := hS; go_simp⟩) hHeld ?_
    refine tkS (i := 5) (oi := ⟨some 61, Op.nilCheck (Operand.tmp 60), 0, _, _, none⟩) (v := .pointer (some ⟨g, 0, none⟩)) rfl (Or.inl ⟨by rfl, fun w hS => by obtain ⟨hS1, hS2⟩ := hS; go_simp⟩) hHeld ?_
    refine tkS (i := 6) (oi := ⟨some 62, Op.fieldAddr 81 (Operand.tmp 61) 2, 0, _, _, none⟩) (v := .pointer (some ⟨g, 2, none⟩)) rfl (Or.inl ⟨by rfl, fun w hS => by obtain ⟨hS1, hS2⟩ := hS; go_simp⟩) hHeld ?_
    refine tkS (i := 7) (oi := ⟨some 63, Op.load 3 (Operand.tmp 62), 3, _, _, none⟩) (v := .int .i64 (k : Int)) rfl (Or.inl ⟨by rfl, fun w hS => by obtain ⟨hS1, hS2⟩ := hS; go_simp⟩) hHeld ?_
    refine wpAnyH_ready (rs := [8]) (by kernel_rfl) (by simp) ?_
    refine AllReadyH.cons (o := ⟨some 64, Op.call { callee := Callee.value (Operand.func 31), args := #[Operand.tmp 63], argTypes := #[3] }, 9, _, _, none⟩) rfl (fun K hK => ?_) AllReadyH.nil
    rw [if_pos (by rfl)]
    refine wp_callF 31 _ _ rfl Tryd.in31 #[.int .i64 (k : Int)] (by simp [Act.eval]) (fun vz wz => vz = .string (nmS k) ∧ Below wr.heap.size wr wz) ?_ ?_
    ·refine (name_any k hk.out.2.1 wr.drew (T_wr.out.below D4.out (Nat.lt_of_le_of_lt (Nat.zero_le _) J_wr.out.lt))).mono ?_
     rintro e wz ⟨rfl, h⟩
     exact ⟨_, rfl, rfl, D4.out.trans (h.mono D4.out.size)⟩
    rintro vz w5 ⟨rfl, h5⟩
    have B5 := Keep.mk h5
    clear h5
    rw [← hnn.out]
    refine hK _ _ (HSx.out _ (J_wr.out.below B5.out J_wr.out.lt)) fun hH5 => ?_
    clear hK
    simp only [Act.put, pqA, pqB, pqC]
    refine wpAnyH_ready (rs := [9]) (by kernel_rfl) (by simp) ?_
    refine AllReadyH.cons (o := ⟨some 65, Op.call { callee := Callee.value (Operand.func 34), args := #[Operand.tmp 59, Operand.tmp 64], argTypes := #[26, 9] }, 31, _, _, none⟩) rfl (fun K hK => ?_) AllReadyH.nil
    rw [if_pos (by rfl)]
    refine wp_callF 34 _ _ rfl Tryd.in34 #[ptr d, .string nn] (by simp [Act.eval]) (fun vz wz => vz = .int .i64 (pw Dt) ∧ ∃ vf' cs', DskAt wz p vf' cs' (if Dt.fuse = 0 then Dt.act else Dt.act.sync i) ∧ (Grown w5 wz fun k => k = p ∨ vf.ownBlock = some k) ∧ ∀ k, DskS p vf' cs' k → DskS p vf cs k ∨ w5.heap.size ≤ k) ?_ ?_
    ·refine (syn_is d p i nn vf cs Dt w5 (K_wr.out.below B5.out K_wr.out.lt) (JD.out.below B5.out) JC.out.out HFd.out (by rw [JD.out.fcs.len]; exact JC.out.ok.len) ⟨JC.out.ok.acts, by have := JC.out.acts; have := HA.out; omega⟩ ⟨by have := JC.out.ok.fuse; omega, JC.out.ok.fuse.2⟩).mono ?_
     rintro e wz ⟨rfl, cs', h1, h2, h3⟩
     exact ⟨_, rfl, rfl, vf, cs', h1, h2, fun k hk => .inl (h3 k hk)⟩
    rintro vz w7 ⟨rfl, vf9, cs9, h1, h2, h3⟩
    have D9 := Keep.mk h1
    have N9 : Keep (∀ k, DskS p vf9 cs9 k → N k ∨ w.heap.size ≤ k) := ⟨fun k hk => by rcases h3 k hk with h | h; exact NS.out k h; exact .inr (by have := B5.out.size; have := GW.out.size; omega)⟩
    have G9 : Keep (Grown w w7 N) := ⟨(GW.out.trans (Grown.below B5.out)).next h2 fun k hk e => by rcases e with e | e; exact (NS.out k (.inl e)).elim id (fun h => by omega); exact (NS.out k (.inr (.inl e))).elim id (fun h => by omega)⟩
    clear h1 h2 h3
    have T_w7 : Keep (Tab w7) := ⟨HT.out.grown G9.out HNn.out.1⟩
    have J_w7 : Keep (Blk w7 g 81 (jA d vp V.pr V.sz la de)) := ⟨G9.out.blk HJ.out HNn.out.2.1⟩
    have K_w7 : Keep (Blk w7 d 53 #[ptr p]) := ⟨G9.out.blk HDk.out HNn.out.2.2.1⟩
    obtain ⟨ee, hee⟩ : ∃ z, Keep (z = pw Dt) := ⟨_, ⟨rfl⟩⟩
    rw [← hee.out]
    refine hK _ _ (HSx.out _ J_w7.out) fun hH7 => ?_
    clear hK
    simp only [Act.put, pqA, pqB, pqC]
    refine tkS (i := 10) (oi := ⟨some 6, Op.assign (Operand.tmp 65), 31, _, _, none⟩) (v := .int .i64 ee) rfl (Or.inl ⟨by rfl, fun w hS => by obtain ⟨hS1, hS2⟩ := hS; go_simp⟩) hH7 ?_
    refine wpAnyH_done (by kernel_rfl) ?_ _
    refine hK25 _ _ ?_
    refine wp_ret ?_
    go_ret
    rcases Decidable.em (Dt.fuse = 0) with hfu | hfu
    ·have he : ee = 7 := by rw [hee.out]; unfold pw; rw [if_pos hfu]
     subst he
     have D8 := D9.out
     rw [if_pos hfu] at D8
     exact ⟨7, _, vf9, cs9, rfl, JC.out.dead hk.out.1 hk.out.2.2 ht2 hfu, D8, N9.out, G9.out⟩
    ·have he : ee = 0 := by rw [hee.out]; unfold pw; rw [if_neg hfu]
     subst he
     have D8 := D9.out
     rw [if_neg hfu] at D8
     exact ⟨0, _, vf9, cs9, rfl, JC.out.done hk.out.1 hk.out.2.2 ht2 HFi.out (by rw [HFn.out, hnn.out]) hfu, D8, N9.out, G9.out⟩
end Go.Proofs.YtlggejehaonkcaaDoor
