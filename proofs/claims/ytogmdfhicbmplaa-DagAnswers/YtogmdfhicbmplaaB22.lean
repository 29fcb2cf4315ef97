import Derived.Test.YtogmdfhicbmplaaB19
import Derived.Test.YtogmdfhicbmplaaB21
import Derived.Test.YtogmdfhicbmplaaB20
import Derived.Test.YtogmdfhicbmplaaB15
import Derived.Test.YtogmdfhicbmplaaB13
import Derived.ProofKit
import Derived.OpenShut
import Derived.ChangeOld
import Derived.Below
import Derived.SizedLaws
import Derived.Deep.Slices
namespace Go.Proofs.Ytogmdfhicbmplaa
open Go.RowKit
set_option linter.unusedSimpArgs false
set_option linter.unusedVariables false

/-! ### A new pair; lists of pointers. -/
theorem Ents.none {w w' : World} {Av Av' : Nat → Prop} : ∀ {es : List MapEntry}, Ents w Av [] es → Ents w' Av' [] es
 | [], _ => trivial
 | _ :: _, h => h.elim
/-- Of a Dag without vertices no list is kept away from anything. -/
theorem DagAt.anyAv {w : World} {Av Av' : Nat → Prop} {d : Nat} {g : DG} (h : DagAt w Av d g) (h1 : g.held = []) (h2 : g.wait = []) (ha : ∀ k, DgS d g k → Av' k) (hl : ∀ k, Av' k → k < w.heap.size) : DagAt w Av' d g := by
 refine ⟨h.blk, ?_, ?_, h.oh, h.oo, h.oq, h.mm, h.ho, h.hq, h.oq', ha, hl⟩
 ·obtain ⟨es, ck, e1, e2⟩ := h.held
  rw [h1] at e2 ⊢
  exact ⟨es, ck, e1, e2.none⟩
 ·obtain ⟨es, ck, e1, e2⟩ := h.wait
  rw [h2] at e2 ⊢
  exact ⟨es, ck, e1, e2.none⟩
def Emp (Ps : List PQ) : Prop := ∀ p ∈ Ps, p.g.held = [] ∧ p.g.wait = [] ∧ p.R.held = [] ∧ p.R.wait = []
theorem MP.write {B : Nat} {w w1 : World} {Ps : List PQ} {S : Nat → Prop} (h : MP B w Ps) (hE : Emp Ps) (hg : Grown w w1 S) (hS : ∀ k, S k → ¬ UQ Ps k) : MP B w1 Ps := by
 refine ⟨fun p hp => ?_, fun p hp => ?_, h.dj, h.dk, h.rp, h.lo⟩
 ·have h0 := (h.dg p hp).anyAv (Av' := fun k => UQ Ps k ∨ (S k ∧ k < w.heap.size)) (hE p hp).1 (hE p hp).2.1 (fun k hk => .inl ⟨p, hp, .inl hk⟩) fun k hk => hk.elim (fun h1 => h.lt h1) fun h1 => h1.2
  exact h0.grown hg (fun k hk e => hS k hk ⟨p, hp, .inl e⟩) (fun k hk e => .inr ⟨e, hk⟩) (fun k _ e => .inl e) (fun k hk => ⟨p, hp, .inl hk⟩) fun k hk => Nat.lt_of_lt_of_le (h.lt hk) hg.size
 ·exact (h.rg p hp).grown hg (fun k hk e => hS k e ⟨p, hp, .inr hk⟩) fun q hq => by
   rw [(hE p hp).2.2.1, (hE p hp).2.2.2] at hq
   rcases hq with h1 | h1 <;> cases h1
theorem uq_app {Ps : List PQ} {p : PQ} {k : Nat} : UQ (Ps ++ [p]) k ↔ UQ Ps k ∨ PW p k := by
 unfold UQ
 constructor
 ·rintro ⟨q, hq, hk⟩
  rcases List.mem_append.1 hq with h | h
  ·exact .inl ⟨q, h, hk⟩
  ·rw [List.mem_singleton.1 h] at hk; exact .inr hk
 ·rintro (⟨q, hq, hk⟩ | hk)
  ·exact ⟨q, List.mem_append.2 (.inl hq), hk⟩
  ·exact ⟨p, by simp, hk⟩
theorem MP.add {B : Nat} {w w2 : World} {Ps : List PQ} {p : PQ} (h : MP B w Ps) (hb : Below w.heap.size w w2) (hP : PM w.heap.size w2 p.d p.x p.g p.hv p.wv p.sv p.R) (hB : B ≤ w.heap.size) (hE : p.g.held = [] ∧ p.g.wait = [] ∧ p.R.held = [] ∧ p.R.wait = []) : MP B w2 (Ps ++ [p]) := by
 have hplo : ∀ k, PW p k → w.heap.size ≤ k := fun k hk => hP.lo k hk
 have hplt : ∀ k, PW p k → k < w2.heap.size := fun k hk => hP.dg.lt k hk
 have hU : ∀ k, UQ (Ps ++ [p]) k → k < w2.heap.size := fun k hk => (uq_app.1 hk).elim (fun h1 => Nat.lt_of_lt_of_le (h.lt h1) hb.size) (hplt k)
 refine ⟨fun q hq => ?_, fun q hq => ?_, fun q hq => ?_, fun i j q r hi hj hij k => ?_, fun q hq => ?_, fun k hk => ?_⟩
 ·rcases List.mem_append.1 hq with h1 | h1
  ·exact (h.dg q h1).grown (Grown.below (S := fun _ => False) hb) (fun _ e => e.elim) (fun _ _ e => e.elim) (fun k hk e => (uq_app.1 e).elim id fun h2 => by have := hplo k h2; omega) (fun k hk => uq_app.2 (.inl ⟨q, h1, .inl hk⟩)) hU
  ·rw [List.mem_singleton.1 h1]
   exact hP.dg.anyAv hE.1 hE.2.1 (fun k hk => uq_app.2 (.inr (.inl hk))) hU
 ·rcases List.mem_append.1 hq with h1 | h1
  ·exact (h.rg q h1).below hb
  ·rw [List.mem_singleton.1 h1]; exact hP.rg
 ·rcases List.mem_append.1 hq with h1 | h1
  ·exact h.dj q h1
  ·rw [List.mem_singleton.1 h1]; exact hP.dj
 ·have hcase : ∀ (a : Nat) (s : PQ), (Ps ++ [p])[a]? = some s → (a < Ps.length ∧ Ps[a]? = some s) ∨ (a = Ps.length ∧ s = p) := fun a s hs => by
   rw [List.getElem?_append] at hs
   by_cases e : a < Ps.length
   ·rw [if_pos e] at hs; exact .inl ⟨e, hs⟩
   ·rw [if_neg e] at hs
    have hl := (List.getElem?_eq_some_iff.1 hs).1
    have h0 : a - Ps.length = 0 := by simpa using hl
    rw [h0] at hs
    exact .inr ⟨by omega, (Option.some.inj hs).symm⟩
  intro hk e
  rcases hcase i q hi with ⟨h1, h2⟩ | ⟨h1, rfl⟩
  ·rcases hcase j r hj with ⟨h3, h4⟩ | ⟨h3, rfl⟩
   ·exact h.dk i j q r h2 h4 hij k hk e
   ·have := h.lt (k := k) ⟨q, List.mem_iff_getElem?.2 ⟨i, h2⟩, hk⟩; have := hplo k e; omega
  ·rcases hcase j r hj with ⟨h3, h4⟩ | ⟨h3, rfl⟩
   ·have := h.lt (k := k) ⟨r, List.mem_iff_getElem?.2 ⟨j, h4⟩, e⟩; have := hplo k hk; omega
   ·omega
 ·intro r hr k hk e
  rcases List.mem_append.1 hq with h1 | h1
  ·have hkl := (((h.rg q h1).ps r hr).2.2 k hk).1
   rcases uq_app.1 e with h2 | h2
   ·exact h.rp q h1 r hr k hk h2
   ·have := hplo k h2; omega
  ·rw [List.mem_singleton.1 h1, hE.2.2.1, hE.2.2.2] at hr
   rcases hr with h2 | h2 <;> cases h2
 ·rcases uq_app.1 hk with h1 | h1
  ·exact h.lo k h1
  ·exact Nat.le_trans hB (hplo k h1)
theorem owns_grown {w w' : World} {B T s n : Nat} {v : Value} {xs : List Value} {S : Nat → Prop} (h : w.ownsRow B T s v n xs) (hg : Grown w w' S) (hs : ∀ k, v.ownBlock = some k → ¬ S k) : w'.ownsRow B T s v n xs := by
 rcases h.2 with ⟨rfl, e⟩ | ⟨g, cap, cur, rfl, h1, h2, h3, h4, h5, h6⟩
 ·exact ⟨h.1, .inl ⟨rfl, e⟩⟩
 ·have hB : Blk w g T cur := h2
  exact ⟨h.1, .inr ⟨g, cap, cur, rfl, h1, hg.blk hB (hs g rfl), h3, h4, h5, h6⟩⟩
theorem owns_below {w w' : World} {B T s n : Nat} {v : Value} {xs : List Value} (h : w.ownsRow B T s v n xs) (hb : Below w.heap.size w w') : w'.ownsRow B T s v n xs := owns_grown h (Grown.below (S := fun _ => False) hb) fun _ _ e => e
theorem owns_lt {w : World} {B T s n : Nat} {v : Value} {xs : List Value} (h : w.ownsRow B T s v n xs) : ∀ k, v.ownBlock = some k → B ≤ k ∧ k < w.heap.size := fun k hk => World.ownsRow.lt h k hk
theorem owns_sl {w : World} {B T s n : Nat} {v : Value} {xs : List Value} (h : w.ownsRow B T s v n xs) : ∃ a c, v = .slice a n c := by
 rcases h.2 with ⟨rfl, e⟩ | ⟨g, cap, cur, rfl, _⟩
 ·exact ⟨none, 0, by rw [e]⟩
 ·exact ⟨_, _, rfl⟩
theorem owns_at {w : World} {B T n c : Nat} {a : Option Addr} {xs : List Value} (h : w.ownsRow B T 1 (.slice a n c) n xs) {i : Nat} (hi : i < n) {u : Value} (hu : xs[i]? = some u) : ∃ g, a = some ⟨g, 0, none⟩ ∧ w.cell? ⟨g, i, none⟩ = some u ∧ g < w.heap.size := by
 rcases h.2 with ⟨e, e2⟩ | ⟨g, cap, cur, e, h1, h2, h3, h4, h5, h6⟩
 ·omega
 ·injection e with e1 e2 e3
  have hB : Blk w g T cur := h2
  refine ⟨g, e1, ?_, hB.lt⟩
  rw [hB.cell, ← Array.getElem?_toList]
  rw [← h6, List.getElem?_take] at hu
  split at hu
  ·exact hu
  ·cases hu
theorem run_appQ (st et : TypeId) (hu : Try.prog.underlying st = some (.slice et)) (hinf : (Try.prog.info? et).map (fun i => (i.zero, i.size, i.bytes)) = some (some (.pointer none), 1, 8)) (w : World) (ty : TypeId) (B : Nat) (v : Value) (n : Nat) (xs : List Value) (hown : w.ownsRow B et 1 v n xs) (gx d : Nat) (hc : w.cell? ⟨gx, 0, none⟩ = some (ptr d)) (hb : n + 1 ≤ 17592186044416) (hB : B ≤ w.heap.size) :
  ∃ v' w', (Builtin.append_ #[st, st] ty #[v, .slice (some ⟨gx, 0, none⟩) 1 1]).run Try.prog w = .ok v' w' ∧ w'.ownsRow B et 1 v' (n + 1) (xs ++ [ptr d]) ∧ (Grown w w' fun k => v.ownBlock = some k) ∧ (v'.ownBlock = v.ownBlock ∨ v'.ownBlock = some w.heap.size) := by
 obtain ⟨i, hi, hzz⟩ := Option.map_eq_some_iff.1 hinf
 simp only [Prod.mk.injEq] at hzz
 obtain ⟨hz, hsz, hby⟩ := hzz
 obtain ⟨v', w', hr, h1, h2, _, h3⟩ := run_append_own_at (P := Try.prog) w B st ty et i (.pointer none) 1 8 hu hi hz hsz hby rfl (by omega) v n xs hown ⟨gx, 0, none⟩ 1 1 [ptr d] rfl (fun j u hu => by
  cases j with
  | zero => simp at hu; subst hu; exact hc
  | succ j => simp at hu) (fun u hu => by simp at hu; subst hu; rfl) (by unfold maxLen; omega) (by omega) hB
 exact ⟨v', w', hr, h1, Grown.of h2 fun k _ e => e, h3⟩
theorem infoD : (Try.prog.info? 27).map (fun i => (i.zero, i.size, i.bytes)) = some (some (.pointer none), 1, 8) := by kernel_rfl
theorem infoX : (Try.prog.info? 31).map (fun i => (i.zero, i.size, i.bytes)) = some (some (.pointer none), 1, 8) := by kernel_rfl
theorem bsD0 (w : World) : (Instr.buildSlice 25 0 #[]).run Try.prog w = .ok (.slice (some ⟨w.heap.size, 0, none⟩) 0 0) (w.alloc (.cells #[] 27)) := by kernel_rfl
theorem bsX0 (w : World) : (Instr.buildSlice 26 0 #[]).run Try.prog w = .ok (.slice (some ⟨w.heap.size, 0, none⟩) 0 0) (w.alloc (.cells #[] 31)) := by kernel_rfl
theorem bsD1 (d : Nat) (w : World) : (Instr.buildSlice 25 1 #[(0, .pointer (some ⟨d, 0, none⟩))]).run Try.prog w = .ok (.slice (some ⟨w.heap.size, 0, none⟩) 1 1) (w.alloc (.cells #[.pointer (some ⟨d, 0, none⟩)] 27)) := by kernel_rfl
theorem bsX1 (d : Nat) (w : World) : (Instr.buildSlice 26 1 #[(0, .pointer (some ⟨d, 0, none⟩))]).run Try.prog w = .ok (.slice (some ⟨w.heap.size, 0, none⟩) 1 1) (w.alloc (.cells #[.pointer (some ⟨d, 0, none⟩)] 31)) := by kernel_rfl
theorem owns_new (w : World) (T B : Nat) (hB : B ≤ w.heap.size) : (w.alloc (.cells #[] T)).ownsRow B T 1 (.slice (some ⟨w.heap.size, 0, none⟩) 0 0) 0 ([] : List Value) :=
 ⟨rfl, .inr ⟨w.heap.size, 0, #[], rfl, hB, Blk.new w T #[], Nat.le_refl _, by decide, rfl, rfl⟩⟩
/-- The two lists. -/
structure LQ (B : Nat) (w : World) (lv mv : Value) (Ps : List PQ) : Prop where
 l : w.ownsRow B 27 1 lv Ps.length (Ps.map fun p => ptr p.d)
 m : w.ownsRow B 31 1 mv Ps.length (Ps.map fun p => ptr p.x)
 nl : ∀ k, lv.ownBlock = some k → ¬ UQ Ps k ∧ mv.ownBlock ≠ some k
 nm : ∀ k, mv.ownBlock = some k → ¬ UQ Ps k
theorem LQ.below {B : Nat} {w w' : World} {lv mv : Value} {Ps : List PQ} (h : LQ B w lv mv Ps) (hb : Below w.heap.size w w') : LQ B w' lv mv Ps := ⟨owns_below h.l hb, owns_below h.m hb, h.nl, h.nm⟩
theorem map_set {α : Type} {Ps : List PQ} {i : Nat} {p p' : PQ} (f : PQ → α) (hi : Ps[i]? = some p) (he : f p' = f p) : (Ps.set i p').map f = Ps.map f := by
 apply List.ext_getElem?
 intro j
 rw [List.getElem?_map, List.getElem?_map, List.getElem?_set]
 by_cases e : i = j
 ·subst e
  rw [if_pos rfl, if_pos (List.getElem?_eq_some_iff.1 hi).1, hi]
  simp [he]
 ·rw [if_neg e]
theorem LQ.step {B : Nat} {w w' : World} {lv mv : Value} {Ps : List PQ} {i : Nat} {p p' : PQ} (h : LQ B w lv mv Ps) (hi : Ps[i]? = some p) (hd : p'.d = p.d) (hx : p'.x = p.x) (hg : Grown w w' (UQ Ps)) (hs : ∀ k, UQ (Ps.set i p') k → UQ Ps k ∨ w.heap.size ≤ k) : LQ B w' lv mv (Ps.set i p') := by
 refine ⟨?_, ?_, fun k hk => ⟨fun e => ?_, (h.nl k hk).2⟩, fun k hk e => ?_⟩
 ·rw [List.length_set, map_set _ hi (by rw [hd])]; exact owns_grown h.l hg fun k hk => (h.nl k hk).1
 ·rw [List.length_set, map_set _ hi (by rw [hx])]; exact owns_grown h.m hg fun k hk => h.nm k hk
 ·rcases hs k e with h1 | h1
  ·exact (h.nl k hk).1 h1
  ·have := (owns_lt h.l k hk).2; omega
 ·rcases hs k e with h1 | h1
  ·exact h.nm k hk h1
  ·have := (owns_lt h.m k hk).2; omega
end Go.Proofs.Ytogmdfhicbmplaa
namespace Go.Proofs.Ytogmdfhicbmplaa
open Go.RowKit
set_option linter.unusedSimpArgs false
set_option linter.unusedVariables false

theorem sizeOpL (o : OP) : (Try.prog.info? 41).map (·.size) = some (opA o).toList.length := by rw [Array.length_toList]; exact Try.sizeOp o
theorem row_lt {w : World} {v : Value} {l : List Hs} (h : HRow w v l) (hne : l ≠ []) {k : Nat} (hk : v.ownBlock = some k) : k < w.heap.size := by
 rcases h with ⟨a, c, rfl, rfl, _⟩ | ⟨b, off, cap, rfl, h1, h2⟩
 ·exact absurd rfl hne
 ·have e : b = k := Option.some.inj hk
  subst e
  exact rangeAt_lt h2 (by cases l with | nil => exact absurd rfl hne | cons => simp)
set_option maxRecDepth 8000 in
set_option maxHeartbeats 4000000 in
theorem dagAnswers_any (v0 v1 : Value) (S0 : List Int) (S : List OP) (w : World) (hR0 : IRow w v0 S0) (hL0 : (S0.length : Int) ≤ 17592186044416) (hS : ORow w v1 S) (hSl : (S.length : Int) ≤ 9223372036854775806) : Calls Try.prog 4 #[v0, v1] w fun e w' => e = .returned (.bool true) ∧ Below w.heap.size w w' := by
 obtain ⟨ra, rc, rfl⟩ := hR0.form
 obtain ⟨sa, sc, rfl⟩ := hS.form
 have HR0 := Keep.mk hR0
 have HL0 := Keep.mk hL0
 have HS := Keep.mk hS
 have HSl := Keep.mk hSl
 clear hR0 hL0 hS hSl
 go_enter Try.func4, Try.ntmps4
 refine wp_seq_k fun K1 hK1 => rgn ?_
 refine VlS (.bool false) ?_
 refine WL.nil (hK1 _ _ ?_)
 refine wp_seq_k fun K2 hK2 => rgn ?_
 refine WL.bs (by kernel_rfl) 25 0 _ rfl #[] (by simp) _ _ (bsD0 w) ?_
 have L1 := Keep.mk (owns_new w 27 w.heap.size (Nat.le_refl _))
 have B1 := Keep.mk (below_new w (.cells #[] 27))
 have Z1 : Keep (w.heap.size < (w.alloc (.cells #[] 27)).heap.size) := ⟨(Blk.new w 27 #[]).lt⟩
 generalize w.alloc (.cells #[] 27) = w1 at *
 obtain ⟨lv0, hlv0⟩ : ∃ v, Keep (v = Value.slice (some ⟨w.heap.size, 0, none⟩) 0 0) := ⟨_, ⟨rfl⟩⟩
 rw [← hlv0.out]
 simp only [Act.put, pqA, pqB, pqC]
 refine VlS (lv0) ?_
 refine WL.nil (hK2 _ _ ?_)
 refine wp_seq_k fun K3 hK3 => rgn ?_
 refine WL.bs (by kernel_rfl) 26 0 _ rfl #[] (by simp) _ _ (bsX0 w1) ?_
 have M2 := Keep.mk (owns_new w1 31 w.heap.size B1.out.size)
 have hz := below_new w1 (.cells #[] 31)
 have L2 := Keep.mk (owns_below L1.out hz)
 have B2 := Keep.mk (belowT B1.out hz)
 clear hz
 generalize w1.alloc (.cells #[] 31) = w2 at *
 obtain ⟨mv0, hmv0⟩ : ∃ v, Keep (v = Value.slice (some ⟨w1.heap.size, 0, none⟩) 0 0) := ⟨_, ⟨rfl⟩⟩
 rw [← hmv0.out]
 have Q2 : Keep (LQ w.heap.size w2 lv0 mv0 []) := ⟨by rw [hlv0.out, hmv0.out]; exact ⟨L2.out, M2.out, fun k hk => ⟨fun ⟨p, hp, _⟩ => (by cases hp), fun e => by have h1 : w.heap.size = k := Option.some.inj hk; have h2 : w1.heap.size = k := Option.some.inj e; have := Z1.out; omega⟩, fun k hk => fun ⟨p, hp, _⟩ => by cases hp⟩⟩
 have A2 : Keep (AQ w.heap.size w2 []) := ⟨⟨MP.nil _ _, fun p hp => by cases hp⟩⟩
 clear L1 L2 M2
 simp only [Act.put, pqA, pqB, pqC]
 refine VlS (mv0) ?_
 refine WL.nil (hK3 _ _ ?_)
 refine wp_seq_k fun K4 hK4 => ?_
 refine wp_seq_k fun K5 hK5 => rgn ?_
 refine VlS (.int .i64 0) ?_
 refine WL.nil (hK5 _ _ ?_)
 refine wp_block ?_
 refine wp_loop (fun ac wr => ∃ (t : Nat) (f : Nat → Value), ac = { tmps := #[.slice ra S0.length rc, .slice sa S.length sc, undef, undef, f 4, f 5, f 6, .int .i64 (t : Int), f 8, f 9, f 10, f 11, undef, undef, undef, lv0, mv0, f 17, f 18, f 19, f 20, f 21, f 22, f 23, f 24, f 25, f 26, f 27, f 28, f 29, f 30, f 31, f 32, f 33, f 34, f 35, f 36, f 37, f 38, f 39, f 40, f 41, f 42, f 43, f 44, f 45, f 46, f 47, f 48, f 49, f 50, f 51, f 52, f 53, f 54, f 55, f 56, f 57, f 58, undef, undef, undef, undef, undef, undef, undef, undef, undef, undef, undef, undef, undef, undef, undef, undef, undef, undef, undef, undef, undef, undef, undef, undef, undef, undef, undef, undef, undef, undef, undef, undef, undef, undef, undef, undef, undef, undef, undef, undef, undef, undef, undef, undef, undef, undef, undef, undef, undef, undef], defers := [] } ∧ t ≤ S0.length ∧ ∃ Ps, AQ w.heap.size wr Ps ∧ Emp Ps ∧ LQ w.heap.size wr (f 5) (f 6) Ps ∧ Ps.length ≤ t ∧ Below w.heap.size w wr) (fun a _ => S0.length - (intOf (a.tmps.getD 7 undef)).toNat) ⟨0, fun i => [.slice ra S0.length rc, .slice sa S.length sc, undef, undef, .bool false, lv0, mv0, .int .i64 0, undef, undef, undef, undef, undef, undef, undef, lv0, mv0, undef, undef, undef, undef, undef, undef, undef, undef, undef, undef, undef, undef, undef, undef, undef, undef, undef, undef, undef, undef, undef, undef, undef, undef, undef, undef, undef, undef, undef, undef, undef, undef, undef, undef, undef, undef, undef, undef, undef, undef, undef, undef, undef, undef, undef, undef, undef, undef, undef, undef, undef, undef, undef, undef, undef, undef, undef, undef, undef, undef, undef, undef, undef, undef, undef, undef, undef, undef, undef, undef, undef, undef, undef, undef, undef, undef, undef, undef, undef, undef, undef, undef, undef, undef, undef, undef, undef, undef, undef, undef, undef, undef].getD i undef, rfl, by omega, [], A2.out, (fun p hp => by cases hp), Q2.out, by simp, B2.out⟩ ?_
 rintro ac wr ⟨t, f, rfl, ht, hX⟩
 obtain ⟨Ps, hA, hE, hQ, hPl, hB⟩ := hX
 obtain ⟨lv, hlv⟩ : ∃ v, f 5 = v := ⟨_, rfl⟩
 obtain ⟨mv, hmv⟩ : ∃ v, f 6 = v := ⟨_, rfl⟩
 rw [hlv, hmv] at hQ
 rw [hlv, hmv]
 have Hlv := Keep.mk hlv
 have Hmv := Keep.mk hmv
 have JA := Keep.mk hA
 have JE := Keep.mk hE
 have JQ := Keep.mk hQ
 have JB := Keep.mk hB
 clear hA hE hQ hB hlv hmv
 have HRr := Keep.mk (HR0.out.below JB.out)
 by_cases htl : t < S0.length
 ·have htl' : (t : Int) < (S0.length : Int) := by omega
  have ht0 : (0 : Int) ≤ (t : Int) := by omega
  have hwt : IntKind.i64.wrap ((t : Int) + 1) = ((t + 1 : Nat) : Int) := by rw [IntKind.wrap_i64]; have := HL0.out; omega
  obtain ⟨b, off, hra, hcl⟩ := HRr.out.at (by omega)
  subst hra
  obtain ⟨r, hr⟩ : ∃ r, r = S0[t] := ⟨_, rfl⟩
  have c27 : wr.cell? ⟨b, off + t, none⟩ = some (.int .i64 r) := by rw [hr]; exact hcl t htl
  have Hcl := Keep.mk (hcl t htl)
  have Hr := Keep.mk hr
  have Hbl := Keep.mk (cell_lt c27)
  clear hcl hr
  by_cases hro : 0 ≤ r ∧ r ≤ 64
  ·refine wp_seq_k fun K6 hK6 => ?_
   refine wp_seq_k fun K7 hK7 => rgn ?_
   refine VlS (.int .i64 (t : Int)) ?_
   refine VlS (.slice (some ⟨b, off, none⟩) S0.length rc) ?_
   refine VlS (.int .i64 (S0.length : Int)) ?_
   refine VlS (.bool true) ?_
   refine WL.nil (hK7 _ _ ?_)
   refine wp_cond_true rfl ?_
   refine wp_skip ?_
   refine hK6 _ _ ?_
   refine wp_seq_k fun K8 hK8 => ?_
   refine wp_block ?_
   refine wp_seq_k fun K9 hK9 => rgn ?_
   refine VlS (.slice (some ⟨b, off, none⟩) S0.length rc) ?_
   refine VlS (.int .i64 (t : Int)) ?_
   refine VlS (.pointer (some ⟨b, off + t, none⟩)) ?_
   refine WL.val (by kernel_rfl) (.int .i64 r) (by go_simp) ?_
   clear c27
   simp only [Act.put, pqA, pqB, pqC]
   have hcon := (new_ds r wr).mono (R' := fun e w' => ∃ d g, e = .returned (.tuple #[.pointer (some ⟨d, 0, none⟩), .int .i64 0]) ∧ DS wr.heap.size w' d g ∧ Below wr.heap.size wr w' ∧ g.room = r ∧ g.held = [] ∧ g.wait = []) (fun e w' h => h.elim (fun h => absurd h.1 (by omega)) fun ⟨_, _, d, g, h1, h2, h3, h4, h5, h6, _⟩ => ⟨d, g, h1, h2, h3, h4, h5, h6⟩)
   refine WL.callF (by kernel_rfl) 10 _ _ rfl Try.in10 #[.int .i64 r] (by simp [Act.eval]) ?_
   refine (hcon).mono ?_
   rintro e w3 ⟨d, g, rfl, hD, hb, e1, e2, e3⟩
   refine ⟨_, rfl, ?_⟩
   clear hcon
   have D3 := Keep.mk hD
   have B3 := Keep.mk hb
   have E3 : Keep (g.room = r ∧ g.held = [] ∧ g.wait = []) := ⟨⟨e1, e2, e3⟩⟩
   have c35 : w3.cell? ⟨b, off + t, none⟩ = some (.int .i64 r) := by have h := hb.cell (p := ⟨b, off + t, none⟩) Hbl.out; rw [h, Hr.out]; exact Hcl.out
   clear hD hb e1 e2 e3
   simp only [Act.put, pqA, pqB, pqC]
   refine VlS (.tuple #[.pointer (some ⟨d, 0, none⟩), .int .i64 0]) ?_
   refine VlS (.pointer (some ⟨d, 0, none⟩)) ?_
   refine VlS (.int .i64 0) ?_
   refine VlS (.pointer (some ⟨d, 0, none⟩)) ?_
   refine VlS (.int .i64 0) ?_
   refine WL.nil (hK9 _ _ ?_)
   refine wp_seq_k fun K10 hK10 => rgn ?_
   refine VlS (.slice (some ⟨b, off, none⟩) S0.length rc) ?_
   refine VlS (.int .i64 (t : Int)) ?_
   refine VlS (.pointer (some ⟨b, off + t, none⟩)) ?_
   refine WL.val (by kernel_rfl) (.int .i64 r) (by go_simp) ?_
   clear c35
   simp only [Act.put, pqA, pqB, pqC]
   have hcon := (rnew_any r w3).mono (R' := fun e w' => e = .returned (.tuple #[ptr w3.heap.size, .int .i64 0]) ∧ Blk w' w3.heap.size 79 (rdA r (.slice none 0 0) (.slice none 0 0) (.slice none 0 0)) ∧ Below w3.heap.size w3 w') (fun e w' h => h.elim (fun h => absurd h.1 (by omega)) fun ⟨_, _, h1, h2, h3⟩ => ⟨h1, h2, h3⟩)
   refine WL.callF (by kernel_rfl) 11 _ _ rfl Try.in11 #[.int .i64 r] (by simp [Act.eval]) ?_
   refine (hcon).mono ?_
   rintro e w4 ⟨rfl, hx, hb⟩
   refine ⟨_, rfl, ?_⟩
   clear hcon
   have P4 := Keep.mk (PM.new D3.out hb hx B3.out.size)
   have B4 := Keep.mk (belowT B3.out hb)
   have S4 : Keep (Sm g ⟨r, [], [], []⟩) := ⟨⟨E3.out.1.symm, E3.out.2.1.symm, E3.out.2.2.symm⟩⟩
   have R4 : Keep (RI ⟨r, [], [], []⟩) := ⟨S4.out.ri' D3.out.di List.Pairwise.nil fun x => by simp [RG.hs]⟩
   clear hx hb
   obtain ⟨x, hxe⟩ : ∃ x, Keep (x = w3.heap.size) := ⟨_, ⟨rfl⟩⟩
   rw [← hxe.out] at P4 ⊢
   obtain ⟨p, hp⟩ : ∃ p : PQ, Keep (p = ⟨d, x, g, .slice none 0 0, .slice none 0 0, .slice none 0 0, ⟨r, [], [], []⟩⟩) := ⟨_, ⟨rfl⟩⟩
   have hEp : p.g.held = [] ∧ p.g.wait = [] ∧ p.R.held = [] ∧ p.R.wait = [] := by rw [hp.out]; exact ⟨E3.out.2.1, E3.out.2.2, rfl, rfl⟩
   have M4 : Keep (MP w.heap.size w4 (Ps ++ [p])) := ⟨JA.out.1.add B4.out (by rw [hp.out]; exact P4.out) JB.out.size hEp⟩
   have I4 : Keep (∀ q ∈ Ps ++ [p], InQ q) := ⟨fun q hq => (List.mem_append.1 hq).elim (JA.out.2 q) fun h => by rw [List.mem_singleton.1 h, hp.out]; exact ⟨D3.out.di, R4.out, S4.out⟩⟩
   have E4 : Keep (Emp (Ps ++ [p])) := ⟨fun q hq => (List.mem_append.1 hq).elim (JE.out q) fun h => by rw [List.mem_singleton.1 h]; exact hEp⟩
   have NPw : Keep (∀ k, UQ (Ps ++ [p]) k → UQ Ps k ∨ wr.heap.size ≤ k) := ⟨fun k hk => (uq_app.1 hk).imp id fun h => P4.out.lo k (by rw [hp.out] at h; exact h)⟩
   have BW4 := Keep.mk (JB.out.trans (B4.out.mono JB.out.size))
   have LL4 := Keep.mk (owns_below JQ.out.l B4.out)
   have MM4 := Keep.mk (owns_below JQ.out.m B4.out)
   have Hpd : Keep (p.d = d ∧ p.x = x) := ⟨by rw [hp.out]; exact ⟨rfl, rfl⟩⟩
   clear hEp D3
   simp only [Act.put, pqA, pqB, pqC]
   refine VlS (.tuple #[.pointer (some ⟨x, 0, none⟩), .int .i64 0]) ?_
   refine VlS (.pointer (some ⟨x, 0, none⟩)) ?_
   refine VlS (.int .i64 0) ?_
   refine VlS (.pointer (some ⟨x, 0, none⟩)) ?_
   refine VlS (.int .i64 0) ?_
   refine WL.nil (hK10 _ _ ?_)
   refine wp_seq_k fun K11 hK11 => ?_
   refine wp_seq_k fun K12 hK12 => rgn ?_
   refine VlS (.int .i64 0) ?_
   refine VlS (.int .i64 0) ?_
   refine VlS (.bool false) ?_
   refine VlS (.bool false) ?_
   refine VlS (.pointer (some ⟨d, 0, none⟩)) ?_
   refine VlS (.bool false) ?_
   refine VlS (.int .i64 0) ?_
   refine VlS (.bool false) ?_
   refine VlS (.bool false) ?_
   refine VlS (.bool false) ?_
   refine WL.nil (hK12 _ _ ?_)
   refine wp_cond_false rfl ?_
   refine wp_skip ?_
   refine hK11 _ _ ?_
   refine wp_seq_k fun K13 hK13 => rgn ?_
   refine VlS (.pointer (some ⟨d, 0, none⟩)) ?_
   refine VlS (.bool true) ?_
   refine WL.nil (hK13 _ _ ?_)
   refine wp_cond_true rfl ?_
   refine wp_seq_k fun K14 hK14 => rgn ?_
   refine VlS (lv) ?_
   refine VlS (.pointer (some ⟨d, 0, none⟩)) ?_
   refine WL.bs (by kernel_rfl) 25 1 _ rfl #[(0, .pointer (some ⟨d, 0, none⟩))] (by simp [Act.eval]) _ _ (bsD1 d w4) ?_
   have HG5 := Keep.mk (Blk.new w4 27 #[.pointer (some ⟨d, 0, none⟩)])
   have hz := below_new w4 (.cells #[.pointer (some ⟨d, 0, none⟩)] 27)
   have M5 := Keep.mk (M4.out.below hz)
   have LL5 := Keep.mk (owns_below LL4.out hz)
   have MM5 := Keep.mk (owns_below MM4.out hz)
   have BW5 := Keep.mk (BW4.out.trans (hz.mono BW4.out.size))
   have ZZ5 : Keep (w4.heap.size ≤ (w4.alloc (.cells #[.pointer (some ⟨d, 0, none⟩)] 27)).heap.size) := ⟨hz.size⟩
   clear hz
   generalize w4.alloc (.cells #[.pointer (some ⟨d, 0, none⟩)] 27) = w5 at *
   obtain ⟨gx5, hgx5⟩ : ∃ n, Keep (n = w4.heap.size) := ⟨_, ⟨rfl⟩⟩
   rw [← hgx5.out] at HG5 ⊢
   simp only [Act.put, pqA, pqB, pqC]
   obtain ⟨v6, w6, hr6, h1, h2, h3⟩ := run_appQ 25 27 Try.underlying25 infoD w5 25 w.heap.size lv Ps.length _ LL5.out gx5 d (HG5.out.c 0 rfl) (by have := HL0.out; omega) BW5.out.size
   refine WL.call (by kernel_rfl) fun K hK => ?_
   refine Go.Lib.wp_append_run w5 (.tmp 51) (.tmp 53) 25 25 rfl _ _ rfl rfl v6 w6 hr6 ?_
   refine hK _ _ ?_
   clear hK hr6
   have NL5 : Keep (∀ k, lv.ownBlock = some k → ¬ UQ (Ps ++ [p]) k ∧ mv.ownBlock ≠ some k) := ⟨fun k hk => ⟨fun e => (NPw.out k e).elim (JQ.out.nl k hk).1 fun h => by have := (owns_lt JQ.out.l k hk).2; omega, (JQ.out.nl k hk).2⟩⟩
   have M6 := Keep.mk (M5.out.write E4.out h2 fun k hk => (NL5.out k hk).1)
   have LL6 := Keep.mk h1
   have MM6 := Keep.mk (owns_grown MM5.out h2 fun k hk e => (NL5.out k e).2 hk)
   have BW6 := Keep.mk (BW5.out.trans (h2.to_below (fun k hk e => by have := (owns_lt JQ.out.l k e).1; omega) BW5.out.size))
   have UL5 : Keep (∀ k, UQ (Ps ++ [p]) k → k < w5.heap.size) := ⟨fun k hk => M5.out.lt hk⟩
   have NL6 : Keep (∀ k, v6.ownBlock = some k → ¬ UQ (Ps ++ [p]) k ∧ mv.ownBlock ≠ some k) := ⟨fun k hk => h3.elim (fun e => NL5.out k (e ▸ hk)) fun e => by rw [hk] at e; have e := Option.some.inj e; subst e; exact ⟨fun h => by have := UL5.out _ h; omega, fun h => by have := (owns_lt MM5.out _ h).2; omega⟩⟩
   clear h1 h2 h3
   simp only [Act.put, pqA, pqB, pqC]
   refine VlS (v6) ?_
   refine WL.nil (hK14 _ _ ?_)
   refine rgn ?_
   refine VlS (mv) ?_
   refine VlS (.pointer (some ⟨x, 0, none⟩)) ?_
   refine WL.bs (by kernel_rfl) 26 1 _ rfl #[(0, .pointer (some ⟨x, 0, none⟩))] (by simp [Act.eval]) _ _ (bsX1 x w6) ?_
   have HG7 := Keep.mk (Blk.new w6 31 #[.pointer (some ⟨x, 0, none⟩)])
   have hz := below_new w6 (.cells #[.pointer (some ⟨x, 0, none⟩)] 31)
   have M7 := Keep.mk (M6.out.below hz)
   have LL7 := Keep.mk (owns_below LL6.out hz)
   have MM7 := Keep.mk (owns_below MM6.out hz)
   have BW7 := Keep.mk (BW6.out.trans (hz.mono BW6.out.size))
   have ZZ7 : Keep (w6.heap.size ≤ (w6.alloc (.cells #[.pointer (some ⟨x, 0, none⟩)] 31)).heap.size) := ⟨hz.size⟩
   clear hz
   generalize w6.alloc (.cells #[.pointer (some ⟨x, 0, none⟩)] 31) = w7 at *
   obtain ⟨gx7, hgx7⟩ : ∃ n, Keep (n = w6.heap.size) := ⟨_, ⟨rfl⟩⟩
   rw [← hgx7.out] at HG7 ⊢
   simp only [Act.put, pqA, pqB, pqC]
   obtain ⟨v8, w8, hr8, h1, h2, h3⟩ := run_appQ 26 31 Try.underlying26 infoX w7 26 w.heap.size mv Ps.length _ MM7.out gx7 x (HG7.out.c 0 rfl) (by have := HL0.out; omega) BW7.out.size
   refine WL.call (by kernel_rfl) fun K hK => ?_
   refine Go.Lib.wp_append_run w7 (.tmp 55) (.tmp 57) 26 26 rfl _ _ rfl rfl v8 w8 hr8 ?_
   refine hK _ _ ?_
   clear hK hr8
   have NM7 : Keep (∀ k, mv.ownBlock = some k → ¬ UQ (Ps ++ [p]) k) := ⟨fun k hk e => (NPw.out k e).elim (JQ.out.nm k hk) fun h => by have := (owns_lt JQ.out.m k hk).2; omega⟩
   have M8 := Keep.mk (M7.out.write E4.out h2 fun k hk => NM7.out k hk)
   have LL8 := Keep.mk (owns_grown LL7.out h2 fun k hk e => (NL6.out k hk).2 e)
   have BW8 := Keep.mk (BW7.out.trans (h2.to_below (fun k hk e => by have := (owns_lt JQ.out.m k e).1; omega) BW7.out.size))
   have Q8 : Keep (LQ w.heap.size w8 v6 v8 (Ps ++ [p])) := ⟨⟨by rw [List.length_append, List.map_append]; simp only [List.map_cons, List.map_nil, List.length_cons, List.length_nil, Hpd.out.1]; exact LL8.out, by rw [List.length_append, List.map_append]; simp only [List.map_cons, List.map_nil, List.length_cons, List.length_nil, Hpd.out.2]; exact h1, fun k hk => ⟨(NL6.out k hk).1, fun e => h3.elim (fun h => (NL6.out k hk).2 (by rw [← h]; exact e)) fun h => by rw [e] at h; have h := Option.some.inj h; have := (owns_lt LL7.out k hk).2; omega⟩, fun k hk e => h3.elim (fun h => NM7.out k (by rw [← h]; exact hk) e) fun h => by rw [hk] at h; have h := Option.some.inj h; have := M7.out.lt e; omega⟩⟩
   clear h1 h2 h3
   simp only [Act.put, pqA, pqB, pqC]
   refine VlS (v8) ?_
   refine WL.nil (hK8 _ _ ?_)
   refine rgn ?_
   refine VlS (.int .i64 (t : Int)) ?_
   refine VlS (.int .i64 ((t + 1 : Nat) : Int)) ?_
   refine VlS (.int .i64 ((t + 1 : Nat) : Int)) ?_
   refine WL.nil ?_
   refine ⟨⟨t + 1, fun i => [.slice (some ⟨b, off, none⟩) S0.length rc, .slice sa S.length sc, undef, undef, f 4, v6, v8, .int .i64 ((t + 1 : Nat) : Int), .pointer (some ⟨d, 0, none⟩), .int .i64 0, .pointer (some ⟨x, 0, none⟩), .int .i64 0, undef, undef, undef, lv0, mv0, .int .i64 (t : Int), .slice (some ⟨b, off, none⟩) S0.length rc, .int .i64 (S0.length : Int), .bool true, .int .i64 (t : Int), .int .i64 ((t + 1 : Nat) : Int), .tuple #[.pointer (some ⟨d, 0, none⟩), .int .i64 0], .slice (some ⟨b, off, none⟩) S0.length rc, .int .i64 (t : Int), .pointer (some ⟨b, off + t, none⟩), .int .i64 r, .tuple #[.pointer (some ⟨d, 0, none⟩), .int .i64 0], .pointer (some ⟨d, 0, none⟩), .int .i64 0, .tuple #[.pointer (some ⟨x, 0, none⟩), .int .i64 0], .slice (some ⟨b, off, none⟩) S0.length rc, .int .i64 (t : Int), .pointer (some ⟨b, off + t, none⟩), .int .i64 r, .tuple #[.pointer (some ⟨x, 0, none⟩), .int .i64 0], .pointer (some ⟨x, 0, none⟩), .int .i64 0, .int .i64 0, .int .i64 0, .bool false, .bool false, .pointer (some ⟨d, 0, none⟩), .bool false, .int .i64 0, .bool false, .bool false, .bool false, .pointer (some ⟨d, 0, none⟩), .bool true, lv, .pointer (some ⟨d, 0, none⟩), .slice (some ⟨gx5, 0, none⟩) 1 1, v6, mv, .pointer (some ⟨x, 0, none⟩), .slice (some ⟨gx7, 0, none⟩) 1 1, v8, undef, undef, undef, undef, undef, undef, undef, undef, undef, undef, undef, undef, undef, undef, undef, undef, undef, undef, undef, undef, undef, undef, undef, undef, undef, undef, undef, undef, undef, undef, undef, undef, undef, undef, undef, undef, undef, undef, undef, undef, undef, undef, undef, undef, undef, undef, undef, undef, undef, undef].getD i undef, rfl, by omega, Ps ++ [p], ⟨M8.out, I4.out⟩, E4.out, Q8.out, by rw [List.length_append]; simp; omega, BW8.out⟩, ?_⟩
   simp only [intOf]; show S0.length - (((t + 1 : Nat) : Int)).toNat < S0.length - ((t : Int)).toNat; omega
  ·refine wp_seq_k fun K15 hK15 => ?_
   refine wp_seq_k fun K16 hK16 => rgn ?_
   refine VlS (.int .i64 (t : Int)) ?_
   refine VlS (.slice (some ⟨b, off, none⟩) S0.length rc) ?_
   refine VlS (.int .i64 (S0.length : Int)) ?_
   refine VlS (.bool true) ?_
   refine WL.nil (hK16 _ _ ?_)
   refine wp_cond_true rfl ?_
   refine wp_skip ?_
   refine hK15 _ _ ?_
   refine wp_seq_k fun K17 hK17 => ?_
   refine wp_block ?_
   refine wp_seq_k fun K18 hK18 => rgn ?_
   refine VlS (.slice (some ⟨b, off, none⟩) S0.length rc) ?_
   refine VlS (.int .i64 (t : Int)) ?_
   refine VlS (.pointer (some ⟨b, off + t, none⟩)) ?_
   refine WL.val (by kernel_rfl) (.int .i64 r) (by go_simp) ?_
   clear c27
   simp only [Act.put, pqA, pqB, pqC]
   have hcon := (new_ds r wr).mono (R' := fun e w' => e = .returned (.tuple #[.pointer none, .int .i64 1]) ∧ Below wr.heap.size wr w') (fun e w' h => h.elim (fun h => h.2) fun ⟨h1, h2, _⟩ => absurd ⟨h1, h2⟩ hro)
   refine WL.callF (by kernel_rfl) 10 _ _ rfl Try.in10 #[.int .i64 r] (by simp [Act.eval]) ?_
   refine (hcon).mono ?_
   rintro e w3 ⟨rfl, hb⟩
   refine ⟨_, rfl, ?_⟩
   clear hcon
   have B3 := Keep.mk hb
   have c35 : w3.cell? ⟨b, off + t, none⟩ = some (.int .i64 r) := by have h := hb.cell (p := ⟨b, off + t, none⟩) Hbl.out; rw [h, Hr.out]; exact Hcl.out
   clear hb
   simp only [Act.put, pqA, pqB, pqC]
   refine VlS (.tuple #[.pointer none, .int .i64 1]) ?_
   refine VlS (.pointer none) ?_
   refine VlS (.int .i64 1) ?_
   refine VlS (.pointer none) ?_
   refine VlS (.int .i64 1) ?_
   refine WL.nil (hK18 _ _ ?_)
   refine wp_seq_k fun K19 hK19 => rgn ?_
   refine VlS (.slice (some ⟨b, off, none⟩) S0.length rc) ?_
   refine VlS (.int .i64 (t : Int)) ?_
   refine VlS (.pointer (some ⟨b, off + t, none⟩)) ?_
   refine WL.val (by kernel_rfl) (.int .i64 r) (by go_simp) ?_
   clear c35
   simp only [Act.put, pqA, pqB, pqC]
   have hcon := (rnew_any r w3).mono (R' := fun e w' => e = .returned (.tuple #[.pointer none, .int .i64 1]) ∧ Below w3.heap.size w3 w') (fun e w' h => h.elim (fun ⟨_, h2, h3⟩ => ⟨h2, by rw [h3]; exact Below.refl _ _⟩) fun ⟨h1, h2, _⟩ => absurd ⟨h1, h2⟩ hro)
   refine WL.callF (by kernel_rfl) 11 _ _ rfl Try.in11 #[.int .i64 r] (by simp [Act.eval]) ?_
   refine (hcon).mono ?_
   rintro e w4 ⟨rfl, hb⟩
   refine ⟨_, rfl, ?_⟩
   clear hcon
   have B4 := Keep.mk (belowT B3.out hb)
   clear hb
   have BW4 := Keep.mk (JB.out.trans (B4.out.mono JB.out.size))
   simp only [Act.put, pqA, pqB, pqC]
   refine VlS (.tuple #[.pointer none, .int .i64 1]) ?_
   refine VlS (.pointer none) ?_
   refine VlS (.int .i64 1) ?_
   refine VlS (.pointer none) ?_
   refine VlS (.int .i64 1) ?_
   refine WL.nil (hK19 _ _ ?_)
   refine wp_seq_k fun K20 hK20 => ?_
   refine wp_seq_k fun K21 hK21 => rgn ?_
   refine VlS (.int .i64 1) ?_
   refine VlS (.int .i64 1) ?_
   refine VlS (.bool false) ?_
   refine VlS (.bool false) ?_
   refine VlS (.pointer none) ?_
   refine VlS (.bool true) ?_
   refine VlS (.int .i64 1) ?_
   refine VlS (.bool true) ?_
   refine VlS (.bool false) ?_
   refine VlS (.bool false) ?_
   refine WL.nil (hK21 _ _ ?_)
   refine wp_cond_false rfl ?_
   refine wp_skip ?_
   refine hK20 _ _ ?_
   refine wp_seq_k fun K22 hK22 => rgn ?_
   refine VlS (.pointer none) ?_
   refine VlS (.bool false) ?_
   refine WL.nil (hK22 _ _ ?_)
   refine wp_cond_false rfl ?_
   refine wp_skip ?_
   refine hK17 _ _ ?_
   refine rgn ?_
   refine VlS (.int .i64 (t : Int)) ?_
   refine VlS (.int .i64 ((t + 1 : Nat) : Int)) ?_
   refine VlS (.int .i64 ((t + 1 : Nat) : Int)) ?_
   refine WL.nil ?_
   refine ⟨⟨t + 1, fun i => [.slice (some ⟨b, off, none⟩) S0.length rc, .slice sa S.length sc, undef, undef, f 4, lv, mv, .int .i64 ((t + 1 : Nat) : Int), .pointer none, .int .i64 1, .pointer none, .int .i64 1, undef, undef, undef, lv0, mv0, .int .i64 (t : Int), .slice (some ⟨b, off, none⟩) S0.length rc, .int .i64 (S0.length : Int), .bool true, .int .i64 (t : Int), .int .i64 ((t + 1 : Nat) : Int), .tuple #[.pointer none, .int .i64 1], .slice (some ⟨b, off, none⟩) S0.length rc, .int .i64 (t : Int), .pointer (some ⟨b, off + t, none⟩), .int .i64 r, .tuple #[.pointer none, .int .i64 1], .pointer none, .int .i64 1, .tuple #[.pointer none, .int .i64 1], .slice (some ⟨b, off, none⟩) S0.length rc, .int .i64 (t : Int), .pointer (some ⟨b, off + t, none⟩), .int .i64 r, .tuple #[.pointer none, .int .i64 1], .pointer none, .int .i64 1, .int .i64 1, .int .i64 1, .bool false, .bool false, .pointer none, .bool true, .int .i64 1, .bool true, .bool false, .bool false, .pointer none, .bool false, f 51, f 52, f 53, f 54, f 55, f 56, f 57, f 58, undef, undef, undef, undef, undef, undef, undef, undef, undef, undef, undef, undef, undef, undef, undef, undef, undef, undef, undef, undef, undef, undef, undef, undef, undef, undef, undef, undef, undef, undef, undef, undef, undef, undef, undef, undef, undef, undef, undef, undef, undef, undef, undef, undef, undef, undef, undef, undef, undef, undef].getD i undef, rfl, by omega, Ps, JA.out.below B4.out, JE.out, JQ.out.below B4.out, by omega, BW4.out⟩, ?_⟩
   simp only [intOf]; show S0.length - (((t + 1 : Nat) : Int)).toNat < S0.length - ((t : Int)).toNat; omega
 ·have htl' : ¬ (t : Int) < (S0.length : Int) := by omega
  obtain ⟨N, HN⟩ : ∃ N, Keep (Ps.length = N) := ⟨_, ⟨rfl⟩⟩
  obtain ⟨la, lc, hls⟩ := owns_sl JQ.out.l
  obtain ⟨ma, mc, hms⟩ := owns_sl JQ.out.m
  rw [HN.out] at hls hms
  subst hls hms
  have HNb : Keep (N ≤ 17592186044416) := ⟨by have := HN.out; have := HL0.out; omega⟩
  refine wp_seq_k fun K23 hK23 => ?_
  refine wp_seq_k fun K24 hK24 => rgn ?_
  refine VlS (.int .i64 (t : Int)) ?_
  refine VlS (.slice ra S0.length rc) ?_
  refine VlS (.int .i64 (S0.length : Int)) ?_
  refine VlS (.bool false) ?_
  refine WL.nil (hK24 _ _ ?_)
  refine wp_cond_false rfl ?_
  refine wp_exit ?_
  refine hK4 _ _ ?_
  refine wp_seq_k fun K25 hK25 => ?_
  refine wp_seq_k fun K26 hK26 => rgn ?_
  refine VlS (.int .i64 0) ?_
  refine WL.nil (hK26 _ _ ?_)
  refine wp_block ?_
  refine wp_loop (fun ac wi => ∃ (k : Nat) (fa : Nat → Value), ac = { tmps := #[.slice ra S0.length rc, .slice sa S.length sc, undef, undef, fa 4, .slice la N lc, .slice ma N mc, .int .i64 (t : Int), f 8, f 9, f 10, f 11, .int .i64 (k : Int), fa 13, undef, lv0, mv0, .int .i64 (t : Int), .slice ra S0.length rc, .int .i64 (S0.length : Int), .bool false, f 21, f 22, f 23, f 24, f 25, f 26, f 27, f 28, f 29, f 30, f 31, f 32, f 33, f 34, f 35, f 36, f 37, f 38, f 39, f 40, f 41, f 42, f 43, f 44, f 45, f 46, f 47, f 48, f 49, f 50, f 51, f 52, f 53, f 54, f 55, f 56, f 57, f 58, fa 59, fa 60, fa 61, fa 62, fa 63, fa 64, fa 65, fa 66, fa 67, fa 68, fa 69, fa 70, fa 71, fa 72, fa 73, fa 74, fa 75, fa 76, fa 77, fa 78, fa 79, fa 80, fa 81, fa 82, fa 83, fa 84, fa 85, fa 86, fa 87, fa 88, fa 89, fa 90, fa 91, undef, undef, undef, undef, undef, undef, undef, undef, undef, undef, undef, undef, undef, undef, undef, undef, undef], defers := [] } ∧ k ≤ S.length ∧ ∃ Ps, AQ w.heap.size wi Ps ∧ LQ w.heap.size wi (.slice la N lc) (.slice ma N mc) Ps ∧ Ps.length = N ∧ Below w.heap.size w wi) (fun a _ => S.length - (intOf (a.tmps.getD 12 undef)).toNat) ⟨0, fun i => [.slice ra S0.length rc, .slice sa S.length sc, undef, undef, f 4, .slice la N lc, .slice ma N mc, .int .i64 (t : Int), f 8, f 9, f 10, f 11, .int .i64 0, undef, undef, lv0, mv0, .int .i64 (t : Int), .slice ra S0.length rc, .int .i64 (S0.length : Int), .bool false, f 21, f 22, f 23, f 24, f 25, f 26, f 27, f 28, f 29, f 30, f 31, f 32, f 33, f 34, f 35, f 36, f 37, f 38, f 39, f 40, f 41, f 42, f 43, f 44, f 45, f 46, f 47, f 48, f 49, f 50, f 51, f 52, f 53, f 54, f 55, f 56, f 57, f 58, undef, undef, undef, undef, undef, undef, undef, undef, undef, undef, undef, undef, undef, undef, undef, undef, undef, undef, undef, undef, undef, undef, undef, undef, undef, undef, undef, undef, undef, undef, undef, undef, undef, undef, undef, undef, undef, undef, undef, undef, undef, undef, undef, undef, undef, undef, undef, undef, undef, undef].getD i undef, rfl, by omega, Ps, JA.out, JQ.out, HN.out, JB.out⟩ ?_
  rintro ac wi ⟨k, fa, rfl, hk, hY⟩
  obtain ⟨Qs, hA, hQ, hN, hB⟩ := hY
  have KA := Keep.mk hA
  have KQ := Keep.mk hQ
  have KN := Keep.mk hN
  have KB := Keep.mk hB
  clear hA hQ hN hB
  by_cases hgo : k < S.length ∧ 0 < N
  ·obtain ⟨hkl, hN0⟩ := hgo
   have hkl' : (k : Int) < (S.length : Int) := by omega
   have hN0' : (0 : Int) < (N : Int) := by omega
   have hk0 : (0 : Int) ≤ (k : Int) := by omega
   have hwk : IntKind.i64.wrap ((k : Int) + 1) = ((k + 1 : Nat) : Int) := by rw [IntKind.wrap_i64]; have := HSl.out; omega
   obtain ⟨b, off, hsa, hbl, hrg⟩ := HS.out.at (by omega)
   subst hsa
   obtain ⟨o, ho⟩ : ∃ o, Keep (o = S[k]) := ⟨_, ⟨rfl⟩⟩
   have Hel : Keep (∀ wx, Below w.heap.size w wx → wx.rangeAt b (off + k * 68) (opA o).toList) := ⟨fun wx hb => by have h := flat_elem encO_len (rangeAt_below hrg hb hbl) k hkl; rw [← ho.out] at h; exact h⟩
   have Hom : Keep (o ∈ S) := ⟨by rw [ho.out]; exact List.getElem_mem hkl⟩
   have Hon : Keep (∀ wx, Below w.heap.size w wx → wx.cell? ⟨b, off + k * 68 + 1, none⟩ = some (.int .i64 o.on)) := ⟨fun wx hb => Hel.out wx hb 1 _ (by unfold opA; rw [Array.toList_append, Array.toList_append, List.append_assoc]; rfl)⟩
   clear hrg hbl
   refine wp_seq_k fun K27 hK27 => ?_
   refine wp_seq_k fun K28 hK28 => rgn ?_
   refine VlS (.int .i64 (k : Int)) ?_
   refine VlS (.slice (some ⟨b, off, none⟩) S.length sc) ?_
   refine VlS (.int .i64 (S.length : Int)) ?_
   refine VlS (.bool true) ?_
   refine VlS (.bool true) ?_
   refine VlS (.slice la N lc) ?_
   refine VlS (.int .i64 (N : Int)) ?_
   refine VlS (.bool true) ?_
   refine VlS (.bool true) ?_
   refine WL.nil (hK28 _ _ ?_)
   refine wp_cond_true rfl ?_
   refine wp_skip ?_
   refine hK27 _ _ ?_
   refine wp_seq_k fun K29 hK29 => ?_
   refine wp_block ?_
   refine wp_seq_k fun K30 hK30 => rgn ?_
   refine VlS (.slice (some ⟨b, off, none⟩) S.length sc) ?_
   refine VlS (.int .i64 (k : Int)) ?_
   refine VlS (.pointer (some ⟨b, off + k * 68, none⟩)) ?_
   refine VlS (.pointer (some ⟨b, off + k * 68 + 1, none⟩)) ?_
   have c74 := Hon.out wi KB.out
   refine WL.val (by kernel_rfl) (.int .i64 o.on) (by go_simp) ?_
   clear c74
   simp only [Act.put, pqA, pqB, pqC]
   refine VlS (.slice la N lc) ?_
   refine VlS (.int .i64 (N : Int)) ?_
   have hcon := plN_any o.on N wi hN0 (by have := HNb.out; omega)
   refine WL.callF (by kernel_rfl) 12 _ _ rfl Try.in12 #[.int .i64 o.on, .int .i64 (N : Int)] (by simp [Act.eval]) ?_
   refine (hcon).mono ?_
   rintro e wp ⟨j, hj, rfl, hwe⟩
   refine ⟨_, rfl, ?_⟩
   have hwe := hwe.symm
   subst hwe
   clear hcon
   have hj' : (j : Int) < (N : Int) := by omega
   have hj0 : (0 : Int) ≤ (j : Int) := by omega
   obtain ⟨p, hp⟩ : ∃ p, Qs[j]? = some p := ⟨_, List.getElem?_eq_getElem (by rw [KN.out]; exact hj)⟩
   have Hp := Keep.mk hp
   obtain ⟨gl, hla, hcl, hgl⟩ := owns_at (by have h := KQ.out.l; rw [KN.out] at h; exact h) hj (u := ptr p.d) (by rw [List.getElem?_map, hp]; rfl)
   obtain ⟨gm, hma, hcm, hgm⟩ := owns_at (by have h := KQ.out.m; rw [KN.out] at h; exact h) hj (u := ptr p.x) (by rw [List.getElem?_map, hp]; rfl)
   subst hla hma
   have Hcl := Keep.mk hcl
   have Hcm := Keep.mk hcm
   have Hgl := Keep.mk hgl
   have Hgm := Keep.mk hgm
   clear hcl hcm hgl hgm hp
   simp only [Act.put, pqA, pqB, pqC]
   refine VlS (.int .i64 (j : Int)) ?_
   refine WL.nil (hK30 _ _ ?_)
   refine wp_seq_k fun K31 hK31 => ?_
   obtain ⟨oo, HOo⟩ : ∃ a : Array Value, Keep (a = opA o) := ⟨_, ⟨rfl⟩⟩
   have BD : Keep (Below wi.heap.size wi wi.drew) := ⟨(Below.refl _ _).drew⟩
   have KBd := Keep.mk (KB.out.trans (BD.out.mono KB.out.size))
   have KAd := Keep.mk (KA.out.below BD.out)
   have KQd := Keep.mk (KQ.out.below BD.out)
   have hS0 : Keep ((fun wx : World => (wx.cell? ⟨gl, j, none⟩ = some (.pointer (some ⟨p.d, 0, none⟩)) ∧ wx.cell? ⟨gm, j, none⟩ = some (.pointer (some ⟨p.x, 0, none⟩))) ∧ wx.rangeAt b (off + k * 68) oo.toList) wi.drew) := ⟨⟨⟨(BD.out.cell (p := ⟨gl, j, none⟩) Hgl.out).trans Hcl.out, (BD.out.cell (p := ⟨gm, j, none⟩) Hgm.out).trans Hcm.out⟩, by rw [HOo.out]; exact Hel.out _ KBd.out⟩⟩
   refine wp_region_held_drew (S := fun wx : World => (wx.cell? ⟨gl, j, none⟩ = some (.pointer (some ⟨p.d, 0, none⟩)) ∧ wx.cell? ⟨gm, j, none⟩ = some (.pointer (some ⟨p.x, 0, none⟩))) ∧ wx.rangeAt b (off + k * 68) oo.toList) (by kernel_rfl) (hS0.out) (fun hHeld => ?_)
   refine tkS (i := 0) (oi := ⟨some 78, Op.move (Operand.tmp 5), 25, _, _, none⟩) (v := .slice (some ⟨gl, 0, none⟩) N lc) rfl (Or.inl ⟨by rfl, fun w hS => by clear hS; go_simp⟩) hHeld ?_
   refine tkS (i := 1) (oi := ⟨some 79, Op.move (Operand.tmp 13), 3, _, _, none⟩) (v := .int .i64 (j : Int)) rfl (Or.inl ⟨by rfl, fun w hS => by clear hS; go_simp⟩) hHeld ?_
   refine tkS (i := 2) (oi := ⟨some 80, Op.indexAddr 25 (Operand.tmp 78) (Operand.tmp 79), 0, _, _, none⟩) (v := .pointer (some ⟨gl, j, none⟩)) rfl (Or.inl ⟨by rfl, fun w hS => by clear hS; go_simp⟩) hHeld ?_
   refine tkS (i := 3) (oi := ⟨some 81, Op.load 27 (Operand.tmp 80), 27, _, _, none⟩) (v := .pointer (some ⟨p.d, 0, none⟩)) rfl (Or.inl ⟨by rfl, fun w hS => by obtain ⟨⟨hS1, hS2⟩, hS3⟩ := hS; clear hS2 hS3; go_simp⟩) hHeld ?_
   refine tkS (i := 4) (oi := ⟨some 82, Op.move (Operand.tmp 6), 26, _, _, none⟩) (v := .slice (some ⟨gm, 0, none⟩) N mc) rfl (Or.inl ⟨by rfl, fun w hS => by clear hS; go_simp⟩) hHeld ?_
   refine tkS (i := 5) (oi := ⟨some 83, Op.move (Operand.tmp 13), 3, _, _, none⟩) (v := .int .i64 (j : Int)) rfl (Or.inl ⟨by rfl, fun w hS => by clear hS; go_simp⟩) hHeld ?_
   refine tkS (i := 6) (oi := ⟨some 84, Op.indexAddr 26 (Operand.tmp 82) (Operand.tmp 83), 0, _, _, none⟩) (v := .pointer (some ⟨gm, j, none⟩)) rfl (Or.inl ⟨by rfl, fun w hS => by clear hS; go_simp⟩) hHeld ?_
   refine tkS (i := 7) (oi := ⟨some 85, Op.load 31 (Operand.tmp 84), 31, _, _, none⟩) (v := .pointer (some ⟨p.x, 0, none⟩)) rfl (Or.inl ⟨by rfl, fun w hS => by obtain ⟨⟨hS1, hS2⟩, hS3⟩ := hS; clear hS1 hS3; go_simp⟩) hHeld ?_
   refine tkS (i := 8) (oi := ⟨some 86, Op.move (Operand.tmp 1), 24, _, _, none⟩) (v := .slice (some ⟨b, off, none⟩) S.length sc) rfl (Or.inl ⟨by rfl, fun w hS => by clear hS; go_simp⟩) hHeld ?_
   refine tkS (i := 9) (oi := ⟨some 87, Op.move (Operand.tmp 12), 3, _, _, none⟩) (v := .int .i64 (k : Int)) rfl (Or.inl ⟨by rfl, fun w hS => by clear hS; go_simp⟩) hHeld ?_
   refine tkS (i := 10) (oi := ⟨some 88, Op.indexAddr 24 (Operand.tmp 86) (Operand.tmp 87), 0, _, _, none⟩) (v := .pointer (some ⟨b, off + k * 68, none⟩)) rfl (Or.inl ⟨by rfl, fun w hS => by clear hS; go_simp⟩) hHeld ?_
   refine tkS (i := 11) (oi := ⟨some 89, Op.load 41 (Operand.tmp 88), 41, _, _, none⟩) (v := .agg oo) rfl (yieldsIf_ld (by rfl) (Operand.tmp 88) 41 rfl b (off + k * 68) rfl oo _ Try.underlying41 rfl (by rw [HOo.out]; exact sizeOpL o) fun w hS => hS.2) hHeld ?_
   refine wpAnyH_ready (rs := [12]) (by kernel_rfl) (by simp) ?_
   refine AllReadyH.cons (o := ⟨some 90, Op.call { callee := Callee.value (Operand.func 13), args := #[Operand.tmp 81, Operand.tmp 85, Operand.tmp 89], argTypes := #[27, 31, 41] }, 4, _, _, none⟩) rfl (fun K hK => ?_) AllReadyH.nil
   rw [if_pos (by rfl)]
   have hcon := answers_any w.heap.size Qs j p o wi.drew KAd.out Hp.out KBd.out.size ((HS.out.2 o Hom.out).1.below KBd.out) (HS.out.2 o Hom.out).2 (fun hne k hk => row_lt (HS.out.2 o Hom.out).1 hne hk)
   rw [← HOo.out] at hcon
   refine wp_callF 13 _ _ rfl Try.in13 #[.pointer (some ⟨p.d, 0, none⟩), .pointer (some ⟨p.x, 0, none⟩), .agg oo] (by simp [Act.eval]) (fun u wx => u = .bool true ∧ Below w.heap.size wi.drew wx ∧ Grown wi.drew wx (UQ Qs) ∧ ∃ p' : PQ, p'.d = p.d ∧ p'.x = p.x ∧ AQ w.heap.size wx (Qs.set j p') ∧ ∀ k, UQ (Qs.set j p') k → UQ Qs k ∨ wi.drew.heap.size ≤ k) (hcon.mono fun e w' ⟨h1, h2⟩ => ⟨_, h1, rfl, h2⟩) ?_
   clear hcon
   rintro _ w9 ⟨rfl, hb, hg, p', hd, hx, ha, hs⟩
   have NA := Keep.mk ha
   have NQ := Keep.mk (KQd.out.step Hp.out hd hx hg hs)
   have NB := Keep.mk (KBd.out.trans hb)
   have HS9 : Keep ((fun wx : World => (wx.cell? ⟨gl, j, none⟩ = some (.pointer (some ⟨p.d, 0, none⟩)) ∧ wx.cell? ⟨gm, j, none⟩ = some (.pointer (some ⟨p.x, 0, none⟩))) ∧ wx.rangeAt b (off + k * 68) oo.toList) w9) := ⟨⟨⟨hg.cell hS0.out.1.1 (KQd.out.nl gl rfl).1, hg.cell hS0.out.1.2 (KQd.out.nm gm rfl)⟩, by rw [HOo.out]; exact Hel.out _ NB.out⟩⟩
   clear hb hg hd hx ha hs
   refine hK _ _ HS9.out fun hH1 => ?_
   clear hK
   simp only [Act.put, pqA, pqB, pqC]
   refine tkS (i := 13) (oi := ⟨some 91, Op.unOp UnOp.not 4 (Operand.tmp 90), 4, _, _, none⟩) (v := .bool false) rfl (Or.inl ⟨by rfl, fun w hS => by clear hS; go_simp⟩) hH1 ?_
   refine wpAnyH_done (by kernel_rfl) ?_ _
   refine hK31 _ _ ?_
   refine wp_cond_false rfl ?_
   refine wp_skip ?_
   refine hK29 _ _ ?_
   refine rgn ?_
   refine VlS (.int .i64 (k : Int)) ?_
   refine VlS (.int .i64 ((k + 1 : Nat) : Int)) ?_
   refine VlS (.int .i64 ((k + 1 : Nat) : Int)) ?_
   refine WL.nil ?_
   refine ⟨⟨k + 1, fun i => [.slice ra S0.length rc, .slice (some ⟨b, off, none⟩) S.length sc, undef, undef, fa 4, .slice (some ⟨gl, 0, none⟩) N lc, .slice (some ⟨gm, 0, none⟩) N mc, .int .i64 (t : Int), f 8, f 9, f 10, f 11, .int .i64 ((k + 1 : Nat) : Int), .int .i64 (j : Int), undef, lv0, mv0, .int .i64 (t : Int), .slice ra S0.length rc, .int .i64 (S0.length : Int), .bool false, f 21, f 22, f 23, f 24, f 25, f 26, f 27, f 28, f 29, f 30, f 31, f 32, f 33, f 34, f 35, f 36, f 37, f 38, f 39, f 40, f 41, f 42, f 43, f 44, f 45, f 46, f 47, f 48, f 49, f 50, f 51, f 52, f 53, f 54, f 55, f 56, f 57, f 58, .int .i64 (k : Int), .slice (some ⟨b, off, none⟩) S.length sc, .int .i64 (S.length : Int), .bool true, .bool true, .slice (some ⟨gl, 0, none⟩) N lc, .int .i64 (N : Int), .bool true, .bool true, .int .i64 (k : Int), .int .i64 ((k + 1 : Nat) : Int), .slice (some ⟨b, off, none⟩) S.length sc, .int .i64 (k : Int), .pointer (some ⟨b, off + k * 68, none⟩), .pointer (some ⟨b, off + k * 68 + 1, none⟩), .int .i64 o.on, .slice (some ⟨gl, 0, none⟩) N lc, .int .i64 (N : Int), .int .i64 (j : Int), .slice (some ⟨gl, 0, none⟩) N lc, .int .i64 (j : Int), .pointer (some ⟨gl, j, none⟩), .pointer (some ⟨p.d, 0, none⟩), .slice (some ⟨gm, 0, none⟩) N mc, .int .i64 (j : Int), .pointer (some ⟨gm, j, none⟩), .pointer (some ⟨p.x, 0, none⟩), .slice (some ⟨b, off, none⟩) S.length sc, .int .i64 (k : Int), .pointer (some ⟨b, off + k * 68, none⟩), .agg oo, .bool true, .bool false, undef, undef, undef, undef, undef, undef, undef, undef, undef, undef, undef, undef, undef, undef, undef, undef, undef].getD i undef, rfl, by omega, Qs.set j p', NA.out, NQ.out, by rw [List.length_set]; exact KN.out, NB.out⟩, ?_⟩
   simp only [intOf]; show S.length - (((k + 1 : Nat) : Int)).toNat < S.length - ((k : Int)).toNat; omega
  ·by_cases hkl : k < S.length
   ·have hkl' : (k : Int) < (S.length : Int) := by omega
    have hN0' : ¬ (0 : Int) < (N : Int) := fun h => hgo ⟨hkl, by omega⟩
    refine wp_seq_k fun K32 hK32 => ?_
    refine wp_seq_k fun K33 hK33 => rgn ?_
    refine VlS (.int .i64 (k : Int)) ?_
    refine VlS (.slice sa S.length sc) ?_
    refine VlS (.int .i64 (S.length : Int)) ?_
    refine VlS (.bool true) ?_
    refine VlS (.bool true) ?_
    refine VlS (.slice la N lc) ?_
    refine VlS (.int .i64 (N : Int)) ?_
    have hN00 : N = 0 := by omega
    refine WL.val (by kernel_rfl) (.bool false) (by go_simp) ?_
    clear hN00
    simp only [Act.put, pqA, pqB, pqC]
    refine VlS (.bool false) ?_
    refine WL.nil (hK33 _ _ ?_)
    refine wp_cond_false rfl ?_
    refine wp_exit ?_
    refine hK25 _ _ ?_
    refine wp_seq_k fun K34 hK34 => ?_
    refine wp_seq_k fun K35 hK35 => rgn ?_
    refine VlS (.int .i64 0) ?_
    refine WL.nil (hK35 _ _ ?_)
    refine wp_block ?_
    refine wp_loop (fun ac wj => ∃ (m : Nat) (fc : Nat → Value), ac = { tmps := #[.slice ra S0.length rc, .slice sa S.length sc, undef, undef, fc 4, .slice la N lc, .slice ma N mc, .int .i64 (t : Int), f 8, f 9, f 10, f 11, .int .i64 (k : Int), fa 13, .int .i64 (m : Int), lv0, mv0, .int .i64 (t : Int), .slice ra S0.length rc, .int .i64 (S0.length : Int), .bool false, f 21, f 22, f 23, f 24, f 25, f 26, f 27, f 28, f 29, f 30, f 31, f 32, f 33, f 34, f 35, f 36, f 37, f 38, f 39, f 40, f 41, f 42, f 43, f 44, f 45, f 46, f 47, f 48, f 49, f 50, f 51, f 52, f 53, f 54, f 55, f 56, f 57, f 58, .int .i64 (k : Int), .slice sa S.length sc, .int .i64 (S.length : Int), .bool true, .bool true, .slice la N lc, .int .i64 (N : Int), .bool false, .bool false, fa 68, fa 69, fa 70, fa 71, fa 72, fa 73, fa 74, fa 75, fa 76, fa 77, fa 78, fa 79, fa 80, fa 81, fa 82, fa 83, fa 84, fa 85, fa 86, fa 87, fa 88, fa 89, fa 90, fa 91, fc 92, fc 93, fc 94, fc 95, fc 96, fc 97, fc 98, fc 99, fc 100, fc 101, fc 102, fc 103, fc 104, fc 105, fc 106, fc 107, undef], defers := [] } ∧ m ≤ N ∧ AQ w.heap.size wj Qs ∧ LQ w.heap.size wj (.slice la N lc) (.slice ma N mc) Qs ∧ Below w.heap.size w wj) (fun a _ => N - (intOf (a.tmps.getD 14 undef)).toNat) ⟨0, fun i => [.slice ra S0.length rc, .slice sa S.length sc, undef, undef, fa 4, .slice la N lc, .slice ma N mc, .int .i64 (t : Int), f 8, f 9, f 10, f 11, .int .i64 (k : Int), fa 13, .int .i64 0, lv0, mv0, .int .i64 (t : Int), .slice ra S0.length rc, .int .i64 (S0.length : Int), .bool false, f 21, f 22, f 23, f 24, f 25, f 26, f 27, f 28, f 29, f 30, f 31, f 32, f 33, f 34, f 35, f 36, f 37, f 38, f 39, f 40, f 41, f 42, f 43, f 44, f 45, f 46, f 47, f 48, f 49, f 50, f 51, f 52, f 53, f 54, f 55, f 56, f 57, f 58, .int .i64 (k : Int), .slice sa S.length sc, .int .i64 (S.length : Int), .bool true, .bool true, .slice la N lc, .int .i64 (N : Int), .bool false, .bool false, fa 68, fa 69, fa 70, fa 71, fa 72, fa 73, fa 74, fa 75, fa 76, fa 77, fa 78, fa 79, fa 80, fa 81, fa 82, fa 83, fa 84, fa 85, fa 86, fa 87, fa 88, fa 89, fa 90, fa 91, undef, undef, undef, undef, undef, undef, undef, undef, undef, undef, undef, undef, undef, undef, undef, undef, undef].getD i undef, rfl, by omega, KA.out, KQ.out, KB.out⟩ ?_
    rintro ac wj ⟨m, fc, rfl, hm, hA, hQ, hB⟩
    have GA := Keep.mk hA
    have GQ := Keep.mk hQ
    have GB := Keep.mk hB
    clear hA hQ hB
    by_cases hml : m < N
    ·have hml' : (m : Int) < (N : Int) := by omega
     have hm0 : (0 : Int) ≤ (m : Int) := by omega
     have hwm : IntKind.i64.wrap ((m : Int) + 1) = ((m + 1 : Nat) : Int) := by rw [IntKind.wrap_i64]; have := HNb.out; omega
     obtain ⟨p, hp⟩ : ∃ p, Qs[m]? = some p := ⟨_, List.getElem?_eq_getElem (by rw [KN.out]; exact hml)⟩
     have hpm : p ∈ Qs := List.mem_iff_getElem?.2 ⟨m, hp⟩
     obtain ⟨gl, hla, hcl, hgl⟩ := owns_at (by have h := GQ.out.l; rw [KN.out] at h; exact h) hml (u := ptr p.d) (by rw [List.getElem?_map, hp]; rfl)
     obtain ⟨gm, hma, hcm, hgm⟩ := owns_at (by have h := GQ.out.m; rw [KN.out] at h; exact h) hml (u := ptr p.x) (by rw [List.getElem?_map, hp]; rfl)
     subst hla hma
     have Hcl := Keep.mk hcl
     have Hcm := Keep.mk hcm
     have Hgl := Keep.mk hgl
     have Hgm := Keep.mk hgm
     clear hcl hcm hgl hgm
     refine wp_seq_k fun K36 hK36 => ?_
     refine wp_seq_k fun K37 hK37 => rgn ?_
     refine VlS (.int .i64 (m : Int)) ?_
     refine VlS (.slice (some ⟨gl, 0, none⟩) N lc) ?_
     refine VlS (.int .i64 (N : Int)) ?_
     refine VlS (.bool true) ?_
     refine WL.nil (hK37 _ _ ?_)
     refine wp_cond_true rfl ?_
     refine wp_skip ?_
     refine hK36 _ _ ?_
     refine wp_seq_k fun K38 hK38 => ?_
     refine wp_block ?_
     refine wp_seq_k fun K39 hK39 => ?_
     have BD : Keep (Below wj.heap.size wj wj.drew) := ⟨(Below.refl _ _).drew⟩
     have hS0 : Keep (∀ wx, Below wj.heap.size wj wx → (fun wx : World => wx.cell? ⟨gl, m, none⟩ = some (.pointer (some ⟨p.d, 0, none⟩)) ∧ wx.cell? ⟨gm, m, none⟩ = some (.pointer (some ⟨p.x, 0, none⟩))) wx) := ⟨fun wx hb => ⟨(hb.cell (p := ⟨gl, m, none⟩) Hgl.out).trans Hcl.out, (hb.cell (p := ⟨gm, m, none⟩) Hgm.out).trans Hcm.out⟩⟩
     have GAd := Keep.mk (GA.out.below BD.out)
     refine wp_region_held_drew (S := fun wx : World => wx.cell? ⟨gl, m, none⟩ = some (.pointer (some ⟨p.d, 0, none⟩)) ∧ wx.cell? ⟨gm, m, none⟩ = some (.pointer (some ⟨p.x, 0, none⟩))) (by kernel_rfl) (hS0.out _ BD.out) (fun hHeld => ?_)
     refine tkS (i := 0) (oi := ⟨some 98, Op.move (Operand.tmp 5), 25, _, _, none⟩) (v := .slice (some ⟨gl, 0, none⟩) N lc) rfl (Or.inl ⟨by rfl, fun w hS => by clear hS; go_simp⟩) hHeld ?_
     refine tkS (i := 1) (oi := ⟨some 99, Op.move (Operand.tmp 14), 3, _, _, none⟩) (v := .int .i64 (m : Int)) rfl (Or.inl ⟨by rfl, fun w hS => by clear hS; go_simp⟩) hHeld ?_
     refine tkS (i := 2) (oi := ⟨some 100, Op.indexAddr 25 (Operand.tmp 98) (Operand.tmp 99), 0, _, _, none⟩) (v := .pointer (some ⟨gl, m, none⟩)) rfl (Or.inl ⟨by rfl, fun w hS => by clear hS; go_simp⟩) hHeld ?_
     refine tkS (i := 3) (oi := ⟨some 101, Op.load 27 (Operand.tmp 100), 27, _, _, none⟩) (v := .pointer (some ⟨p.d, 0, none⟩)) rfl (Or.inl ⟨by rfl, fun w hS => by obtain ⟨hS1, hS2⟩ := hS; clear hS2; go_simp⟩) hHeld ?_
     refine tkS (i := 4) (oi := ⟨some 102, Op.move (Operand.tmp 6), 26, _, _, none⟩) (v := .slice (some ⟨gm, 0, none⟩) N mc) rfl (Or.inl ⟨by rfl, fun w hS => by clear hS; go_simp⟩) hHeld ?_
     refine tkS (i := 5) (oi := ⟨some 103, Op.move (Operand.tmp 14), 3, _, _, none⟩) (v := .int .i64 (m : Int)) rfl (Or.inl ⟨by rfl, fun w hS => by clear hS; go_simp⟩) hHeld ?_
     refine tkS (i := 6) (oi := ⟨some 104, Op.indexAddr 26 (Operand.tmp 102) (Operand.tmp 103), 0, _, _, none⟩) (v := .pointer (some ⟨gm, m, none⟩)) rfl (Or.inl ⟨by rfl, fun w hS => by clear hS; go_simp⟩) hHeld ?_
     refine tkS (i := 7) (oi := ⟨some 105, Op.load 31 (Operand.tmp 104), 31, _, _, none⟩) (v := .pointer (some ⟨p.x, 0, none⟩)) rfl (Or.inl ⟨by rfl, fun w hS => by obtain ⟨hS1, hS2⟩ := hS; clear hS1; go_simp⟩) hHeld ?_
     refine wpAnyH_ready (rs := [8]) (by kernel_rfl) (by simp) ?_
     refine AllReadyH.cons (o := ⟨some 106, Op.call { callee := Callee.value (Operand.func 14), args := #[Operand.tmp 101, Operand.tmp 105], argTypes := #[27, 31] }, 4, _, _, none⟩) rfl (fun K hK => ?_) AllReadyH.nil
     rw [if_pos (by rfl)]
     have hcon := whole_any p.d p.x p.g p.R _ wj.drew (GAd.out.1.dg p hpm) (GAd.out.2 p hpm).1 (GAd.out.1.rg p hpm).rd (GAd.out.2 p hpm).2.1 (GAd.out.2 p hpm).2.2
     refine wp_callF 14 _ _ rfl Try.in14 #[.pointer (some ⟨p.d, 0, none⟩), .pointer (some ⟨p.x, 0, none⟩)] (by simp [Act.eval]) (fun u wx => u = .bool true ∧ Below wj.drew.heap.size wj.drew wx) (hcon.mono fun e w' ⟨h1, h2⟩ => ⟨_, h1, rfl, h2⟩) ?_
     clear hcon
     rintro _ w9 ⟨rfl, hz⟩
     have U9 := Keep.mk (belowT BD.out hz)
     have NB := Keep.mk (GB.out.trans (U9.out.mono GB.out.size))
     clear hz
     refine hK _ _ (hS0.out _ U9.out) fun hH1 => ?_
     clear hK
     simp only [Act.put, pqA, pqB, pqC]
     refine tkS (i := 9) (oi := ⟨some 107, Op.unOp UnOp.not 4 (Operand.tmp 106), 4, _, _, none⟩) (v := .bool false) rfl (Or.inl ⟨by rfl, fun w hS => by clear hS; go_simp⟩) hH1 ?_
     refine wpAnyH_done (by kernel_rfl) ?_ _
     refine hK39 _ _ ?_
     refine wp_cond_false rfl ?_
     refine wp_skip ?_
     refine hK38 _ _ ?_
     refine rgn ?_
     refine VlS (.int .i64 (m : Int)) ?_
     refine VlS (.int .i64 ((m + 1 : Nat) : Int)) ?_
     refine VlS (.int .i64 ((m + 1 : Nat) : Int)) ?_
     refine WL.nil ?_
     refine ⟨⟨m + 1, fun i => [.slice ra S0.length rc, .slice sa S.length sc, undef, undef, fc 4, .slice (some ⟨gl, 0, none⟩) N lc, .slice (some ⟨gm, 0, none⟩) N mc, .int .i64 (t : Int), f 8, f 9, f 10, f 11, .int .i64 (k : Int), fa 13, .int .i64 ((m + 1 : Nat) : Int), lv0, mv0, .int .i64 (t : Int), .slice ra S0.length rc, .int .i64 (S0.length : Int), .bool false, f 21, f 22, f 23, f 24, f 25, f 26, f 27, f 28, f 29, f 30, f 31, f 32, f 33, f 34, f 35, f 36, f 37, f 38, f 39, f 40, f 41, f 42, f 43, f 44, f 45, f 46, f 47, f 48, f 49, f 50, f 51, f 52, f 53, f 54, f 55, f 56, f 57, f 58, .int .i64 (k : Int), .slice sa S.length sc, .int .i64 (S.length : Int), .bool true, .bool true, .slice (some ⟨gl, 0, none⟩) N lc, .int .i64 (N : Int), .bool false, .bool false, fa 68, fa 69, fa 70, fa 71, fa 72, fa 73, fa 74, fa 75, fa 76, fa 77, fa 78, fa 79, fa 80, fa 81, fa 82, fa 83, fa 84, fa 85, fa 86, fa 87, fa 88, fa 89, fa 90, fa 91, .int .i64 (m : Int), .slice (some ⟨gl, 0, none⟩) N lc, .int .i64 (N : Int), .bool true, .int .i64 (m : Int), .int .i64 ((m + 1 : Nat) : Int), .slice (some ⟨gl, 0, none⟩) N lc, .int .i64 (m : Int), .pointer (some ⟨gl, m, none⟩), .pointer (some ⟨p.d, 0, none⟩), .slice (some ⟨gm, 0, none⟩) N mc, .int .i64 (m : Int), .pointer (some ⟨gm, m, none⟩), .pointer (some ⟨p.x, 0, none⟩), .bool true, .bool false, undef].getD i undef, rfl, by omega, GA.out.below U9.out, GQ.out.below U9.out, NB.out⟩, ?_⟩
     simp only [intOf]; show N - (((m + 1 : Nat) : Int)).toNat < N - ((m : Int)).toNat; omega
    ·have hml' : ¬ (m : Int) < (N : Int) := by omega
     refine wp_seq_k fun K40 hK40 => ?_
     refine wp_seq_k fun K41 hK41 => rgn ?_
     refine VlS (.int .i64 (m : Int)) ?_
     refine VlS (.slice la N lc) ?_
     refine VlS (.int .i64 (N : Int)) ?_
     refine VlS (.bool false) ?_
     refine WL.nil (hK41 _ _ ?_)
     refine wp_cond_false rfl ?_
     refine wp_exit ?_
     refine hK34 _ _ ?_
     refine wp_seq_k fun K42 hK42 => rgn ?_
     refine WL.callF (by kernel_rfl) 9 _ _ rfl Try.in9 #[] (by simp) ?_
     refine (fixed_any wj).mono ?_
     rintro e w10 ⟨rfl, hz⟩
     refine ⟨_, rfl, ?_⟩
     have B10 := Keep.mk (GB.out.trans (hz.mono GB.out.size))
     clear hz
     simp only [Act.put, pqA, pqB, pqC]
     refine VlS (.bool true) ?_
     refine WL.nil (hK42 _ _ ?_)
     refine wp_ret ?_
     go_ret
     exact ⟨rfl, B10.out⟩
   ·have hkl' : ¬ (k : Int) < (S.length : Int) := by omega
    refine wp_seq_k fun K43 hK43 => ?_
    refine wp_seq_k fun K44 hK44 => rgn ?_
    refine VlS (.int .i64 (k : Int)) ?_
    refine VlS (.slice sa S.length sc) ?_
    refine VlS (.int .i64 (S.length : Int)) ?_
    refine VlS (.bool false) ?_
    refine VlS (.bool false) ?_
    refine SkS ?_
    refine SkS ?_
    refine SkS ?_
    refine VlS (.bool false) ?_
    refine WL.nil (hK44 _ _ ?_)
    refine wp_cond_false rfl ?_
    refine wp_exit ?_
    refine hK25 _ _ ?_
    refine wp_seq_k fun K45 hK45 => ?_
    refine wp_seq_k fun K46 hK46 => rgn ?_
    refine VlS (.int .i64 0) ?_
    refine WL.nil (hK46 _ _ ?_)
    refine wp_block ?_
    refine wp_loop (fun ac wj => ∃ (m : Nat) (fc : Nat → Value), ac = { tmps := #[.slice ra S0.length rc, .slice sa S.length sc, undef, undef, fc 4, .slice la N lc, .slice ma N mc, .int .i64 (t : Int), f 8, f 9, f 10, f 11, .int .i64 (k : Int), fa 13, .int .i64 (m : Int), lv0, mv0, .int .i64 (t : Int), .slice ra S0.length rc, .int .i64 (S0.length : Int), .bool false, f 21, f 22, f 23, f 24, f 25, f 26, f 27, f 28, f 29, f 30, f 31, f 32, f 33, f 34, f 35, f 36, f 37, f 38, f 39, f 40, f 41, f 42, f 43, f 44, f 45, f 46, f 47, f 48, f 49, f 50, f 51, f 52, f 53, f 54, f 55, f 56, f 57, f 58, .int .i64 (k : Int), .slice sa S.length sc, .int .i64 (S.length : Int), .bool false, .bool false, undef, undef, undef, .bool false, fa 68, fa 69, fa 70, fa 71, fa 72, fa 73, fa 74, fa 75, fa 76, fa 77, fa 78, fa 79, fa 80, fa 81, fa 82, fa 83, fa 84, fa 85, fa 86, fa 87, fa 88, fa 89, fa 90, fa 91, fc 92, fc 93, fc 94, fc 95, fc 96, fc 97, fc 98, fc 99, fc 100, fc 101, fc 102, fc 103, fc 104, fc 105, fc 106, fc 107, undef], defers := [] } ∧ m ≤ N ∧ AQ w.heap.size wj Qs ∧ LQ w.heap.size wj (.slice la N lc) (.slice ma N mc) Qs ∧ Below w.heap.size w wj) (fun a _ => N - (intOf (a.tmps.getD 14 undef)).toNat) ⟨0, fun i => [.slice ra S0.length rc, .slice sa S.length sc, undef, undef, fa 4, .slice la N lc, .slice ma N mc, .int .i64 (t : Int), f 8, f 9, f 10, f 11, .int .i64 (k : Int), fa 13, .int .i64 0, lv0, mv0, .int .i64 (t : Int), .slice ra S0.length rc, .int .i64 (S0.length : Int), .bool false, f 21, f 22, f 23, f 24, f 25, f 26, f 27, f 28, f 29, f 30, f 31, f 32, f 33, f 34, f 35, f 36, f 37, f 38, f 39, f 40, f 41, f 42, f 43, f 44, f 45, f 46, f 47, f 48, f 49, f 50, f 51, f 52, f 53, f 54, f 55, f 56, f 57, f 58, .int .i64 (k : Int), .slice sa S.length sc, .int .i64 (S.length : Int), .bool false, .bool false, undef, undef, undef, .bool false, fa 68, fa 69, fa 70, fa 71, fa 72, fa 73, fa 74, fa 75, fa 76, fa 77, fa 78, fa 79, fa 80, fa 81, fa 82, fa 83, fa 84, fa 85, fa 86, fa 87, fa 88, fa 89, fa 90, fa 91, undef, undef, undef, undef, undef, undef, undef, undef, undef, undef, undef, undef, undef, undef, undef, undef, undef].getD i undef, rfl, by omega, KA.out, KQ.out, KB.out⟩ ?_
    rintro ac wj ⟨m, fc, rfl, hm, hA, hQ, hB⟩
    have GA := Keep.mk hA
    have GQ := Keep.mk hQ
    have GB := Keep.mk hB
    clear hA hQ hB
    by_cases hml : m < N
    ·have hml' : (m : Int) < (N : Int) := by omega
     have hm0 : (0 : Int) ≤ (m : Int) := by omega
     have hwm : IntKind.i64.wrap ((m : Int) + 1) = ((m + 1 : Nat) : Int) := by rw [IntKind.wrap_i64]; have := HNb.out; omega
     obtain ⟨p, hp⟩ : ∃ p, Qs[m]? = some p := ⟨_, List.getElem?_eq_getElem (by rw [KN.out]; exact hml)⟩
     have hpm : p ∈ Qs := List.mem_iff_getElem?.2 ⟨m, hp⟩
     obtain ⟨gl, hla, hcl, hgl⟩ := owns_at (by have h := GQ.out.l; rw [KN.out] at h; exact h) hml (u := ptr p.d) (by rw [List.getElem?_map, hp]; rfl)
     obtain ⟨gm, hma, hcm, hgm⟩ := owns_at (by have h := GQ.out.m; rw [KN.out] at h; exact h) hml (u := ptr p.x) (by rw [List.getElem?_map, hp]; rfl)
     subst hla hma
     have Hcl := Keep.mk hcl
     have Hcm := Keep.mk hcm
     have Hgl := Keep.mk hgl
     have Hgm := Keep.mk hgm
     clear hcl hcm hgl hgm
     refine wp_seq_k fun K47 hK47 => ?_
     refine wp_seq_k fun K48 hK48 => rgn ?_
     refine VlS (.int .i64 (m : Int)) ?_
     refine VlS (.slice (some ⟨gl, 0, none⟩) N lc) ?_
     refine VlS (.int .i64 (N : Int)) ?_
     refine VlS (.bool true) ?_
     refine WL.nil (hK48 _ _ ?_)
     refine wp_cond_true rfl ?_
     refine wp_skip ?_
     refine hK47 _ _ ?_
     refine wp_seq_k fun K49 hK49 => ?_
     refine wp_block ?_
     refine wp_seq_k fun K50 hK50 => ?_
     have BD : Keep (Below wj.heap.size wj wj.drew) := ⟨(Below.refl _ _).drew⟩
     have hS0 : Keep (∀ wx, Below wj.heap.size wj wx → (fun wx : World => wx.cell? ⟨gl, m, none⟩ = some (.pointer (some ⟨p.d, 0, none⟩)) ∧ wx.cell? ⟨gm, m, none⟩ = some (.pointer (some ⟨p.x, 0, none⟩))) wx) := ⟨fun wx hb => ⟨(hb.cell (p := ⟨gl, m, none⟩) Hgl.out).trans Hcl.out, (hb.cell (p := ⟨gm, m, none⟩) Hgm.out).trans Hcm.out⟩⟩
     have GAd := Keep.mk (GA.out.below BD.out)
     refine wp_region_held_drew (S := fun wx : World => wx.cell? ⟨gl, m, none⟩ = some (.pointer (some ⟨p.d, 0, none⟩)) ∧ wx.cell? ⟨gm, m, none⟩ = some (.pointer (some ⟨p.x, 0, none⟩))) (by kernel_rfl) (hS0.out _ BD.out) (fun hHeld => ?_)
     refine tkS (i := 0) (oi := ⟨some 98, Op.move (Operand.tmp 5), 25, _, _, none⟩) (v := .slice (some ⟨gl, 0, none⟩) N lc) rfl (Or.inl ⟨by rfl, fun w hS => by clear hS; go_simp⟩) hHeld ?_
     refine tkS (i := 1) (oi := ⟨some 99, Op.move (Operand.tmp 14), 3, _, _, none⟩) (v := .int .i64 (m : Int)) rfl (Or.inl ⟨by rfl, fun w hS => by clear hS; go_simp⟩) hHeld ?_
     refine tkS (i := 2) (oi := ⟨some 100, Op.indexAddr 25 (Operand.tmp 98) (Operand.tmp 99), 0, _, _, none⟩) (v := .pointer (some ⟨gl, m, none⟩)) rfl (Or.inl ⟨by rfl, fun w hS => by clear hS; go_simp⟩) hHeld ?_
     refine tkS (i := 3) (oi := ⟨some 101, Op.load 27 (Operand.tmp 100), 27, _, _, none⟩) (v := .pointer (some ⟨p.d, 0, none⟩)) rfl (Or.inl ⟨by rfl, fun w hS => by obtain ⟨hS1, hS2⟩ := hS; clear hS2; go_simp⟩) hHeld ?_
     refine tkS (i := 4) (oi := ⟨some 102, Op.move (Operand.tmp 6), 26, _, _, none⟩) (v := .slice (some ⟨gm, 0, none⟩) N mc) rfl (Or.inl ⟨by rfl, fun w hS => by clear hS; go_simp⟩) hHeld ?_
     refine tkS (i := 5) (oi := ⟨some 103, Op.move (Operand.tmp 14), 3, _, _, none⟩) (v := .int .i64 (m : Int)) rfl (Or.inl ⟨by rfl, fun w hS => by clear hS; go_simp⟩) hHeld ?_
     refine tkS (i := 6) (oi := ⟨some 104, Op.indexAddr 26 (Operand.tmp 102) (Operand.tmp 103), 0, _, _, none⟩) (v := .pointer (some ⟨gm, m, none⟩)) rfl (Or.inl ⟨by rfl, fun w hS => by clear hS; go_simp⟩) hHeld ?_
     refine tkS (i := 7) (oi := ⟨some 105, Op.load 31 (Operand.tmp 104), 31, _, _, none⟩) (v := .pointer (some ⟨p.x, 0, none⟩)) rfl (Or.inl ⟨by rfl, fun w hS => by obtain ⟨hS1, hS2⟩ := hS; clear hS1; go_simp⟩) hHeld ?_
     refine wpAnyH_ready (rs := [8]) (by kernel_rfl) (by simp) ?_
     refine AllReadyH.cons (o := ⟨some 106, Op.call { callee := Callee.value (Operand.func 14), args := #[Operand.tmp 101, Operand.tmp 105], argTypes := #[27, 31] }, 4, _, _, none⟩) rfl (fun K hK => ?_) AllReadyH.nil
     rw [if_pos (by rfl)]
     have hcon := whole_any p.d p.x p.g p.R _ wj.drew (GAd.out.1.dg p hpm) (GAd.out.2 p hpm).1 (GAd.out.1.rg p hpm).rd (GAd.out.2 p hpm).2.1 (GAd.out.2 p hpm).2.2
     refine wp_callF 14 _ _ rfl Try.in14 #[.pointer (some ⟨p.d, 0, none⟩), .pointer (some ⟨p.x, 0, none⟩)] (by simp [Act.eval]) (fun u wx => u = .bool true ∧ Below wj.drew.heap.size wj.drew wx) (hcon.mono fun e w' ⟨h1, h2⟩ => ⟨_, h1, rfl, h2⟩) ?_
     clear hcon
     rintro _ w9 ⟨rfl, hz⟩
     have U9 := Keep.mk (belowT BD.out hz)
     have NB := Keep.mk (GB.out.trans (U9.out.mono GB.out.size))
     clear hz
     refine hK _ _ (hS0.out _ U9.out) fun hH1 => ?_
     clear hK
     simp only [Act.put, pqA, pqB, pqC]
     refine tkS (i := 9) (oi := ⟨some 107, Op.unOp UnOp.not 4 (Operand.tmp 106), 4, _, _, none⟩) (v := .bool false) rfl (Or.inl ⟨by rfl, fun w hS => by clear hS; go_simp⟩) hH1 ?_
     refine wpAnyH_done (by kernel_rfl) ?_ _
     refine hK50 _ _ ?_
     refine wp_cond_false rfl ?_
     refine wp_skip ?_
     refine hK49 _ _ ?_
     refine rgn ?_
     refine VlS (.int .i64 (m : Int)) ?_
     refine VlS (.int .i64 ((m + 1 : Nat) : Int)) ?_
     refine VlS (.int .i64 ((m + 1 : Nat) : Int)) ?_
     refine WL.nil ?_
     refine ⟨⟨m + 1, fun i => [.slice ra S0.length rc, .slice sa S.length sc, undef, undef, fc 4, .slice (some ⟨gl, 0, none⟩) N lc, .slice (some ⟨gm, 0, none⟩) N mc, .int .i64 (t : Int), f 8, f 9, f 10, f 11, .int .i64 (k : Int), fa 13, .int .i64 ((m + 1 : Nat) : Int), lv0, mv0, .int .i64 (t : Int), .slice ra S0.length rc, .int .i64 (S0.length : Int), .bool false, f 21, f 22, f 23, f 24, f 25, f 26, f 27, f 28, f 29, f 30, f 31, f 32, f 33, f 34, f 35, f 36, f 37, f 38, f 39, f 40, f 41, f 42, f 43, f 44, f 45, f 46, f 47, f 48, f 49, f 50, f 51, f 52, f 53, f 54, f 55, f 56, f 57, f 58, .int .i64 (k : Int), .slice sa S.length sc, .int .i64 (S.length : Int), .bool false, .bool false, undef, undef, undef, .bool false, fa 68, fa 69, fa 70, fa 71, fa 72, fa 73, fa 74, fa 75, fa 76, fa 77, fa 78, fa 79, fa 80, fa 81, fa 82, fa 83, fa 84, fa 85, fa 86, fa 87, fa 88, fa 89, fa 90, fa 91, .int .i64 (m : Int), .slice (some ⟨gl, 0, none⟩) N lc, .int .i64 (N : Int), .bool true, .int .i64 (m : Int), .int .i64 ((m + 1 : Nat) : Int), .slice (some ⟨gl, 0, none⟩) N lc, .int .i64 (m : Int), .pointer (some ⟨gl, m, none⟩), .pointer (some ⟨p.d, 0, none⟩), .slice (some ⟨gm, 0, none⟩) N mc, .int .i64 (m : Int), .pointer (some ⟨gm, m, none⟩), .pointer (some ⟨p.x, 0, none⟩), .bool true, .bool false, undef].getD i undef, rfl, by omega, GA.out.below U9.out, GQ.out.below U9.out, NB.out⟩, ?_⟩
     simp only [intOf]; show N - (((m + 1 : Nat) : Int)).toNat < N - ((m : Int)).toNat; omega
    ·have hml' : ¬ (m : Int) < (N : Int) := by omega
     refine wp_seq_k fun K51 hK51 => ?_
     refine wp_seq_k fun K52 hK52 => rgn ?_
     refine VlS (.int .i64 (m : Int)) ?_
     refine VlS (.slice la N lc) ?_
     refine VlS (.int .i64 (N : Int)) ?_
     refine VlS (.bool false) ?_
     refine WL.nil (hK52 _ _ ?_)
     refine wp_cond_false rfl ?_
     refine wp_exit ?_
     refine hK45 _ _ ?_
     refine wp_seq_k fun K53 hK53 => rgn ?_
     refine WL.callF (by kernel_rfl) 9 _ _ rfl Try.in9 #[] (by simp) ?_
     refine (fixed_any wj).mono ?_
     rintro e w10 ⟨rfl, hz⟩
     refine ⟨_, rfl, ?_⟩
     have B10 := Keep.mk (GB.out.trans (hz.mono GB.out.size))
     clear hz
     simp only [Act.put, pqA, pqB, pqC]
     refine VlS (.bool true) ?_
     refine WL.nil (hK53 _ _ ?_)
     refine wp_ret ?_
     go_ret
     exact ⟨rfl, B10.out⟩
end Go.Proofs.Ytogmdfhicbmplaa
namespace Go.Proofs.Ytogmdfhicbmplaa
open Go.ChangeShapes Go.WideShapes Go.ChangeAt Go.RowKit Go.Deep
set_option linter.unusedSimpArgs false
set_option linter.unusedVariables false

theorem Try.cellsOf36 : Try.prog.cellsOf 36 = 32 := by kernel_rfl
theorem Try.cellsOf37 : Try.prog.cellsOf 37 = 1 := by kernel_rfl
theorem Try.cellsOf39 : Try.prog.cellsOf 39 = 34 := by kernel_rfl
theorem Try.cellsOf3 : Try.prog.cellsOf 3 = 1 := by kernel_rfl
theorem Try.cellsOf5 : Try.prog.cellsOf 5 = 1 := by kernel_rfl
theorem Try.bytesOf36 : Try.prog.bytesOf 36 = 32 := by kernel_rfl
theorem Try.bytesOf3 : Try.prog.bytesOf 3 = 8 := by kernel_rfl
theorem Try.undI : Try.prog.underlying 23 = some (.slice 3) := by kernel_rfl
theorem reach_is : reachBytes = 140737488351232 := by decide
theorem add_none' (b o i : Nat) : (⟨b, o, none⟩ : Addr).add i = ⟨b, o + i, none⟩ := by
 cases i with
 | zero => rfl
 | succ i => rfl
theorem mem_weightsAll {H : Type} {P : Program} {e : TypeId} {d : DataW H} : ∀ {ds : List (DataW H)}, d ∈ ds → ∀ n ∈ d.weights P e, n ∈ DataW.weightsAll P e ds
 | d0 :: ds, h, n, hn => by
  simp only [DataW.weightsAll, List.mem_append]
  rcases List.mem_cons.1 h with rfl | h
  ·exact .inl hn
  ·exact .inr (mem_weightsAll h n hn)
theorem wf_u8 {n : Int} (h : (Lit.int .u8 n).wf = true) : 0 ≤ n ∧ n < 256 := by
 have h1 : IntKind.u8.min = 0 := by decide
 have h2 : IntKind.u8.max = 255 := by decide
 simp only [Lit.wf, h1, h2, Bool.and_eq_true, decide_eq_true_eq] at h
 omega

theorem take_one {l : List Value} {i : Nat} {v : Value} (h : (l.drop i).take 1 = [v]) : l[i]? = some v := by
 have h2 : ((l.drop i).take 1)[0]? = some v := by rw [h]; rfl
 rw [List.getElem?_take, if_pos (by omega), List.getElem?_drop] at h2
 simpa using h2
theorem hash_of_trod {H : Type} {enc : TypeId × Value → H} {W : World} {sp : Nat → Bool} {held : Bool} {n base : Nat} {l : List Value} {x : DataW H × List MemPlace} (hf : DataW.trod enc Try.prog W base sp held n 36 l = some x) :
  ∃ c : Nat → Int, l = (bytesA 32 c).toList ∧ ∀ i, i < 32 → 0 ≤ c i ∧ c i < 256 := by
 obtain ⟨xs, m, _, _, hl, hx, hel⟩ := DataW.trod_array Try.underlying36 hf
 rw [Try.cellsOf36] at hl
 rw [Try.cellsOf5] at hel
 have each : ∀ i, i < 32 → ∃ z : Int, l[i]? = some (.int .u8 z) ∧ 0 ≤ z ∧ z < 256 := by
  intro i hi
  have h1 := hel i hi
  rw [List.getElem?_eq_getElem (by omega), Nat.mul_one] at h1
  obtain ⟨z, hz, _, hw⟩ := DataW.trod_int Try.underlying5 h1
  have hb := wf_u8 hw
  exact ⟨z, take_one hz, by omega, by omega⟩
 obtain ⟨c, hc⟩ := Go.Deep.choose_lt each
 refine ⟨c, ?_, fun i hi => (hc i hi).2⟩
 apply List.ext_getElem?
 intro i
 by_cases hi : i < 32
 ·rw [(hc i hi).1, Array.getElem?_toList, bytesA_get _ _ _ hi]
 ·rw [List.getElem?_eq_none (by omega), List.getElem?_eq_none (by rw [Array.length_toList, bytesA_size]; omega)]
theorem hashH_of_trod {H : Type} {enc : TypeId × Value → H} {W : World} {sp : Nat → Bool} {held : Bool} {n base : Nat} {l : List Value} {x : DataW H × List MemPlace} (hf : DataW.trod enc Try.prog W base sp held n 36 l = some x) : ∃ h : Hs, l = encH h := by
 obtain ⟨c, e, h1⟩ := hash_of_trod hf
 exact ⟨Hs.mk' c h1, by rw [e, encH]; exact congrArg Array.toList (bytesA_congr fun i hi => (Hs.mk'_f c h1 i hi).symm)⟩
theorem hs_of_trod {H : Type} {enc : TypeId × Value → H} {W : World} {sp : Nat → Bool} {held : Bool} {fuel base : Nat} {v : Value} {x : DataW H × List MemPlace} (hf : DataW.trod enc Try.prog W base sp held fuel 37 [v] = some x) (hw : ∀ n ∈ x.1.weights Try.prog 37, n ≤ reachBytes) :
  ∃ l : List Hs, HRow W v l ∧ l.length ≤ 4398046511104 := by
 rcases open_slice Try.underlying37 hf with ⟨hcs, _⟩ | ⟨a, len, cap, m, n, D, Pl, hcs, _, hl_, hm, hz, hx, hcell⟩
 ·simp at hcs
  subst hcs
  exact ⟨[], .inl ⟨none, 0, rfl, rfl, fun _ => rfl⟩, by simp⟩
 ·simp at hcs
  subst hcs
  have hlz : len ≤ m := by rw [hz]; split <;> omega
  have hb : len ≤ 4398046511104 := by
   have h1 := hw ((((List.range len).map D).length + ((List.range (m - len)).map fun j => D (len + j)).length) * 32) (by
    rw [hx]
    simp only [DataW.weights, Try.underlying37]
    simp [Try.bytesOf36])
   rw [reach_is] at h1
   simp only [List.length_map, List.length_range] at h1
   omega
  have each : ∀ i, i < len → ∃ q : Hs, ∀ j v, (encH q)[j]? = some v → W.cell? ((a.add (i * 32)).add j) = some v := by
   intro i hi
   obtain ⟨cs', h1, h2⟩ := hcell i (by omega)
   rw [Try.cellsOf36] at h1
   obtain ⟨_, hlen, hce⟩ := World.cells?_some h1
   obtain ⟨q, hqe⟩ := hashH_of_trod h2
   clear h2
   refine ⟨q, fun j v hv => ?_⟩
   obtain ⟨hj, e⟩ := List.getElem?_eq_some_iff.1 hv
   rw [encH_len] at hj
   rw [hce j (by omega), hqe, ← hv]
  obtain ⟨q, hq⟩ := Go.Deep.choose_lt each
  refine ⟨(List.range len).map q, ?_, by simpa using hb⟩
  by_cases h0 : len = 0
  ·subst h0
   exact .inl ⟨some a, cap, rfl, rfl, fun h => by cases h⟩
  ·have hs : a.spot = none := by
    have hv0 : (encH (q 0))[0]? = some (.int .u8 ((q 0).f 0)) := encH_get _ 0 (by omega)
    have := hq 0 (by omega) 0 _ hv0
    rw [Nat.zero_mul, show a.add 0 = a from rfl] at this
    rw [show a.add 0 = a from rfl] at this
    exact World.cell?_spot this
   obtain ⟨b, off, sp⟩ := a
   obtain rfl : sp = none := hs
   refine .inr ⟨b, off, cap, by simp, by simp; omega, fun j v hv => ?_⟩
   have hj : j < len * 32 := by
    have := (List.getElem?_eq_some_iff.1 hv).1
    rw [flatH_len] at this
    simpa using this
   have hi : j / 32 < ((List.range len).map q).length := by simp; omega
   have hg := flatH_get ((List.range len).map q) (j / 32) hi (j % 32) (Nat.mod_lt _ (by omega))
   rw [show j / 32 * 32 + j % 32 = j by omega, hv] at hg
   have := hq (j / 32) (by simpa using hi) (j % 32) v (by rw [hg]; simp)
   simp only [add_none'] at this
   rwa [show off + j / 32 * 32 + j % 32 = off + j by omega] at this
theorem ints_of_trod {H : Type} {enc : TypeId × Value → H} {W : World} {sp : Nat → Bool} {held : Bool} {n base : Nat} {v : Value} {x : DataW H × List MemPlace} (hf : DataW.trod enc Try.prog W base sp held n 23 [v] = some x) (hw : ∀ n ∈ x.1.weights Try.prog 23, n ≤ reachBytes) :
  ∃ S : List Int, IRow W v S ∧ (S.length : Int) ≤ 17592186044416 := by
 rcases open_ints Try.undI Try.underlying3 Try.cellsOf3 hf with ⟨hcs, _⟩ | ⟨a, len, cap, zs, hcs, _, hl, hm, hz, hx, hcell, hwz⟩
 ·simp at hcs
  subst hcs
  exact ⟨[], .inl ⟨none, 0, rfl, rfl⟩, by simp⟩
 ·simp at hcs
  subst hcs
  have hlz : len ≤ zs.length := by rw [hz]; split <;> omega
  have hb : (len : Int) ≤ 17592186044416 := by
   have h1 := hw (((zs.take len).length + (zs.drop len).length) * 8) (by
    rw [hx]
    simp only [DataW.weights, Try.undI]
    simp [lits, Try.bytesOf3])
   rw [List.length_take, reach_is] at h1
   omega
  have hlen : (zs.take len).length = len := by rw [List.length_take]; omega
  refine ⟨zs.take len, ?_, by rw [hlen]; exact hb⟩
  by_cases h0 : len = 0
  ·subst h0
   exact .inl ⟨_, _, rfl, by simp⟩
  ·have hs : a.spot = none := by
    have := hcell 0 (by omega)
    rw [show a.add 0 = a from rfl] at this
    exact World.cell?_spot this
   obtain ⟨b, off, sp⟩ := a
   obtain rfl : sp = none := hs
   refine .inr ⟨b, off, cap, by rw [hlen], fun i hi => ?_⟩
   rw [hlen] at hi
   have := hcell i (by omega)
   rw [add_none'] at this
   rw [this]
   simp [List.getD, show i < zs.length by omega]
theorem trod_struct3 {H : Type} {enc : TypeId × Value → H} {P : Program} {w : World} {base : Nat} {spare : Nat → Bool} {held : Bool} {t : TypeId} {f0 f1 f2 : Field} {fuel : Nat} {cs : List Value} {x : DataW H × List MemPlace} (ht : P.underlying t = some (.struct #[f0, f1, f2])) (h : DataW.trod enc P w base spare held fuel t cs = some x) :
  ∃ y0 y1 y2 n, x.1 = .agg [y0.1, y1.1, y2.1] ∧ cs.length = P.cellsOf t ∧ DataW.trod enc P w base spare held n f0.type ((cs.drop f0.offset).take (P.cellsOf f0.type)) = some y0 ∧
   DataW.trod enc P w base spare held n f1.type ((cs.drop f1.offset).take (P.cellsOf f1.type)) = some y1 ∧ DataW.trod enc P w base spare held n f2.type ((cs.drop f2.offset).take (P.cellsOf f2.type)) = some y2 := by
 obtain ⟨xs, n, _, rfl, hl, hlen, hf⟩ := DataW.trod_struct ht h
 match xs, hlen with
 | [y0, y1, y2], _ => exact ⟨y0, y1, y2, n, by simp, hl, by simpa using hf 0 f0 rfl, by simpa using hf 1 f1 rfl, by simpa using hf 2 f2 rfl⟩
/-- A reading of a vertex. -/
theorem vtx_of_trod {H : Type} {enc : TypeId × Value → H} {W : World} {sp : Nat → Bool} {held : Bool} {n base : Nat} {cs : List Value} {x : DataW H × List MemPlace} (hf : DataW.trod enc Try.prog W base sp held n 39 cs = some x) (hw : ∀ n ∈ x.1.weights Try.prog 39, n ≤ reachBytes) :
  ∃ q : VP, cs = encV q ∧ HRow W q.2 q.1.ps ∧ q.1.ps.length ≤ 4398046511104 := by
 obtain ⟨y0, y1, y2, k, hx, hl, h0, h1, h2⟩ := trod_struct3 Try.underlying39 hf
 rw [Try.cellsOf39] at hl
 simp only [Try.cellsOf36, Try.cellsOf37, Try.cellsOf3, List.drop_zero] at h0 h1 h2
 obtain ⟨h, e0⟩ := hashH_of_trod h0
 obtain ⟨n1, e1, w1⟩ := DataW.trod_int Try.underlying3 h1
 have e1 := take_one e1
 obtain ⟨p, hp⟩ : ∃ p, (cs.drop 33).take 1 = [p] := by
  have : ((cs.drop 33).take 1).length = 1 := by rw [List.length_take, List.length_drop]; omega
  exact List.length_eq_one_iff.1 this
 rw [hp] at h2
 obtain ⟨ps, r2, r2b⟩ := hs_of_trod h2 (fun n hn => hw n (by
  rw [hx]
  simp only [DataW.weights, Try.underlying39]
  exact DataW.weights_mem_each (j := 2) (t := 37) rfl rfl n hn))
 refine ⟨(⟨h, n1, ps⟩, p), ?_, r2, r2b⟩
 have e2 := take_one hp
 apply List.ext_getElem?
 intro i
 show cs[i]? = (vtx h.f n1 p).toList[i]?
 unfold vtx
 rw [Array.toList_append]
 have hbl : (bytesA 32 h.f).toList.length = 32 := by rw [Array.length_toList, bytesA_size]
 by_cases hi : i < 32
 ·rw [List.getElem?_append_left (by omega)]
  have : (cs.take 32)[i]? = (encH h)[i]? := by rw [e0]
  rw [List.getElem?_take, if_pos hi] at this
  exact this
 ·rw [List.getElem?_append_right (by omega), hbl]
  rcases Nat.lt_or_ge i 34 with h34 | h34
  ·have : i = 32 ∨ i = 33 := by omega
   rcases this with rfl | rfl
   ·rw [e1]; rfl
   ·rw [e2]; rfl
  ·rw [List.getElem?_eq_none (by omega), List.getElem?_eq_none (by simp; omega)]
end Go.Proofs.Ytogmdfhicbmplaa
namespace Go.Proofs.Ytogmdfhicbmplaa
open Go.ChangeShapes Go.WideShapes Go.ChangeAt Go.RowKit Go.Deep
set_option linter.unusedSimpArgs false
set_option linter.unusedVariables false

theorem Try.cellsOf41 : Try.prog.cellsOf 41 = 68 := by kernel_rfl
theorem Try.bytesOf41 : Try.prog.bytesOf 41 = 112 := by kernel_rfl
theorem Try.undO : Try.prog.underlying 24 = some (.slice 41) := by kernel_rfl
theorem trod_struct4 {H : Type} {enc : TypeId × Value → H} {P : Program} {w : World} {base : Nat} {spare : Nat → Bool} {held : Bool} {t : TypeId} {f0 f1 f2 f3 : Field} {fuel : Nat} {cs : List Value} {x : DataW H × List MemPlace} (ht : P.underlying t = some (.struct #[f0, f1, f2, f3])) (h : DataW.trod enc P w base spare held fuel t cs = some x) :
  ∃ y0 y1 y2 y3 n, x.1 = .agg [y0.1, y1.1, y2.1, y3.1] ∧ cs.length = P.cellsOf t ∧ DataW.trod enc P w base spare held n f0.type ((cs.drop f0.offset).take (P.cellsOf f0.type)) = some y0 ∧
   DataW.trod enc P w base spare held n f1.type ((cs.drop f1.offset).take (P.cellsOf f1.type)) = some y1 ∧ DataW.trod enc P w base spare held n f2.type ((cs.drop f2.offset).take (P.cellsOf f2.type)) = some y2 ∧ DataW.trod enc P w base spare held n f3.type ((cs.drop f3.offset).take (P.cellsOf f3.type)) = some y3 := by
 obtain ⟨xs, n, _, rfl, hl, hlen, hf⟩ := DataW.trod_struct ht h
 match xs, hlen with
 | [y0, y1, y2, y3], _ => exact ⟨y0, y1, y2, y3, n, by simp, hl, by simpa using hf 0 f0 rfl, by simpa using hf 1 f1 rfl, by simpa using hf 2 f2 rfl, by simpa using hf 3 f3 rfl⟩
/-- A reading of a step. -/
theorem op_of_trod {H : Type} {enc : TypeId × Value → H} {W : World} {sp : Nat → Bool} {held : Bool} {n base : Nat} {cs : List Value} {x : DataW H × List MemPlace} (hf : DataW.trod enc Try.prog W base sp held n 41 cs = some x) (hw : ∀ n ∈ x.1.weights Try.prog 41, n ≤ reachBytes) :
  ∃ o : OP, cs = encO o ∧ HRow W o.q.2 o.q.1.ps ∧ o.q.1.ps.length ≤ 4398046511104 := by
 obtain ⟨y0, y1, y2, y3, k, hx, hl, h0, h1, h2, h3⟩ := trod_struct4 Try.underlying41 hf
 rw [Try.cellsOf41] at hl
 simp only [Try.cellsOf36, Try.cellsOf39, Try.cellsOf3, List.drop_zero] at h0 h1 h2 h3
 obtain ⟨n0, e0, w0⟩ := DataW.trod_int Try.underlying3 h0
 obtain ⟨n1, e1, w1⟩ := DataW.trod_int Try.underlying3 h1
 obtain ⟨q, e2, hq⟩ := vtx_of_trod h2 (fun n hn => hw n (by
  rw [hx]
  simp only [DataW.weights, Try.underlying41]
  exact DataW.weights_mem_each (j := 2) (t := 39) rfl rfl n hn))
 obtain ⟨h, e3⟩ := hashH_of_trod h3
 refine ⟨⟨n0, n1, q, h⟩, ?_, hq⟩
 have s1 : cs = cs.take 1 ++ ((cs.drop 1).take 1 ++ ((cs.drop 2).take 34 ++ (cs.drop 36).take 32)) := by
  have a : (cs.drop 36).take 32 = cs.drop 36 := List.take_of_length_le (by rw [List.length_drop]; omega)
  have b : (cs.drop 2).take 34 ++ cs.drop 36 = cs.drop 2 := by have := List.take_append_drop 34 (cs.drop 2); rw [List.drop_drop] at this; exact this
  have c : (cs.drop 1).take 1 ++ cs.drop 2 = cs.drop 1 := by have := List.take_append_drop 1 (cs.drop 1); rw [List.drop_drop] at this; exact this
  rw [a, b, c, List.take_append_drop]
 have e0' : cs.take 1 = [.int .i64 n0] := e0
 rw [s1, e0', e1, e2, e3]
 show _ = (opA ⟨n0, n1, q, h⟩).toList
 unfold opA encV encH
 rw [Array.toList_append, Array.toList_append]
 simp only [List.append_assoc]
 rfl
/-- A reading of a row of steps. -/
theorem ops_of_trod {H : Type} {enc : TypeId × Value → H} {W : World} {sp : Nat → Bool} {held : Bool} {fuel base : Nat} {v : Value} {x : DataW H × List MemPlace} (hf : DataW.trod enc Try.prog W base sp held fuel 24 [v] = some x) (hw : ∀ n ∈ x.1.weights Try.prog 24, n ≤ reachBytes) :
  ∃ S : List OP, ORow W v S ∧ (S.length : Int) ≤ 9223372036854775806 := by
 rcases open_slice Try.undO hf with ⟨hcs, _⟩ | ⟨a, len, cap, m, n, D, Pl, hcs, _, hl_, hm, hz, hx, hcell⟩
 ·simp at hcs
  subst hcs
  exact ⟨[], ⟨.inl ⟨none, 0, rfl, rfl⟩, by simp⟩, by simp⟩
 ·simp at hcs
  subst hcs
  have hlz : len ≤ m := by rw [hz]; split <;> omega
  have hb : len ≤ 4398046511104 := by
   have h1 := hw ((((List.range len).map D).length + ((List.range (m - len)).map fun j => D (len + j)).length) * 112) (by
    rw [hx]
    simp only [DataW.weights, Try.undO]
    simp [Try.bytesOf41])
   rw [reach_is] at h1
   simp only [List.length_map, List.length_range] at h1
   omega
  have hwD : ∀ i, i < len → ∀ n ∈ (D i).weights Try.prog 41, n ≤ reachBytes := fun i hi n hn => hw n (by
   rw [hx]
   simp only [DataW.weights, Try.undO]
   refine List.mem_cons_of_mem _ (List.mem_append_left _ (mem_weightsAll (d := D i) ?_ n hn))
   exact List.mem_map.2 ⟨i, List.mem_range.2 hi, rfl⟩)
  have each : ∀ i, i < len → ∃ q : OP, (∀ j v, (encO q)[j]? = some v → W.cell? ((a.add (i * 68)).add j) = some v) ∧ HRow W q.q.2 q.q.1.ps ∧ q.q.1.ps.length ≤ 4398046511104 := by
   intro i hi
   obtain ⟨cs', h1, h2⟩ := hcell i (by omega)
   rw [Try.cellsOf41] at h1
   obtain ⟨_, hlen, hce⟩ := World.cells?_some h1
   obtain ⟨q, hqe, hq2⟩ := op_of_trod h2 (hwD i hi)
   clear h2
   refine ⟨q, fun j v hv => ?_, hq2⟩
   obtain ⟨hj, e⟩ := List.getElem?_eq_some_iff.1 hv
   rw [encO_len] at hj
   rw [hce j (by omega), hqe, ← hv]
  haveI : Inhabited OP := ⟨⟨0, 0, (⟨default, 0, []⟩, .slice none 0 0), default⟩⟩
  obtain ⟨q, hq⟩ := Go.Deep.choose_lt each
  refine ⟨(List.range len).map q, ⟨?_, fun u hu => ?_⟩, by simp; omega⟩
  ·by_cases h0 : len = 0
   ·subst h0
    exact .inl ⟨some a, cap, rfl, rfl⟩
   ·have hs : a.spot = none := by
     have hv0 : (encO (q 0))[0]? = some (.int .i64 (q 0).k) := by unfold encO opA; rw [Array.toList_append, Array.toList_append, List.append_assoc]; rfl
     have := (hq 0 (by omega)).1 0 _ hv0
     rw [Nat.zero_mul, show a.add 0 = a from rfl] at this
     rw [show a.add 0 = a from rfl] at this
     exact World.cell?_spot this
    obtain ⟨b, off, sp⟩ := a
    obtain rfl : sp = none := hs
    refine .inr ⟨b, off, cap, by simp, by simp; omega, flat_of_elems encO_len fun i hi j v hv => ?_⟩
    have hi' : i < len := by simpa using hi
    have := (hq i hi').1 j v (by simpa using hv)
    simp only [add_none'] at this
    exact this
  ·obtain ⟨i, hi, rfl⟩ := List.mem_map.1 hu
   exact (hq i (List.mem_range.1 hi)).2
end Go.Proofs.Ytogmdfhicbmplaa
