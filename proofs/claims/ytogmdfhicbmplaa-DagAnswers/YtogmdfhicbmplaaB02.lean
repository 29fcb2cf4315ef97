import Derived.Test.YtogmdfhicbmplaaB01
import Derived.Maps.Own
import Derived.Deep.RegionHeld3
import Derived.Laws.AppendOwnNone
import Derived.Laws.CopyOwn
namespace Go.Proofs.Ytogmdfhicbmplaa
open Go.RowKit
set_option linter.unusedSimpArgs false
set_option linter.unusedVariables false

/-! ### Vertices. -/
structure VX where
 id : Hs
 ck : Int
 ps : List Hs
def vtx (c : Nat → Int) (k : Int) (p : Value) : Array Value := bytesA 32 c ++ #[.int .i64 k, p]
theorem vtx_size (c : Nat → Int) (k : Int) (p : Value) : (vtx c k p).size = 34 := by simp [vtx, bytesA_size]
theorem vtx_ck (c : Nat → Int) (k : Int) (p : Value) : (vtx c k p)[32]? = some (.int .i64 k) := by simp [vtx, Array.getElem?_append, bytesA_size]
theorem vtx_ps (c : Nat → Int) (k : Int) (p : Value) : (vtx c k p)[33]? = some p := by simp [vtx, Array.getElem?_append, bytesA_size]
theorem vtx_one (c : Nat → Int) (k : Int) (p : Value) (hp : p.oneCell' = true) : (vtx c k p).all (·.oneCell') = true := by
 have := bytesA_one 32 c
 simp only [vtx, Array.all_append, this, Bool.true_and]
 have h2 : (Value.int IntKind.i64 k).oneCell' = true := rfl
 rw [← Array.all_toList]
 simp only [List.all_cons, List.all_nil, hp, h2, Bool.and_self]
theorem Try.size39 : (Try.prog.info? 39).map (·.size) = some 34 := by kernel_rfl
theorem Try.new39 (w : World) : (Instr.alloc 39 true (.tuple #[])).run Try.prog w = .ok (.pointer (some ⟨w.heap.size, 0, none⟩)) (w.alloc (.cells (vtx (fun _ => 0) 0 (.slice none 0 0)) 39)) := by kernel_rfl
theorem Try.chk (em : Bool) (c : Nat → Int) (w : World) : (Instr.checkKey em 10000 36 (.agg (bytesA 32 c))).run Try.prog w = .ok () w := by cases em <;> kernel_rfl
theorem built_ps (c : Nat → Int) (k : Int) (a : Option Addr) (n m : Nat) : Try.prog.built 39 [(0, .agg (bytesA 32 c)), (1, .int .i64 k), (2, .slice a n m)] = some (vtx c k (.slice a n m)) := by kernel_rfl
theorem built_none (c : Nat → Int) (k : Int) : Try.prog.built 39 [(0, .agg (bytesA 32 c)), (1, .int .i64 k)] = some (vtx c k (.slice none 0 0)) := by kernel_rfl

/-! ### Maps of vertices. -/
/-- Is it the vertex of that hash? -/
def isV (x : Hs) (v : VX) : Bool := decide (x = v.id)
def EntAt (w : World) (Av : Nat → Prop) (v : VX) (e : MapEntry) : Prop :=
 e.key = .agg (bytesA 32 v.id.f) ∧ ∃ p, e.val = .agg (vtx v.id.f v.ck p) ∧ HRow w p v.ps ∧ ∀ k, p.ownBlock = some k → k < w.heap.size ∧ ¬ Av k
def Ents (w : World) (Av : Nat → Prop) : List VX → List MapEntry → Prop
 | [], [] => True
 | v :: l, e :: es => EntAt w Av v e ∧ Ents w Av l es
 | _, _ => False
/-- Block b is a map of these vertices, in the order in which they came; their parents lie outside of Av. -/
def MpAt (w : World) (Av : Nat → Prop) (b : Nat) (l : List VX) : Prop := ∃ es ck, w.heap[b]? = some (.map es ck) ∧ Ents w Av l es.toList
theorem EntAt.grown {w w' : World} {Av Av' S : Nat → Prop} {v : VX} {e : MapEntry} (h : EntAt w Av v e) (hg : Grown w w' S) (hS : ∀ k, k < w.heap.size → S k → Av k) (hA : ∀ k, k < w.heap.size → Av' k → Av k) : EntAt w' Av' v e := by
 obtain ⟨h1, p, h2, h3, h4⟩ := h
 refine ⟨h1, p, h2, h3.grown hg fun b o n c e1 hs => ?_, fun k hk => ⟨Nat.lt_of_lt_of_le (h4 k hk).1 hg.size, fun ha => (h4 k hk).2 (hA k (h4 k hk).1 ha)⟩⟩
 have := h4 b (by rw [e1]; rfl)
 exact this.2 (hS b this.1 hs)
theorem Ents.grown {w w' : World} {Av Av' S : Nat → Prop} (hg : Grown w w' S) (hS : ∀ k, k < w.heap.size → S k → Av k) (hA : ∀ k, k < w.heap.size → Av' k → Av k) : ∀ {l : List VX} {es : List MapEntry}, Ents w Av l es → Ents w' Av' l es
 | [], [], _ => trivial
 | _ :: _, _ :: _, h => ⟨h.1.grown hg hS hA, Ents.grown hg hS hA h.2⟩
 | [], _ :: _, h => h.elim
 | _ :: _, [], h => h.elim
theorem Ents.len {w : World} {Av : Nat → Prop} : ∀ {l : List VX} {es : List MapEntry}, Ents w Av l es → es.length = l.length
 | [], [], _ => rfl
 | _ :: _, _ :: _, h => by simp [Ents.len h.2]
 | [], _ :: _, h => h.elim
 | _ :: _, [], h => h.elim
theorem Ents.app {w : World} {Av : Nat → Prop} {v : VX} {e : MapEntry} (he : EntAt w Av v e) : ∀ {l : List VX} {es : List MapEntry}, Ents w Av l es → Ents w Av (l ++ [v]) (es ++ [e])
 | [], [], _ => ⟨he, trivial⟩
 | _ :: _, _ :: _, h => ⟨h.1, Ents.app he h.2⟩
 | [], _ :: _, h => h.elim
 | _ :: _, [], h => h.elim
theorem Ents.del {w : World} {Av : Nat → Prop} : ∀ {l : List VX} {es : List MapEntry} (j : Nat), Ents w Av l es → Ents w Av (l.eraseIdx j) (es.eraseIdx j)
 | [], [], _, _ => trivial
 | _ :: _, _ :: _, 0, h => h.2
 | _ :: _, _ :: _, j + 1, h => ⟨h.1, Ents.del j h.2⟩
 | [], _ :: _, _, h => h.elim
 | _ :: _, [], _, h => h.elim
theorem MpAt.grown {w w' : World} {Av Av' S : Nat → Prop} {b : Nat} {l : List VX} (h : MpAt w Av b l) (hg : Grown w w' S) (hb : ¬ S b) (hS : ∀ k, k < w.heap.size → S k → Av k) (hA : ∀ k, k < w.heap.size → Av' k → Av k) : MpAt w' Av' b l := by
 obtain ⟨es, ck, h1, h2⟩ := h
 exact ⟨es, ck, by rw [hg.block b (Array.getElem?_eq_some_iff.1 h1).1 hb]; exact h1, h2.grown hg hS hA⟩
theorem MpAt.ne {w : World} {Av : Nat → Prop} {b k : Nat} {l : List VX} {T : TypeId} {cs : Array Value} (h : MpAt w Av b l) (hb : Blk w k T cs) : k ≠ b := by
 obtain ⟨es, ck, h1, _⟩ := h
 rintro rfl
 unfold Blk at hb
 rw [h1] at hb
 cases hb
theorem Op_equal (x y : Hs) (w : World) : (Op.equal 36 (.agg (bytesA 32 x.f)) (.agg (bytesA 32 y.f))).run Try.prog w = .ok (decide (x = y)) w := by
 rw [← all_eq_iff]; exact run_equal_arr2 x.f y.f w
theorem find_spec {w : World} {Av : Nat → Prop} (x : Hs) : ∀ {l : List VX} {es : List MapEntry}, Ents w Av l es →
  (l.find? (isV x) = none ∧ ∀ (wx : World) i, (Instr.findAsking 36 (.agg (bytesA 32 x.f)) es i).run Try.prog wx = .ok none wx) ∨
  ∃ j e v, l.find? (isV x) = some v ∧ es[j]? = some e ∧ EntAt w Av v e ∧ l.eraseP (isV x) = l.eraseIdx j ∧ ∀ (wx : World) i, (Instr.findAsking 36 (.agg (bytesA 32 x.f)) es i).run Try.prog wx = .ok (some (i + j, e.val)) wx
 | [], [], _ => .inl ⟨rfl, fun wx i => rfl⟩
 | v :: l, e :: es, h => by
  have hk : ∀ (wx : World) i, (Instr.findAsking 36 (.agg (bytesA 32 x.f)) (e :: es) i).run Try.prog wx = if isV x v = true then .ok (some (i, e.val)) wx else (Instr.findAsking 36 (.agg (bytesA 32 x.f)) es (i + 1)).run Try.prog wx := fun wx i => by
   rw [Instr.findAsking, h.1.1, Sem.run_bind, Op_equal, Result.andThen_ok]
   show (if isV x v = true then _ else _ : Sem _).run Try.prog wx = _
   split <;> rfl
  by_cases hv : isV x v = true
  ·refine .inr ⟨0, e, v, by simp [List.find?, hv], rfl, h.1, by simp [List.eraseP, hv], fun wx i => ?_⟩
   rw [hk, if_pos hv]; rfl
  ·rcases find_spec x h.2 with ⟨h1, h2⟩ | ⟨j, e', v', h1, h2, h3, h4, h5⟩
   ·refine .inl ⟨by simp [List.find?, hv, h1], fun wx i => ?_⟩
    rw [hk, if_neg hv, h2]
   ·refine .inr ⟨j + 1, e', v', by simp [List.find?, hv, h1], h2, h3, by simp [List.eraseP, hv, h4], fun wx i => ?_⟩
    rw [hk, if_neg hv, h5, Nat.add_assoc, Nat.add_comm 1 j]
 | [], _ :: _, h => h.elim
 | _ :: _, [], h => h.elim
theorem findKey_eq (x : Hs) (es : List MapEntry) (w : World) : (Instr.findKey 36 (.agg (bytesA 32 x.f)) es).run Try.prog w = (Instr.findAsking 36 (.agg (bytesA 32 x.f)) es 0).run Try.prog w := by
 unfold Instr.findKey
 rw [Sem.run_bind, run_underlying Try.underlying36, Result.andThen_ok]
 cases es <;> rfl
def vZ : Value := .agg (vtx (fun _ => 0) 0 (.slice none 0 0))
/-- What a lookup answers: the vertex, its parents' slice, whether it is there. -/
theorem look1 {w : World} {Av : Nat → Prop} {b : Nat} {l : List VX} (h : MpAt w Av b l) (x : Hs) : ∃ es ck c k a n m, w.heap[b]? = some (.map es ck) ∧
  (∀ wx : World, wx.heap[b]? = some (.map es ck) → (Instr.lookup 75 (.map (some b)) (.agg (bytesA 32 x.f)) true).run Try.prog wx = .ok (.tuple #[.agg (vtx c k (.slice a n m)), .bool (l.find? (isV x)).isSome]) wx) ∧
  (∀ wx : World, wx.heap[b]? = some (.map es ck) → (Instr.lookup 75 (.map (some b)) (.agg (bytesA 32 x.f)) false).run Try.prog wx = .ok (.agg (vtx c k (.slice a n m))) wx) ∧
  ((l.find? (isV x) = none ∧ c = (fun _ => 0) ∧ k = 0 ∧ a = none ∧ n = 0 ∧ m = 0) ∨ ∃ v, l.find? (isV x) = some v ∧ c = v.id.f ∧ k = v.ck ∧ HRow w (.slice a n m) v.ps ∧ (∀ k, (Value.slice a n m).ownBlock = some k → k < w.heap.size ∧ ¬ Av k)) := by
 obtain ⟨es, ck, h1, h2⟩ := h
 rcases find_spec x h2 with ⟨e1, e2⟩ | ⟨j, e, v, e1, e2, e3, e4, e5⟩
 ·refine ⟨es, ck, fun _ => 0, 0, none, 0, 0, h1, fun wx hx => ?_, fun wx hx => ?_, .inl ⟨e1, rfl, rfl, rfl, rfl, rfl⟩⟩
  ·simp [Instr.lookup, run_underlying Try.underlying75, MapKept.run_getObj_map hx, Try.chk, findKey_eq, e2 _ 0, Result.andThen, e1]
   kernel_rfl
  ·simp [Instr.lookup, run_underlying Try.underlying75, MapKept.run_getObj_map hx, Try.chk, findKey_eq, e2 _ 0, Result.andThen]
   kernel_rfl
 ·obtain ⟨_, p, hp, hr, hk⟩ := e3
  obtain ⟨a, m, rfl⟩ := hr.form
  refine ⟨es, ck, v.id.f, v.ck, a, _, m, h1, fun wx hx => ?_, fun wx hx => ?_, .inr ⟨v, e1, rfl, rfl, hr, hk⟩⟩
  ·simp [Instr.lookup, run_underlying Try.underlying75, MapKept.run_getObj_map hx, Try.chk, findKey_eq, e5 _ 0, hp, Result.andThen, e1]
  ·simp [Instr.lookup, run_underlying Try.underlying75, MapKept.run_getObj_map hx, Try.chk, findKey_eq, e5 _ 0, hp, Result.andThen]
theorem grown_block {w : World} {b : Nat} {es : Array MapEntry} {ck : Nat} (h1 : w.heap[b]? = some (.map es ck)) (o : Obj) : Grown w { w with heap := w.heap.setIfInBounds b o } fun k => k = b :=
 ⟨rfl, rfl, rfl, by simp, fun k hk hb => by simp [Array.getElem?_setIfInBounds, Ne.symm hb]⟩
theorem upd_new {w : World} {Av : Nat → Prop} {b : Nat} {l : List VX} (h : MpAt w Av b l) (hA : Av b) (v : VX) (hv : l.find? (isV v.id) = none) (p : Value) (hp : HRow w p v.ps) (hk : ∀ k, p.ownBlock = some k → k < w.heap.size ∧ ¬ Av k) :
  ∃ w', (Instr.mapUpdate 75 (.map (some b)) (.agg (bytesA 32 v.id.f)) (.agg (vtx v.id.f v.ck p))).run Try.prog w = .ok () w' ∧ MpAt w' Av b (l ++ [v]) ∧ Grown w w' fun k => k = b := by
 obtain ⟨es, ck, h1, h2⟩ := h
 have hlt := (Array.getElem?_eq_some_iff.1 h1).1
 rcases find_spec v.id h2 with ⟨e1, e2⟩ | ⟨j, e, v', e1, _⟩
 ·have hg := grown_block h1 (.map (es.push ⟨.agg (bytesA 32 v.id.f), .agg (vtx v.id.f v.ck p), ck⟩) (ck + 1))
  refine ⟨{ w with heap := w.heap.setIfInBounds b (.map (es.push ⟨.agg (bytesA 32 v.id.f), .agg (vtx v.id.f v.ck p), ck⟩) (ck + 1)) }, ?_, ⟨_, _, by simp [hlt]; exact ⟨rfl, rfl⟩, ?_⟩, hg⟩
  ·simp [Instr.mapUpdate, run_underlying Try.underlying75, MapKept.run_getObj_map h1, Try.chk, findKey_eq, e2 _ 0, MapKept.run_setObj_map _ h1, Result.andThen]
  ·rw [Array.toList_push]
   exact (Ents.app (w := w) (Av := Av) ⟨rfl, p, rfl, hp, hk⟩ h2).grown hg (fun k _ e => e ▸ hA) (fun k _ e => e)
 ·rw [hv] at e1; cases e1
theorem del_any {w : World} {Av : Nat → Prop} {b : Nat} {l : List VX} (h : MpAt w Av b l) (hA : Av b) (x : Hs) (ty : TypeId) :
  ∃ w', (Builtin.delete_ #[75, 36] ty #[.map (some b), .agg (bytesA 32 x.f)]).run Try.prog w = .ok (.tuple #[]) w' ∧ MpAt w' Av b (l.eraseP (isV x)) ∧ Grown w w' fun k => k = b := by
 obtain ⟨es, ck, h1, h2⟩ := h
 have hlt := (Array.getElem?_eq_some_iff.1 h1).1
 rcases find_spec x h2 with ⟨e1, e2⟩ | ⟨j, e, v, e1, e2, e3, e4, e5⟩
 ·have hg := grown_block h1 (.map es ck)
  refine ⟨{ w with heap := w.heap.setIfInBounds b (.map es ck) }, ?_, ⟨es, ck, by simp [hlt], ?_⟩, hg⟩
  ·simp [Builtin.delete_, run_underlying Try.underlying75, MapKept.run_getObj_map h1, Try.chk, findKey_eq, e2 _ 0, MapKept.run_setObj_map _ h1, Result.andThen]
  ·rw [List.eraseP_of_forall_not (fun a ha => by have := List.find?_eq_none.1 e1 a ha; exact this)]
   exact h2.grown hg (fun k _ e => e ▸ hA) (fun k _ e => e)
 ·have hg := grown_block h1 (.map (es.eraseIdxIfInBounds j) ck)
  have hjs : j < es.size := by simpa using (List.getElem?_eq_some_iff.1 e2).1
  refine ⟨{ w with heap := w.heap.setIfInBounds b (.map (es.eraseIdxIfInBounds j) ck) }, ?_, ⟨es.eraseIdxIfInBounds j, ck, by simp [hlt], ?_⟩, hg⟩
  ·simp [Builtin.delete_, run_underlying Try.underlying75, MapKept.run_getObj_map h1, Try.chk, findKey_eq, e5 _ 0, MapKept.run_setObj_map _ h1, Result.andThen]
  ·have hsub : (es.eraseIdxIfInBounds j).toList = es.toList.eraseIdx j := by
    unfold Array.eraseIdxIfInBounds
    rw [dif_pos hjs]
    simp
   rw [hsub, e4]
   exact (h2.del j).grown hg (fun k _ e => e ▸ hA) (fun k _ e => e)
theorem len_any {w : World} {Av : Nat → Prop} {b : Nat} {l : List VX} (h : MpAt w Av b l) (ty : TypeId) : (Builtin.len_ #[75] ty #[.map (some b)]).run Try.prog w = .ok (.int .i64 (l.length : Int)) w := by
 obtain ⟨es, ck, h1, h2⟩ := h
 have := h2.len
 simp only [Array.length_toList] at this
 simp [Builtin.len_, run_underlying Try.underlying75, MapKept.run_getObj_map h1, Result.andThen, this, goInt]
end Go.Proofs.Ytogmdfhicbmplaa
namespace Go.Proofs.Ytogmdfhicbmplaa
open Go.RowKit Go.Sort

end Go.Proofs.Ytogmdfhicbmplaa
namespace Go.Proofs.Ytogmdfhicbmplaa
open Go.RowKit
set_option linter.unusedSimpArgs false
set_option linter.unusedVariables false

/-! ### Lists of hashes that grow. -/
/-- The slice v owns these hashes: they stand at the head of a block. -/
def OwnH (w : World) (v : Value) (l : List Hs) : Prop := w.ownsRow 0 36 32 v l.length (flatH l)
theorem OwnH.form {w : World} {v : Value} {l : List Hs} (h : OwnH w v l) : (v = .slice none 0 0 ∧ l = []) ∨ ∃ g cap cur, v = .slice (some ⟨g, 0, none⟩) l.length cap ∧ Blk w g 36 cur ∧ l.length ≤ cap ∧ cur.toList.take (l.length * 32) = flatH l := by
 rcases h.2 with ⟨rfl, h0⟩ | ⟨g, cap, cur, rfl, _, h3, h4, h5, h6, h7⟩
 ·exact .inl ⟨rfl, List.eq_nil_of_length_eq_zero h0⟩
 ·exact .inr ⟨g, cap, cur, rfl, h3, h4, h7⟩
theorem OwnH.row {w : World} {v : Value} {l : List Hs} (h : OwnH w v l) : HRow w v l := HRow.of_owns h
theorem OwnH.sl {w : World} {v : Value} {l : List Hs} (h : OwnH w v l) : ∃ a c, v = .slice a l.length c := h.row.form
theorem OwnH.lt {w : World} {v : Value} {l : List Hs} (h : OwnH w v l) : ∀ k, v.ownBlock = some k → k < w.heap.size := fun k hk => (World.ownsRow.lt h k hk).2
theorem OwnH.grown {w w' : World} {v : Value} {l : List Hs} {S : Nat → Prop} (h : OwnH w v l) (hg : Grown w w' S) (hs : ∀ k, v.ownBlock = some k → ¬ S k) : OwnH w' v l := by
 refine ⟨h.1, ?_⟩
 rcases h.2 with h1 | ⟨g, cap, cur, rfl, h2, h3, h4⟩
 ·exact .inl h1
 ·exact .inr ⟨g, cap, cur, rfl, h2, hg.blk h3 (hs g rfl), h4⟩
theorem OwnH.below {w w' : World} {v : Value} {l : List Hs} (h : OwnH w v l) (hb : Below w.heap.size w w') : OwnH w' v l := h.grown (Grown.below (S := fun _ => False) hb) fun _ _ h => h
theorem ownH_empty (w : World) : OwnH (w.alloc (.cells #[] 36)) (.slice (some ⟨w.heap.size, 0, none⟩) 0 0) [] :=
 ⟨rfl, .inr ⟨w.heap.size, 0, #[], rfl, Nat.zero_le _, Blk.new w 36 #[], Nat.le_refl _, by decide, rfl, rfl⟩⟩
theorem Try.infoH : (Try.prog.info? 36).map (fun i => (i.zero, i.size, i.bytes)) = some (some (.agg (bytesA 32 fun _ => 0)), 32, 32) := by kernel_rfl
theorem run_appH (w : World) (ty : TypeId) (v : Value) (l : List Hs) (hown : OwnH w v l) (g : Nat) (x : Hs) (hg : Blk w g 36 (bytesA 32 x.f)) (hb : l.length ≤ 1000000000000) :
  ∃ v' w', (Builtin.append_ #[37, 37] ty #[v, .slice (some ⟨g, 0, none⟩) 1 1]).run Try.prog w = .ok v' w' ∧ OwnH w' v' (l ++ [x]) ∧ (Grown w w' fun k => v.ownBlock = some k) ∧ Moved w v v' := by
 obtain ⟨i, hi, hzz⟩ := Option.map_eq_some_iff.1 Try.infoH
 simp only [Prod.mk.injEq] at hzz
 obtain ⟨hz, hsz, hby⟩ := hzz
 have hzs : (Value.agg (bytesA 32 fun _ => 0)).cells.size = 32 := by show (bytesA 32 fun _ => 0).size = 32; exact bytesA_size _ _
 obtain ⟨v', w', hr, h1, h2, _, h3⟩ := run_append_own_at (P := Try.prog) w 0 37 ty 36 i (.agg (bytesA 32 fun _ => 0)) 32 32 Try.underlying37 hi hz hsz hby hzs (by omega) v l.length (flatH l) hown ⟨g, 0, none⟩ 1 1 (encH x) (by rw [encH_len]) (fun j u hu => by
   rw [Addr.add_mid, Nat.zero_add, hg.cell, ← Array.getElem?_toList]
   exact hu)
  (fun u hu => encH_one x u hu) (by unfold maxLen; omega) (by omega) (Nat.zero_le _)
 refine ⟨v', w', hr, ?_, Grown.of h2 fun k _ e => e, ?_⟩
 ·unfold OwnH
  rw [List.length_append, flatH_app, show flatH [x] = encH x by simp [flatH]]
  exact h1
 ·rcases h3 with h3 | h3
  ·exact .inl h3
  ·exact .inr ⟨_, h3, Nat.le_refl _⟩
theorem WL.appH {ops : Array Oper} {rest : List Oper} {o : Oper} {a : Act} {w : World} {Q : Exit → Act → World → Prop} (hw : Region.wanted o (yielded ops a.tmps) = true) (s x : Operand)
  (ho : o.op = .call { callee := .builtin .append, args := #[s, x], argTypes := #[37, 37] }) (v : Value) (l : List Hs) (g : Nat) (y : Hs)
  (hs : a.eval s = v) (hx : a.eval x = .slice (some ⟨g, 0, none⟩) 1 1) (hown : OwnH w v l) (hg : Blk w g 36 (bytesA 32 y.f)) (hb : l.length ≤ 1000000000000)
  (h : ∀ v' w', OwnH w' v' (l ++ [y]) → (Grown w w' fun k => v.ownBlock = some k) → Moved w v v' → WL Try.prog ops Q rest (a.put o.dst v') w') : WL Try.prog ops Q (o :: rest) a w :=
 ⟨wpList_wanted hw fun K hK => by
  obtain ⟨v', w', hr, h1, h2, h3⟩ := run_appH w o.type v l hown g y hg hb
  unfold Oper.wp execOp
  simp only [ho, resolve, invoke, builtin, Sem.run_bind, Sem.run_pure, Result.andThen_ok, List.map_toArray, List.map_cons, List.map_nil, hs, hx, hr]
  exact hK _ _ (h v' w' h1 h2 h3).out⟩
theorem bsH (x : Hs) (w : World) : (Instr.buildSlice 37 1 #[(0, .agg (bytesA 32 x.f))]).run Try.prog w = .ok (.slice (some ⟨w.heap.size, 0, none⟩) 1 1) (w.alloc (.cells (bytesA 32 x.f) 36)) := by kernel_rfl
theorem bsHE (w : World) : (Instr.buildSlice 37 0 #[]).run Try.prog w = .ok (.slice (some ⟨w.heap.size, 0, none⟩) 0 0) (w.alloc (.cells #[] 36)) := by kernel_rfl
theorem ownH_nil (w : World) : OwnH w (.slice none 0 0) [] := ownsH_nil w 0
theorem OwnH.typ {w : World} {v : Value} {l : List Hs} (h : OwnH w v l) {k : Nat} (hk : v.ownBlock = some k) : Typ w k 36 := by
 rcases h.form with ⟨rfl, _⟩ | ⟨g, cap, cur, rfl, h3, _⟩
 ·simp [Value.ownBlock] at hk
 ·simp [Value.ownBlock] at hk
  subst hk
  exact h3.typ
/-- A Dag: where its parts lie, and what they hold. -/
structure DG where
 room : Int
 hb : Nat
 wb : Nat
 hv : Value
 ov : Value
 qv : Value
 held : List VX
 wait : List VX
 heads : List Hs
 order : List Hs
 queue : List Hs
def dgA (g : DG) : Array Value := #[.int .i64 g.room, .map (some g.hb), g.hv, g.ov, .map (some g.wb), g.qv]
/-- The blocks that a Dag writes to. -/
def DgS (d : Nat) (g : DG) (k : Nat) : Prop := k = d ∨ k = g.hb ∨ k = g.wb ∨ g.hv.ownBlock = some k ∨ g.ov.ownBlock = some k ∨ g.qv.ownBlock = some k
structure DagAt (w : World) (Av : Nat → Prop) (d : Nat) (g : DG) : Prop where
 blk : Blk w d 77 (dgA g)
 held : MpAt w Av g.hb g.held
 wait : MpAt w Av g.wb g.wait
 oh : OwnH w g.hv g.heads
 oo : OwnH w g.ov g.order
 oq : OwnH w g.qv g.queue
 mm : g.hb ≠ g.wb
 ho : ∀ k, g.hv.ownBlock = some k → g.ov.ownBlock ≠ some k
 hq : ∀ k, g.hv.ownBlock = some k → g.qv.ownBlock ≠ some k
 oq' : ∀ k, g.ov.ownBlock = some k → g.qv.ownBlock ≠ some k
 av : ∀ k, DgS d g k → Av k
 lt : ∀ k, Av k → k < w.heap.size
theorem DagAt.grown {w w' : World} {Av Av' S : Nat → Prop} {d : Nat} {g : DG} (h : DagAt w Av d g) (hg : Grown w w' S) (hn : ∀ k, S k → ¬ DgS d g k) (hS : ∀ k, k < w.heap.size → S k → Av k) (hA : ∀ k, k < w.heap.size → Av' k → Av k) (ha : ∀ k, DgS d g k → Av' k) (hl : ∀ k, Av' k → k < w'.heap.size) : DagAt w' Av' d g :=
 ⟨hg.blk h.blk fun e => hn _ e (.inl rfl), h.held.grown hg (fun e => hn _ e (.inr (.inl rfl))) hS hA, h.wait.grown hg (fun e => hn _ e (.inr (.inr (.inl rfl)))) hS hA,
  h.oh.grown hg (fun k hk e => hn _ e (.inr (.inr (.inr (.inl hk))))), h.oo.grown hg (fun k hk e => hn _ e (.inr (.inr (.inr (.inr (.inl hk)))))), h.oq.grown hg (fun k hk e => hn _ e (.inr (.inr (.inr (.inr (.inr hk)))))), h.mm, h.ho, h.hq, h.oq', ha, hl⟩
theorem DagAt.below {w w' : World} {Av : Nat → Prop} {d : Nat} {g : DG} (h : DagAt w Av d g) (hb : Below w.heap.size w w') : DagAt w' Av d g :=
 h.grown (Grown.below (S := fun _ => False) hb) (fun _ e => e.elim) (fun _ _ e => e.elim) (fun _ _ e => e) h.av fun k hk => Nat.lt_of_lt_of_le (h.lt k hk) hb.size
theorem DagAt.drew {w : World} {Av : Nat → Prop} {d : Nat} {g : DG} (h : DagAt w Av d g) : DagAt w.drew Av d g := h.below (Below.refl _ _).drew
end Go.Proofs.Ytogmdfhicbmplaa
namespace Go.Proofs.Ytogmdfhicbmplaa
open Go.RowKit
set_option linter.unusedSimpArgs false
set_option linter.unusedVariables false

theorem wp_newA {P : Program} {o : Oper} {a : Act} {w : World} {K : Act → World → Prop} {Q : Exit → Act → World → Prop} (t : TypeId) (ho : o.op = .alloc t) (cells : Array Value)
  (hf : ∀ w : World, (Instr.alloc t true (.tuple #[])).run P w = .ok (.pointer (some ⟨w.heap.size, 0, none⟩)) (w.alloc (.cells cells t)))
  (h : K (a.put o.dst (.pointer (some ⟨w.heap.size, 0, none⟩))) (w.alloc (.cells cells t))) : o.wp P a w K Q := by
 unfold Oper.wp execOp
 simp only [ho, Sem.run_bind, hf w, Result.andThen_ok]
 exact h
theorem wp_cellS {P : Program} {Q : Exit → Act → World → Prop} {o : Oper} {a : Act} {w : World} {K : Act → World → Prop} (w' : World) (hrun : (execOp a.eval o).run P w = .ok .skip w') (h : K (a.put o.dst undef) w') : o.wp P a w K Q := by
 unfold Oper.wp; rw [hrun, Oper.upon_skip]; exact h
theorem yieldsIf_look {ops : Array Oper} {S : World → Prop} {op : Oper} {a : Act} (hw : Region.wanted op (yielded ops a.tmps) = true) (m k : Operand) (c : Bool) (ho : op.op = .lookup 75 m k c) (b : Nat) (x : Nat → Int) (hm : a.eval m = .map (some b)) (hk : a.eval k = .agg (bytesA 32 x)) (v : Value)
  (hS : ∀ w, S w → (Instr.lookup 75 (.map (some b)) (.agg (bytesA 32 x)) c).run Try.prog w = .ok v w) : YieldsIf Try.prog ops S op v a :=
 .inl ⟨hw, fun w hw' => by unfold execOp; simp only [ho, hm, hk, Sem.run_bind, hS w hw', Result.andThen_ok]; rfl⟩
theorem Try.info39s (c : Nat → Int) (k : Int) (p : Value) : (Try.prog.info? 39).map (·.size) = some (vtx c k p).size := by rw [vtx_size]; exact Try.size39
theorem size36B (c : Nat → Int) : (Try.prog.info? 36).map (·.size) = some (bytesA 32 c).toList.length := by rw [Array.length_toList, bytesA_size]; exact Try.size36
theorem yieldsIf_ld {ops : Array Oper} {S : World → Prop} {op : Oper} {a : Act} (hw : Region.wanted op (yielded ops a.tmps) = true) (x : Operand) (ty : TypeId) (ho : op.op = .load ty x) (b o : Nat) (hx : a.eval x = .pointer (some ⟨b, o, none⟩)) (cs : Array Value) (d : TypeDesc) (hu : Try.prog.underlying ty = some d) (hd : d.isRow = true) (hi : (Try.prog.info? ty).map (·.size) = some cs.size) (hS : ∀ w, S w → w.rangeAt b o cs.toList) : YieldsIf Try.prog ops S op (.agg cs) a := by
 have h := yieldsIf_load_mid (P := Try.prog) (ops := ops) (S := S) (op := op) (a := a) hw ty x ho b o hx cs.toList d hS hu hd (by rw [Array.length_toList]; exact hi)
 rw [Array.toArray_toList] at h
 exact h
theorem size36A (c : Nat → Int) : (Try.prog.info? 36).map (·.size) = some (bytesA 32 c).size := by rw [bytesA_size]; exact Try.size36
theorem Try.mkmap (w : World) : (Instr.makeMap 75 none).run Try.prog w = .ok (.map (some w.heap.size)) (w.alloc (.map #[] 0)) := rfl
theorem slice_one (a : Option Addr) (n c : Nat) : (Value.slice a n c).oneCell' = true := rfl
theorem blk_rng {w : World} {b : Nat} {T : TypeId} {cs : Array Value} (h : Blk w b T cs) : w.rangeAt b 0 cs.toList := blk_range h
theorem Try.in10 (w : World) (vs : Array Value) : (callFunc 10 vs).run Try.prog w = .ok (.enter 10 vs) w := by kernel_rfl
theorem Try.in45 (w : World) (vs : Array Value) : (callFunc 45 vs).run Try.prog w = .ok (.enter 45 vs) w := by kernel_rfl
theorem Try.in47 (w : World) (vs : Array Value) : (callFunc 47 vs).run Try.prog w = .ok (.enter 47 vs) w := by kernel_rfl
theorem Try.in27 (w : World) (vs : Array Value) : (callFunc 27 vs).run Try.prog w = .ok (.enter 27 vs) w := by kernel_rfl
theorem Try.in36 (w : World) (vs : Array Value) : (callFunc 36 vs).run Try.prog w = .ok (.enter 36 vs) w := by kernel_rfl
theorem belowT {a b c : World} (h : Below a.heap.size a b) (h2 : Below b.heap.size b c) : Below a.heap.size a c := h.trans ⟨h2.os, h2.tape, h2.output, h2.size, fun k hk => h2.block k (Nat.lt_of_lt_of_le hk h.size)⟩
theorem dag_new (r : Int) (w : World) : DagAt (((w.alloc (.map #[] 0)).alloc (.map #[] 0)).alloc (.cells #[.int .i64 r, .map (some w.heap.size), .slice none 0 0, .slice none 0 0, .map (some (w.alloc (.map #[] 0)).heap.size), .slice none 0 0] 77)) (DgS ((w.alloc (.map #[] 0)).alloc (.map #[] 0)).heap.size ⟨r, w.heap.size, (w.alloc (.map #[] 0)).heap.size, .slice none 0 0, .slice none 0 0, .slice none 0 0, [], [], [], [], []⟩) ((w.alloc (.map #[] 0)).alloc (.map #[] 0)).heap.size ⟨r, w.heap.size, (w.alloc (.map #[] 0)).heap.size, .slice none 0 0, .slice none 0 0, .slice none 0 0, [], [], [], [], []⟩ := by
 have b1 := below_new w (.map #[] 0)
 have b2 := below_new (w.alloc (.map #[] 0)) (.map #[] 0)
 have b3 := below_new ((w.alloc (.map #[] 0)).alloc (.map #[] 0)) (.cells #[.int .i64 r, .map (some w.heap.size), .slice none 0 0, .slice none 0 0, .map (some (w.alloc (.map #[] 0)).heap.size), .slice none 0 0] 77)
 refine ⟨Blk.new _ _ _, ?_, ?_, ownH_nil _, ownH_nil _, ownH_nil _, ?_, ?_, ?_, ?_, fun _ h => h, ?_⟩
 ·refine ⟨#[], 0, ?_, trivial⟩
  rw [b3.block _ (by simp; omega), b2.block _ (by simp)]; exact heap_alloc_new w _
 ·refine ⟨#[], 0, ?_, trivial⟩
  rw [b3.block _ (by simp)]; exact heap_alloc_new _ _
 ·simp
 ·intro k h; cases h
 ·intro k h; cases h
 ·intro k h; cases h
 ·rintro k (rfl | rfl | rfl | h | h | h)
  ·simp
  ·simp; omega
  ·simp
  ·cases h
  ·cases h
  ·cases h
theorem dgS_new {r : Int} {w : World} {k : Nat} (h : DgS ((w.alloc (.map #[] 0)).alloc (.map #[] 0)).heap.size ⟨r, w.heap.size, (w.alloc (.map #[] 0)).heap.size, .slice none 0 0, .slice none 0 0, .slice none 0 0, [], [], [], [], []⟩ k) : w.heap.size ≤ k := by
 rcases h with rfl | rfl | rfl | h | h | h
 ·simp; omega
 ·simp
 ·simp
 ·cases h
 ·cases h
 ·cases h
theorem new_any (r : Int) (w : World) : Calls Try.prog 10 #[.int .i64 r] w fun e w' =>
  ((r < 0 ∨ 64 < r) ∧ e = .returned (.tuple #[.pointer none, .int .i64 1]) ∧ w' = w) ∨
  (¬ (r < 0 ∨ 64 < r) ∧ ∃ d g, e = .returned (.tuple #[ptr d, .int .i64 0]) ∧ DagAt w' (DgS d g) d g ∧ g.room = r ∧ g.held = [] ∧ g.wait = [] ∧ g.heads = [] ∧ g.order = [] ∧ g.queue = [] ∧ Below w.heap.size w w' ∧ ∀ k, DgS d g k → w.heap.size ≤ k) := by
 go_enter Try.func10, Try.ntmps10
 refine wp_seq_k fun K1 hK1 => rgn ?_
 refine VlS (.pointer none) ?_
 refine VlS (.int .i64 0) ?_
 refine WL.nil (hK1 _ _ ?_)
 refine wp_seq_k fun K2 hK2 => ?_
 refine wp_seq_k fun K3 hK3 => rgn ?_
 refine VlS (.int .i64 r) ?_
 by_cases h1_1 : r < 0
 ·skip
  refine VlS (.bool true) ?_
  refine VlS (.bool true) ?_
  refine SkS ?_
  refine SkS ?_
  refine VlS (.bool true) ?_
  refine WL.nil (hK3 _ _ ?_)
  refine wp_cond_true rfl ?_
  refine wp_seq_k fun K4 hK4 => rgn ?_
  refine VlS (.pointer none) ?_
  refine VlS (.int .i64 1) ?_
  refine WL.nil (hK4 _ _ ?_)
  refine wp_ret ?_
  go_ret2
  exact .inl ⟨by omega, rfl, rfl⟩
 ·skip
  refine VlS (.bool false) ?_
  refine VlS (.bool false) ?_
  refine VlS (.int .i64 r) ?_
  by_cases h1_4 : 64 < r
  ·skip
   refine VlS (.bool true) ?_
   refine VlS (.bool true) ?_
   refine WL.nil (hK3 _ _ ?_)
   refine wp_cond_true rfl ?_
   refine wp_seq_k fun K5 hK5 => rgn ?_
   refine VlS (.pointer none) ?_
   refine VlS (.int .i64 1) ?_
   refine WL.nil (hK5 _ _ ?_)
   refine wp_ret ?_
   go_ret2
   exact .inl ⟨by omega, rfl, rfl⟩
  ·skip
   refine VlS (.bool false) ?_
   refine VlS (.bool false) ?_
   refine WL.nil (hK3 _ _ ?_)
   refine wp_cond_false rfl ?_
   refine wp_skip ?_
   refine hK2 _ _ ?_
   refine wp_seq_k fun K6 hK6 => rgn ?_
   refine VlS (.int .i64 r) ?_
   refine WL.valW (by kernel_rfl) (.map (some w.heap.size)) (w.alloc (.map #[] 0)) (by go_simp; rw [Try.mkmap]; rfl) ?_
   simp only [Act.put, pqA, pqB, pqC]
   obtain ⟨w1, hw1⟩ : ∃ wx, Keep (wx = w.alloc (.map #[] 0)) := ⟨_, ⟨rfl⟩⟩
   rw [← hw1.out]
   refine WL.valW (by kernel_rfl) (.map (some w1.heap.size)) (w1.alloc (.map #[] 0)) (by go_simp; rw [Try.mkmap]; rfl) ?_
   simp only [Act.put, pqA, pqB, pqC]
   refine WL.bld (by kernel_rfl) 77 _ rfl [(0, .int .i64 r), (1, .map (some w.heap.size)), (4, .map (some w1.heap.size))] (by simp [Act.eval]) (#[.int .i64 r, .map (some w.heap.size), .slice none 0 0, .slice none 0 0, .map (some w1.heap.size), .slice none 0 0]) (by kernel_rfl) ?_
   simp only [Act.put, pqA, pqB, pqC]
   obtain ⟨w2, hw2⟩ : ∃ wx, Keep (wx = w1.alloc (.map #[] 0)) := ⟨_, ⟨rfl⟩⟩
   rw [← hw2.out]
   refine WL.box (by kernel_rfl) 77 (.tmp 13) rfl (#[.int .i64 r, .map (some w.heap.size), .slice none 0 0, .slice none 0 0, .map (some w1.heap.size), .slice none 0 0]) rfl ?_
   simp only [Act.put, pqA, pqB, pqC]
   refine VlS (.pointer (some ⟨w2.heap.size, 0, none⟩)) ?_
   refine VlS (.int .i64 0) ?_
   refine WL.nil (hK6 _ _ ?_)
   refine wp_ret ?_
   go_ret2
   refine .inr ⟨by omega, w2.heap.size, ⟨r, w.heap.size, w1.heap.size, .slice none 0 0, .slice none 0 0, .slice none 0 0, [], [], [], [], []⟩, rfl, ?_, rfl, rfl, rfl, rfl, rfl, rfl, ?_, ?_⟩
   all_goals rw [hw2.out, hw1.out]
   ·exact dag_new r w
   ·exact belowT (belowT (below_new w _) (below_new _ _)) (below_new _ _)
   ·intro k hk; exact dgS_new hk
set_option maxRecDepth 8000 in
set_option maxHeartbeats 400000 in
theorem has_any (d : Nat) (x : Hs) (Av : Nat → Prop) (g : DG) (w : World) (hD : DagAt w Av d g) : Calls Try.prog 45 #[ptr d, .agg (bytesA 32 x.f)] w fun e w' => e = .returned (.bool (g.held.find? (isV x)).isSome) ∧ Below w.heap.size w w' := by
 have HD := Keep.mk hD
 clear hD
 go_enter Try.func45, Try.ntmps45
 refine wp_seq_k fun K1 hK1 => rgn ?_
 refine WL.box (by kernel_rfl) 36 (.tmp 1) rfl (bytesA 32 x.f) rfl ?_
 obtain ⟨w1, hwn⟩ : ∃ wx, Keep (wx = w.alloc (.cells (bytesA 32 x.f) 36)) := ⟨_, ⟨rfl⟩⟩
 rw [← hwn.out]
 have HX1 : Keep (Blk w1 w.heap.size 36 (bytesA 32 x.f)) := ⟨by rw [hwn.out]; exact Blk.new _ _ _⟩
 have LB1 : Keep (Below w.heap.size w w1) := ⟨by rw [hwn.out]; exact below_new _ _⟩
 clear hwn
 simp only [Act.put, pqA, pqB, pqC]
 refine VlS (.bool false) ?_
 refine WL.nil (hK1 _ _ ?_)
 refine wp_seq_k fun K2 hK2 => ?_
 have HD1 := Keep.mk (HD.out.below LB1.out)
 obtain ⟨es, ck, c0, k0, pa, pn, pm, hes, hl1, hl2, hcs⟩ := look1 HD1.out.held x
 obtain ⟨vv, hvv⟩ : ∃ a : Array Value, Keep (a = vtx c0 k0 (.slice pa pn pm)) := ⟨_, ⟨rfl⟩⟩
 obtain ⟨vz, hvz⟩ : ∃ a : Array Value, Keep (a = vtx (fun _ => 0) 0 (.slice none 0 0)) := ⟨_, ⟨rfl⟩⟩
 rw [← hvv.out] at hl1
 have H1 := Keep.mk hl1
 have hSB : Keep (∀ wx, Below w1.heap.size w1 wx → (fun wx => wx.cell? ⟨d, 1, none⟩ = some (.map (some g.hb)) ∧ wx.rangeAt w.heap.size 0 (bytesA 32 x.f).toList ∧ wx.heap[g.hb]? = some (.map es ck)) wx) := ⟨fun wx hb => ⟨(HD1.out.blk.below hb HD1.out.blk.lt).c 1 rfl, blk_rng (HX1.out.below hb HX1.out.lt), by rw [hb.block _ (Array.getElem?_eq_some_iff.1 hes).1]; exact hes⟩⟩
 have B1 : Keep (Below w1.heap.size w1 w1.drew) := ⟨(Below.refl _ _).drew⟩
 clear hl1 hl2 hcs hes
 refine wp_region_held_drew (S := fun wx => wx.cell? ⟨d, 1, none⟩ = some (.map (some g.hb)) ∧ wx.rangeAt w.heap.size 0 (bytesA 32 x.f).toList ∧ wx.heap[g.hb]? = some (.map es ck)) (by kernel_rfl) (hSB.out _ B1.out) (fun hHeld => ?_)
 refine tkS (i := 0) (oi := ⟨some 8, Op.move (Operand.tmp 0), 27, _, _, none⟩) (v := .pointer (some ⟨d, 0, none⟩)) rfl (Or.inl ⟨by rfl, fun w hS => by obtain ⟨hS1, hS2, hS3⟩ := hS; go_simp⟩) hHeld ?_
 refine tkS (i := 1) (oi := ⟨some 9, Op.nilCheck (Operand.tmp 8), 0, _, _, none⟩) (v := .pointer (some ⟨d, 0, none⟩)) rfl (Or.inl ⟨by rfl, fun w hS => by obtain ⟨hS1, hS2, hS3⟩ := hS; go_simp⟩) hHeld ?_
 refine tkS (i := 2) (oi := ⟨some 10, Op.fieldAddr 77 (Operand.tmp 9) 1, 0, _, _, none⟩) (v := .pointer (some ⟨d, 1, none⟩)) rfl (Or.inl ⟨by rfl, fun w hS => by obtain ⟨hS1, hS2, hS3⟩ := hS; go_simp⟩) hHeld ?_
 refine tkS (i := 3) (oi := ⟨some 11, Op.load 75 (Operand.tmp 10), 75, _, _, none⟩) (v := .map (some g.hb)) rfl (Or.inl ⟨by rfl, fun w hS => by obtain ⟨hS1, hS2, hS3⟩ := hS; go_simp⟩) hHeld ?_
 refine tkS (i := 4) (oi := ⟨some 12, Op.load 36 (Operand.tmp 3), 36, _, _, none⟩) (v := .agg (bytesA 32 x.f)) rfl (yieldsIf_ld (by rfl) (Operand.tmp 3) 36 rfl w.heap.size 0 rfl (bytesA 32 x.f) _ Try.underlying36 rfl (size36A _) fun w hS => hS.2.1) hHeld ?_
 refine tkS (i := 5) (oi := ⟨some 13, Op.lookup 75 (Operand.tmp 11) (Operand.tmp 12) true, 72, _, _, none⟩) (v := .tuple #[.agg vv, .bool (g.held.find? (isV x)).isSome]) rfl (yieldsIf_look (by rfl) (Operand.tmp 11) (Operand.tmp 12) true rfl g.hb x.f rfl rfl _ fun wx hS => H1.out wx hS.2.2) hHeld ?_
 refine tkS (i := 6) (oi := ⟨some 7, Op.move (Operand.tmp 13), 72, _, _, none⟩) (v := .tuple #[.agg vv, .bool (g.held.find? (isV x)).isSome]) rfl (Or.inl ⟨by rfl, fun w hS => by obtain ⟨hS1, hS2, hS3⟩ := hS; go_simp⟩) hHeld ?_
 refine tkS (i := 7) (oi := ⟨some 14, Op.extract (Operand.tmp 7) 0, 39, _, _, none⟩) (v := .agg vv) rfl (Or.inl ⟨by rfl, fun w hS => by obtain ⟨hS1, hS2, hS3⟩ := hS; go_simp⟩) hHeld ?_
 refine tkS (i := 8) (oi := ⟨some 15, Op.extract (Operand.tmp 7) 1, 4, _, _, none⟩) (v := .bool (g.held.find? (isV x)).isSome) rfl (Or.inl ⟨by rfl, fun w hS => by obtain ⟨hS1, hS2, hS3⟩ := hS; go_simp⟩) hHeld ?_
 refine wpAnyH_ready (rs := [9]) (by kernel_rfl) (by simp) ?_
 refine AllReadyH.cons (o := ⟨some 5, Op.alloc 39, 0, _, _, none⟩) rfl (fun K hK => ?_) AllReadyH.nil
 rw [if_pos (by rfl)]
 refine wp_newA 39 rfl vz (by rw [hvz.out]; exact Try.new39) ?_
 have B2 := Keep.mk (B1.out.alloc (Nat.le_refl _) (.cells vz 39))
 obtain ⟨w2, hw2⟩ : ∃ wx, Keep (wx = w1.drew.alloc (.cells vz 39)) := ⟨_, ⟨rfl⟩⟩
 rw [← hw2.out]
 have HB2 : Keep (Blk w2 w1.drew.heap.size 39 vz) := ⟨by rw [hw2.out]; exact Blk.new _ _ _⟩
 have B2 : Keep (Below w1.heap.size w1 w2) := ⟨by rw [hw2.out]; exact B2.out⟩
 have hL1 : Keep (w1.heap.size ≤ w1.drew.heap.size) := ⟨Nat.le_refl _⟩
 clear hw2
 generalize w1.drew.heap.size = n1 at *
 refine hK _ _ (hSB.out _ B2.out) fun hH1 => ?_
 clear hK
 simp only [Act.put, pqA, pqB, pqC]
 refine wpAnyH_ready (rs := [10]) (by kernel_rfl) (by simp) ?_
 refine AllReadyH.cons (o := ⟨none, Op.store 39 (Operand.tmp 5) (Operand.tmp 14), 0, _, _, none⟩) rfl (fun K hK => ?_) AllReadyH.nil
 rw [if_pos (by rfl)]
 refine wp_store_row 39 (Operand.tmp 5) (Operand.tmp 14) rfl n1 vv rfl rfl 39 vz HB2.out (by rw [hvv.out]; exact Try.info39s _ _ _) (by rw [hvv.out, hvz.out, vtx_size, vtx_size]) (by rw [hvv.out]; exact vtx_one _ _ _ (slice_one _ _ _)) ?_
 have B3 := Keep.mk (below_setRow B2.out hL1.out vv)
 refine hK _ _ (hSB.out _ B3.out) fun hH2 => ?_
 clear hK
 simp only [Act.put, pqA, pqB, pqC]
 refine tkS (i := 11) (oi := ⟨some 6, Op.assign (Operand.tmp 15), 4, _, _, none⟩) (v := .bool (g.held.find? (isV x)).isSome) rfl (Or.inl ⟨by rfl, fun w hS => by obtain ⟨hS1, hS2, hS3⟩ := hS; go_simp⟩) hH2 ?_
 refine wpAnyH_done (by kernel_rfl) ?_ _
 refine hK2 _ _ ?_
 refine wp_seq_k fun K3 hK3 => rgn ?_
 refine VlS (.bool (g.held.find? (isV x)).isSome) ?_
 refine VlS (.bool (g.held.find? (isV x)).isSome) ?_
 refine WL.nil (hK3 _ _ ?_)
 refine wp_ret ?_
 go_ret
 exact ⟨rfl, belowT LB1.out B3.out⟩
set_option maxRecDepth 8000 in
set_option maxHeartbeats 400000 in
theorem waits_any (d : Nat) (x : Hs) (Av : Nat → Prop) (g : DG) (w : World) (hD : DagAt w Av d g) : Calls Try.prog 47 #[ptr d, .agg (bytesA 32 x.f)] w fun e w' => e = .returned (.bool (g.wait.find? (isV x)).isSome) ∧ Below w.heap.size w w' := by
 have HD := Keep.mk hD
 clear hD
 go_enter Try.func47, Try.ntmps47
 refine wp_seq_k fun K1 hK1 => rgn ?_
 refine WL.box (by kernel_rfl) 36 (.tmp 1) rfl (bytesA 32 x.f) rfl ?_
 obtain ⟨w1, hwn⟩ : ∃ wx, Keep (wx = w.alloc (.cells (bytesA 32 x.f) 36)) := ⟨_, ⟨rfl⟩⟩
 rw [← hwn.out]
 have HX1 : Keep (Blk w1 w.heap.size 36 (bytesA 32 x.f)) := ⟨by rw [hwn.out]; exact Blk.new _ _ _⟩
 have LB1 : Keep (Below w.heap.size w w1) := ⟨by rw [hwn.out]; exact below_new _ _⟩
 clear hwn
 simp only [Act.put, pqA, pqB, pqC]
 refine VlS (.bool false) ?_
 refine WL.nil (hK1 _ _ ?_)
 refine wp_seq_k fun K2 hK2 => ?_
 have HD1 := Keep.mk (HD.out.below LB1.out)
 obtain ⟨es, ck, c0, k0, pa, pn, pm, hes, hl1, hl2, hcs⟩ := look1 HD1.out.wait x
 obtain ⟨vv, hvv⟩ : ∃ a : Array Value, Keep (a = vtx c0 k0 (.slice pa pn pm)) := ⟨_, ⟨rfl⟩⟩
 obtain ⟨vz, hvz⟩ : ∃ a : Array Value, Keep (a = vtx (fun _ => 0) 0 (.slice none 0 0)) := ⟨_, ⟨rfl⟩⟩
 rw [← hvv.out] at hl1
 have H1 := Keep.mk hl1
 have hSB : Keep (∀ wx, Below w1.heap.size w1 wx → (fun wx => wx.cell? ⟨d, 4, none⟩ = some (.map (some g.wb)) ∧ wx.rangeAt w.heap.size 0 (bytesA 32 x.f).toList ∧ wx.heap[g.wb]? = some (.map es ck)) wx) := ⟨fun wx hb => ⟨(HD1.out.blk.below hb HD1.out.blk.lt).c 4 rfl, blk_rng (HX1.out.below hb HX1.out.lt), by rw [hb.block _ (Array.getElem?_eq_some_iff.1 hes).1]; exact hes⟩⟩
 have B1 : Keep (Below w1.heap.size w1 w1.drew) := ⟨(Below.refl _ _).drew⟩
 clear hl1 hl2 hcs hes
 refine wp_region_held_drew (S := fun wx => wx.cell? ⟨d, 4, none⟩ = some (.map (some g.wb)) ∧ wx.rangeAt w.heap.size 0 (bytesA 32 x.f).toList ∧ wx.heap[g.wb]? = some (.map es ck)) (by kernel_rfl) (hSB.out _ B1.out) (fun hHeld => ?_)
 refine tkS (i := 0) (oi := ⟨some 8, Op.move (Operand.tmp 0), 27, _, _, none⟩) (v := .pointer (some ⟨d, 0, none⟩)) rfl (Or.inl ⟨by rfl, fun w hS => by obtain ⟨hS1, hS2, hS3⟩ := hS; go_simp⟩) hHeld ?_
 refine tkS (i := 1) (oi := ⟨some 9, Op.nilCheck (Operand.tmp 8), 0, _, _, none⟩) (v := .pointer (some ⟨d, 0, none⟩)) rfl (Or.inl ⟨by rfl, fun w hS => by obtain ⟨hS1, hS2, hS3⟩ := hS; go_simp⟩) hHeld ?_
 refine tkS (i := 2) (oi := ⟨some 10, Op.fieldAddr 77 (Operand.tmp 9) 4, 0, _, _, none⟩) (v := .pointer (some ⟨d, 4, none⟩)) rfl (Or.inl ⟨by rfl, fun w hS => by obtain ⟨hS1, hS2, hS3⟩ := hS; go_simp⟩) hHeld ?_
 refine tkS (i := 3) (oi := ⟨some 11, Op.load 75 (Operand.tmp 10), 75, _, _, none⟩) (v := .map (some g.wb)) rfl (Or.inl ⟨by rfl, fun w hS => by obtain ⟨hS1, hS2, hS3⟩ := hS; go_simp⟩) hHeld ?_
 refine tkS (i := 4) (oi := ⟨some 12, Op.load 36 (Operand.tmp 3), 36, _, _, none⟩) (v := .agg (bytesA 32 x.f)) rfl (yieldsIf_ld (by rfl) (Operand.tmp 3) 36 rfl w.heap.size 0 rfl (bytesA 32 x.f) _ Try.underlying36 rfl (size36A _) fun w hS => hS.2.1) hHeld ?_
 refine tkS (i := 5) (oi := ⟨some 13, Op.lookup 75 (Operand.tmp 11) (Operand.tmp 12) true, 72, _, _, none⟩) (v := .tuple #[.agg vv, .bool (g.wait.find? (isV x)).isSome]) rfl (yieldsIf_look (by rfl) (Operand.tmp 11) (Operand.tmp 12) true rfl g.wb x.f rfl rfl _ fun wx hS => H1.out wx hS.2.2) hHeld ?_
 refine tkS (i := 6) (oi := ⟨some 7, Op.move (Operand.tmp 13), 72, _, _, none⟩) (v := .tuple #[.agg vv, .bool (g.wait.find? (isV x)).isSome]) rfl (Or.inl ⟨by rfl, fun w hS => by obtain ⟨hS1, hS2, hS3⟩ := hS; go_simp⟩) hHeld ?_
 refine tkS (i := 7) (oi := ⟨some 14, Op.extract (Operand.tmp 7) 0, 39, _, _, none⟩) (v := .agg vv) rfl (Or.inl ⟨by rfl, fun w hS => by obtain ⟨hS1, hS2, hS3⟩ := hS; go_simp⟩) hHeld ?_
 refine tkS (i := 8) (oi := ⟨some 15, Op.extract (Operand.tmp 7) 1, 4, _, _, none⟩) (v := .bool (g.wait.find? (isV x)).isSome) rfl (Or.inl ⟨by rfl, fun w hS => by obtain ⟨hS1, hS2, hS3⟩ := hS; go_simp⟩) hHeld ?_
 refine wpAnyH_ready (rs := [9]) (by kernel_rfl) (by simp) ?_
 refine AllReadyH.cons (o := ⟨some 5, Op.alloc 39, 0, _, _, none⟩) rfl (fun K hK => ?_) AllReadyH.nil
 rw [if_pos (by rfl)]
 refine wp_newA 39 rfl vz (by rw [hvz.out]; exact Try.new39) ?_
 have B2 := Keep.mk (B1.out.alloc (Nat.le_refl _) (.cells vz 39))
 obtain ⟨w2, hw2⟩ : ∃ wx, Keep (wx = w1.drew.alloc (.cells vz 39)) := ⟨_, ⟨rfl⟩⟩
 rw [← hw2.out]
 have HB2 : Keep (Blk w2 w1.drew.heap.size 39 vz) := ⟨by rw [hw2.out]; exact Blk.new _ _ _⟩
 have B2 : Keep (Below w1.heap.size w1 w2) := ⟨by rw [hw2.out]; exact B2.out⟩
 have hL1 : Keep (w1.heap.size ≤ w1.drew.heap.size) := ⟨Nat.le_refl _⟩
 clear hw2
 generalize w1.drew.heap.size = n1 at *
 refine hK _ _ (hSB.out _ B2.out) fun hH1 => ?_
 clear hK
 simp only [Act.put, pqA, pqB, pqC]
 refine wpAnyH_ready (rs := [10]) (by kernel_rfl) (by simp) ?_
 refine AllReadyH.cons (o := ⟨none, Op.store 39 (Operand.tmp 5) (Operand.tmp 14), 0, _, _, none⟩) rfl (fun K hK => ?_) AllReadyH.nil
 rw [if_pos (by rfl)]
 refine wp_store_row 39 (Operand.tmp 5) (Operand.tmp 14) rfl n1 vv rfl rfl 39 vz HB2.out (by rw [hvv.out]; exact Try.info39s _ _ _) (by rw [hvv.out, hvz.out, vtx_size, vtx_size]) (by rw [hvv.out]; exact vtx_one _ _ _ (slice_one _ _ _)) ?_
 have B3 := Keep.mk (below_setRow B2.out hL1.out vv)
 refine hK _ _ (hSB.out _ B3.out) fun hH2 => ?_
 clear hK
 simp only [Act.put, pqA, pqB, pqC]
 refine tkS (i := 11) (oi := ⟨some 6, Op.assign (Operand.tmp 15), 4, _, _, none⟩) (v := .bool (g.wait.find? (isV x)).isSome) rfl (Or.inl ⟨by rfl, fun w hS => by obtain ⟨hS1, hS2, hS3⟩ := hS; go_simp⟩) hH2 ?_
 refine wpAnyH_done (by kernel_rfl) ?_ _
 refine hK2 _ _ ?_
 refine wp_seq_k fun K3 hK3 => rgn ?_
 refine VlS (.bool (g.wait.find? (isV x)).isSome) ?_
 refine VlS (.bool (g.wait.find? (isV x)).isSome) ?_
 refine WL.nil (hK3 _ _ ?_)
 refine wp_ret ?_
 go_ret
 exact ⟨rfl, belowT LB1.out B3.out⟩
/-- The clock of a held one; else 0. -/
def ckOf (l : List VX) (x : Hs) : Int := match l.find? (isV x) with
 | some v => v.ck
 | none => 0
theorem fld_ck (c : Nat → Int) (k : Int) (p : Value) (w : World) : (Instr.field 39 (.agg (vtx c k p)) 1).run Try.prog w = .ok (.int .i64 k) w := by kernel_rfl
theorem yieldsIf_fld {ops : Array Oper} {S : World → Prop} {op : Oper} {a : Act} (hw : Region.wanted op (yielded ops a.tmps) = true) (x : Operand) (t : TypeId) (i : Nat) (ho : op.op = .field t x i) (v u : Value) (hv : a.eval x = v) (hr : ∀ w : World, (Instr.field t v i).run Try.prog w = .ok u w) : YieldsIf Try.prog ops S op u a :=
 .inl ⟨hw, fun w hw' => by unfold execOp; simp only [ho, hv, Sem.run_bind, hr w, Result.andThen_ok, Sem.run_pure]⟩
set_option maxRecDepth 8000 in
set_option maxHeartbeats 400000 in
theorem clock_any (d : Nat) (x : Hs) (Av : Nat → Prop) (g : DG) (w : World) (hD : DagAt w Av d g) : Calls Try.prog 27 #[ptr d, .agg (bytesA 32 x.f)] w fun e w' => e = .returned (.int .i64 (ckOf g.held x)) ∧ Below w.heap.size w w' := by
 have HD := Keep.mk hD
 clear hD
 go_enter Try.func27, Try.ntmps27
 refine wp_seq_k fun K1 hK1 => rgn ?_
 refine WL.box (by kernel_rfl) 36 (.tmp 1) rfl (bytesA 32 x.f) rfl ?_
 obtain ⟨w1, hwn⟩ : ∃ wx, Keep (wx = w.alloc (.cells (bytesA 32 x.f) 36)) := ⟨_, ⟨rfl⟩⟩
 rw [← hwn.out]
 have HX1 : Keep (Blk w1 w.heap.size 36 (bytesA 32 x.f)) := ⟨by rw [hwn.out]; exact Blk.new _ _ _⟩
 have LB1 : Keep (Below w.heap.size w w1) := ⟨by rw [hwn.out]; exact below_new _ _⟩
 clear hwn
 simp only [Act.put, pqA, pqB, pqC]
 refine VlS (.int .i64 0) ?_
 refine WL.nil (hK1 _ _ ?_)
 refine wp_seq_k fun K2 hK2 => ?_
 have HD1 := Keep.mk (HD.out.below LB1.out)
 obtain ⟨es, ck, c0, k0, pa, pn, pm, hes, hl1, hl2, hcs⟩ := look1 HD1.out.held x
 obtain ⟨vv, hvv⟩ : ∃ a : Array Value, Keep (a = vtx c0 k0 (.slice pa pn pm)) := ⟨_, ⟨rfl⟩⟩
 rw [← hvv.out] at hl2
 have H1 := Keep.mk hl2
 have HC := Keep.mk hcs
 have hSB : Keep ((fun wx => wx.cell? ⟨d, 1, none⟩ = some (.map (some g.hb)) ∧ wx.rangeAt w.heap.size 0 (bytesA 32 x.f).toList ∧ wx.heap[g.hb]? = some (.map es ck)) w1.drew) := ⟨⟨HD1.out.blk.drew.c 1 rfl, blk_rng HX1.out.drew, hes⟩⟩
 clear hl1 hl2 hcs hes
 refine wp_region_held_drew (S := fun wx => wx.cell? ⟨d, 1, none⟩ = some (.map (some g.hb)) ∧ wx.rangeAt w.heap.size 0 (bytesA 32 x.f).toList ∧ wx.heap[g.hb]? = some (.map es ck)) (by kernel_rfl) (hSB.out) (fun hHeld => ?_)
 refine tkS (i := 0) (oi := ⟨some 5, Op.move (Operand.tmp 0), 27, _, _, none⟩) (v := .pointer (some ⟨d, 0, none⟩)) rfl (Or.inl ⟨by rfl, fun w hS => by obtain ⟨hS1, hS2, hS3⟩ := hS; go_simp⟩) hHeld ?_
 refine tkS (i := 1) (oi := ⟨some 6, Op.nilCheck (Operand.tmp 5), 0, _, _, none⟩) (v := .pointer (some ⟨d, 0, none⟩)) rfl (Or.inl ⟨by rfl, fun w hS => by obtain ⟨hS1, hS2, hS3⟩ := hS; go_simp⟩) hHeld ?_
 refine tkS (i := 2) (oi := ⟨some 7, Op.fieldAddr 77 (Operand.tmp 6) 1, 0, _, _, none⟩) (v := .pointer (some ⟨d, 1, none⟩)) rfl (Or.inl ⟨by rfl, fun w hS => by obtain ⟨hS1, hS2, hS3⟩ := hS; go_simp⟩) hHeld ?_
 refine tkS (i := 3) (oi := ⟨some 8, Op.load 75 (Operand.tmp 7), 75, _, _, none⟩) (v := .map (some g.hb)) rfl (Or.inl ⟨by rfl, fun w hS => by obtain ⟨hS1, hS2, hS3⟩ := hS; go_simp⟩) hHeld ?_
 refine tkS (i := 4) (oi := ⟨some 9, Op.load 36 (Operand.tmp 3), 36, _, _, none⟩) (v := .agg (bytesA 32 x.f)) rfl (yieldsIf_ld (by rfl) (Operand.tmp 3) 36 rfl w.heap.size 0 rfl (bytesA 32 x.f) _ Try.underlying36 rfl (size36A _) fun w hS => hS.2.1) hHeld ?_
 refine tkS (i := 5) (oi := ⟨some 10, Op.lookup 75 (Operand.tmp 8) (Operand.tmp 9) false, 39, _, _, none⟩) (v := .agg vv) rfl (yieldsIf_look (by rfl) (Operand.tmp 8) (Operand.tmp 9) false rfl g.hb x.f rfl rfl _ fun wx hS => H1.out wx hS.2.2) hHeld ?_
 refine tkS (i := 6) (oi := ⟨some 11, Op.field 39 (Operand.tmp 10) 1, 3, _, _, none⟩) (v := .int .i64 k0) rfl (yieldsIf_fld (by rfl) (Operand.tmp 10) 39 1 rfl (.agg vv) (.int .i64 k0) rfl fun w => by rw [hvv.out]; exact fld_ck _ _ _ w) hHeld ?_
 refine tkS (i := 7) (oi := ⟨some 4, Op.assign (Operand.tmp 11), 3, _, _, none⟩) (v := .int .i64 k0) rfl (Or.inl ⟨by rfl, fun w hS => by obtain ⟨hS1, hS2, hS3⟩ := hS; go_simp⟩) hHeld ?_
 refine wpAnyH_done (by kernel_rfl) ?_ _
 refine hK2 _ _ ?_
 refine wp_ret ?_
 go_ret
 refine ⟨?_, LB1.out.drew⟩
 rcases HC.out with ⟨h1, _, h2, _⟩ | ⟨v, h1, _, h2, _⟩
 ·rw [ckOf, h1, h2]; rfl
 ·rw [ckOf, h1, h2]; rfl
theorem dlen_any (d : Nat) (Av : Nat → Prop) (g : DG) (w : World) (hD : DagAt w Av d g) : Calls Try.prog 36 #[ptr d] w fun e w' => e = .returned (.int .i64 (g.held.length : Int)) ∧ w' = w := by
 have HD := Keep.mk hD
 clear hD
 go_enter Try.func36, Try.ntmps36
 have c1 := HD.out.blk.c 1 (by rfl : (dgA g)[1]? = some (.map (some g.hb)))
 refine wp_seq_k fun K1 hK1 => rgn ?_
 refine VlS (.int .i64 0) ?_
 refine WL.nil (hK1 _ _ ?_)
 refine wp_seq_k fun K2 hK2 => rgn ?_
 refine VlS (.pointer (some ⟨d, 0, none⟩)) ?_
 refine VlS (.pointer (some ⟨d, 0, none⟩)) ?_
 refine VlS (.pointer (some ⟨d, 1, none⟩)) ?_
 refine VlS (.map (some g.hb)) ?_
 refine WL.val (by kernel_rfl) (.int .i64 (g.held.length : Int)) (by go_simp; rw [len_any HD.out.held]; rfl) ?_
 simp only [Act.put, pqA, pqB, pqC]
 refine VlS (.int .i64 (g.held.length : Int)) ?_
 refine WL.nil (hK2 _ _ ?_)
 refine wp_ret ?_
 go_ret
 exact ⟨rfl, rfl⟩
end Go.Proofs.Ytogmdfhicbmplaa
namespace Go.Proofs.Ytogmdfhicbmplaa
open Go.RowKit
set_option linter.unusedSimpArgs false
set_option linter.unusedVariables false

theorem Try.in68 (w : World) (vs : Array Value) : (callFunc 68 vs).run Try.prog w = .ok (.enter 68 vs) w := by kernel_rfl
theorem Try.in69 (w : World) (vs : Array Value) : (callFunc 69 vs).run Try.prog w = .ok (.enter 69 vs) w := by kernel_rfl
theorem Try.in67 (w : World) (vs : Array Value) : (callFunc 67 vs).run Try.prog w = .ok (.enter 67 vs) w := by kernel_rfl
theorem Try.in28 (w : World) (vs : Array Value) : (callFunc 28 vs).run Try.prog w = .ok (.enter 28 vs) w := by kernel_rfl
theorem Try.in87 (w : World) (vs : Array Value) : (callFunc 87 vs).run Try.prog w = .ok (.enter 87 vs) w := by kernel_rfl
/-- Is a vertex of that hash among these? -/
def hasB (l : List VX) (x : Hs) : Bool := (l.find? (isV x)).isSome
/-- The greatest clock of some. -/
def mxC (l : List VX) (ps : List Hs) : Int := ps.foldl (fun m h => if ckOf l h > m then ckOf l h else m) 0
def nextE (l : List VX) (v : VX) : Int := if v.ck ≠ mxC l v.ps + 1 then 51 else if 4096 ≤ l.length then 3 else 0
def chkV (v : VX) : Int := if 64 < v.ps.length ∨ risesB v.ps = false then 52 else if v.ck < 1 ∨ 4096 < v.ck ∨ ¬ (v.ck = 1 ↔ v.ps.length = 0) then 51 else 0
def fitV (l m : List VX) (v : VX) : Int × Int :=
 if hasB l v.id = true ∨ hasB m v.id = true then (1, 0) else if chkV v ≠ 0 then (0, chkV v) else if v.ps.all (hasB l) = false then (3, 0) else if nextE l v ≠ 0 then (0, nextE l v) else (2, 0)
theorem ckOf_le {l : List VX} (h : ∀ v ∈ l, 0 ≤ v.ck ∧ v.ck ≤ 4096) (x : Hs) : 0 ≤ ckOf l x ∧ ckOf l x ≤ 4096 := by
 unfold ckOf
 split
 ·rename_i v hv
  exact h v (List.mem_of_find?_eq_some hv)
 ·omega
theorem mxC_le {l : List VX} (h : ∀ v ∈ l, 0 ≤ v.ck ∧ v.ck ≤ 4096) (ps : List Hs) : 0 ≤ mxC l ps ∧ mxC l ps ≤ 4096 := by
 unfold mxC
 suffices H : ∀ (ps : List Hs) (m : Int), 0 ≤ m ∧ m ≤ 4096 → 0 ≤ ps.foldl (fun m h => if ckOf l h > m then ckOf l h else m) m ∧ ps.foldl (fun m h => if ckOf l h > m then ckOf l h else m) m ≤ 4096 from H ps 0 (by omega)
 intro ps
 induction ps with
 | nil => intro m hm; exact hm
 | cons x r ih =>
  intro m hm
  refine ih _ ?_
  have := ckOf_le h x
  show 0 ≤ (if ckOf l x > m then ckOf l x else m) ∧ (if ckOf l x > m then ckOf l x else m) ≤ 4096
  split <;> omega
theorem vtx_rng {w : World} {b : Nat} {c : Nat → Int} {k : Int} {p : Value} (h : Blk w b 39 (vtx c k p)) : w.rangeAt b 0 (bytesA 32 c).toList := fun j v hv => by
 have := (List.getElem?_eq_some_iff.1 hv).1
 rw [Nat.zero_add, h.cell]
 have hj : j < (bytesA 32 c).size := by simpa using this
 unfold vtx
 rw [Array.getElem?_append_left hj, ← Array.getElem?_toList]
 exact hv
theorem enc_load (h : Hs) : (encH h).toArray = bytesA 32 h.f := encH_arr h
set_option maxRecDepth 8000 in
set_option maxHeartbeats 1000000 in
theorem hasAll_any (d : Nat) (v : Value) (l : List Hs) (Av : Nat → Prop) (g : DG) (w : World) (hD : DagAt w Av d g) (hr : HRow w v l) (hL : (l.length : Int) ≤ 9223372036854775806) : Calls Try.prog 68 #[ptr d, v] w fun e w' => e = .returned (.bool (l.all (hasB g.held))) ∧ Below w.heap.size w w' := by
 obtain ⟨pa, pc, rfl⟩ := hr.form
 have HD := Keep.mk hD
 have HR := Keep.mk hr
 have HL := Keep.mk hL
 clear hD hr hL
 go_enter Try.func68, Try.ntmps68
 refine wp_seq_k fun K1 hK1 => rgn ?_
 refine VlS (.bool false) ?_
 refine WL.nil (hK1 _ _ ?_)
 refine wp_seq_k fun K2 hK2 => ?_
 refine wp_seq_k fun K3 hK3 => rgn ?_
 refine VlS (.slice pa l.length pc) ?_
 refine VlS (.int .i64 (l.length : Int)) ?_
 refine VlS (.int .i64 0) ?_
 refine WL.nil (hK3 _ _ ?_)
 refine wp_block ?_
 refine wp_loop (fun ac wr => ∃ (t : Nat) (u4 u6 u10 u11 u12 u13 u14 u15 u16 u17 : Value), ac = { tmps := #[.pointer (some ⟨d, 0, none⟩), .slice pa l.length pc, undef, undef, u4, undef, u6, .slice pa l.length pc, .int .i64 (l.length : Int), .int .i64 (t : Int), u10, u11, u12, u13, u14, u15, u16, u17], defers := [] } ∧ t ≤ l.length ∧ l.all (hasB g.held) = (l.drop t).all (hasB g.held) ∧ Below w.heap.size w wr) (fun a _ => l.length - (intOf (a.tmps.getD 9 undef)).toNat) ⟨0, .bool false, undef, undef, undef, undef, undef, undef, undef, undef, undef, rfl, by omega, rfl, Below.refl _ _⟩ ?_
 rintro ac wr ⟨t, u4, u6, u10, u11, u12, u13, u14, u15, u16, u17, rfl, ht, hA, hB⟩
 have JA := Keep.mk hA
 have JB := Keep.mk hB
 clear hA hB
 have HRr := Keep.mk (HR.out.below JB.out)
 have HDr := Keep.mk (HD.out.below JB.out)
 by_cases htl : t < l.length
 ·have htl' : (t : Int) < (l.length : Int) := by omega
  have hwr1 : IntKind.i64.wrap ((t : Int) + 1) = (t : Int) + 1 := by rw [IntKind.wrap_i64]; have := HL.out; omega
  obtain ⟨gp, op, hpa, hlen, hcap, hrg⟩ := (HRr.out).at (by omega)
  have hel := rangeAt_elem hrg t htl
  obtain ⟨hh, hhh⟩ : ∃ hh, hh = l[t] := ⟨_, rfl⟩
  rw [← hhh] at hel
  have Jhh := Keep.mk hhh
  subst hpa
  clear hlen hcap hrg hhh
  refine wp_seq_k fun K4 hK4 => rgn ?_
  refine VlS (.bool true) ?_
  refine WL.nil (hK4 _ _ ?_)
  refine wp_seq_k fun K5 hK5 => ?_
  refine wp_cond_true rfl ?_
  refine wp_skip ?_
  refine hK5 _ _ ?_
  refine wp_seq_k fun K6 hK6 => ?_
  refine wp_block ?_
  refine wp_seq_k fun K7 hK7 => rgn ?_
  refine VlS (.pointer (some ⟨gp, op + t * 32, none⟩)) ?_
  refine WL.mid (by kernel_rfl) 36 (.tmp 11) rfl gp (op + t * 32) rfl (encH hh) _ hel Try.underlying36 rfl (Try.size36L hh) ?_
  rw [enc_load]
  simp only [Act.put, pqA, pqB, pqC]
  refine WL.new (by kernel_rfl) 36 rfl _ Try.new36 ?_
  simp only [Act.put, pqA, pqB, pqC]
  refine WL.storeR (by kernel_rfl) 36 (.tmp 6) (.tmp 12) rfl wr.heap.size (bytesA 32 hh.f) rfl rfl 36 (bytesA 32 fun _ => 0) (Blk.new wr 36 _) (Try.size36B _) (bytesA_sizes _ _ _) (bytesA_one _ _) ?_
  have HY := Keep.mk ((Blk.new wr 36 (bytesA 32 fun _ => 0)).setRow (bytesA 32 hh.f))
  have BY : Keep (Below wr.heap.size wr ((wr.alloc (.cells (bytesA 32 fun _ => 0) 36)).setRow wr.heap.size (bytesA 32 hh.f))) := ⟨below_setRow (below_new wr _) (Nat.le_refl _) _⟩
  generalize (wr.alloc (.cells (bytesA 32 fun _ => 0) 36)).setRow wr.heap.size (bytesA 32 hh.f) = wy at *
  generalize hbb : wr.heap.size = bb at *
  clear hel
  simp only [Act.put]
  refine WL.nil (hK7 _ _ ?_)
  refine wp_seq_k fun K8 hK8 => rgn ?_
  refine VlS (.pointer (some ⟨d, 0, none⟩)) ?_
  refine WL.row (by kernel_rfl) 36 (.tmp 6) rfl bb rfl 36 (bytesA 32 hh.f) _ HY.out Try.underlying36 rfl (Try.size36B _) ?_
  simp only [Act.put, pqA, pqB, pqC]
  refine WL.callF (by kernel_rfl) 45 _ _ rfl Try.in45 #[ptr d, .agg (bytesA 32 hh.f)] (by simp [Act.eval]) ?_
  refine (has_any d hh Av g wy (HDr.out.below (hbb ▸ BY.out))).mono ?_
  rintro e wz ⟨rfl, hz⟩
  refine ⟨_, rfl, ?_⟩
  have BZ := Keep.mk hz
  clear hz
  change _ at hbb
  obtain ⟨bq, hbq⟩ : ∃ b, Keep (hasB g.held hh = b) := ⟨_, ⟨rfl⟩⟩
  rw [show (g.held.find? (isV hh)).isSome = bq from hbq.out]
  simp only [Act.put, pqA, pqB, pqC]
  by_cases h4_3 : bq = true
  ·skip
   refine VlS (.bool false) ?_
   refine WL.nil (hK8 _ _ ?_)
   refine wp_cond_false rfl ?_
   refine wp_skip ?_
   refine hK6 _ _ ?_
   refine rgn ?_
   refine VlS (.int .i64 ((t : Int) + 1)) ?_
   refine VlS (.int .i64 ((t : Int) + 1)) ?_
   refine WL.nil ?_
   have hA2 : l.all (hasB g.held) = (l.drop (t + 1)).all (hasB g.held) := by rw [JA.out, List.drop_eq_getElem_cons htl, List.all_cons, ← Jhh.out, hbq.out, h4_3, Bool.true_and]
   refine ⟨⟨t + 1, u4, .pointer (some ⟨bb, 0, none⟩), .bool true, .pointer (some ⟨gp, op + t * 32, none⟩), .agg (bytesA 32 hh.f), .pointer (some ⟨d, 0, none⟩), .agg (bytesA 32 hh.f), .bool bq, .bool false, .int .i64 ((t : Int) + 1), rfl, by omega, hA2, belowT JB.out (belowT (hbb ▸ BY.out) BZ.out)⟩, ?_⟩
   simp only [intOf]; show l.length - ((t : Int) + 1).toNat < l.length - ((t : Int)).toNat; omega
  ·skip
   refine VlS (.bool true) ?_
   refine WL.nil (hK8 _ _ ?_)
   refine wp_cond_true rfl ?_
   refine wp_seq_k fun K9 hK9 => rgn ?_
   refine VlS (.bool false) ?_
   refine WL.nil (hK9 _ _ ?_)
   refine wp_ret ?_
   go_ret
   refine ⟨?_, belowT JB.out (belowT (hbb ▸ BY.out) BZ.out)⟩
   rw [JA.out, List.drop_eq_getElem_cons htl, List.all_cons, ← Jhh.out, hbq.out, Bool.eq_false_iff.2 h4_3, Bool.false_and]; rfl
 ·have hte : Keep (t = l.length) := ⟨by omega⟩
  have htl' : ¬ (t : Int) < (l.length : Int) := by omega
  refine wp_seq_k fun K10 hK10 => rgn ?_
  refine VlS (.bool false) ?_
  refine WL.nil (hK10 _ _ ?_)
  refine wp_seq_k fun K11 hK11 => ?_
  refine wp_cond_false rfl ?_
  refine wp_exit ?_
  refine hK2 _ _ ?_
  refine wp_seq_k fun K12 hK12 => rgn ?_
  refine VlS (.bool true) ?_
  refine WL.nil (hK12 _ _ ?_)
  refine wp_ret ?_
  go_ret
  exact ⟨by rw [JA.out, hte.out, List.drop_length]; rfl, JB.out⟩
set_option maxRecDepth 8000 in
set_option maxHeartbeats 1000000 in
theorem next_any (d : Nat) (v : VX) (p : Value) (Av : Nat → Prop) (g : DG) (w : World) (hD : DagAt w Av d g) (hr : HRow w p v.ps) (hM : ∀ v ∈ g.held, 0 ≤ v.ck ∧ v.ck ≤ 4096) (hL : (v.ps.length : Int) ≤ 9223372036854775806) : Calls Try.prog 69 #[ptr d, .agg (vtx v.id.f v.ck p)] w fun e w' => e = .returned (.int .i64 (nextE g.held v)) ∧ Below w.heap.size w w' := by
 obtain ⟨pa, pc, rfl⟩ := hr.form
 obtain ⟨vv, hvv⟩ : ∃ a : Array Value, Keep (a = vtx v.id.f v.ck (.slice pa v.ps.length pc)) := ⟨_, ⟨rfl⟩⟩
 rw [← hvv.out]
 have HD := Keep.mk hD
 have HR := Keep.mk hr
 have HM := Keep.mk hM
 have HL := Keep.mk hL
 clear hD hr hM hL
 go_enter Try.func69, Try.ntmps69
 refine wp_seq_k fun K1 hK1 => rgn ?_
 refine WL.box (by kernel_rfl) 39 (.tmp 1) rfl (vv) rfl ?_
 obtain ⟨w1, hwn⟩ : ∃ wx, Keep (wx = w.alloc (.cells (vv) 39)) := ⟨_, ⟨rfl⟩⟩
 rw [← hwn.out]
 have HX1 : Keep (Blk w1 w.heap.size 39 (vv)) := ⟨by rw [hwn.out]; exact Blk.new _ _ _⟩
 have LB1 : Keep (Below w.heap.size w w1) := ⟨by rw [hwn.out]; exact below_new _ _⟩
 clear hwn
 simp only [Act.put, pqA, pqB, pqC]
 refine VlS (.int .i64 0) ?_
 refine WL.nil (hK1 _ _ ?_)
 refine wp_seq_k fun K2 hK2 => ?_
 have HD1 := Keep.mk (HD.out.below LB1.out)
 have HR1 := Keep.mk (HR.out.below LB1.out)
 refine rgn ?_
 refine VlS (.int .i64 0) ?_
 refine WL.nil (hK2 _ _ ?_)
 refine wp_seq_k fun K3 hK3 => ?_
 refine wp_seq_k fun K4 hK4 => ?_
 have c33 : w1.cell? ⟨w.heap.size, 33, none⟩ = some (.slice pa v.ps.length pc) := HX1.out.c 33 (by rw [hvv.out]; exact vtx_ps _ _ _)
 refine rgn ?_
 refine VlS (.pointer (some ⟨w.heap.size, 33, none⟩)) ?_
 refine VlS (.slice pa v.ps.length pc) ?_
 refine VlS (.int .i64 (v.ps.length : Int)) ?_
 refine VlS (.int .i64 0) ?_
 refine WL.nil (hK4 _ _ ?_)
 refine wp_block ?_
 refine wp_loop (fun ac wr => ∃ (t : Nat) (u7 u12 u13 u14 u15 u16 u17 u18 u19 u20 : Value), ac = { tmps := #[.pointer (some ⟨d, 0, none⟩), .agg vv, undef, .pointer (some ⟨w.heap.size, 0, none⟩), .int .i64 0, .int .i64 (mxC g.held (v.ps.take t)), undef, u7, .pointer (some ⟨w.heap.size, 33, none⟩), .slice pa v.ps.length pc, .int .i64 (v.ps.length : Int), .int .i64 (t : Int), u12, u13, u14, u15, u16, u17, u18, u19, u20, undef, undef, undef, undef, undef, undef, undef, undef, undef, undef], defers := [] } ∧ t ≤ v.ps.length ∧ Below w1.heap.size w1 wr) (fun a _ => v.ps.length - (intOf (a.tmps.getD 11 undef)).toNat) ⟨0, undef, undef, undef, undef, undef, undef, undef, undef, undef, undef, rfl, by omega, Below.refl _ _⟩ ?_
 rintro ac wr ⟨t, u7, u12, u13, u14, u15, u16, u17, u18, u19, u20, rfl, ht, hB⟩
 have JB := Keep.mk hB
 clear hB
 have HRr := Keep.mk (HR1.out.below JB.out)
 have HDr := Keep.mk (HD1.out.below JB.out)
 by_cases htl : t < v.ps.length
 ·have htl' : (t : Int) < (v.ps.length : Int) := by omega
  have hwr1 : IntKind.i64.wrap ((t : Int) + 1) = (t : Int) + 1 := by rw [IntKind.wrap_i64]; have := HL.out; omega
  obtain ⟨gp, op, hpa, hlen, hcap, hrg⟩ := (HRr.out).at (by omega)
  have hel := rangeAt_elem hrg t htl
  obtain ⟨hh, hhh⟩ : ∃ hh, hh = v.ps[t] := ⟨_, rfl⟩
  rw [← hhh] at hel
  have Jhh := Keep.mk hhh
  subst hpa
  clear hlen hcap hrg hhh
  refine wp_seq_k fun K5 hK5 => rgn ?_
  refine VlS (.bool true) ?_
  refine WL.nil (hK5 _ _ ?_)
  refine wp_seq_k fun K6 hK6 => ?_
  refine wp_cond_true rfl ?_
  refine wp_skip ?_
  refine hK6 _ _ ?_
  refine wp_seq_k fun K7 hK7 => ?_
  refine wp_block ?_
  refine wp_seq_k fun K8 hK8 => rgn ?_
  refine VlS (.pointer (some ⟨gp, op + t * 32, none⟩)) ?_
  refine WL.mid (by kernel_rfl) 36 (.tmp 13) rfl gp (op + t * 32) rfl (encH hh) _ hel Try.underlying36 rfl (Try.size36L hh) ?_
  rw [enc_load]
  simp only [Act.put, pqA, pqB, pqC]
  refine WL.new (by kernel_rfl) 36 rfl _ Try.new36 ?_
  simp only [Act.put, pqA, pqB, pqC]
  refine WL.storeR (by kernel_rfl) 36 (.tmp 7) (.tmp 14) rfl wr.heap.size (bytesA 32 hh.f) rfl rfl 36 (bytesA 32 fun _ => 0) (Blk.new wr 36 _) (Try.size36B _) (bytesA_sizes _ _ _) (bytesA_one _ _) ?_
  have HY := Keep.mk ((Blk.new wr 36 (bytesA 32 fun _ => 0)).setRow (bytesA 32 hh.f))
  have BY : Keep (Below wr.heap.size wr ((wr.alloc (.cells (bytesA 32 fun _ => 0) 36)).setRow wr.heap.size (bytesA 32 hh.f))) := ⟨below_setRow (below_new wr _) (Nat.le_refl _) _⟩
  generalize (wr.alloc (.cells (bytesA 32 fun _ => 0) 36)).setRow wr.heap.size (bytesA 32 hh.f) = wy at *
  generalize hbb : wr.heap.size = bb at *
  clear hel
  simp only [Act.put]
  refine WL.nil (hK8 _ _ ?_)
  refine rgn ?_
  refine VlS (.int .i64 (mxC g.held (v.ps.take t))) ?_
  refine VlS (.pointer (some ⟨d, 0, none⟩)) ?_
  refine WL.row (by kernel_rfl) 36 (.tmp 7) rfl bb rfl 36 (bytesA 32 hh.f) _ HY.out Try.underlying36 rfl (Try.size36B _) ?_
  simp only [Act.put, pqA, pqB, pqC]
  refine WL.callF (by kernel_rfl) 27 _ _ rfl Try.in27 #[ptr d, .agg (bytesA 32 hh.f)] (by simp [Act.eval]) ?_
  refine (clock_any d hh Av g wy (HDr.out.below (hbb ▸ BY.out))).mono ?_
  rintro e wz ⟨rfl, hz⟩
  refine ⟨_, rfl, ?_⟩
  have BZ := Keep.mk hz
  clear hz
  have hmx : Keep (mxC g.held (v.ps.take (t + 1)) = if ckOf g.held hh > mxC g.held (v.ps.take t) then ckOf g.held hh else mxC g.held (v.ps.take t)) := ⟨by rw [List.take_succ_eq_append_getElem htl, ← Jhh.out]; unfold mxC; rw [List.foldl_append]; rfl⟩
  simp only [Act.put, pqA, pqB, pqC]
  refine VlS (.int .i64 (if ckOf g.held hh > mxC g.held (v.ps.take t) then ckOf g.held hh else mxC g.held (v.ps.take t))) ?_
  refine VlS (.int .i64 (if ckOf g.held hh > mxC g.held (v.ps.take t) then ckOf g.held hh else mxC g.held (v.ps.take t))) ?_
  refine WL.nil (hK7 _ _ ?_)
  refine rgn ?_
  refine VlS (.int .i64 ((t : Int) + 1)) ?_
  refine VlS (.int .i64 ((t : Int) + 1)) ?_
  refine WL.nil ?_
  rw [← hmx.out]
  refine ⟨⟨t + 1, .pointer (some ⟨bb, 0, none⟩), .bool true, .pointer (some ⟨gp, op + t * 32, none⟩), .agg (bytesA 32 hh.f), .int .i64 (mxC g.held (v.ps.take t)), .pointer (some ⟨d, 0, none⟩), .agg (bytesA 32 hh.f), .int .i64 (ckOf g.held hh), .int .i64 (mxC g.held (v.ps.take (t + 1))), .int .i64 ((t : Int) + 1), rfl, by omega, belowT JB.out (belowT (hbb ▸ BY.out) BZ.out)⟩, ?_⟩
  simp only [intOf]; show v.ps.length - ((t : Int) + 1).toNat < v.ps.length - ((t : Int)).toNat; omega
 ·have hte : Keep (t = v.ps.length) := ⟨by omega⟩
  have htl' : ¬ (t : Int) < (v.ps.length : Int) := by omega
  have hmt : mxC g.held (v.ps.take t) = mxC g.held v.ps := by rw [hte.out, List.take_length]
  rw [hmt]
  have hmb := mxC_le HM.out v.ps
  have hwm : IntKind.i64.wrap (mxC g.held v.ps + 1) = mxC g.held v.ps + 1 := by rw [IntKind.wrap_i64]; omega
  have c32 : wr.cell? ⟨w.heap.size, 32, none⟩ = some (.int .i64 v.ck) := (HX1.out.below JB.out HX1.out.lt).c 32 (by rw [hvv.out]; exact vtx_ck _ _ _)
  refine wp_seq_k fun K9 hK9 => rgn ?_
  refine VlS (.bool false) ?_
  refine WL.nil (hK9 _ _ ?_)
  refine wp_seq_k fun K10 hK10 => ?_
  refine wp_cond_false rfl ?_
  refine wp_exit ?_
  refine hK3 _ _ ?_
  refine wp_seq_k fun K11 hK11 => ?_
  refine wp_block ?_
  refine wp_seq_k fun K12 hK12 => rgn ?_
  refine VlS (.pointer (some ⟨w.heap.size, 32, none⟩)) ?_
  refine VlS (.int .i64 v.ck) ?_
  refine VlS (.int .i64 (mxC g.held v.ps)) ?_
  refine VlS (.int .i64 (mxC g.held v.ps + 1)) ?_
  by_cases h7_4 : v.ck = mxC g.held v.ps + 1
  ·skip
   refine VlS (.bool false) ?_
   refine VlS (.bool false) ?_
   refine WL.nil (hK12 _ _ ?_)
   refine wp_cond_false rfl ?_
   refine wp_seq_k fun K13 hK13 => rgn ?_
   refine VlS (.pointer (some ⟨d, 0, none⟩)) ?_
   refine WL.callF (by kernel_rfl) 36 _ _ rfl Try.in36 #[ptr d] (by simp [Act.eval]) ?_
   refine (dlen_any d Av g wr HDr.out).mono ?_
   rintro e wz ⟨rfl, hz⟩
   refine ⟨_, rfl, ?_⟩
   subst hz
   simp only [Act.put, pqA, pqB, pqC]
   by_cases h9_2 : (4096 : Int) ≤ (g.held.length : Int)
   ·skip
    refine VlS (.bool true) ?_
    refine VlS (.bool true) ?_
    refine WL.nil (hK13 _ _ ?_)
    refine wp_cond_true rfl ?_
    refine wp_seq_k fun K14 hK14 => rgn ?_
    refine VlS (.int .i64 3) ?_
    refine WL.nil (hK14 _ _ ?_)
    refine wp_ret ?_
    go_ret
    refine ⟨?_, belowT LB1.out JB.out⟩
    rw [nextE, if_neg (by simpa using h7_4), if_pos (by omega)]; rfl
   ·skip
    refine VlS (.bool false) ?_
    refine VlS (.bool false) ?_
    refine WL.nil (hK13 _ _ ?_)
    refine wp_cond_false rfl ?_
    refine wp_skip ?_
    refine hK11 _ _ ?_
    refine wp_seq_k fun K15 hK15 => rgn ?_
    refine VlS (.int .i64 0) ?_
    refine WL.nil (hK15 _ _ ?_)
    refine wp_ret ?_
    go_ret
    refine ⟨?_, belowT LB1.out JB.out⟩
    rw [nextE, if_neg (by simpa using h7_4), if_neg (by omega)]; rfl
  ·skip
   refine VlS (.bool true) ?_
   refine VlS (.bool true) ?_
   refine WL.nil (hK12 _ _ ?_)
   refine wp_cond_true rfl ?_
   refine wp_seq_k fun K16 hK16 => rgn ?_
   refine VlS (.int .i64 51) ?_
   refine WL.nil (hK16 _ _ ?_)
   refine wp_ret ?_
   go_ret
   refine ⟨?_, belowT LB1.out JB.out⟩
   rw [nextE, if_pos h7_4]; rfl
set_option maxRecDepth 8000 in
set_option maxHeartbeats 1000000 in
theorem check_any (v : VX) (p : Value) (w : World) (hr : HRow w p v.ps) (hL : (v.ps.length : Int) ≤ 9223372036854775806) : Calls Try.prog 67 #[.agg (vtx v.id.f v.ck p)] w fun e w' => e = .returned (.int .i64 (chkV v)) ∧ Below w.heap.size w w' := by
 obtain ⟨pa, pc, rfl⟩ := hr.form
 obtain ⟨vv, hvv⟩ : ∃ a : Array Value, Keep (a = vtx v.id.f v.ck (.slice pa v.ps.length pc)) := ⟨_, ⟨rfl⟩⟩
 rw [← hvv.out]
 have HR := Keep.mk hr
 have HL := Keep.mk hL
 clear hr hL
 go_enter Try.func67, Try.ntmps67
 refine wp_seq_k fun K1 hK1 => rgn ?_
 refine WL.box (by kernel_rfl) 39 (.tmp 0) rfl (vv) rfl ?_
 obtain ⟨w1, hwn⟩ : ∃ wx, Keep (wx = w.alloc (.cells (vv) 39)) := ⟨_, ⟨rfl⟩⟩
 rw [← hwn.out]
 have HX1 : Keep (Blk w1 w.heap.size 39 (vv)) := ⟨by rw [hwn.out]; exact Blk.new _ _ _⟩
 have LB1 : Keep (Below w.heap.size w w1) := ⟨by rw [hwn.out]; exact below_new _ _⟩
 clear hwn
 simp only [Act.put, pqA, pqB, pqC]
 refine VlS (.int .i64 0) ?_
 refine WL.nil (hK1 _ _ ?_)
 refine wp_seq_k fun K2 hK2 => ?_
 refine wp_block ?_
 refine wp_seq_k fun K3 hK3 => ?_
 have c33 : w1.cell? ⟨w.heap.size, 33, none⟩ = some (.slice pa v.ps.length pc) := HX1.out.c 33 (by rw [hvv.out]; exact vtx_ps _ _ _)
 refine rgn ?_
 refine VlS (.pointer (some ⟨w.heap.size, 33, none⟩)) ?_
 refine VlS (.slice pa v.ps.length pc) ?_
 refine VlS (.int .i64 (v.ps.length : Int)) ?_
 by_cases h1_3 : (64 : Int) < (v.ps.length : Int)
 ·skip
  refine VlS (.bool true) ?_
  refine VlS (.bool true) ?_
  refine SkS ?_
  refine SkS ?_
  refine SkS ?_
  refine SkS ?_
  refine VlS (.bool true) ?_
  refine VlS (.bool true) ?_
  refine WL.nil (hK3 _ _ ?_)
  refine wp_cond_true rfl ?_
  refine wp_seq_k fun K4 hK4 => rgn ?_
  refine VlS (.int .i64 52) ?_
  refine WL.nil (hK4 _ _ ?_)
  refine wp_ret ?_
  go_ret
  refine ⟨?_, LB1.out⟩
  rw [chkV, if_pos (.inl (by omega))]; rfl
 ·skip
  refine VlS (.bool false) ?_
  refine VlS (.bool false) ?_
  refine VlS (.pointer (some ⟨w.heap.size, 33, none⟩)) ?_
  refine VlS (.slice pa v.ps.length pc) ?_
  have hrs := rising_any _ v.ps w1 (HR.out.below LB1.out) HL.out
  clear c33
  refine WL.callF (by kernel_rfl) 87 _ _ rfl Try.in87 #[.slice pa v.ps.length pc] (by simp [Act.eval]) ?_
  refine (hrs).mono ?_
  rintro e w2 ⟨rfl, hz⟩
  refine ⟨_, rfl, ?_⟩
  have B2 := Keep.mk hz
  clear hz hrs
  have c33 : w2.cell? ⟨w.heap.size, 33, none⟩ = some (.slice pa v.ps.length pc) := (HX1.out.below B2.out HX1.out.lt).c 33 (by rw [hvv.out]; exact vtx_ps _ _ _)
  have c32 : w2.cell? ⟨w.heap.size, 32, none⟩ = some (.int .i64 v.ck) := (HX1.out.below B2.out HX1.out.lt).c 32 (by rw [hvv.out]; exact vtx_ck _ _ _)
  obtain ⟨rb, hrb⟩ : ∃ b, Keep (risesB v.ps = b) := ⟨_, ⟨rfl⟩⟩
  rw [hrb.out]
  simp only [Act.put, pqA, pqB, pqC]
  by_cases h1_8 : rb = true
  ·skip
   refine VlS (.bool false) ?_
   refine VlS (.bool false) ?_
   refine VlS (.bool false) ?_
   refine WL.nil (hK3 _ _ ?_)
   refine wp_cond_false rfl ?_
   refine wp_seq_k fun K5 hK5 => rgn ?_
   refine VlS (.pointer (some ⟨w.heap.size, 32, none⟩)) ?_
   refine VlS (.int .i64 v.ck) ?_
   by_cases h3_2 : v.ck < 1
   ·skip
    refine VlS (.bool true) ?_
    refine VlS (.bool true) ?_
    refine SkS ?_
    refine SkS ?_
    refine SkS ?_
    refine VlS (.bool true) ?_
    refine VlS (.bool true) ?_
    refine SkS ?_
    refine SkS ?_
    refine SkS ?_
    refine SkS ?_
    refine SkS ?_
    refine SkS ?_
    refine SkS ?_
    refine SkS ?_
    refine VlS (.bool true) ?_
    refine VlS (.bool true) ?_
    refine WL.nil (hK5 _ _ ?_)
    refine wp_cond_true rfl ?_
    refine wp_seq_k fun K6 hK6 => rgn ?_
    refine VlS (.int .i64 51) ?_
    refine WL.nil (hK6 _ _ ?_)
    refine wp_ret ?_
    go_ret
    refine ⟨?_, belowT LB1.out B2.out⟩
    rw [chkV, if_neg (by rw [hrb.out]; simp only [h1_8]; simp; omega), if_pos (by omega)]; rfl
   ·skip
    refine VlS (.bool false) ?_
    refine VlS (.bool false) ?_
    refine VlS (.pointer (some ⟨w.heap.size, 32, none⟩)) ?_
    refine VlS (.int .i64 v.ck) ?_
    by_cases h3_6 : 4096 < v.ck
    ·skip
     refine VlS (.bool true) ?_
     refine VlS (.bool true) ?_
     refine VlS (.bool true) ?_
     refine SkS ?_
     refine SkS ?_
     refine SkS ?_
     refine SkS ?_
     refine SkS ?_
     refine SkS ?_
     refine SkS ?_
     refine SkS ?_
     refine VlS (.bool true) ?_
     refine VlS (.bool true) ?_
     refine WL.nil (hK5 _ _ ?_)
     refine wp_cond_true rfl ?_
     refine wp_seq_k fun K7 hK7 => rgn ?_
     refine VlS (.int .i64 51) ?_
     refine WL.nil (hK7 _ _ ?_)
     refine wp_ret ?_
     go_ret
     refine ⟨?_, belowT LB1.out B2.out⟩
     rw [chkV, if_neg (by rw [hrb.out]; simp only [h1_8]; simp; omega), if_pos (by omega)]; rfl
    ·skip
     refine VlS (.bool false) ?_
     refine VlS (.bool false) ?_
     refine VlS (.bool false) ?_
     refine VlS (.pointer (some ⟨w.heap.size, 32, none⟩)) ?_
     refine VlS (.int .i64 v.ck) ?_
     by_cases h3_11 : v.ck = 1
     ·skip
      refine VlS (.bool true) ?_
      refine VlS (.pointer (some ⟨w.heap.size, 33, none⟩)) ?_
      refine VlS (.slice pa v.ps.length pc) ?_
      refine VlS (.int .i64 (v.ps.length : Int)) ?_
      by_cases h3_15 : (v.ps.length : Int) = 0
      ·have hps : v.ps = [] := List.eq_nil_of_length_eq_zero (by omega)
       refine VlS (.bool true) ?_
       refine VlS (.bool false) ?_
       refine VlS (.bool false) ?_
       refine VlS (.bool false) ?_
       refine WL.nil (hK5 _ _ ?_)
       refine wp_cond_false rfl ?_
       refine wp_skip ?_
       refine hK2 _ _ ?_
       refine wp_seq_k fun K8 hK8 => rgn ?_
       refine VlS (.int .i64 0) ?_
       refine WL.nil (hK8 _ _ ?_)
       refine wp_ret ?_
       go_ret
       refine ⟨?_, belowT LB1.out B2.out⟩
       rw [chkV, if_neg (by rw [hrb.out]; simp only [h1_8]; simp; omega), if_neg (by omega)]; rfl
      ·have hps : ¬ v.ps = [] := fun h => by rw [h] at h3_15; simp at h3_15
       refine VlS (.bool false) ?_
       refine VlS (.bool true) ?_
       refine VlS (.bool true) ?_
       refine VlS (.bool true) ?_
       refine WL.nil (hK5 _ _ ?_)
       refine wp_cond_true rfl ?_
       refine wp_seq_k fun K9 hK9 => rgn ?_
       refine VlS (.int .i64 51) ?_
       refine WL.nil (hK9 _ _ ?_)
       refine wp_ret ?_
       go_ret
       refine ⟨?_, belowT LB1.out B2.out⟩
       rw [chkV, if_neg (by rw [hrb.out]; simp only [h1_8]; simp; omega), if_pos (by omega)]; rfl
     ·skip
      refine VlS (.bool false) ?_
      refine VlS (.pointer (some ⟨w.heap.size, 33, none⟩)) ?_
      refine VlS (.slice pa v.ps.length pc) ?_
      refine VlS (.int .i64 (v.ps.length : Int)) ?_
      by_cases h3_15 : (v.ps.length : Int) = 0
      ·have hps : v.ps = [] := List.eq_nil_of_length_eq_zero (by omega)
       refine VlS (.bool true) ?_
       refine VlS (.bool true) ?_
       refine VlS (.bool true) ?_
       refine VlS (.bool true) ?_
       refine WL.nil (hK5 _ _ ?_)
       refine wp_cond_true rfl ?_
       refine wp_seq_k fun K10 hK10 => rgn ?_
       refine VlS (.int .i64 51) ?_
       refine WL.nil (hK10 _ _ ?_)
       refine wp_ret ?_
       go_ret
       refine ⟨?_, belowT LB1.out B2.out⟩
       rw [chkV, if_neg (by rw [hrb.out]; simp only [h1_8]; simp; omega), if_pos (by omega)]; rfl
      ·have hps : ¬ v.ps = [] := fun h => by rw [h] at h3_15; simp at h3_15
       refine VlS (.bool false) ?_
       refine VlS (.bool false) ?_
       refine VlS (.bool false) ?_
       refine VlS (.bool false) ?_
       refine WL.nil (hK5 _ _ ?_)
       refine wp_cond_false rfl ?_
       refine wp_skip ?_
       refine hK2 _ _ ?_
       refine wp_seq_k fun K11 hK11 => rgn ?_
       refine VlS (.int .i64 0) ?_
       refine WL.nil (hK11 _ _ ?_)
       refine wp_ret ?_
       go_ret
       refine ⟨?_, belowT LB1.out B2.out⟩
       rw [chkV, if_neg (by rw [hrb.out]; simp only [h1_8]; simp; omega), if_neg (by omega)]; rfl
  ·skip
   refine VlS (.bool true) ?_
   refine VlS (.bool true) ?_
   refine VlS (.bool true) ?_
   refine WL.nil (hK3 _ _ ?_)
   refine wp_cond_true rfl ?_
   refine wp_seq_k fun K12 hK12 => rgn ?_
   refine VlS (.int .i64 52) ?_
   refine WL.nil (hK12 _ _ ?_)
   refine wp_ret ?_
   go_ret
   refine ⟨?_, belowT LB1.out B2.out⟩
   rw [chkV, if_pos (.inr (by rw [hrb.out]; simpa using h1_8))]; rfl
set_option maxRecDepth 8000 in
set_option maxHeartbeats 1000000 in
theorem fit_any (d : Nat) (v : VX) (p : Value) (Av : Nat → Prop) (g : DG) (w : World) (hD : DagAt w Av d g) (hr : HRow w p v.ps) (hM : ∀ v ∈ g.held, 0 ≤ v.ck ∧ v.ck ≤ 4096) (hL : (v.ps.length : Int) ≤ 9223372036854775806) : Calls Try.prog 28 #[ptr d, .agg (vtx v.id.f v.ck p)] w fun e w' => e = .returned (.tuple #[.int .i64 (fitV g.held g.wait v).1, .int .i64 (fitV g.held g.wait v).2]) ∧ Below w.heap.size w w' := by
 obtain ⟨pa, pc, rfl⟩ := hr.form
 obtain ⟨vv, hvv⟩ : ∃ a : Array Value, Keep (a = vtx v.id.f v.ck (.slice pa v.ps.length pc)) := ⟨_, ⟨rfl⟩⟩
 rw [← hvv.out]
 have HD := Keep.mk hD
 have HR := Keep.mk hr
 have HM := Keep.mk hM
 have HL := Keep.mk hL
 clear hD hr hM hL
 go_enter Try.func28, Try.ntmps28
 refine wp_seq_k fun K1 hK1 => rgn ?_
 refine WL.box (by kernel_rfl) 39 (.tmp 1) rfl (vv) rfl ?_
 obtain ⟨w1, hwn⟩ : ∃ wx, Keep (wx = w.alloc (.cells (vv) 39)) := ⟨_, ⟨rfl⟩⟩
 rw [← hwn.out]
 have HX1 : Keep (Blk w1 w.heap.size 39 (vv)) := ⟨by rw [hwn.out]; exact Blk.new _ _ _⟩
 have LB1 : Keep (Below w.heap.size w w1) := ⟨by rw [hwn.out]; exact below_new _ _⟩
 clear hwn
 simp only [Act.put, pqA, pqB, pqC]
 refine VlS (.int .i64 0) ?_
 refine VlS (.int .i64 0) ?_
 refine WL.nil (hK1 _ _ ?_)
 refine wp_seq_k fun K2 hK2 => ?_
 refine wp_seq_k fun K3 hK3 => ?_
 have HD1 := Keep.mk (HD.out.below LB1.out)
 have HR1 := Keep.mk (HR.out.below LB1.out)
 clear HD HR
 refine rgn ?_
 refine VlS (.pointer (some ⟨d, 0, none⟩)) ?_
 refine VlS (.pointer (some ⟨w.heap.size, 0, none⟩)) ?_
 refine WL.midA (by kernel_rfl) 36 (.tmp 9) rfl w.heap.size 0 rfl (bytesA 32 v.id.f) _ (vtx_rng (hvv.out ▸ HX1.out)) Try.underlying36 rfl (Try.size36B _) ?_
 simp only [Act.put, pqA, pqB, pqC]
 refine WL.callF (by kernel_rfl) 45 _ _ rfl Try.in45 #[ptr d, .agg (bytesA 32 v.id.f)] (by simp [Act.eval]) ?_
 refine (has_any d v.id Av g w1 HD1.out).mono ?_
 rintro e w2 ⟨rfl, hz⟩
 refine ⟨_, rfl, ?_⟩
 have HX2 := Keep.mk (HX1.out.below hz HX1.out.lt)
 have LB2 := Keep.mk (belowT LB1.out hz)
 have HD2 := Keep.mk (HD1.out.below hz)
 have HR2 := Keep.mk (HR1.out.below hz)
 clear hz HX1 LB1 HD1 HR1
 obtain ⟨b1, Hb1⟩ : ∃ b, Keep (hasB g.held v.id = b) := ⟨_, ⟨rfl⟩⟩
 rw [show (g.held.find? (isV v.id)).isSome = b1 from Hb1.out]
 simp only [Act.put, pqA, pqB, pqC]
 by_cases h1_4 : b1 = true
 ·skip
  refine VlS (.bool true) ?_
  refine SkS ?_
  refine SkS ?_
  refine SkS ?_
  refine SkS ?_
  refine VlS (.bool true) ?_
  refine WL.nil (hK3 _ _ ?_)
  refine wp_cond_true rfl ?_
  refine wp_seq_k fun K4 hK4 => rgn ?_
  refine VlS (.int .i64 1) ?_
  refine VlS (.int .i64 0) ?_
  refine WL.nil (hK4 _ _ ?_)
  refine wp_ret ?_
  go_ret2
  refine ⟨?_, LB2.out⟩
  unfold fitV
  rw [if_pos (.inl (by rw [Hb1.out]; exact h1_4))]; rfl
 ·skip
  refine VlS (.bool false) ?_
  refine VlS (.pointer (some ⟨d, 0, none⟩)) ?_
  refine VlS (.pointer (some ⟨w.heap.size, 0, none⟩)) ?_
  refine WL.midA (by kernel_rfl) 36 (.tmp 14) rfl w.heap.size 0 rfl (bytesA 32 v.id.f) _ (vtx_rng (hvv.out ▸ HX2.out)) Try.underlying36 rfl (Try.size36B _) ?_
  simp only [Act.put, pqA, pqB, pqC]
  refine WL.callF (by kernel_rfl) 47 _ _ rfl Try.in47 #[ptr d, .agg (bytesA 32 v.id.f)] (by simp [Act.eval]) ?_
  refine (waits_any d v.id Av g w2 HD2.out).mono ?_
  rintro e w3 ⟨rfl, hz⟩
  refine ⟨_, rfl, ?_⟩
  have HX3 := Keep.mk (HX2.out.below hz HX2.out.lt)
  have LB3 := Keep.mk (belowT LB2.out hz)
  have HD3 := Keep.mk (HD2.out.below hz)
  have HR3 := Keep.mk (HR2.out.below hz)
  clear hz HX2 LB2 HD2 HR2
  obtain ⟨b2, Hb2⟩ : ∃ b, Keep (hasB g.wait v.id = b) := ⟨_, ⟨rfl⟩⟩
  rw [show (g.wait.find? (isV v.id)).isSome = b2 from Hb2.out]
  simp only [Act.put, pqA, pqB, pqC]
  refine VlS (.bool b2) ?_
  refine WL.nil (hK3 _ _ ?_)
  rcases Bool.eq_false_or_eq_true b2 with hb2 | hb2
  ·subst hb2
   refine wp_cond_true rfl ?_
   refine wp_seq_k fun K5 hK5 => rgn ?_
   refine VlS (.int .i64 1) ?_
   refine VlS (.int .i64 0) ?_
   refine WL.nil (hK5 _ _ ?_)
   refine wp_ret ?_
   go_ret2
   refine ⟨?_, LB3.out⟩
   unfold fitV
   rw [if_pos (.inr Hb2.out)]; rfl
  ·subst hb2
   refine wp_cond_false rfl ?_
   refine wp_skip ?_
   refine hK2 _ _ ?_
   refine wp_seq_k fun K6 hK6 => ?_
   refine wp_seq_k fun K7 hK7 => rgn ?_
   refine WL.row (by kernel_rfl) 39 (.tmp 3) rfl w.heap.size rfl 39 vv _ HX3.out Try.underlying39 rfl (by rw [hvv.out]; exact Try.info39s _ _ _) ?_
   simp only [Act.put, pqA, pqB, pqC]
   have hck := check_any v _ w3 HR3.out HL.out
   rw [← hvv.out] at hck
   refine WL.callF (by kernel_rfl) 67 _ _ rfl Try.in67 #[.agg vv] (by simp [Act.eval]) ?_
   refine (hck).mono ?_
   rintro e w4 ⟨rfl, hz⟩
   refine ⟨_, rfl, ?_⟩
   clear hck
   have HX4 := Keep.mk (HX3.out.below hz HX3.out.lt)
   have LB4 := Keep.mk (belowT LB3.out hz)
   have HD4 := Keep.mk (HD3.out.below hz)
   have HR4 := Keep.mk (HR3.out.below hz)
   clear hz HX3 LB3 HD3 HR3
   obtain ⟨ce, Hce⟩ : ∃ b, Keep (chkV v = b) := ⟨_, ⟨rfl⟩⟩
   rw [Hce.out]
   simp only [Act.put, pqA, pqB, pqC]
   refine VlS (.int .i64 ce) ?_
   refine WL.nil (hK7 _ _ ?_)
   refine wp_seq_k fun K8 hK8 => rgn ?_
   refine VlS (.int .i64 ce) ?_
   by_cases h4_1 : ce = 0
   ·skip
    refine VlS (.bool false) ?_
    refine WL.nil (hK8 _ _ ?_)
    refine wp_cond_false rfl ?_
    refine wp_skip ?_
    refine hK6 _ _ ?_
    refine wp_seq_k fun K9 hK9 => ?_
    refine wp_seq_k fun K10 hK10 => ?_
    have c33 : w4.cell? ⟨w.heap.size, 33, none⟩ = some (.slice pa v.ps.length pc) := HX4.out.c 33 (by rw [hvv.out]; exact vtx_ps _ _ _)
    refine rgn ?_
    refine VlS (.pointer (some ⟨d, 0, none⟩)) ?_
    refine VlS (.pointer (some ⟨w.heap.size, 33, none⟩)) ?_
    refine VlS (.slice pa v.ps.length pc) ?_
    clear c33
    have hal := hasAll_any d _ v.ps Av g w4 HD4.out HR4.out HL.out
    refine WL.callF (by kernel_rfl) 68 _ _ rfl Try.in68 #[ptr d, .slice pa v.ps.length pc] (by simp [Act.eval]) ?_
    refine (hal).mono ?_
    rintro e w5 ⟨rfl, hz⟩
    refine ⟨_, rfl, ?_⟩
    clear hal
    have HX5 := Keep.mk (HX4.out.below hz HX4.out.lt)
    have LB5 := Keep.mk (belowT LB4.out hz)
    have HD5 := Keep.mk (HD4.out.below hz)
    have HR5 := Keep.mk (HR4.out.below hz)
    clear hz HX4 LB4 HD4 HR4
    obtain ⟨ba, Hba⟩ : ∃ b, Keep (v.ps.all (hasB g.held) = b) := ⟨_, ⟨rfl⟩⟩
    rw [Hba.out]
    simp only [Act.put, pqA, pqB, pqC]
    by_cases h6_4 : ba = true
    ·skip
     refine VlS (.bool false) ?_
     refine WL.nil (hK10 _ _ ?_)
     refine wp_cond_false rfl ?_
     refine wp_skip ?_
     refine hK9 _ _ ?_
     refine wp_seq_k fun K11 hK11 => ?_
     refine wp_seq_k fun K12 hK12 => rgn ?_
     refine VlS (.pointer (some ⟨d, 0, none⟩)) ?_
     refine WL.row (by kernel_rfl) 39 (.tmp 3) rfl w.heap.size rfl 39 vv _ HX5.out Try.underlying39 rfl (by rw [hvv.out]; exact Try.info39s _ _ _) ?_
     simp only [Act.put, pqA, pqB, pqC]
     have hnx := next_any d v _ Av g w5 HD5.out HR5.out HM.out HL.out
     rw [← hvv.out] at hnx
     refine WL.callF (by kernel_rfl) 69 _ _ rfl Try.in69 #[ptr d, .agg vv] (by simp [Act.eval]) ?_
     refine (hnx).mono ?_
     rintro e w6 ⟨rfl, hz⟩
     refine ⟨_, rfl, ?_⟩
     clear hnx
     have HX6 := Keep.mk (HX5.out.below hz HX5.out.lt)
     have LB6 := Keep.mk (belowT LB5.out hz)
     have HD6 := Keep.mk (HD5.out.below hz)
     have HR6 := Keep.mk (HR5.out.below hz)
     clear hz HX5 LB5 HD5 HR5
     obtain ⟨ne, Hne⟩ : ∃ b, Keep (nextE g.held v = b) := ⟨_, ⟨rfl⟩⟩
     rw [Hne.out]
     simp only [Act.put, pqA, pqB, pqC]
     refine VlS (.int .i64 ne) ?_
     refine WL.nil (hK12 _ _ ?_)
     refine wp_seq_k fun K13 hK13 => rgn ?_
     refine VlS (.int .i64 ne) ?_
     by_cases h9_1 : ne = 0
     ·skip
      refine VlS (.bool false) ?_
      refine WL.nil (hK13 _ _ ?_)
      refine wp_cond_false rfl ?_
      refine wp_skip ?_
      refine hK11 _ _ ?_
      refine wp_seq_k fun K14 hK14 => rgn ?_
      refine VlS (.int .i64 2) ?_
      refine VlS (.int .i64 0) ?_
      refine WL.nil (hK14 _ _ ?_)
      refine wp_ret ?_
      go_ret2
      refine ⟨?_, LB6.out⟩
      unfold fitV
      rw [if_neg (by rw [Hb1.out, Hb2.out]; simp [h1_4]), Hce.out]
      rw [if_neg (by simpa using h4_1), Hba.out]
      rw [if_neg (by simp [h6_4]), Hne.out]
      rw [if_neg (by simpa using h9_1)]; rfl
     ·skip
      refine VlS (.bool true) ?_
      refine WL.nil (hK13 _ _ ?_)
      refine wp_cond_true rfl ?_
      refine wp_seq_k fun K15 hK15 => rgn ?_
      refine VlS (.int .i64 ne) ?_
      refine VlS (.int .i64 0) ?_
      refine VlS (.int .i64 ne) ?_
      refine WL.nil (hK15 _ _ ?_)
      refine wp_ret ?_
      go_ret2
      refine ⟨?_, LB6.out⟩
      unfold fitV
      rw [if_neg (by rw [Hb1.out, Hb2.out]; simp [h1_4]), Hce.out]
      rw [if_neg (by simpa using h4_1), Hba.out]
      rw [if_neg (by simp [h6_4]), Hne.out]
      rw [if_pos h9_1]; rfl
    ·skip
     refine VlS (.bool true) ?_
     refine WL.nil (hK10 _ _ ?_)
     refine wp_cond_true rfl ?_
     refine wp_seq_k fun K16 hK16 => rgn ?_
     refine VlS (.int .i64 3) ?_
     refine VlS (.int .i64 0) ?_
     refine WL.nil (hK16 _ _ ?_)
     refine wp_ret ?_
     go_ret2
     refine ⟨?_, LB5.out⟩
     unfold fitV
     rw [if_neg (by rw [Hb1.out, Hb2.out]; simp [h1_4]), Hce.out]
     rw [if_neg (by simpa using h4_1), Hba.out]
     rw [if_pos (by simpa using h6_4)]; rfl
   ·skip
    refine VlS (.bool true) ?_
    refine WL.nil (hK8 _ _ ?_)
    refine wp_cond_true rfl ?_
    refine wp_seq_k fun K17 hK17 => rgn ?_
    refine VlS (.int .i64 ce) ?_
    refine VlS (.int .i64 0) ?_
    refine VlS (.int .i64 ce) ?_
    refine WL.nil (hK17 _ _ ?_)
    refine wp_ret ?_
    go_ret2
    refine ⟨?_, LB4.out⟩
    unfold fitV
    rw [if_neg (by rw [Hb1.out, Hb2.out]; simp [h1_4]), Hce.out]
    rw [if_pos h4_1]; rfl
end Go.Proofs.Ytogmdfhicbmplaa
namespace Go.Proofs.Ytogmdfhicbmplaa
open Go.RowKit
set_option linter.unusedSimpArgs false
set_option linter.unusedVariables false

theorem Try.in64 (w : World) (vs : Array Value) : (callFunc 64 vs).run Try.prog w = .ok (.enter 64 vs) w := by kernel_rfl
theorem Try.in59 (w : World) (vs : Array Value) : (callFunc 59 vs).run Try.prog w = .ok (.enter 59 vs) w := by kernel_rfl
theorem WL.appL {ops : Array Oper} {rest : List Oper} {o : Oper} {a : Act} {w : World} {Q : Exit → Act → World → Prop} (hw : Region.wanted o (yielded ops a.tmps) = true) (s x : Operand)
  (ho : o.op = .call { callee := .builtin .append, args := #[s, x], argTypes := #[37, 37] }) (base : Nat) (v vx : Value) (L M : List Hs)
  (hs : a.eval s = v) (hx : a.eval x = vx) (hown : w.ownsRow base 36 32 v L.length (flatH L)) (hrow : HRow w vx M) (hb : L.length + M.length ≤ 4398046511104) (hbase : base ≤ w.heap.size)
  (h : ∀ v' w', w'.ownsRow base 36 32 v' (L ++ M).length (flatH (L ++ M)) → w.grownBy w' v.ownBlock → WL Try.prog ops Q rest (a.put o.dst v') w') : WL Try.prog ops Q (o :: rest) a w :=
 ⟨wpList_wanted hw fun K hK => wp_appH s x ho base v vx L M hs hx hown hrow hb hbase fun v' w' h1 h2 => hK _ _ (h v' w' h1 h2).out⟩
theorem belowG {B : Nat} {a b c : World} {o : Option Nat} (h : Below B a b) (hg : b.grownBy c o) (hB : B ≤ b.heap.size) (ho : ∀ k, o = some k → B ≤ k) : Below B a c :=
 h.trans ⟨hg.os, hg.tape, hg.output, hg.size, fun k hk => hg.block k (by omega) fun e => by have := ho k e.symm; omega⟩
theorem OwnH.of {w : World} {base : Nat} {v : Value} {l : List Hs} (h : w.ownsRow base 36 32 v l.length (flatH l)) : OwnH w v l := ownsH_mono h (Nat.zero_le _)
theorem own_new (w : World) : (w.alloc (.cells #[] 36)).ownsRow w.heap.size 36 32 (.slice (some ⟨w.heap.size, 0, none⟩) 0 0) ([] : List Hs).length (flatH []) :=
 ⟨rfl, .inr ⟨w.heap.size, 0, #[], rfl, Nat.le_refl _, Blk.new w 36 #[], Nat.le_refl _, by decide, rfl, rfl⟩⟩
theorem eqn0 (w : World) : (binOp .eql 37 (.slice none 0 0) (.slice none 0 0)).run Try.prog w = .ok (.bool true) w := by kernel_rfl
theorem eqn1 (ad : Addr) (n c : Nat) (w : World) : (binOp .eql 37 (.slice (some ad) n c) (.slice none 0 0)).run Try.prog w = .ok (.bool false) w := by kernel_rfl
/-- What a copy of a list is. -/
structure Fresh (w w' : World) (v : Value) (l : List Hs) : Prop where
 own : OwnH w' v l
 new : ∀ k, v.ownBlock = some k → w.heap.size ≤ k
 bel : Below w.heap.size w w'
set_option maxRecDepth 8000 in
theorem clone_any (v : Value) (l : List Hs) (w : World) (hr : HRow w v l) (hL : l.length ≤ 4398046511104) : Calls Try.prog 64 #[v] w fun e w' => ∃ v', e = .returned v' ∧ Fresh w w' v' l := by
 obtain ⟨pa, pc, rfl⟩ := hr.form
 have HL := Keep.mk hL
 have HR := Keep.mk hr
 rcases pa with _ | ad
 ·obtain ⟨hl, hp⟩ : l = [] ∧ pc = 0 := by
   rcases hr with ⟨a, c, h1, h2, h3⟩ | ⟨b, off, cap, h1, h2, h3⟩
   ·injection h1 with h4 h5 h6
    exact ⟨h2, by rw [h6]; exact h3 h4.symm⟩
   ·injection h1 with h4; cases h4
  have hll : l.length = 0 := by rw [hl]; rfl
  rw [hll, hp]
  clear hr hL
  go_enter Try.func64, Try.ntmps64
  refine wp_seq_k fun K1 hK1 => rgn ?_
  refine VlS (.slice none 0 0) ?_
  refine WL.nil (hK1 _ _ ?_)
  refine wp_seq_k fun K2 hK2 => ?_
  refine wp_seq_k fun K3 hK3 => rgn ?_
  refine VlS (.slice none 0 0) ?_
  refine WL.val (by kernel_rfl) (.bool true) (by go_simp; rw [eqn0]; rfl) ?_
  simp only [Act.put, pqA, pqB, pqC]
  refine WL.nil (hK3 _ _ ?_)
  refine wp_cond_true rfl ?_
  refine wp_seq_k fun K4 hK4 => rgn ?_
  refine VlS (.slice none 0 0) ?_
  refine WL.nil (hK4 _ _ ?_)
  refine wp_ret ?_
  go_ret
  exact ⟨_, rfl, ⟨by subst hl; exact ownH_nil _, fun k hk => by simp [Value.ownBlock] at hk, Below.refl _ _⟩⟩
 ·clear hr hL
  go_enter Try.func64, Try.ntmps64
  refine wp_seq_k fun K1 hK1 => rgn ?_
  refine VlS (.slice none 0 0) ?_
  refine WL.nil (hK1 _ _ ?_)
  refine wp_seq_k fun K2 hK2 => ?_
  refine wp_seq_k fun K3 hK3 => rgn ?_
  refine VlS (.slice (some ad) l.length pc) ?_
  refine WL.val (by kernel_rfl) (.bool false) (by go_simp; rw [eqn1]; rfl) ?_
  simp only [Act.put, pqA, pqB, pqC]
  refine WL.nil (hK3 _ _ ?_)
  refine wp_cond_false rfl ?_
  refine wp_skip ?_
  refine hK2 _ _ ?_
  refine wp_seq_k fun K4 hK4 => rgn ?_
  refine WL.bs (by kernel_rfl) 37 0 _ rfl #[] (by simp) _ _ (bsHE w) ?_
  have HN := Keep.mk (own_new w)
  have BN := Keep.mk (below_new w (.cells #[] 36))
  generalize w.alloc (.cells #[] 36) = w1 at *
  simp only [Act.put, pqA, pqB, pqC]
  refine VlS (.slice (some ad) l.length pc) ?_
  refine WL.appL (by kernel_rfl) (.tmp 5) (.tmp 6) rfl w.heap.size _ _ [] l rfl rfl HN.out (HR.out.below BN.out) (by have := HL.out; simp; omega) BN.out.size fun v1 w2 h1 h2 => ?_
  have H1 := Keep.mk h1
  have B2 := Keep.mk (belowG BN.out h2 BN.out.size fun k hk => by cases hk; exact Nat.le_refl _)
  clear h1 h2
  simp only [Act.put, pqA, pqB, pqC]
  refine VlS (v1) ?_
  refine WL.nil (hK4 _ _ ?_)
  refine wp_ret ?_
  go_ret
  exact ⟨_, rfl, ⟨OwnH.of H1.out, ownsH_block H1.out, B2.out⟩⟩
theorem vtx_set (c : Nat → Int) (k : Int) (p q : Value) : (vtx c k p).setIfInBounds 33 q = vtx c k q := by
 apply Array.ext_getElem?
 intro i
 rw [Array.getElem?_setIfInBounds]
 by_cases e : 33 = i
 ·subst e; rw [if_pos rfl, if_pos (by rw [vtx_size]; omega), vtx_ps]
 ·rw [if_neg e]
  unfold vtx
  by_cases h : i < 32
  ·rw [Array.getElem?_append_left (by rw [bytesA_size]; exact h), Array.getElem?_append_left (by rw [bytesA_size]; exact h)]
  ·rw [Array.getElem?_append_right (by rw [bytesA_size]; omega), Array.getElem?_append_right (by rw [bytesA_size]; omega), bytesA_size]
   by_cases h2 : i = 32
   ·subst h2; rfl
   ·rw [Array.getElem?_eq_none (by simp; omega), Array.getElem?_eq_none (by simp; omega)]
set_option maxRecDepth 8000 in
set_option maxHeartbeats 1000000 in
theorem own_any (v : VX) (p : Value) (w : World) (hr : HRow w p v.ps) (hL : v.ps.length ≤ 4398046511104) : Calls Try.prog 59 #[.agg (vtx v.id.f v.ck p)] w fun e w' => ∃ p', e = .returned (.agg (vtx v.id.f v.ck p')) ∧ Fresh w w' p' v.ps := by
 obtain ⟨pa, pc, rfl⟩ := hr.form
 obtain ⟨vv, hvv⟩ : ∃ a : Array Value, Keep (a = vtx v.id.f v.ck (.slice pa v.ps.length pc)) := ⟨_, ⟨rfl⟩⟩
 rw [← hvv.out]
 have HR := Keep.mk hr
 have HL := Keep.mk hL
 clear hr hL
 go_enter Try.func59, Try.ntmps59
 refine wp_seq_k fun K1 hK1 => rgn ?_
 refine WL.box (by kernel_rfl) 39 (.tmp 0) rfl (vv) rfl ?_
 obtain ⟨w1, hwn⟩ : ∃ wx, Keep (wx = w.alloc (.cells (vv) 39)) := ⟨_, ⟨rfl⟩⟩
 rw [← hwn.out]
 have HX1 : Keep (Blk w1 w.heap.size 39 (vv)) := ⟨by rw [hwn.out]; exact Blk.new _ _ _⟩
 have LB1 : Keep (Below w.heap.size w w1) := ⟨by rw [hwn.out]; exact below_new _ _⟩
 clear hwn
 simp only [Act.put, pqA, pqB, pqC]
 refine WL.new (by kernel_rfl) 39 rfl _ Try.new39 ?_
 obtain ⟨vz, hvz⟩ : ∃ a : Array Value, Keep (a = vtx (fun _ => 0) 0 (.slice none 0 0)) := ⟨_, ⟨rfl⟩⟩
 rw [← hvz.out]
 have HZ2 := Keep.mk (Blk.new w1 39 vz)
 have B2 := Keep.mk (below_new w1 (.cells vz 39))
 generalize w1.alloc (.cells vz 39) = w2 at *
 have HX2 := Keep.mk (HX1.out.below B2.out HX1.out.lt)
 have LB2 := Keep.mk (belowT LB1.out B2.out)
 have hne : Keep (w.heap.size < w1.heap.size) := ⟨HX1.out.lt⟩
 have hl2 : Keep (w1.heap.size < w2.heap.size) := ⟨HZ2.out.lt⟩
 generalize w1.heap.size = b2 at *
 clear HX1 B2
 simp only [Act.put, pqA, pqB, pqC]
 refine WL.nil (hK1 _ _ ?_)
 refine wp_seq_k fun K2 hK2 => ?_
 have c33 : w2.cell? ⟨w.heap.size, 33, none⟩ = some (.slice pa v.ps.length pc) := HX2.out.c 33 (by rw [hvv.out]; exact vtx_ps _ _ _)
 refine rgn ?_
 refine VlS (.pointer (some ⟨w.heap.size, 33, none⟩)) ?_
 refine VlS (.slice pa v.ps.length pc) ?_
 clear c33
 refine WL.callF (by kernel_rfl) 64 _ _ rfl Try.in64 #[.slice pa v.ps.length pc] (by simp [Act.eval]) ?_
 refine (clone_any _ v.ps w2 (HR.out.below LB2.out) HL.out).mono ?_
 rintro e w3 ⟨v1, rfl, hf⟩
 refine ⟨_, rfl, ?_⟩
 have HF := Keep.mk hf
 have HX3 := Keep.mk (HX2.out.below hf.bel HX2.out.lt)
 have HZ3 := Keep.mk (HZ2.out.below hf.bel HZ2.out.lt)
 obtain ⟨qa, qc, rfl⟩ := hf.own.sl
 clear hf HX2 HZ2
 simp only [Act.put, pqA, pqB, pqC]
 refine VlS (.pointer (some ⟨w.heap.size, 33, none⟩)) ?_
 have f_o := HX3.out.frozen 33
 have c_o : w3.cell? ⟨w.heap.size, 33, none⟩ = some (.slice pa v.ps.length pc) := HX3.out.c 33 (by rw [hvv.out]; exact vtx_ps _ _ _)
 refine WL.cell (by kernel_rfl) (w3.setCell ⟨w.heap.size, 33, none⟩ (.slice qa v.ps.length qc)) (by go_simp) ?_
 clear f_o c_o
 obtain ⟨vq, hvq⟩ : ∃ a : Array Value, Keep (a = vtx v.id.f v.ck (.slice qa v.ps.length qc)) := ⟨_, ⟨rfl⟩⟩
 have HX4 : Keep (Blk (w3.setCell ⟨w.heap.size, 33, none⟩ (.slice qa v.ps.length qc)) w.heap.size 39 vq) := ⟨by have h := HX3.out.set 33 (.slice qa v.ps.length qc); rw [hvv.out, vtx_set, ← hvq.out] at h; exact h⟩
 have HZ4 := Keep.mk (HZ3.out.set_ne (b' := w.heap.size) (j := 33) (by have := hne.out; omega) (.slice qa v.ps.length qc))
 have G4 : Keep (Grown w3 (w3.setCell ⟨w.heap.size, 33, none⟩ (.slice qa v.ps.length qc)) fun k => k = w.heap.size) := ⟨Grown.setCell w3 _ 33 _ fun _ => rfl⟩
 generalize w3.setCell ⟨w.heap.size, 33, none⟩ (.slice qa v.ps.length qc) = w4 at *
 clear HX3 HZ3
 simp only [Act.put]
 refine WL.nil (hK2 _ _ ?_)
 refine wp_seq_k fun K3 hK3 => rgn ?_
 refine WL.row (by kernel_rfl) 39 (.tmp 1) rfl w.heap.size rfl 39 vq _ HX4.out Try.underlying39 rfl (by rw [hvq.out]; exact Try.info39s _ _ _) ?_
 simp only [Act.put, pqA, pqB, pqC]
 refine WL.storeR (by kernel_rfl) 39 (.tmp 2) (.tmp 7) rfl b2 vq rfl rfl 39 vz HZ4.out (by rw [hvq.out]; exact Try.info39s _ _ _) (by rw [hvq.out, hvz.out, vtx_size, vtx_size]) (by rw [hvq.out]; exact vtx_one _ _ _ (slice_one _ _ _)) ?_
 have HZ5 := Keep.mk (HZ4.out.setRow vq)
 have G5 : Keep (Grown w4 (w4.setRow b2 vq) fun k => k = b2) := ⟨Grown.setRow w4 b2 _ fun _ => rfl⟩
 generalize w4.setRow b2 vq = w5 at *
 clear HZ4
 simp only [Act.put]
 refine WL.nil (hK3 _ _ ?_)
 refine wp_ret ?_
 refine bodyPost_ret (v := .agg vq) (results_cell_row Try.results59 _ _ b2 39 _ (0, 0) _ rfl HZ5.out Try.underlying39 rfl (by rw [hvq.out]; exact Try.info39s _ _ _)) rfl ?_
 refine ⟨_, by rw [hvq.out], ?_, fun k hk => Nat.le_trans LB2.out.size (HF.out.new k hk), ?_⟩
 ·refine (HF.out.own.grown G4.out fun k hk e => ?_).grown G5.out fun k hk e => ?_
  ·have := HF.out.new k hk; have := LB2.out.size; have := hne.out; have := hl2.out; omega
  ·have := HF.out.new k hk; have := hl2.out; omega
 ·refine LB2.out.trans ?_
  have g3 : Grown w2 w5 (fun k => k = w.heap.size ∨ k = b2) := ((Grown.below (S := fun k => k = w.heap.size ∨ k = b2) HF.out.bel).trans (G4.out.mono fun k _ e => .inl e)).trans (G5.out.mono fun k _ e => .inr e)
  exact g3.to_below (fun k hk e => by have := hne.out; omega) LB2.out.size
end Go.Proofs.Ytogmdfhicbmplaa
