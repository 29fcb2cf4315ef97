import Derived.Test.YteijjfeainamdaaGreatDoorChecked
import Derived.WalkKit
import Derived.WalkSpells
import Derived.WalkLawsBesides
import Derived.BigQuiet
import Derived.BigRegion
import Derived.Deep.WholeRow
import Derived.Deep.MidRow
import Derived.Deep.RegionWith
import Derived.Deep.DeepCutAuto
import Derived.Deep.RegionHeld3
import Derived.Deep.QuietTactic
import Derived.Laws.OwnMore
import Derived.Laws.BytesArg
import Derived.Lib.AppendStr
import Derived.Maps.AppendAt
import Derived.ChangeKeysEq
import Derived.ArgAppend
import Derived.Lib.ConvBytes
import Derived.Laws.CopyOwn
namespace Go.Proofs.YteijjfeainamdaaGreatDoor
open Go.RowKit

theorem hid_in {p : Prop} (h : p) : Hid p := h
structure Keep (p : Prop) : Prop where
 out : p

def Blk (w : World) (b : Nat) (T : TypeId) (cs : Array Value) : Prop := w.heap[b]? = some (.cells cs T (0, 0))

theorem Blk.lt {w : World} {b : Nat} {T : TypeId} {cs : Array Value} (h : Blk w b T cs) : b < w.heap.size := (Array.getElem?_eq_some_iff.1 h).1
theorem Blk.cell {w : World} {b : Nat} {T : TypeId} {cs : Array Value} (h : Blk w b T cs) (j : Nat) : w.cell? ⟨b, j, none⟩ = cs[j]? := cell_of_row w b j cs T (0, 0) h
theorem Blk.frozen {w : World} {b : Nat} {T : TypeId} {cs : Array Value} (h : Blk w b T cs) (j : Nat) : w.frozen? ⟨b, j, none⟩ = false := by
 unfold Blk at h; simp [World.frozen?, h]
theorem Blk.new (w : World) (T : TypeId) (cs : Array Value) : Blk (w.alloc (.cells cs T)) w.heap.size T cs := heap_alloc_new w _
theorem Blk.alloc {w : World} {b : Nat} {T : TypeId} {cs : Array Value} (h : Blk w b T cs) (o : Obj) : Blk (w.alloc o) b T cs := by
 unfold Blk; rw [Below.heap_alloc w o b h.lt]; exact h
theorem Blk.drew {w : World} {b : Nat} {T : TypeId} {cs : Array Value} (h : Blk w b T cs) : Blk w.drew b T cs := h
theorem Blk.below {w w' : World} {B b : Nat} {T : TypeId} {cs : Array Value} (h : Blk w b T cs) (hb : Below B w w') (hlt : b < B) : Blk w' b T cs := by
 unfold Blk; rw [hb.block b hlt]; exact h
theorem Blk.set {w : World} {b : Nat} {T : TypeId} {cs : Array Value} (h : Blk w b T cs) (j : Nat) (v : Value) : Blk (w.setCell ⟨b, j, none⟩ v) b T (cs.setIfInBounds j v) := by
 unfold Blk; rw [setCell_eq_setRow w b j cs T (0, 0) v h]; exact setRow_heap w b cs _ T (0, 0) h
theorem Blk.set_ne {w : World} {b b' j : Nat} {T : TypeId} {cs : Array Value} (h : Blk w b T cs) (hne : b ≠ b') (v : Value) : Blk (w.setCell ⟨b', j, none⟩ v) b T cs := by
 unfold Blk; rw [Below.heap_setCell w _ v b hne]; exact h
theorem Blk.setRow {w : World} {b : Nat} {T : TypeId} {cs : Array Value} (h : Blk w b T cs) (cs' : Array Value) : Blk (w.setRow b cs') b T cs' := setRow_heap w b cs cs' T (0, 0) h
theorem Blk.setRow_ne {w : World} {b b' : Nat} {T : TypeId} {cs : Array Value} (h : Blk w b T cs) (hne : b ≠ b') (cs' : Array Value) : Blk (w.setRow b' cs') b T cs := by
 unfold Blk; rw [setRow_other w b' b cs' hne]; exact h
theorem below_setRow {B : Nat} {a w : World} (h : Below B a w) {b : Nat} (hb : B ≤ b) (cs : Array Value) : Below B a (w.setRow b cs) :=
 h.trans ⟨rfl, rfl, rfl, by simp, fun k hk => setRow_other w b k cs (by omega)⟩
theorem below_new (w : World) (o : Obj) : Below w.heap.size w (w.alloc o) := (Below.refl _ _).alloc (Nat.le_refl _) o
theorem blk_type {w : World} {k : Nat} {T T' : TypeId} {cs cs' : Array Value} (h : Blk w k T cs) (h' : Blk w k T' cs') : T = T' := by
 unfold Blk at h h'; rw [h] at h'; simp at h'; exact h'.2
theorem blk_ne {w : World} {k k' : Nat} {T T' : TypeId} {cs cs' : Array Value} (h : Blk w k T cs) (h' : Blk w k' T' cs') (ht : T ≠ T') : k ≠ k' := by
 rintro rfl; exact ht (blk_type h h')
theorem cell_lt {w : World} {h j : Nat} {v : Value} (hc : w.cell? ⟨h, j, none⟩ = some v) : h < w.heap.size := by
 apply Nat.lt_of_not_le; intro hle
 simp [World.cell?, Array.getElem?_eq_none hle] at hc

abbrev ptr (g : Nat) : Value := .pointer (some ⟨g, 0, none⟩)

theorem grownBy_refl (w : World) (o : Option Nat) : w.grownBy w o := ⟨rfl, rfl, rfl, Nat.le_refl _, fun _ _ _ => rfl⟩
theorem grownBy_setCell (w : World) (g j : Nat) (v : Value) : w.grownBy (w.setCell ⟨g, j, none⟩ v) (some g) :=
 ⟨rfl, rfl, rfl, by simp [World.setCell], fun i _ hn => Below.heap_setCell w _ v i (fun e => hn (by rw [e]))⟩
theorem grownBy_setRow (w : World) (g : Nat) (cs : Array Value) : w.grownBy (w.setRow g cs) (some g) :=
 ⟨rfl, rfl, rfl, by simp, fun i _ hn => setRow_other w g i cs (fun e => hn (by rw [e]))⟩
theorem grownBy_below {w w' : World} (h : Below w.heap.size w w') (o : Option Nat) : w.grownBy w' o := ⟨h.os, h.tape, h.output, h.size, fun i hi _ => h.block i hi⟩

structure Grown (w w' : World) (S : Nat → Prop) : Prop where
 os : w'.os = w.os
 tape : w'.tape = w.tape
 output : w'.output = w.output
 size : w.heap.size ≤ w'.heap.size
 block : ∀ k, k < w.heap.size → ¬ S k → w'.heap[k]? = w.heap[k]?
theorem Grown.refl (w : World) (S : Nat → Prop) : Grown w w S := ⟨rfl, rfl, rfl, Nat.le_refl _, fun _ _ _ => rfl⟩
theorem Grown.trans {a b c : World} {S : Nat → Prop} (h : Grown a b S) (k : Grown b c S) : Grown a c S :=
 ⟨k.os.trans h.os, k.tape.trans h.tape, k.output.trans h.output, Nat.le_trans h.size k.size, fun i hi hs => (k.block i (Nat.lt_of_lt_of_le hi h.size) hs).trans (h.block i hi hs)⟩
theorem Grown.next {a b c : World} {S T : Nat → Prop} (h : Grown a b S) (k : Grown b c T) (hT : ∀ i, i < a.heap.size → T i → S i) : Grown a c S :=
 ⟨k.os.trans h.os, k.tape.trans h.tape, k.output.trans h.output, Nat.le_trans h.size k.size, fun i hi hs => (k.block i (Nat.lt_of_lt_of_le hi h.size) (fun ht => hs (hT i hi ht))).trans (h.block i hi hs)⟩
theorem Grown.mono {a b : World} {S T : Nat → Prop} (h : Grown a b S) (hT : ∀ i, i < a.heap.size → S i → T i) : Grown a b T := (Grown.refl a T).next h hT
theorem Grown.of {a b : World} {S : Nat → Prop} {o : Option Nat} (h : a.grownBy b o) (ho : ∀ k, k < a.heap.size → o = some k → S k) : Grown a b S :=
 ⟨h.os, h.tape, h.output, h.size, fun i hi hs => h.block i hi (fun e => hs (ho i hi e.symm))⟩
theorem Grown.below {a b : World} {S : Nat → Prop} (h : Below a.heap.size a b) : Grown a b S := ⟨h.os, h.tape, h.output, h.size, fun i hi _ => h.block i hi⟩
theorem Grown.alloc (w : World) (o : Obj) (S : Nat → Prop) : Grown w (w.alloc o) S := Grown.below (below_new w o)
theorem Grown.drew {a b : World} {S : Nat → Prop} (h : Grown a b S) : Grown a b.drew S := ⟨h.os, h.tape, h.output, h.size, h.block⟩
theorem Grown.setCell (w : World) (g j : Nat) (v : Value) {S : Nat → Prop} (hS : g < w.heap.size → S g) : Grown w (w.setCell ⟨g, j, none⟩ v) S :=
 Grown.of (grownBy_setCell w g j v) fun k hk e => by injection e with e; subst e; exact hS hk
theorem Grown.setRow (w : World) (g : Nat) (cs : Array Value) {S : Nat → Prop} (hS : g < w.heap.size → S g) : Grown w (w.setRow g cs) S :=
 Grown.of (grownBy_setRow w g cs) fun k hk e => by injection e with e; subst e; exact hS hk
theorem Grown.blk {a b : World} {S : Nat → Prop} (h : Grown a b S) {k : Nat} {T : TypeId} {cs : Array Value} (hk : Blk a k T cs) (hs : ¬ S k) : Blk b k T cs := by
 unfold Blk; rw [h.block k hk.lt hs]; exact hk
theorem Grown.cell {a b : World} {S : Nat → Prop} (h : Grown a b S) {k j : Nat} {v : Value} (hk : a.cell? ⟨k, j, none⟩ = some v) (hs : ¬ S k) : b.cell? ⟨k, j, none⟩ = some v := by
 rw [World.cell?_of_block (h.block k (cell_lt hk) hs)]; exact hk
theorem Grown.to_below {a b : World} {S : Nat → Prop} (h : Grown a b S) {B : Nat} (hs : ∀ k, k < B → ¬ S k) (hB : B ≤ a.heap.size) : Below B a b :=
 ⟨h.os, h.tape, h.output, h.size, fun i hi => h.block i (by omega) (hs i hi)⟩

def bv (l : List Int) : List Value := l.map fun c => .int .u8 c
theorem bv_len (l : List Int) : (bv l).length = l.length := by simp [bv]
theorem bv_get (l : List Int) (i : Nat) (h : i < l.length) : (bv l)[i]? = some (.int .u8 (l.getD i 0)) := by
 simp [bv, h, List.getD]
theorem bv_app (a b : List Int) : bv (a ++ b) = bv a ++ bv b := by simp [bv]
theorem bv_one (l : List Int) : ∀ u ∈ bv l, u.oneCell' = true := fun u hu => by simp [bv] at hu; obtain ⟨_, _, rfl⟩ := hu; rfl
theorem bv_take (l : List Int) (n : Nat) : (bv l).take n = bv (l.take n) := by simp [bv, List.map_take]
def RowAt (w : World) (v : Value) (l : List Int) : Prop :=
 (v = .slice none 0 0 ∧ l = []) ∨ (∃ a c, v = .slice (some a) 0 c ∧ l = []) ∨ ∃ h off cap, v = .slice (some ⟨h, off, none⟩) l.length cap ∧ l.length ≤ cap ∧ ∀ i, i < l.length → w.cell? ⟨h, off + i, none⟩ = some (.int .u8 (l.getD i 0))
theorem row_form {w : World} {v : Value} {l : List Int} (h : RowAt w v l) : ∃ a c, v = .slice a l.length c := by
 rcases h with ⟨rfl, rfl⟩ | ⟨a, c, rfl, rfl⟩ | ⟨b, off, cap, rfl, _⟩
 ·exact ⟨_, _, rfl⟩
 ·exact ⟨_, _, rfl⟩
 ·exact ⟨_, _, rfl⟩
theorem RowAt.grown {w w' : World} {v : Value} {l : List Int} {S : Nat → Prop} (h : RowAt w v l) (hg : Grown w w' S) (hs : ∀ b, v.ownBlock = some b → b < w.heap.size → ¬ S b) : RowAt w' v l := by
 rcases h with h | h | ⟨b, off, cap, h1, h2, h3⟩
 ·exact .inl h
 ·exact .inr (.inl h)
 ·exact .inr (.inr ⟨b, off, cap, h1, h2, fun i hi => hg.cell (h3 i hi) (hs b (by rw [h1]; rfl) (cell_lt (h3 i hi)))⟩)
theorem RowAt.below {w w' : World} {v : Value} {l : List Int} (h : RowAt w v l) (hb : Below w.heap.size w w') : RowAt w' v l :=
 h.grown (Grown.below (S := fun _ => False) hb) fun _ _ _ h => h

def Own (w : World) (v : Value) (l : List Int) : Prop := w.ownsRow 0 5 1 v l.length (bv l)
theorem own_nil (w : World) : Own w (.slice none 0 0) [] := ⟨rfl, .inl ⟨rfl, rfl⟩⟩
theorem Own.row {w : World} {v : Value} {l : List Int} (h : Own w v l) : RowAt w v l := by
 have h' := h
 obtain ⟨_, h2⟩ := h
 rcases h2 with ⟨rfl, h0⟩ | ⟨g, cap, cur, rfl, hg, hh, hc, _⟩
 ·exact .inl ⟨rfl, List.eq_nil_of_length_eq_zero (by omega)⟩
 ·refine .inr <| .inr ⟨g, 0, cap, rfl, by omega, fun i hi => ?_⟩
  rw [Nat.zero_add, World.ownsRow.cellAt h' i (by omega), bv_get l i hi]
theorem Own.lt {w : World} {v : Value} {l : List Int} (h : Own w v l) : ∀ k, v.ownBlock = some k → k < w.heap.size := fun k hk => (World.ownsRow.lt h k hk).2
theorem Own.grown {w w' : World} {v : Value} {l : List Int} {S : Nat → Prop} (h : Own w v l) (hg : Grown w w' S) (hs : ∀ k, v.ownBlock = some k → ¬ S k) : Own w' v l := by
 refine ⟨h.1, ?_⟩
 rcases h.2 with h1 | ⟨g, cap, cur, rfl, h2, h3, h4⟩
 ·exact .inl h1
 ·exact .inr ⟨g, cap, cur, rfl, h2, hg.blk h3 (hs g rfl), h4⟩
theorem Own.form {w : World} {v : Value} {l : List Int} (h : Own w v l) : (v = .slice none 0 0 ∧ l = []) ∨ ∃ g cap cur, v = .slice (some ⟨g, 0, none⟩) l.length cap ∧ Blk w g 5 cur ∧ l.length ≤ cap ∧ cap ≤ maxLen ∧ cur.size = cap ∧ cur.toList.take l.length = bv l := by
 rcases h.2 with ⟨rfl, h0⟩ | ⟨g, cap, cur, rfl, _, h3, h4, h5, h6, h7⟩
 ·exact .inl ⟨rfl, List.eq_nil_of_length_eq_zero h0⟩
 ·exact .inr ⟨g, cap, cur, rfl, h3, h4, h5, by omega, by simpa using h7⟩
theorem Own.mk {w : World} {g cap : Nat} {cur : Array Value} {l : List Int} (h3 : Blk w g 5 cur) (h4 : l.length ≤ cap) (h5 : cap ≤ maxLen) (h6 : cur.size = cap) (h7 : cur.toList.take l.length = bv l) : Own w (.slice (some ⟨g, 0, none⟩) l.length cap) l :=
 ⟨by rw [bv_len]; omega, .inr ⟨g, cap, cur, rfl, Nat.zero_le _, h3, h4, h5, by omega, by simpa using h7⟩⟩
def Moved (w : World) (v v' : Value) : Prop := v'.ownBlock = v.ownBlock ∨ ∃ k, v'.ownBlock = some k ∧ w.heap.size ≤ k
theorem Moved.refl (w : World) (v : Value) : Moved w v v := .inl rfl
theorem Moved.trans {a b : World} {v v1 v2 : Value} (h : Moved a v v1) (hs : a.heap.size ≤ b.heap.size) (k : Moved b v1 v2) : Moved a v v2 := by
 rcases k with e | ⟨j, h1, h2⟩
 ·rcases h with h | ⟨i, h1, h2⟩
  ·exact .inl (e.trans h)
  ·exact .inr ⟨i, e.trans h1, h2⟩
 ·exact .inr ⟨j, h1, by omega⟩
theorem Moved.old {a : World} {v v1 : Value} (h : Moved a v v1) {k : Nat} (hk : k < a.heap.size) (e : v1.ownBlock = some k) : v.ownBlock = some k := by
 rcases h with h | ⟨i, h1, h2⟩
 ·rw [← h]; exact e
 ·rw [h1] at e; injection e with e; omega

theorem Tryz.info5 : (Tryz.prog.info? 5).map (fun i => (i.zero, i.size, i.bytes)) = some (some (.int .u8 0), 1, 1) := by kernel_rfl
theorem row_one (w : World) (c : Int) : RowAt (w.alloc (.cells #[.int .u8 c] 5)) (.slice (some ⟨w.heap.size, 0, none⟩) 1 1) [c] := by
 refine .inr <| .inr ⟨w.heap.size, 0, 1, rfl, by simp, fun i hi => ?_⟩
 have e : i = 0 := by simp at hi; exact hi
 subst e
 rw [(Blk.new w 5 #[.int .u8 c]).cell]; rfl

def AppPost (w : World) (v : Value) (l : List Int) (v' : Value) (w' : World) : Prop :=
 Own w' v' l ∧ ((v'.ownBlock = v.ownBlock ∧ Grown w w' fun k => v.ownBlock = some k) ∨ (v'.ownBlock = some w.heap.size ∧ Below w.heap.size w w'))
theorem AppPost.moved {w w' : World} {v v' : Value} {l : List Int} (h : AppPost w v l v' w') : Moved w v v' := by
 rcases h.2 with h | h
 ·exact .inl h.1
 ·exact .inr ⟨_, h.1, Nat.le_refl _⟩
theorem AppPost.grown {w w' : World} {v v' : Value} {l : List Int} (h : AppPost w v l v' w') : Grown w w' fun k => v.ownBlock = some k := by
 rcases h.2 with h | h
 ·exact h.2
 ·exact Grown.below h.2

section
theorem run_app_cells (w : World) (ty : TypeId) (v : Value) (l : List Int) (hown : Own w v l) (a : Addr) (c : Nat) (m : List Int) (hnews : ∀ j u, (bv m)[j]? = some u → w.cell? (a.add j) = some u) (hb : l.length + m.length ≤ 140737488355328) :
  ∃ v' w', (Builtin.append_ #[40, 40] ty #[v, .slice (some a) m.length c]).run Tryz.prog w = .ok v' w' ∧ AppPost w v (l ++ m) v' w' := by
 obtain ⟨i, hi, hzz⟩ := Option.map_eq_some_iff.1 Tryz.info5
 simp only [Prod.mk.injEq] at hzz
 obtain ⟨hz, hsz, hby⟩ := hzz
 have h63 : l.length + m.length ≤ maxLen := by unfold maxLen; omega
 have hlm : (bv m).length = m.length * i.size := by rw [bv_len, hsz]; omega
 obtain ⟨v', w', hr, h1, h2, _, h3⟩ := run_append_own_at (P := Tryz.prog) w 0 40 ty 5 i (.int .u8 0) 1 1 Tryz.underlying40 hi hz hsz hby rfl (by omega) v l.length (bv l) hown a m.length c (bv m) (by rw [bv_len]; omega) hnews (bv_one m) h63 (by omega) (Nat.zero_le _)
 have hO : Own w' v' (l ++ m) := by unfold Own; rw [List.length_append, bv_app]; exact h1
 refine ⟨v', w', hr, hO, ?_⟩
 rcases hown.form with ⟨rfl, rfl⟩ | ⟨g, cap, cur, rfl, hg, hnc, hcm, hcs, htake⟩
 ·rcases h3 with h3 | h3
  ·exact .inl ⟨h3, Grown.of h2 fun k _ e => by simp [Value.ownBlock] at e⟩
  ·exact .inr ⟨h3, h2.os, h2.tape, h2.output, h2.size, fun k hk => h2.block k hk (by simp [Value.ownBlock])⟩
 ·by_cases hroom : l.length + m.length ≤ cap
  ·have hr2 := run_append_room (P := Tryz.prog) w 40 ty 5 i Tryz.underlying40 hi g l.length cap cur hg a m.length c (bv m) hlm hnews (bv_one m) hroom (by rw [hsz, bv_len, hcs]; omega)
   have e := hr.symm.trans hr2
   injection e with e1 e2
   subst e1
   exact .inl ⟨rfl, Grown.of h2 fun k _ e => e⟩
  ·have holds : ∀ j u, (bv l)[j]? = some u → w.cell? ((⟨g, 0, none⟩ : Addr).add j) = some u := World.ownsRow.cells (g := g) hown rfl
   have hr2 := run_append_grow (P := Tryz.prog) w 40 ty 5 i (.int .u8 0) Tryz.underlying40 hi hz ⟨g, 0, none⟩ l.length cap (bv l) (by rw [bv_len, hsz]; omega) holds a m.length c (bv m) hlm hnews (by omega) (by omega) (by rw [hby]; exact growslice_fits (by omega) (by omega))
   have e := hr.symm.trans hr2
   injection e with e1 e2
   subst e1 e2
   exact .inr ⟨rfl, ⟨rfl, rfl, rfl, by simp, fun k hk => Below.heap_alloc w.drew _ k hk⟩⟩
theorem run_app_row (w : World) (ty : TypeId) (v vx : Value) (l m : List Int) (hown : Own w v l) (hrow : RowAt w vx m) (hb : l.length + m.length ≤ 140737488355328) :
  ∃ v' w', (Builtin.append_ #[40, 40] ty #[v, vx]).run Tryz.prog w = .ok v' w' ∧ AppPost w v (l ++ m) v' w' := by
 rcases hrow with ⟨rfl, rfl⟩ | ⟨ad, c, rfl, rfl⟩ | ⟨b, off, cap, rfl, hcap, hc⟩
 ·obtain ⟨i, hi, _⟩ := Option.map_eq_some_iff.1 Tryz.info5
  have hrun := run_append_owned_none (P := Tryz.prog) (w := w) 0 40 ty 5 i 1 Tryz.underlying40 hi v l.length (bv l) hown
  exact ⟨v, w, hrun, by simpa using hown, .inl ⟨rfl, Grown.refl _ _⟩⟩
 ·exact run_app_cells w ty v l hown ad c [] (fun j u hu => by simp [bv] at hu) hb
 ·refine run_app_cells w ty v l hown ⟨b, off, none⟩ cap m (fun j u hu => ?_) hb
  have hj : j < m.length := by have := (List.getElem?_eq_some_iff.1 hu).1; rwa [bv_len] at this
  rw [bv_get m j hj] at hu
  rw [Addr.add_mid, hc j hj]; exact hu
end
theorem wpList_app {ops : Array Oper} {rest : List Oper} {o : Oper} {a : Act} {w : World} {Q : Exit → Act → World → Prop} (hgd : o.guard = none) (s x : Operand)
  (ho : o.op = .call { callee := .builtin .append, args := #[s, x], argTypes := #[40, 40] }) (v vx : Value) (l m : List Int)
  (hs : a.eval s = v) (hx : a.eval x = vx) (hown : Own w v l) (hrow : RowAt w vx m) (hb : l.length + m.length ≤ 140737488355328)
  (h : ∀ v' w', AppPost w v (l ++ m) v' w' → wpList Tryz.prog ops Q rest (a.put o.dst v') w') : wpList Tryz.prog ops Q (o :: rest) a w := by
 refine wpList_plain hgd fun K hK => ?_
 obtain ⟨v', w', hr, h2⟩ := run_app_row w o.type v vx l m hown hrow hb
 unfold Oper.wp execOp
 simp only [ho, resolve, invoke, builtin, Sem.run_bind, Sem.run_pure, Result.andThen_ok, List.map_toArray, List.map_cons, List.map_nil, hs, hx, hr]
 exact hK _ _ (h v' w' h2)
def Byts (l : List Int) : Prop := ∀ c ∈ l, 0 ≤ c ∧ c < 256
theorem Own.sl {w : World} {v : Value} {l : List Int} (h : Own w v l) : ∃ a n c, v = .slice a n c := by
 rcases h.form with ⟨rfl, _⟩ | ⟨g, cap, cur, rfl, _⟩
 ·exact ⟨_, _, _, rfl⟩
 ·exact ⟨_, _, _, rfl⟩
def lst (s : ByteArray) : List Int := s.data.toList.map fun b => (b.toNat : Int)
theorem lst_len (s : ByteArray) : (lst s).length = s.size := by simp [lst]
def bytesA (n : Nat) (c : Nat → Int) : Array Value := Array.ofFn (n := n) fun i => .int .u8 (c i.val)
def upd (c : Nat → Int) (t : Nat) (v : Int) : Nat → Int := fun i => if i = t then v else c i
theorem bytesA_size (n : Nat) (c : Nat → Int) : (bytesA n c).size = n := by simp [bytesA]
theorem bytesA_get (n : Nat) (c : Nat → Int) (j : Nat) (h : j < n) : (bytesA n c)[j]? = some (.int .u8 (c j)) := by simp [bytesA, h]
theorem bytesA_set (n : Nat) (c : Nat → Int) (j : Nat) (v : Int) : (bytesA n c).setIfInBounds j (.int .u8 v) = bytesA n (upd c j v) := by
 apply Array.ext_getElem?
 intro i
 rw [Array.getElem?_setIfInBounds]
 by_cases e : j = i
 ·subst e
  by_cases hj : j < n <;> simp [bytesA, upd, hj]
 ·by_cases hi : i < n <;> simp [bytesA, upd, hi, e, Ne.symm e]
theorem bytesA_one (n : Nat) (c : Nat → Int) : (bytesA n c).all (·.oneCell') = true := by
 rw [Array.all_eq_true_iff_forall_mem]; intro v hv; simp [bytesA] at hv; obtain ⟨i, rfl⟩ := hv; rfl
theorem bytesA_sizes (n : Nat) (c d : Nat → Int) : (bytesA n c).size = (bytesA n d).size := by rw [bytesA_size, bytesA_size]
theorem bytesA_congr {n : Nat} {c d : Nat → Int} (h : ∀ i, i < n → c i = d i) : bytesA n c = bytesA n d := by
 apply Array.ext_getElem?
 intro i
 by_cases hi : i < n
 ·rw [bytesA_get _ _ _ hi, bytesA_get _ _ _ hi, h i hi]
 ·rw [Array.getElem?_eq_none (by rw [bytesA_size]; omega), Array.getElem?_eq_none (by rw [bytesA_size]; omega)]
def hl (n : Nat) (c : Nat → Int) : List Int := (List.range n).map c
theorem hl_len (n : Nat) (c : Nat → Int) : (hl n c).length = n := by simp [hl]
theorem hl_get (n : Nat) (c : Nat → Int) (i : Nat) (h : i < n) : (hl n c).getD i 0 = c i := by simp [hl, List.getD_eq_getElem?_getD, h]
theorem hl_bytesA (n : Nat) (c : Nat → Int) : (bytesA n c).toList = bv (hl n c) := by
 apply List.ext_getElem?
 intro i
 rw [Array.getElem?_toList]
 by_cases h : i < n
 ·rw [bytesA_get _ _ _ h, bv_get _ _ (by rw [hl_len]; exact h), hl_get _ _ _ h]
 ·rw [Array.getElem?_eq_none (by rw [bytesA_size]; omega), List.getElem?_eq_none (by rw [bv_len, hl_len]; omega)]
theorem Tryz.size129 : (Tryz.prog.info? 129).map (·.size) = some 32 := by kernel_rfl
theorem Tryz.size129B (c : Nat → Int) : (Tryz.prog.info? 129).map (·.size) = some (bytesA 32 c).size := by rw [bytesA_size]; exact Tryz.size129
theorem run_box_agg {P : Program} (w : World) (t : TypeId) (cs : Array Value) : (Instr.box t (.agg cs)).run P w = .ok (.pointer (some ⟨w.heap.size, 0, none⟩)) (w.alloc (.cells cs t)) := rfl
theorem wpList_boxA {P : Program} {ops : Array Oper} {rest : List Oper} {o : Oper} {a : Act} {w : World} {Q : Exit → Act → World → Prop} (hg : o.guard = none) (t : TypeId) (x : Operand) (ho : o.op = .box t x)
  (cs : Array Value) (hx : a.eval x = .agg cs)
  (h : wpList P ops Q rest (a.put o.dst (.pointer (some ⟨w.heap.size, 0, none⟩))) (w.alloc (.cells cs t))) : wpList P ops Q (o :: rest) a w := by
 refine wpList_plain hg fun K hK => ?_
 unfold Oper.wp execOp
 simp only [ho, hx, Sem.run_bind, run_box_agg, Result.andThen_ok]
 exact hK _ _ h
theorem row_arr {w : World} {g : Nat} {T : TypeId} {n : Nat} {c : Nat → Int} (h : Blk w g T (bytesA n c)) : RowAt w (.slice (some ⟨g, 0, none⟩) n n) (hl n c) := by
 refine .inr (.inr ⟨g, 0, n, by rw [hl_len], by rw [hl_len]; exact Nat.le_refl _, fun i hi => ?_⟩)
 rw [hl_len] at hi
 rw [Nat.zero_add, h.cell, bytesA_get _ _ _ hi, hl_get _ _ _ hi]
theorem made_bytes (n : Nat) : madeCells #[.int .u8 0] n = bytesA n fun _ => 0 := by
 apply Array.ext_getElem?
 intro i
 by_cases h : i < n <;> simp [madeCells, bytesA, h, Nat.mod_one]
theorem run_makeB (l c : Nat) (hlc : l ≤ c) (hc : c ≤ 281474976710656) (w : World) : (Instr.makeSlice 40 (.int .i64 (l : Int)) (.int .i64 (c : Int))).run Tryz.prog w = .ok (.slice (some ⟨w.heap.size, 0, none⟩) l c) (w.alloc (.cells (bytesA c fun _ => 0) 5)) := by
 obtain ⟨i, hi, hzz⟩ := Option.map_eq_some_iff.1 Tryz.info5
 simp only [Prod.mk.injEq] at hzz
 obtain ⟨hz, hs, hb⟩ := hzz
 have hr := run_make (P := Tryz.prog) w 40 5 i (.int .u8 0) Tryz.underlying40 hi hz .i64 .i64 (l : Int) (c : Int) (by omega) (by omega) (by rw [hb]; omega) (by omega)
 simp only [Int.toNat_natCast, hs, Nat.mul_one, Value.cells] at hr
 rw [made_bytes] at hr
 exact hr
theorem Own.box {w : World} {v : Value} {l : List Int} (h : Own w v l) (o : Obj) : Own (w.alloc o) v l := h.grown (Grown.alloc w o fun _ => False) fun _ _ h => h
theorem Tryz.new129 (w : World) : (Instr.alloc 129 true (.tuple #[])).run Tryz.prog w = .ok (.pointer (some ⟨w.heap.size, 0, none⟩)) (w.alloc (.cells (bytesA 32 fun _ => 0) 129)) := by kernel_rfl
theorem wpList_bld {P : Program} {ops : Array Oper} {rest : List Oper} {o : Oper} {a : Act} {w : World} {Q : Exit → Act → World → Prop} (hg : o.guard = none) (t : TypeId) (parts : Array (Nat × Operand)) (ho : o.op = .build t parts)
  (cells : Array Value) (hf : P.built t (parts.map fun (i, x) => (i, a.eval x)).toList = some cells)
  (h : wpList P ops Q rest (a.put o.dst (.agg cells)) w) : wpList P ops Q (o :: rest) a w :=
 wpList_build hg t parts ho (by rw [hf]; rfl) (by rw [hf]; exact h)
theorem wpList_new {P : Program} {ops : Array Oper} {rest : List Oper} {o : Oper} {a : Act} {w : World} {Q : Exit → Act → World → Prop} (hg : o.guard = none) (t : TypeId) (ho : o.op = .alloc t)
  (cells : Array Value) (hf : ∀ w : World, (Instr.alloc t true (.tuple #[])).run P w = .ok (.pointer (some ⟨w.heap.size, 0, none⟩)) (w.alloc (.cells cells t)))
  (h : wpList P ops Q rest (a.put o.dst (.pointer (some ⟨w.heap.size, 0, none⟩))) (w.alloc (.cells cells t))) : wpList P ops Q (o :: rest) a w := by
 refine wpList_plain hg fun K hK => ?_
 unfold Oper.wp execOp
 simp only [ho, Sem.run_bind, hf w, Result.andThen_ok]
 exact hK _ _ h
theorem conv_row (v : Value) (l : List Int) (w : World) (h : RowAt w v l) : (convert 40 9 v).run Tryz.prog w = .ok (.string (strOfNums l)) w := by
 rcases h with ⟨rfl, rfl⟩ | ⟨a, c, rfl, rfl⟩ | ⟨b, off, cap, rfl, _, hc⟩
 ·rw [run_convert_bytes_nil (P := Tryz.prog) w 40 5 Tryz.underlying40 Tryz.underlying5 0 0 9 Tryz.underlying9]; rfl
 ·rw [run_convert_bytes_string (P := Tryz.prog) w 40 9 5 _ 0 c Tryz.underlying40 Tryz.underlying5 Tryz.underlying9]
  simp [Conv.bytesToString, loadCells, loadCellsFrom, strOfNums]
  rfl
 ·exact run_convert_bytes_arg (P := Tryz.prog) w 40 5 Tryz.underlying40 Tryz.underlying5 b off l.length cap l rfl hc 9 Tryz.underlying9
theorem grow_free {w : World} {v : Value} {B : Nat} (ho : ∃ k, v.ownBlock = some k ∧ B ≤ k) (hB : B ≤ w.heap.size) {w' : World} {v' : Value} {m : List Int} (hp : AppPost w v m v' w') : (∃ k, v'.ownBlock = some k ∧ B ≤ k) ∧ Below B w w' := by
 obtain ⟨k, hk, hBk⟩ := ho
 rcases hp.2 with ⟨h1, h2⟩ | ⟨h1, h2⟩
 ·exact ⟨⟨k, by rw [h1, hk], hBk⟩, h2.to_below (fun i hi e => by rw [hk] at e; injection e with e; omega) hB⟩
 ·exact ⟨⟨_, h1, hB⟩, h2.mono hB⟩
def Typ (w : World) (k : Nat) (T : TypeId) : Prop := ∃ cs fz, w.heap[k]? = some (.cells cs T fz)
theorem Blk.typ {w : World} {k : Nat} {T : TypeId} {cs : Array Value} (h : Blk w k T cs) : Typ w k T := ⟨cs, _, h⟩
theorem Typ.lt {w : World} {k : Nat} {T : TypeId} (h : Typ w k T) : k < w.heap.size := by
 obtain ⟨cs, fz, h⟩ := h
 exact (Array.getElem?_eq_some_iff.1 h).1
theorem Typ.one {w : World} {k : Nat} {T T' : TypeId} (h : Typ w k T) (h' : Typ w k T') : T = T' := by
 obtain ⟨cs, fz, h⟩ := h
 obtain ⟨cs', fz', h'⟩ := h'
 rw [h] at h'; simp at h'; exact h'.2.1
theorem Typ.ne {w : World} {k k' : Nat} {T T' : TypeId} (h : Typ w k T) (h' : Typ w k' T') (ht : T ≠ T') : k ≠ k' := by
 rintro rfl; exact ht (h.one h')
theorem Grown.typ {a b : World} {S : Nat → Prop} (h : Grown a b S) {k : Nat} {T : TypeId} (hk : Typ a k T) (hs : ¬ S k) : Typ b k T := by
 have hlt := hk.lt
 obtain ⟨cs, fz, h1⟩ := hk
 exact ⟨cs, fz, by rw [h.block k hlt hs]; exact h1⟩
theorem Own.typ {w : World} {v : Value} {l : List Int} (h : Own w v l) {k : Nat} (hk : v.ownBlock = some k) : Typ w k 5 := by
 rcases h.2 with ⟨rfl, _⟩ | ⟨g, cap, cur, rfl, _, h3, _⟩
 ·simp [Value.ownBlock] at hk
 ·simp [Value.ownBlock] at hk
  subst hk
  exact ⟨cur, _, h3⟩
def OwnT (w : World) (v : Value) (l : List Int) : Prop :=
 (v = .slice none 0 0 ∧ l = []) ∨ ∃ g cap cur fz, v = .slice (some ⟨g, 0, none⟩) l.length cap ∧ w.heap[g]? = some (.cells cur 5 fz) ∧ (fz = (0, 0) ∨ cap ≤ fz.1) ∧ l.length ≤ cap ∧ cap ≤ maxLen ∧ cur.size = cap ∧ cur.toList.take l.length = bv l
theorem Own.tail {w : World} {v : Value} {l : List Int} (h : Own w v l) : OwnT w v l := by
 rcases h.form with h | ⟨g, cap, cur, rfl, hb, h3, h4, h5, h6⟩
 ·exact .inl h
 ·exact .inr ⟨g, cap, cur, _, rfl, hb, .inl rfl, h3, h4, h5, h6⟩
theorem OwnT.typ {w : World} {v : Value} {l : List Int} (h : OwnT w v l) {k : Nat} (hk : v.ownBlock = some k) : Typ w k 5 := by
 rcases h with ⟨rfl, _⟩ | ⟨g, cap, cur, fz, rfl, h3, _⟩
 ·simp [Value.ownBlock] at hk
 ·simp [Value.ownBlock] at hk
  subst hk
  exact ⟨cur, _, h3⟩
theorem OwnT.lt {w : World} {v : Value} {l : List Int} (h : OwnT w v l) : ∀ k, v.ownBlock = some k → k < w.heap.size := fun _ hk => (h.typ hk).lt
theorem OwnT.ne {w : World} {v : Value} {l : List Int} {p : Nat} {T : TypeId} {cs : Array Value} (h : OwnT w v l) (hp : Blk w p T cs) (hT : T ≠ 5) : v.ownBlock ≠ some p := fun e => hT (hp.typ.one (h.typ e))
theorem OwnT.grown {w w' : World} {v : Value} {l : List Int} {S : Nat → Prop} (h : OwnT w v l) (hg : Grown w w' S) (hs : ∀ k, v.ownBlock = some k → ¬ S k) : OwnT w' v l := by
 rcases h with h1 | ⟨g, cap, cur, fz, rfl, h3, h4⟩
 ·exact .inl h1
 ·exact .inr ⟨g, cap, cur, fz, rfl, by rw [hg.block g (Array.getElem?_eq_some_iff.1 h3).1 (hs g rfl)]; exact h3, h4⟩
theorem OwnT.box {w : World} {v : Value} {l : List Int} (h : OwnT w v l) (o : Obj) : OwnT (w.alloc o) v l := h.grown (Grown.alloc w o fun _ => False) fun _ _ h => h
theorem take_get {cur : Array Value} {l : List Int} {n : Nat} (h : cur.toList.take n = bv l) (hl : l.length = n) (t : Nat) (ht : t < n) : cur[t]? = some (.int .u8 (l.getD t 0)) := by
 have h1 := bv_get l t (by omega)
 rw [← h, List.getElem?_take, if_pos ht] at h1
 simpa using h1
theorem OwnT.cells {w : World} {g n cap : Nat} {l : List Int} (h : OwnT w (.slice (some ⟨g, 0, none⟩) n cap) l) (t : Nat) (ht : t < l.length) : w.cell? ⟨g, t, none⟩ = some (.int .u8 (l.getD t 0)) ∧ w.frozen? ⟨g, t, none⟩ = false := by
 rcases h with ⟨e, _⟩ | ⟨g', cap', cur, fz, e, hb, hf, h3, h4, h5, h6⟩
 ·cases e
 ·injection e with e1 e2 e3
  injection e1 with e1
  injection e1 with e1
  subst e1 e2 e3
  refine ⟨by rw [cell_of_row w g t cur 5 fz hb]; exact take_get h6 rfl t ht, ?_⟩
  rcases hf with rfl | hf
  ·simp [World.frozen?, hb]
  ·simp only [World.frozen?, hb]
   simp
   omega
theorem OwnT.row {w : World} {v : Value} {l : List Int} (h : OwnT w v l) : RowAt w v l := by
 have h' := h
 rcases h with h1 | ⟨g, cap, cur, fz, rfl, hb, hf, h3, h4, h5, h6⟩
 ·exact .inl h1
 ·exact .inr (.inr ⟨g, 0, cap, rfl, h3, fun i hi => by rw [Nat.zero_add]; exact (h'.cells i hi).1⟩)
theorem OwnT.sl {w : World} {v : Value} {l : List Int} (h : OwnT w v l) : ∃ a n c, v = .slice a n c := by
 rcases h with ⟨rfl, _⟩ | ⟨g, cap, cur, fz, rfl, _⟩
 ·exact ⟨_, _, _, rfl⟩
 ·exact ⟨_, _, _, rfl⟩
theorem OwnT.addr {w : World} {va : Option Addr} {n vc : Nat} {l : List Int} (h : OwnT w (.slice va n vc) l) (h0 : 0 < l.length) : ∃ g, va = some ⟨g, 0, none⟩ := by
 rcases h with ⟨_, e⟩ | ⟨g, cap, cur, fz, e, _⟩
 ·subst e; simp at h0
 ·injection e with e1 _ _
  exact ⟨g, e1⟩
theorem bv_set (l : List Int) (t : Nat) (c : Int) : (bv l).set t (.int .u8 c) = bv (l.set t c) := by simp [bv, List.map_set]
theorem OwnT.set {w : World} {g n cap : Nat} {l : List Int} (h : OwnT w (.slice (some ⟨g, 0, none⟩) n cap) l) (t : Nat) (c : Int) : OwnT (w.setCell ⟨g, t, none⟩ (.int .u8 c)) (.slice (some ⟨g, 0, none⟩) n cap) (l.set t c) := by
 rcases h with ⟨e, _⟩ | ⟨g', cap', cur, fz, e, hb, hf, h3, h4, h5, h6⟩
 ·cases e
 ·injection e with e1 e2 e3
  injection e1 with e1
  injection e1 with e1
  subst e1 e2 e3
  refine .inr ⟨g, cap, cur.setIfInBounds t (.int .u8 c), fz, by rw [List.length_set], ?_, hf, by rw [List.length_set]; exact h3, h4, by simp [h5], ?_⟩
  ·rw [setCell_eq_setRow w g t cur 5 fz _ hb]; exact setRow_heap w g cur _ 5 fz hb
  ·rw [Array.toList_setIfInBounds, List.length_set, List.take_set, h6, bv_set]
theorem OwnT.plain {w : World} {va : Option Addr} {n vc : Nat} {l : List Int} (h : OwnT w (.slice va n vc) l) : (∀ a, va = some a → a.off = 0 ∧ a.spot = none) ∧ (va = none → n = 0 ∧ vc = 0) ∧ n ≤ vc ∧ n = l.length := by
 rcases h with ⟨e, e2⟩ | ⟨g, cap, cur, fz, e, hb, _, h3, _⟩
 ·injection e with e1 e2 e3
  subst e1 e2 e3
  subst e2
  exact ⟨fun a ha => by simp at ha, fun _ => ⟨rfl, rfl⟩, by omega, rfl⟩
 ·injection e with e1 e2 e3
  subst e1 e2 e3
  exact ⟨fun a ha => by simp at ha; subst ha; exact ⟨rfl, rfl⟩, fun h => by simp at h, h3, rfl⟩
def AppPostT (w : World) (v : Value) (l : List Int) (v' : Value) (w' : World) : Prop :=
 OwnT w' v' l ∧ ((v'.ownBlock = v.ownBlock ∧ Grown w w' fun k => v.ownBlock = some k) ∨ (v'.ownBlock = some w.heap.size ∧ Below w.heap.size w w'))
theorem AppPostT.grown {w w' : World} {v v' : Value} {l : List Int} (h : AppPostT w v l v' w') : Grown w w' fun k => v.ownBlock = some k := by
 rcases h.2 with h | h
 ·exact h.2
 ·exact Grown.below h.2
theorem AppPost.tail {w w' : World} {v v' : Value} {l : List Int} (h : AppPost w v l v' w') : AppPostT w v l v' w' := ⟨h.1.tail, h.2⟩
theorem take_set_next (L : List Value) (n : Nat) (x : Value) (h : n < L.length) : (L.set n x).take (n + 1) = L.take n ++ [x] := by
 rw [List.take_succ_eq_append_getElem (by rw [List.length_set]; exact h), List.getElem_set_self]
 congr 1
 rw [List.take_set]
 exact List.set_eq_of_length_le (by simp; omega)
theorem run_app_one (w : World) (ty : TypeId) (v : Value) (l : List Int) (hown : OwnT w v l) (g1 : Nat) (m : Int) (hc : w.cell? ⟨g1, 0, none⟩ = some (.int .u8 m)) (hb : l.length + 1 ≤ 140737488355328) :
  ∃ v' w', (Builtin.append_ #[40, 40] ty #[v, .slice (some ⟨g1, 0, none⟩) 1 1]).run Tryz.prog w = .ok v' w' ∧ AppPostT w v (l ++ [m]) v' w' := by
 obtain ⟨i, hi, hzz⟩ := Option.map_eq_some_iff.1 Tryz.info5
 simp only [Prod.mk.injEq] at hzz
 obtain ⟨hz, hsz, hby⟩ := hzz
 have hnews : ∀ j u, (bv [m])[j]? = some u → w.cell? ((⟨g1, 0, none⟩ : Addr).add j) = some u := fun j u hu => by
  cases j with
  | zero => simp [bv] at hu; subst hu; exact hc
  | succ j => simp [bv] at hu
 rcases hown with ⟨rfl, rfl⟩ | ⟨g, cap, cur, fz, rfl, hg, hf, hnc, hcm, hcs, htake⟩
 ·obtain ⟨v', w', hr, hp⟩ := run_app_cells w ty (.slice none 0 0) [] (own_nil w) ⟨g1, 0, none⟩ 1 [m] hnews (by simp)
  exact ⟨v', w', hr, hp.tail⟩
 ·by_cases hroom : l.length + 1 ≤ cap
  ·have hcell : (w.cell? ⟨g, l.length, none⟩).isSome = true := by
    rw [cell_of_row w g l.length cur 5 fz hg, Array.getElem?_eq_getElem (by omega)]; rfl
   have hfr : w.frozen? ⟨g, l.length, none⟩ = false := by
    rcases hf with rfl | hf
    ·simp [World.frozen?, hg]
    ·simp only [World.frozen?, hg]
     simp
     omega
   have hr := run_append_room_cells (P := Tryz.prog) w 40 ty 5 i Tryz.underlying40 hi g 0 l.length cap ⟨g1, 0, none⟩ 1 1 (bv [m]) (by rw [bv_len, hsz]; rfl) hnews (bv_one _) hroom
    (fun j hj => by
     have e : j = 0 := by rw [bv_len] at hj; simpa using hj
     subst e; rw [hsz]; simpa using hcell)
    (fun j hj => by
     have e : j = 0 := by rw [bv_len] at hj; simpa using hj
     subst e; rw [hsz]; simpa using hfr)
   have e : w.setCells g (0 + l.length * i.size) (bv [m]) = w.setCell ⟨g, l.length, none⟩ (.int .u8 m) := by
    rw [hsz, Nat.mul_one, Nat.zero_add]; rfl
   rw [e] at hr
   refine ⟨_, _, hr, .inr ⟨g, cap, cur.setIfInBounds l.length (.int .u8 m), fz, by simp, ?_, hf, by simpa using hroom, hcm, by simp [hcs], ?_⟩, .inl ⟨rfl, Grown.setCell w g _ _ fun _ => rfl⟩⟩
   ·rw [setCell_eq_setRow w g l.length cur 5 fz _ hg]; exact setRow_heap w g cur _ 5 fz hg
   ·have hlt9 : l.length < cur.toList.length := by simp; omega
    rw [Array.toList_setIfInBounds, List.length_append, List.length_singleton, bv_app, ← htake, take_set_next cur.toList l.length (.int .u8 m) hlt9]
    rfl
  ·have holds : ∀ j u, (bv l)[j]? = some u → w.cell? ((⟨g, 0, none⟩ : Addr).add j) = some u := fun j u hu => by
    have hj : j < l.length := by have := (List.getElem?_eq_some_iff.1 hu).1; rwa [bv_len] at this
    rw [bv_get l j hj] at hu
    rw [Addr.add_mid, Nat.zero_add, cell_of_row w g j cur 5 fz hg, take_get htake rfl j hj]; exact hu
   obtain ⟨v', w', hr, h1, h2⟩ := run_append_arg_grows (P := Tryz.prog) w 40 ty 5 i (.int .u8 0) 1 1 Tryz.underlying40 hi hz hsz hby rfl (by omega) ⟨g, 0, none⟩ l.length cap (bv l) (by rw [bv_len]; omega) holds ⟨g1, 0, none⟩ 1 1 (bv [m]) (by rw [bv_len]; rfl) hnews (by omega) (by unfold maxLen; omega) (by omega)
   have hr2 := run_append_grow (P := Tryz.prog) w 40 ty 5 i (.int .u8 0) Tryz.underlying40 hi hz ⟨g, 0, none⟩ l.length cap (bv l) (by rw [bv_len, hsz]; omega) holds ⟨g1, 0, none⟩ 1 1 (bv [m]) (by rw [bv_len, hsz]; rfl) hnews (by omega) (by omega) (by rw [hby]; exact growslice_fits (by omega) (by omega))
   have e := hr.symm.trans hr2
   injection e with e1 e2
   have hO : Own w' v' (l ++ [m]) := by
    refine ⟨by rw [bv_len]; omega, ?_⟩
    rcases h1.2 with ⟨_, h0⟩ | ⟨g', cap', cur', e', _, hb', h3', h4', h5', h6'⟩
    ·omega
    ·refine .inr ⟨g', cap', cur', by rw [List.length_append]; exact e', Nat.zero_le _, hb', by rw [List.length_append]; exact h3', h4', h5', ?_⟩
     rw [List.length_append, bv_app]; exact h6'
   refine ⟨v', w', hr, hO.tail, .inr ⟨by rw [e1]; rfl, h2.os, h2.tape, h2.output, h2.size, fun k hk => h2.block k hk (by simp)⟩⟩
theorem wpList_appT {ops : Array Oper} {rest : List Oper} {o : Oper} {a : Act} {w : World} {Q : Exit → Act → World → Prop} (hgd : o.guard = none) (s x : Operand)
  (ho : o.op = .call { callee := .builtin .append, args := #[s, x], argTypes := #[40, 40] }) (v : Value) (l : List Int) (g1 : Nat) (m : Int)
  (hs : a.eval s = v) (hx : a.eval x = .slice (some ⟨g1, 0, none⟩) 1 1) (hown : OwnT w v l) (hc : w.cell? ⟨g1, 0, none⟩ = some (.int .u8 m)) (hb : l.length + 1 ≤ 140737488355328)
  (h : ∀ v' w', AppPostT w v (l ++ [m]) v' w' → wpList Tryz.prog ops Q rest (a.put o.dst v') w') : wpList Tryz.prog ops Q (o :: rest) a w := by
 refine wpList_plain hgd fun K hK => ?_
 obtain ⟨v', w', hr, h2⟩ := run_app_one w o.type v l hown g1 m hc hb
 unfold Oper.wp execOp
 simp only [ho, resolve, invoke, builtin, Sem.run_bind, Sem.run_pure, Result.andThen_ok, List.map_toArray, List.map_cons, List.map_nil, hs, hx, hr]
 exact hK _ _ (h v' w' h2)
theorem cell_one (w : World) (x : Value) (t : TypeId) : (w.alloc (.cells #[x] t)).cell? ⟨w.heap.size, 0, none⟩ = some x := by rw [(Blk.new w t #[x]).cell]; rfl
theorem Tryz.info40 : (Tryz.prog.info? 40).map (fun i => (i.zero, i.size, i.bytes)) = some (some (.slice none 0 0), 1, 24) := by kernel_rfl
def OwnV (w : World) (v : Value) (xs : List Value) : Prop := w.ownsRow 0 40 1 v xs.length xs
theorem ownV_nil (w : World) : OwnV w (.slice none 0 0) [] := ⟨rfl, .inl ⟨rfl, rfl⟩⟩
theorem OwnV.lt {w : World} {v : Value} {xs : List Value} (h : OwnV w v xs) : ∀ k, v.ownBlock = some k → k < w.heap.size := fun k hk => (World.ownsRow.lt h k hk).2
theorem OwnV.grown {w w' : World} {v : Value} {xs : List Value} {S : Nat → Prop} (h : OwnV w v xs) (hg : Grown w w' S) (hs : ∀ k, v.ownBlock = some k → ¬ S k) : OwnV w' v xs := by
 refine ⟨h.1, ?_⟩
 rcases h.2 with h1 | ⟨g, cap, cur, rfl, h2, h3, h4⟩
 ·exact .inl h1
 ·exact .inr ⟨g, cap, cur, rfl, h2, hg.blk h3 (hs g rfl), h4⟩
theorem OwnV.ne {w : World} {v : Value} {xs : List Value} {p : Nat} {T : TypeId} {cs : Array Value} (h : OwnV w v xs) (hp : Blk w p T cs) (hT : T ≠ 40) : v.ownBlock ≠ some p := by
 intro e
 rcases h.2 with ⟨rfl, _⟩ | ⟨g, cap, cur, rfl, _, h3, _⟩
 ·simp [Value.ownBlock] at e
 ·simp [Value.ownBlock] at e
  subst e
  exact hT (blk_type hp h3)
theorem OwnV.sl {w : World} {v : Value} {xs : List Value} (h : OwnV w v xs) : ∃ a c, v = .slice a xs.length c := by
 rcases h.2 with ⟨rfl, h0⟩ | ⟨g, cap, cur, rfl, _⟩
 ·exact ⟨none, 0, by rw [h0]⟩
 ·exact ⟨_, _, rfl⟩
theorem OwnV.at {w : World} {v : Value} {xs : List Value} (h : OwnV w v xs) (i : Nat) (hi : i < xs.length) : ∃ g c, v = .slice (some ⟨g, 0, none⟩) xs.length c ∧ w.cell? ⟨g, i, none⟩ = xs[i]? := by
 rcases h.2 with ⟨rfl, h0⟩ | ⟨g, cap, cur, rfl, _⟩
 ·omega
 ·exact ⟨g, cap, rfl, World.ownsRow.cellAt h i (by omega)⟩
theorem wpList_appV {ops : Array Oper} {rest : List Oper} {o : Oper} {a : Act} {w : World} {Q : Exit → Act → World → Prop} (hgd : o.guard = none) (s x : Operand)
  (ho : o.op = .call { callee := .builtin .append, args := #[s, x], argTypes := #[31, 31] }) (v u : Value) (xs : List Value) (g : Nat) (hu : u.oneCell' = true)
  (hs : a.eval s = v) (hx : a.eval x = .slice (some ⟨g, 0, none⟩) 1 1) (hown : OwnV w v xs) (hc : w.cell? ⟨g, 0, none⟩ = some u) (hb : xs.length + 1 ≤ 4398046511104)
  (h : ∀ v' w', OwnV w' v' (xs ++ [u]) → Moved w v v' → (Grown w w' fun k => v.ownBlock = some k) → wpList Tryz.prog ops Q rest (a.put o.dst v') w') : wpList Tryz.prog ops Q (o :: rest) a w := by
 obtain ⟨i, hi, hzz⟩ := Option.map_eq_some_iff.1 Tryz.info40
 simp only [Prod.mk.injEq] at hzz
 obtain ⟨hz, hsz, hby⟩ := hzz
 refine wpList_append_own_at w hgd s x 31 ho 0 40 i (.slice none 0 0) 1 24 Tryz.underlying31 hi hz hsz hby rfl (by omega) v xs.length xs hs hown ⟨g, 0, none⟩ 1 1 [u] hx rfl
  (fun j y hy => by
   cases j with
   | zero => simp at hy; subst hy; exact hc
   | succ j => simp at hy)
  (fun y hy => by simp at hy; subst hy; exact hu) (by unfold maxLen; omega) (by omega) (Nat.zero_le _) ?_
 intro v' w' h1 h2 _ h4
 refine h v' w' ?_ ?_ (Grown.of h2 fun k _ e => e)
 ·unfold OwnV; rw [List.length_append]; exact h1
 ·rcases h4 with h4 | h4
  ·exact .inl h4
  ·exact .inr ⟨_, h4, Nat.le_refl _⟩
def updN {α : Type} (f : Nat → α) (k : Nat) (x : α) : Nat → α := fun i => if i = k then x else f i
theorem updN_self {α : Type} (f : Nat → α) (k : Nat) (x : α) : updN f k x k = x := by simp [updN]
theorem updN_ne {α : Type} (f : Nat → α) {k i : Nat} (x : α) (h : i ≠ k) : updN f k x i = f i := by simp [updN, h]
theorem range_upd {α : Type} (f : Nat → α) (N : Nat) (x : α) : (List.range (N + 1)).map (updN f N x) = (List.range N).map f ++ [x] := by
 rw [List.range_succ, List.map_append]
 congr 1
 ·apply List.map_congr_left
  intro i hi
  rw [updN_ne]
  have := List.mem_range.1 hi
  omega
 ·simp [updN_self]
theorem OwnV.sl3 {w : World} {v : Value} {xs : List Value} (h : OwnV w v xs) : ∃ a n c, v = .slice a n c := by
 obtain ⟨a, c, e⟩ := h.sl
 exact ⟨a, _, c, e⟩
theorem OwnV.typ {w : World} {v : Value} {xs : List Value} (h : OwnV w v xs) {k : Nat} (hk : v.ownBlock = some k) : Typ w k 40 := by
 rcases h.2 with ⟨rfl, _⟩ | ⟨g, cap, cur, rfl, _, h3, _⟩
 ·simp [Value.ownBlock] at hk
 ·simp [Value.ownBlock] at hk
  subst hk
  exact ⟨cur, _, h3⟩
theorem results_cell_row2 {P : Program} {fn : Func} {p u : Tmp} {ty : TypeId} (h : fn.results = #[.cell p ty, .tmp u]) (tmps : Array Value) (w : World) (g : Nat) (t : TypeId) (cs : Array Value) (fr : Nat × Nat) (d : TypeDesc) (y : Value)
  (hp : tmps.getD p undef = .pointer (some ⟨g, 0, none⟩)) (hy : tmps.getD u undef = y) (hg : w.heap[g]? = some (.cells cs t fr))
  (hu : P.underlying ty = some d) (hd : (match d with | .struct _ | .array _ _ => true | _ => false) = true) (hi : (P.info? ty).map (·.size) = some cs.size) :
  (results fn tmps).run P w = .ok (.tuple #[.agg cs, y]) w := by
 rw [results_cell_tmp h, hp, hy]
 simp [asAddr, Result.andThen, run_loadVar_row w g t ty cs fr d hg hu hd hi]
theorem Tryz.isAgg5 (w : World) : (isAgg 5).run Tryz.prog w = .ok false w := by kernel_rfl
theorem Tryz.size5 : (Tryz.prog.info? 5).map (·.size) = some 1 := by kernel_rfl
theorem run_callF {P : Program} (a : Act) (o : Oper) (f : FuncId) (args : Array Operand) (ts : Array TypeId) (ho : o.op = .call { callee := .value (.func f), args := args, argTypes := ts })
  (hf : ∀ (w : World) (vs : Array Value), (callFunc f vs).run P w = .ok (.enter f vs) w) (w : World) :
  (execOp a.eval o).run P w = .ok (.enter f (args.map a.eval)) w := by
 unfold execOp
 simp only [ho]
 simp [resolve, Act.eval, go_sem]
 exact hf w _
theorem wp_callF {P : Program} {Q : Exit → Act → World → Prop} {o : Oper} {a : Act} {w : World} {K : Act → World → Prop} (f : FuncId) (args : Array Operand) (ts : Array TypeId) (ho : o.op = .call { callee := .value (.func f), args := args, argTypes := ts })
  (hf : ∀ (w : World) (vs : Array Value), (callFunc f vs).run P w = .ok (.enter f vs) w)
  (vs : Array Value) (hvs : args.map a.eval = vs)
  (R : Value → World → Prop) (hc : Calls P f vs w fun e w' => ∃ v, e = .returned v ∧ R v w')
  (h : ∀ v w', R v w' → K (a.put o.dst v) w') : o.wp P a w K Q := by
 unfold Oper.wp
 rw [run_callF a o f args ts ho hf w, Oper.upon_enter, hvs]
 refine hc.mono ?_
 rintro e w' ⟨v, rfl, hr⟩
 exact h v w' hr
theorem blk_range {w : World} {b : Nat} {T : TypeId} {cs : Array Value} (h : Blk w b T cs) : w.rangeAt b 0 cs.toList := fun j v hv => by
 rw [Nat.zero_add, h.cell]; simpa using hv
theorem wp_val {P : Program} {Q : Exit → Act → World → Prop} {o : Oper} {a : Act} {w : World} {K : Act → World → Prop} (v : Value) (hrun : (execOp a.eval o).run P w = .ok (.value v) w) (h : K (a.put o.dst v) w) : o.wp P a w K Q := by
 unfold Oper.wp
 rw [hrun]
 exact h
theorem Tryz.elemBy : Tryz.prog.elem 40 = 5 := by kernel_rfl
theorem Tryz.sizeOf5 (w : World) : (sizeOf 5).run Tryz.prog w = .ok 1 w := by kernel_rfl
theorem yieldsIf_slice {P : Program} {ops : Array Oper} {S : World → Prop} {op : Oper} {a : Act} (hw : Region.wanted op (yielded ops a.tmps) = true) (t : TypeId) (x hi : Operand) (ho : op.op = .slice t x none (some hi) none)
  (vx vh vs : Value) (hx : a.eval x = vx) (hh : a.eval hi = vh) (hr : ∀ w : World, (Instr.sliceAt t vx none (some vh) none).run P w = .ok vs w) : YieldsIf P ops S op vs a :=
 .inl ⟨hw, fun w _ => by
  unfold execOp
  simp only [ho, hx, hh, Option.map_some, Option.map_none, Sem.run_bind, hr w, Result.andThen_ok, Sem.run_pure]⟩
theorem sl_run (base : Option Addr) (n cap a : Nat) (ha : a ≤ cap) (wx : World) : (Instr.sliceAt 40 (.slice base n cap) none (some (.int .i64 (a : Int))) none).run Tryz.prog wx = .ok (.slice base a cap) wx := by
 have hu : Tryz.prog.underlying 40 = some (.slice (Tryz.prog.elem 40)) := by rw [Tryz.elemBy]; exact Tryz.underlying40
 have h1 := run_slice_h (P := Tryz.prog) (w := wx) 40 base n cap hu .i64 (a : Int) (by omega) (by omega)
 have h2 := run_sliceAt_slice (P := Tryz.prog) (w := wx) 40 (.slice base n cap) none (some (.int .i64 (a : Int))) none hu
 rw [Tryz.elemBy] at h1
 have h3 : sliced base 0 (a : Int).toNat cap 1 = .slice base a cap := by
  have h4 : (if cap = 0 then base else base.map (·.add (0 * 1))) = base := by
   split
   ·rfl
   ·cases base <;> rfl
  unfold sliced
  rw [h4, Int.toNat_natCast, Nat.sub_zero, Nat.sub_zero]
 rw [h2, h1]
 refine (congrArg (fun z => Result.andThen z fun s w => Result.ok (sliced base 0 (a : Int).toNat cap s) w) (Tryz.sizeOf5 wx)).trans ?_
 show Result.ok (sliced base 0 (a : Int).toNat cap 1) wx = _
 rw [h3]
theorem sub_any (vb : Value) (lb : List Int) (w : World) (hr : RowAt w vb lb) (a : Nat) (ha : a ≤ lb.length) :
  ∃ vs, (∀ wx : World, (Instr.sliceAt 40 vb none (some (.int .i64 (a : Int))) none).run Tryz.prog wx = .ok vs wx) ∧ ∀ wx, RowAt wx vb lb → RowAt wx vs (lb.take a) := by
 rcases hr with ⟨rfl, rfl⟩ | ⟨ad, c, rfl, rfl⟩ | ⟨h, off, cap, rfl, hc, _⟩
 ·obtain rfl : a = 0 := by simpa using ha
  exact ⟨_, sl_run none 0 0 0 (by omega), fun wx h => by simpa using h⟩
 ·obtain rfl : a = 0 := by simpa using ha
  exact ⟨_, sl_run (some ad) 0 c 0 (by omega), fun wx h => by simpa using h⟩
 ·refine ⟨_, sl_run (some ⟨h, off, none⟩) lb.length cap a (by omega), fun wx hx => ?_⟩
  rcases hx with ⟨e, _⟩ | ⟨ad, c, e, rfl⟩ | ⟨h', off', cap', e, _, h3⟩
  ·cases e
  ·obtain rfl : a = 0 := by simpa using ha
   exact .inr (.inl ⟨_, _, rfl, by simp⟩)
  ·injection e with e1 e2 e3
   injection e1 with e1
   injection e1 with e1 e4
   subst e1 e3 e4
   have hl : (lb.take a).length = a := by rw [List.length_take]; omega
   refine .inr (.inr ⟨h, off, cap, by rw [hl], by omega, fun i hi => ?_⟩)
   rw [hl] at hi
   rw [h3 i (by omega)]
   simp [List.getD_eq_getElem?_getD, hi]
theorem results_cell1_row {P : Program} {fn : Func} {p : Tmp} {ty : TypeId} (h : fn.results = #[.cell p ty]) (tmps : Array Value) (w : World) (g : Nat) (t : TypeId) (cs : Array Value) (fr : Nat × Nat) (d : TypeDesc)
  (hp : tmps.getD p undef = .pointer (some ⟨g, 0, none⟩)) (hg : w.heap[g]? = some (.cells cs t fr))
  (hu : P.underlying ty = some d) (hd : (match d with | .struct _ | .array _ _ => true | _ => false) = true) (hi : (P.info? ty).map (·.size) = some cs.size) :
  (results fn tmps).run P w = .ok (.agg cs) w := by
 have hr := run_loadVar_row (P := P) w g t ty cs fr d hg hu hd hi
 simp only [results, h]
 simp only [Array.getD_eq_getD_getElem?] at hp
 simp [asAddr, hp, hr]
theorem own_empty (w : World) (g : Nat) (h : Blk w g 5 #[]) : Own w (.slice (some ⟨g, 0, none⟩) 0 0) [] := Own.mk (l := []) h (Nat.le_refl _) (Nat.zero_le _) rfl (by simp [bv])
theorem wp_app {Q : Exit → Act → World → Prop} {o : Oper} {a : Act} {w : World} {K : Act → World → Prop} (s x : Operand)
  (ho : o.op = .call { callee := .builtin .append, args := #[s, x], argTypes := #[40, 40] }) (v vx : Value) (l m : List Int)
  (hs : a.eval s = v) (hx : a.eval x = vx) (hown : Own w v l) (hrow : RowAt w vx m) (hb : l.length + m.length ≤ 140737488355328)
  (h : ∀ v' w', AppPost w v (l ++ m) v' w' → K (a.put o.dst v') w') : o.wp Tryz.prog a w K Q := by
 obtain ⟨v', w', hr, h2⟩ := run_app_row w o.type v vx l m hown hrow hb
 unfold Oper.wp execOp
 simp only [ho, resolve, invoke, builtin, Sem.run_bind, Sem.run_pure, Result.andThen_ok, List.map_toArray, List.map_cons, List.map_nil, hs, hx, hr]
 exact h v' w' h2
theorem sl_run2 (base : Option Addr) (n cap a b : Nat) (hab : a ≤ b) (hb : b ≤ cap) (wx : World) : (Instr.sliceAt 40 (.slice base n cap) (some (.int .i64 (a : Int))) (some (.int .i64 (b : Int))) none).run Tryz.prog wx = .ok (sliced base a b cap 1) wx := by
 have hu : Tryz.prog.underlying 40 = some (.slice (Tryz.prog.elem 40)) := by rw [Tryz.elemBy]; exact Tryz.underlying40
 have h1 := run_slice_lh (P := Tryz.prog) (w := wx) 40 base n cap hu .i64 .i64 (a : Int) (b : Int) (by omega) (by omega) (by omega)
 have h2 := run_sliceAt_slice (P := Tryz.prog) (w := wx) 40 (.slice base n cap) (some (.int .i64 (a : Int))) (some (.int .i64 (b : Int))) none hu
 rw [Tryz.elemBy] at h1
 rw [h2, h1]
 refine (congrArg (fun z => Result.andThen z fun s w => Result.ok (sliced base (a : Int).toNat (b : Int).toNat cap s) w) (Tryz.sizeOf5 wx)).trans ?_
 show Result.ok (sliced base (a : Int).toNat (b : Int).toNat cap 1) wx = _
 rw [Int.toNat_natCast, Int.toNat_natCast]
theorem mid_any (vb : Value) (lb : List Int) (w : World) (hr : RowAt w vb lb) (a M : Nat) (ha : a + M ≤ lb.length) :
  ∃ vs, (∀ wx : World, (Instr.sliceAt 40 vb (some (.int .i64 (a : Int))) (some (.int .i64 ((a : Int) + (M : Int)))) none).run Tryz.prog wx = .ok vs wx) ∧ ∀ wx, RowAt wx vb lb → RowAt wx vs ((lb.drop a).take M) := by
 have e : ((a : Int) + (M : Int)) = ((a + M : Nat) : Int) := by omega
 rw [e]
 have hl : ((lb.drop a).take M).length = M := by rw [List.length_take, List.length_drop]; omega
 rcases hr with ⟨rfl, rfl⟩ | ⟨ad, c, rfl, rfl⟩ | ⟨h, off, cap, rfl, hc, _⟩
 ·obtain rfl : a = 0 := by simp at ha; omega
  obtain rfl : M = 0 := by simp at ha; omega
  exact ⟨_, sl_run2 none 0 0 0 0 (by omega) (by omega), fun wx h => .inl ⟨rfl, by simp⟩⟩
 ·obtain rfl : a = 0 := by simp at ha; omega
  obtain rfl : M = 0 := by simp at ha; omega
  refine ⟨_, sl_run2 (some ad) 0 c 0 0 (by omega) (by omega), fun wx h => .inr (.inl ?_)⟩
  unfold sliced
  split
  ·exact ⟨_, _, rfl, by simp⟩
  ·exact ⟨_, _, rfl, by simp⟩
 ·refine ⟨_, sl_run2 (some ⟨h, off, none⟩) lb.length cap a (a + M) (by omega) (by omega), fun wx hx => ?_⟩
  unfold sliced
  by_cases hca : cap = a
  ·obtain rfl : M = 0 := by omega
   rw [if_pos hca]
   exact .inr (.inl ⟨_, _, by rw [Nat.add_zero, Nat.sub_self], by simp⟩)
  ·rw [if_neg hca]
   rcases hx with ⟨e, _⟩ | ⟨ad, c, e, h0⟩ | ⟨h', off', cap', e, _, h3⟩
   ·cases e
   ·injection e with e1 e2
    obtain rfl : M = 0 := by omega
    exact .inr (.inl ⟨_, _, by rw [Nat.add_zero, Nat.sub_self]; rfl, by simp⟩)
   ·injection e with e1 e2 e3
    injection e1 with e1
    injection e1 with e1 e4
    subst e1 e3 e4
    refine .inr (.inr ⟨h, off + a, cap - a, ?_, by omega, fun i hi => ?_⟩)
    ·rw [hl, show a + M - a = M by omega]
     show Value.slice (some (Addr.add ⟨h, off, none⟩ (a * 1))) M (cap - a) = _
     rw [Nat.mul_one]
     cases a <;> rfl
    ·rw [hl] at hi
     rw [Nat.add_assoc, h3 (a + i) (by omega)]
     simp [List.getD_eq_getElem?_getD, hi]
theorem run_copyG (w : World) (g o N cap : Nat) (v : Value) (m : List Int) (ty T : TypeId) (cur : Array Value) (hg : Blk w g T cur) (hN : m.length ≤ N) (hs : o + m.length ≤ cur.size) (hr : RowAt w v m) :
  (Builtin.copy_ #[40, 40] ty #[.slice (some ⟨g, o, none⟩) N cap, v]).run Tryz.prog w = .ok (goInt m.length) (w.setRow g (cur.toList.take o ++ bv m ++ cur.toList.drop (o + m.length)).toArray) := by
 have hst := run_storeCells_at Tryz.prog g o T (bv m) 0 cur w hg (by rw [bv_len]; omega) (bv_one m)
 rw [bv_len, Nat.add_zero] at hst
 have hmin : Nat.min m.length N = m.length := Nat.min_eq_left hN
 obtain ⟨i, hi, hzz⟩ := Option.map_eq_some_iff.1 Tryz.info5
 simp only [Prod.mk.injEq] at hzz
 obtain ⟨_, hsz, _⟩ := hzz
 rcases hr with ⟨rfl, rfl⟩ | ⟨ad, c, rfl, rfl⟩ | ⟨b, off, cap2, rfl, _, hc⟩
 ·simp only [bv, List.map_nil, List.length_nil] at hst ⊢
  simp [Builtin.copy_, run_underlying Tryz.underlying40, Builtin.lenOf, Builtin.firstCells, sizeOf, typeInfo, hi, hst]
 ·simp only [bv, List.map_nil, List.length_nil] at hst ⊢
  simp [Builtin.copy_, run_underlying Tryz.underlying40, Builtin.lenOf, Builtin.firstCells, sizeOf, typeInfo, hi, loadCells, loadCellsFrom, hst]
 ·have hl := run_loadCells_list (P := Tryz.prog) w ⟨b, off, none⟩ (bv m) (fun j v hv => by
   have hj : j < m.length := by have := (List.getElem?_eq_some_iff.1 hv).1; rwa [bv_len] at this
   rw [bv_get m j hj] at hv
   rw [Addr.add_mid, hc j hj]; exact hv)
  rw [bv_len] at hl
  simp [Builtin.copy_, run_underlying Tryz.underlying40, Builtin.lenOf, Builtin.firstCells, sizeOf, typeInfo, hi, hsz, hmin, hl, hst]
theorem wpList_wanted {P : Program} {ops : Array Oper} {rest : List Oper} {o : Oper} {a : Act} {w : World} {Q : Exit → Act → World → Prop} (hw : Region.wanted o (yielded ops a.tmps) = true)
  (h : ∀ K : Act → World → Prop, (∀ a w, wpList P ops Q rest a w → K a w) → o.wp P a w K Q) : wpList P ops Q (o :: rest) a w :=
 wpList_step fun K hK => by rw [if_pos hw]; exact h K hK

theorem wp_bldG {P : Program} {o : Oper} {a : Act} {w : World} {K : Act → World → Prop} {Q : Exit → Act → World → Prop} (t : TypeId) (parts : Array (Nat × Operand)) (ho : o.op = .build t parts)
  (cells : Array Value) (hf : P.built t (parts.map fun (i, x) => (i, a.eval x)).toList = some cells) (h : K (a.put o.dst (.agg cells)) w) : o.wp P a w K Q :=
 wp_build t parts ho (by rw [hf]; rfl) (by rw [hf]; exact h)

structure WL (P : Program) (ops : Array Oper) (Q : Exit → Act → World → Prop) (l : List Oper) (a : Act) (w : World) : Prop where
 out : wpList P ops Q l a w
theorem WL.skip {P : Program} {ops : Array Oper} {rest : List Oper} {o : Oper} {a : Act} {w : World} {Q : Exit → Act → World → Prop} (hw : Region.wanted o (yielded ops a.tmps) = false)
  (h : WL P ops Q rest (a.put o.dst undef) w) : WL P ops Q (o :: rest) a w :=
 ⟨wpList_step fun K hK => by rw [if_neg (by rw [hw]; simp)]; exact hK _ _ h.out⟩
theorem WL.val {P : Program} {ops : Array Oper} {rest : List Oper} {o : Oper} {a : Act} {w : World} {Q : Exit → Act → World → Prop} (hw : Region.wanted o (yielded ops a.tmps) = true) (v : Value)
  (hrun : (execOp a.eval o).run P w = .ok (.value v) w) (h : WL P ops Q rest (a.put o.dst v) w) : WL P ops Q (o :: rest) a w :=
 ⟨wpList_wanted hw fun _ hK => wp_val v hrun (hK _ _ h.out)⟩
theorem WL.nil {P : Program} {ops : Array Oper} {a : Act} {w : World} {Q : Exit → Act → World → Prop} (h : Q .normal a w) : WL P ops Q [] a w := ⟨h⟩
theorem pqA {α : Type} (l : List α) (i : Nat) (a : α) : l.toArray.setIfInBounds i a = (l.set i a).toArray := List.setIfInBounds_toArray ..
theorem pqB {α : Type} (a b : α) (l : List α) : (a :: l).set 0 b = b :: l := List.set_cons_zero ..
theorem pqC {α : Type} (a b : α) (l : List α) (n : Nat) : (a :: l).set (n + 1) b = a :: l.set n b := List.set_cons_succ ..
theorem VlS {P : Program} {ops : Array Oper} {rest : List Oper} {o : Oper} {a a' : Act} {w : World} {Q : Exit → Act → World → Prop} (v : Value) (h : WL P ops Q rest a' w) (hw : Region.wanted o (yielded ops a.tmps) = true := by kernel_rfl) (hrun : (execOp a.eval o).run P w = .ok (.value v) w := by go_simp) (ha : a.put o.dst v = a' := by simp only [Act.put, pqA, pqB, pqC]; exact rfl) : WL P ops Q (o :: rest) a w := WL.val hw v hrun (by rw [ha]; exact h)
theorem SkS {P : Program} {ops : Array Oper} {rest : List Oper} {o : Oper} {a a' : Act} {w : World} {Q : Exit → Act → World → Prop} (h : WL P ops Q rest a' w) (hw : Region.wanted o (yielded ops a.tmps) = false := by kernel_rfl) (ha : a.put o.dst undef = a' := by simp only [Act.put, pqA, pqB, pqC]; exact rfl) : WL P ops Q (o :: rest) a w := WL.skip hw (by rw [ha]; exact h)
theorem tkS {P : Program} {md : Region.Mode} {ops : Array Oper} {S : World → Prop} {Q : Exit → Act → World → Prop} {i : Nat} {oi : Oper} {v : Value} {fuel : Nat} {listed : Array Bool} {a a' : Act} {w : World} (hi : ops[i]? = some oi) (hy : YieldsIf P ops S oi v a) (hS : S w) (h : wpAnyH P md ops Q S fuel (listed.setIfInBounds i true) a' w) (hs : Region.noSelect ops = true := by kernel_rfl) (hf : Region.free md ops listed i = true := by kernel_rfl) (hr : (Region.ready md ops listed).contains i = true := by kernel_rfl) (hQ : ∀ c a w, Q (.panic c) (a.put oi.dst v) w → Q (.panic c) a w := by exact fun _ _ _ h => h) (ha : a.put oi.dst v = a' := by simp only [Act.put, pqA, pqB, pqC]; exact rfl) : wpAnyH P md ops Q S (fuel + 1) listed a w := wpAnyH_take hi hs hf hr hQ hy hS (by rw [ha]; exact h)
theorem VlN {P : Program} {ops : Array Oper} {rest : List Oper} {o : Oper} {a : Act} {w : World} {Q : Exit → Act → World → Prop} (v : Value) (h : WL P ops Q rest (a.put o.dst v) w) (hw : Region.wanted o (yielded ops a.tmps) = true := by kernel_rfl) (hrun : (execOp a.eval o).run P w = .ok (.value v) w := by go_simp) : WL P ops Q (o :: rest) a w := WL.val hw v hrun h
theorem SkN {P : Program} {ops : Array Oper} {rest : List Oper} {o : Oper} {a : Act} {w : World} {Q : Exit → Act → World → Prop} (h : WL P ops Q rest (a.put o.dst undef) w) (hw : Region.wanted o (yielded ops a.tmps) = false := by kernel_rfl) : WL P ops Q (o :: rest) a w := WL.skip hw h
theorem tkN {P : Program} {md : Region.Mode} {ops : Array Oper} {S : World → Prop} {Q : Exit → Act → World → Prop} {i : Nat} {oi : Oper} {v : Value} {fuel : Nat} {listed : Array Bool} {a : Act} {w : World} (hi : ops[i]? = some oi) (hy : YieldsIf P ops S oi v a) (hS : S w) (h : wpAnyH P md ops Q S fuel (listed.setIfInBounds i true) (a.put oi.dst v) w) (hs : Region.noSelect ops = true := by kernel_rfl) (hf : Region.free md ops listed i = true := by kernel_rfl) (hr : (Region.ready md ops listed).contains i = true := by kernel_rfl) (hQ : ∀ c a w, Q (.panic c) (a.put oi.dst v) w → Q (.panic c) a w := by exact fun _ _ _ h => h) : wpAnyH P md ops Q S (fuel + 1) listed a w := wpAnyH_take hi hs hf hr hQ hy hS h
theorem VbF {P : Program} {ops : Array Oper} {rest : List Oper} {o : Oper} {a a' : Act} {w : World} {Q : Exit → Act → World → Prop} (h : WL P ops Q rest a' w) (hw : Region.wanted o (yielded ops a.tmps) = true := by kernel_rfl) (hrun : (execOp a.eval o).run P w = .ok (.value (.bool false)) w := by go_simp) (ha : a.put o.dst (.bool false) = a' := by simp only [Act.put, pqA, pqB, pqC]; exact rfl) : WL P ops Q (o :: rest) a w := VlS (.bool false) h hw hrun ha
theorem VbT {P : Program} {ops : Array Oper} {rest : List Oper} {o : Oper} {a a' : Act} {w : World} {Q : Exit → Act → World → Prop} (h : WL P ops Q rest a' w) (hw : Region.wanted o (yielded ops a.tmps) = true := by kernel_rfl) (hrun : (execOp a.eval o).run P w = .ok (.value (.bool true)) w := by go_simp) (ha : a.put o.dst (.bool true) = a' := by simp only [Act.put, pqA, pqB, pqC]; exact rfl) : WL P ops Q (o :: rest) a w := VlS (.bool true) h hw hrun ha
theorem TkC {P : Program} {md : Region.Mode} {ops : Array Oper} {S : World → Prop} {Q : Exit → Act → World → Prop} {i : Nat} {oi : Oper} {v : Value} {fuel : Nat} {listed : Array Bool} {a a' : Act} {w : World} (hi : ops[i]? = some oi) (hS : S w) (h : wpAnyH P md ops Q S fuel (listed.setIfInBounds i true) a' w) (hy : YieldsIf P ops S oi v a := by exact Or.inl ⟨by rfl, fun w hS => by clear hS; go_simp⟩) (hs : Region.noSelect ops = true := by kernel_rfl) (hf : Region.free md ops listed i = true := by kernel_rfl) (hr : (Region.ready md ops listed).contains i = true := by kernel_rfl) (hQ : ∀ c a w, Q (.panic c) (a.put oi.dst v) w → Q (.panic c) a w := by exact fun _ _ _ h => h) (ha : a.put oi.dst v = a' := by simp only [Act.put, pqA, pqB, pqC]; exact rfl) : wpAnyH P md ops Q S (fuel + 1) listed a w := tkS hi hy hS h hs hf hr hQ ha
theorem TkG {P : Program} {md : Region.Mode} {ops : Array Oper} {S : World → Prop} {Q : Exit → Act → World → Prop} {i : Nat} {oi : Oper} {v : Value} {fuel : Nat} {listed : Array Bool} {a a' : Act} {w : World} (hi : ops[i]? = some oi) (hS : S w) (h : wpAnyH P md ops Q S fuel (listed.setIfInBounds i true) a' w) (hy : YieldsIf P ops S oi v a := by exact Or.inl ⟨by rfl, fun w hS => by go_simp⟩) (hs : Region.noSelect ops = true := by kernel_rfl) (hf : Region.free md ops listed i = true := by kernel_rfl) (hr : (Region.ready md ops listed).contains i = true := by kernel_rfl) (hQ : ∀ c a w, Q (.panic c) (a.put oi.dst v) w → Q (.panic c) a w := by exact fun _ _ _ h => h) (ha : a.put oi.dst v = a' := by simp only [Act.put, pqA, pqB, pqC]; exact rfl) : wpAnyH P md ops Q S (fuel + 1) listed a w := tkS hi hy hS h hs hf hr hQ ha
theorem TkJ {P : Program} {md : Region.Mode} {ops : Array Oper} {S : World → Prop} {Q : Exit → Act → World → Prop} {i : Nat} {oi : Oper} {v : Value} {fuel : Nat} {listed : Array Bool} {a a' : Act} {w : World} (hi : ops[i]? = some oi) (hS : S w) (h : wpAnyH P md ops Q S fuel (listed.setIfInBounds i true) a' w) (hy : YieldsIf P ops S oi v a := by exact Or.inl ⟨by rfl, fun w hS => by obtain ⟨hS1, hS2⟩ := hS; go_simp⟩) (hs : Region.noSelect ops = true := by kernel_rfl) (hf : Region.free md ops listed i = true := by kernel_rfl) (hr : (Region.ready md ops listed).contains i = true := by kernel_rfl) (hQ : ∀ c a w, Q (.panic c) (a.put oi.dst v) w → Q (.panic c) a w := by exact fun _ _ _ h => h) (ha : a.put oi.dst v = a' := by simp only [Act.put, pqA, pqB, pqC]; exact rfl) : wpAnyH P md ops Q S (fuel + 1) listed a w := tkS hi hy hS h hs hf hr hQ ha
theorem TkK {P : Program} {md : Region.Mode} {ops : Array Oper} {S : World → Prop} {Q : Exit → Act → World → Prop} {i : Nat} {oi : Oper} {v : Value} {fuel : Nat} {listed : Array Bool} {a a' : Act} {w : World} (hi : ops[i]? = some oi) (hS : S w) (h : wpAnyH P md ops Q S fuel (listed.setIfInBounds i true) a' w) (hy : YieldsIf P ops S oi v a := by exact Or.inl ⟨by rfl, fun w hS => by obtain ⟨hS0, hS1, hS2, s1, s2, s3, s4, s5⟩ := hS; go_simp⟩) (hs : Region.noSelect ops = true := by kernel_rfl) (hf : Region.free md ops listed i = true := by kernel_rfl) (hr : (Region.ready md ops listed).contains i = true := by kernel_rfl) (hQ : ∀ c a w, Q (.panic c) (a.put oi.dst v) w → Q (.panic c) a w := by exact fun _ _ _ h => h) (ha : a.put oi.dst v = a' := by simp only [Act.put, pqA, pqB, pqC]; exact rfl) : wpAnyH P md ops Q S (fuel + 1) listed a w := tkS hi hy hS h hs hf hr hQ ha
theorem TkL {P : Program} {md : Region.Mode} {ops : Array Oper} {S : World → Prop} {Q : Exit → Act → World → Prop} {i : Nat} {oi : Oper} {v : Value} {fuel : Nat} {listed : Array Bool} {a a' : Act} {w : World} (hi : ops[i]? = some oi) (hS : S w) (h : wpAnyH P md ops Q S fuel (listed.setIfInBounds i true) a' w) (hy : YieldsIf P ops S oi v a := by exact Or.inl ⟨by rfl, fun w hS => by obtain ⟨hS0, hS1, hS2, hS3, hS4, hS5⟩ := hS; go_simp⟩) (hs : Region.noSelect ops = true := by kernel_rfl) (hf : Region.free md ops listed i = true := by kernel_rfl) (hr : (Region.ready md ops listed).contains i = true := by kernel_rfl) (hQ : ∀ c a w, Q (.panic c) (a.put oi.dst v) w → Q (.panic c) a w := by exact fun _ _ _ h => h) (ha : a.put oi.dst v = a' := by simp only [Act.put, pqA, pqB, pqC]; exact rfl) : wpAnyH P md ops Q S (fuel + 1) listed a w := tkS hi hy hS h hs hf hr hQ ha
theorem TkM {P : Program} {md : Region.Mode} {ops : Array Oper} {S : World → Prop} {Q : Exit → Act → World → Prop} {i : Nat} {oi : Oper} {v : Value} {fuel : Nat} {listed : Array Bool} {a a' : Act} {w : World} (hi : ops[i]? = some oi) (hS : S w) (h : wpAnyH P md ops Q S fuel (listed.setIfInBounds i true) a' w) (hy : YieldsIf P ops S oi v a := by exact Or.inl ⟨by rfl, fun w hS => by obtain ⟨hS1, hS2, hS3, hS4, hS5⟩ := hS; go_simp⟩) (hs : Region.noSelect ops = true := by kernel_rfl) (hf : Region.free md ops listed i = true := by kernel_rfl) (hr : (Region.ready md ops listed).contains i = true := by kernel_rfl) (hQ : ∀ c a w, Q (.panic c) (a.put oi.dst v) w → Q (.panic c) a w := by exact fun _ _ _ h => h) (ha : a.put oi.dst v = a' := by simp only [Act.put, pqA, pqB, pqC]; exact rfl) : wpAnyH P md ops Q S (fuel + 1) listed a w := tkS hi hy hS h hs hf hr hQ ha
theorem TkN {P : Program} {md : Region.Mode} {ops : Array Oper} {S : World → Prop} {Q : Exit → Act → World → Prop} {i : Nat} {oi : Oper} {v : Value} {fuel : Nat} {listed : Array Bool} {a a' : Act} {w : World} (hi : ops[i]? = some oi) (hS : S w) (h : wpAnyH P md ops Q S fuel (listed.setIfInBounds i true) a' w) (hy : YieldsIf P ops S oi v a := by exact Or.inl ⟨by rfl, fun w hS => by obtain ⟨hS1, hS2, hS3⟩ := hS; go_simp⟩) (hs : Region.noSelect ops = true := by kernel_rfl) (hf : Region.free md ops listed i = true := by kernel_rfl) (hr : (Region.ready md ops listed).contains i = true := by kernel_rfl) (hQ : ∀ c a w, Q (.panic c) (a.put oi.dst v) w → Q (.panic c) a w := by exact fun _ _ _ h => h) (ha : a.put oi.dst v = a' := by simp only [Act.put, pqA, pqB, pqC]; exact rfl) : wpAnyH P md ops Q S (fuel + 1) listed a w := tkS hi hy hS h hs hf hr hQ ha
theorem rgn {P : Program} {ops : Array Oper} {a : Act} {w : World} {Q : Exit → Act → World → Prop} {id : Nat} (h : WL P ops Q ops.toList a w) : (Code.region id ops false).wp P Q a w := wp_region_list h.out
def apF (F : (Nat → Value) → Act) (a : Act) : Act := F fun zz => a.tmps.toList.getD zz undef
theorem unF {F : (Nat → Value) → Act} {a : Act} (h : a = apF F a) : ∃ f, a = F f := ⟨_, h⟩
theorem WL.mid {P : Program} {ops : Array Oper} {rest : List Oper} {op : Oper} {a : Act} {w : World} {Q : Exit → Act → World → Prop} (hw : Region.wanted op (yielded ops a.tmps) = true) (ty : TypeId) (x : Operand) (ho : op.op = .load ty x)
  (b o : Nat) (hx : a.eval x = .pointer (some ⟨b, o, none⟩)) (cs : List Value) (d : TypeDesc) (hc : w.rangeAt b o cs)
  (hu : P.underlying ty = some d) (hd : d.isRow = true) (hi : (P.info? ty).map (·.size) = some cs.length)
  (h : WL P ops Q rest (a.put op.dst (.agg cs.toArray)) w) : WL P ops Q (op :: rest) a w :=
 ⟨wpList_wanted hw fun _ hK => wp_load_mid ty x ho b o hx cs d hc hu hd hi (hK _ _ h.out)⟩
theorem WL.call {P : Program} {ops : Array Oper} {rest : List Oper} {o : Oper} {a : Act} {w : World} {Q : Exit → Act → World → Prop} (hw : Region.wanted o (yielded ops a.tmps) = true)
  (h : ∀ K : Act → World → Prop, (∀ a w, WL P ops Q rest a w → K a w) → o.wp P a w K Q) : WL P ops Q (o :: rest) a w :=
 ⟨wpList_wanted hw fun K hK => h K fun a w h => hK a w h.out⟩

section
variable {P : Program} {ops : Array Oper} {rest : List Oper} {o : Oper} {a : Act} {w : World} {Q : Exit → Act → World → Prop}
theorem WL.row (hw : Region.wanted o (yielded ops a.tmps) = true) (ty : TypeId) (x : Operand) (ho : o.op = .load ty x)
  (b : Nat) (hx : a.eval x = .pointer (some ⟨b, 0, none⟩)) (t : TypeId) (cs : Array Value) (d : TypeDesc) (hc : Blk w b t cs)
  (hu : P.underlying ty = some d) (hd : d.isRow = true) (hi : (P.info? ty).map (·.size) = some cs.size)
  (h : WL P ops Q rest (a.put o.dst (.agg cs)) w) : WL P ops Q (o :: rest) a w :=
 WL.mid hw ty x ho b 0 hx cs.toList d (blk_range hc) hu hd (by rw [Array.length_toList]; exact hi) (by rw [Array.toArray_toList]; exact h)
theorem WL.new (hw : Region.wanted o (yielded ops a.tmps) = true) (t : TypeId) (ho : o.op = .alloc t) (cells : Array Value)
  (hf : ∀ w : World, (Instr.alloc t true (.tuple #[])).run P w = .ok (.pointer (some ⟨w.heap.size, 0, none⟩)) (w.alloc (.cells cells t)))
  (h : WL P ops Q rest (a.put o.dst (.pointer (some ⟨w.heap.size, 0, none⟩))) (w.alloc (.cells cells t))) : WL P ops Q (o :: rest) a w :=
 ⟨wpList_wanted hw fun K hK => by
  unfold Oper.wp execOp
  simp only [ho, Sem.run_bind, hf w, Result.andThen_ok]
  exact hK _ _ h.out⟩
theorem WL.box (hw : Region.wanted o (yielded ops a.tmps) = true) (t : TypeId) (x : Operand) (ho : o.op = .box t x) (cs : Array Value) (hx : a.eval x = .agg cs)
  (h : WL P ops Q rest (a.put o.dst (.pointer (some ⟨w.heap.size, 0, none⟩))) (w.alloc (.cells cs t))) : WL P ops Q (o :: rest) a w :=
 ⟨wpList_wanted hw fun K hK => by
  unfold Oper.wp execOp
  simp only [ho, hx, Sem.run_bind, run_box_agg, Result.andThen_ok]
  exact hK _ _ h.out⟩
theorem WL.storeR (hw : Region.wanted o (yielded ops a.tmps) = true) (ty : TypeId) (x y : Operand) (ho : o.op = .store ty x y)
  (g : Nat) (cells : Array Value) (hx : a.eval x = .pointer (some ⟨g, 0, none⟩)) (hy : a.eval y = .agg cells)
  (t : TypeId) (old : Array Value) (hg : Blk w g t old) (hi : (P.info? ty).map (·.size) = some cells.size) (hold : old.size = cells.size) (h1 : cells.all (·.oneCell') = true)
  (h : WL P ops Q rest (a.put o.dst undef) (w.setRow g cells)) : WL P ops Q (o :: rest) a w :=
 ⟨wpList_wanted hw fun _ hK => wp_store_row ty x y ho g cells hx hy t old hg hi hold h1 (hK _ _ h.out)⟩
theorem WL.cell (hw : Region.wanted o (yielded ops a.tmps) = true) (w' : World) (hrun : (execOp a.eval o).run P w = .ok .skip w')
  (h : WL P ops Q rest (a.put o.dst undef) w') : WL P ops Q (o :: rest) a w :=
 ⟨wpList_wanted hw fun _ hK => by unfold Oper.wp; rw [hrun, Oper.upon_skip]; exact hK _ _ h.out⟩
theorem WL.valW (hw : Region.wanted o (yielded ops a.tmps) = true) (v : Value) (w' : World) (hrun : (execOp a.eval o).run P w = .ok (.value v) w')
  (h : WL P ops Q rest (a.put o.dst v) w') : WL P ops Q (o :: rest) a w :=
 ⟨wpList_wanted hw fun _ hK => by unfold Oper.wp; rw [hrun, Oper.upon_value]; exact hK _ _ h.out⟩
theorem WL.bld (hw : Region.wanted o (yielded ops a.tmps) = true) (t : TypeId) (parts : Array (Nat × Operand)) (ho : o.op = .build t parts)
  (vs : List (Nat × Value)) (hv : (parts.map fun (i, x) => (i, a.eval x)).toList = vs) (cells : Array Value) (hf : P.built t vs = some cells)
  (h : WL P ops Q rest (a.put o.dst (.agg cells)) w) : WL P ops Q (o :: rest) a w :=
 ⟨wpList_wanted hw fun _ hK => wp_bldG t parts ho cells (by rw [hv]; exact hf) (hK _ _ h.out)⟩
theorem WL.bs (hw : Region.wanted o (yielded ops a.tmps) = true) (t : TypeId) (n : Nat) (parts : Array (Nat × Operand)) (ho : o.op = .buildSlice t n parts)
  (vs : Array (Nat × Value)) (hv : (parts.map fun (i, x) => (i, a.eval x)) = vs) (v : Value) (w' : World) (hrun : (Instr.buildSlice t n vs).run P w = .ok v w')
  (h : WL P ops Q rest (a.put o.dst v) w') : WL P ops Q (o :: rest) a w :=
 ⟨wpList_wanted hw fun K hK => by
  unfold Oper.wp execOp
  simp only [ho, hv, Sem.run_bind, hrun, Result.andThen_ok]
  exact hK _ _ h.out⟩
theorem WL.callF (hw : Region.wanted o (yielded ops a.tmps) = true) (f : FuncId) (args : Array Operand) (ts : Array TypeId) (ho : o.op = .call { callee := .value (.func f), args := args, argTypes := ts })
  (hf : ∀ (w : World) (vs : Array Value), (callFunc f vs).run P w = .ok (.enter f vs) w) (vs : Array Value) (hvs : args.map a.eval = vs)
  (hc : Calls P f vs w fun e w' => ∃ v, e = .returned v ∧ WL P ops Q rest (a.put o.dst v) w') : WL P ops Q (o :: rest) a w :=
 ⟨wpList_wanted hw fun K hK => by
  unfold Oper.wp
  rw [run_callF a o f args ts ho hf w, Oper.upon_enter, hvs]
  refine hc.mono ?_
  rintro e w' ⟨v, rfl, hr⟩
  exact hK _ _ hr.out⟩
end
theorem Blk.c {w : World} {b : Nat} {T : TypeId} {cs : Array Value} (h : Blk w b T cs) (j : Nat) {v : Value} (hv : cs[j]? = some v) : w.cell? ⟨b, j, none⟩ = some v := by rw [h.cell]; exact hv
end Go.Proofs.YteijjfeainamdaaGreatDoor
namespace Go.Proofs.YteijjfeainamdaaGreatDoor
open Go.RowKit
set_option linter.unusedSimpArgs false
set_option linter.unusedVariables false

structure FC where
 nm : ByteArray
 b : Value
 sf : Int
def fA (x : FC) : Array Value := #[.string x.nm, x.b, .int .i64 x.sf]
def zeroF : FC := ⟨⟨#[]⟩, .slice none 0 0, 0⟩
def SlF (x : FC) : Prop := ∃ a n c, x.b = .slice a n c
theorem SlF.one {x : FC} (h : SlF x) : (fA x).all (·.oneCell') = true := by
 obtain ⟨a, n, c, h⟩ := h
 obtain ⟨nm, b, sf⟩ := x
 have h' : b = .slice a n c := h
 subst h'
 simp [fA, Value.oneCell']
theorem fA_len (x : FC) : (fA x).toList.length = 3 := rfl
theorem fA_0 (x : FC) : (fA x)[0]? = some (.string x.nm) := rfl
theorem fA_back (x : FC) : (fA x).toList.toArray = fA x := Array.toArray_toList
theorem Tryz.newF (w : World) : (Instr.alloc 49 true (.tuple #[])).run Tryz.prog w = .ok (.pointer (some ⟨w.heap.size, 0, none⟩)) (w.alloc (.cells (fA zeroF) 49)) := by kernel_rfl
theorem Tryz.sizeF : (Tryz.prog.info? 49).map (·.size) = some 3 := by kernel_rfl
theorem Tryz.sizeFB (x : FC) : (Tryz.prog.info? 49).map (·.size) = some (fA x).size := Tryz.sizeF
theorem Tryz.sizeFL (x : FC) : (Tryz.prog.info? 49).map (·.size) = some (fA x).toList.length := Tryz.sizeF
def fL (cs : List FC) : List Value := cs.flatMap fun c => (fA c).toList
theorem fL_len : ∀ cs : List FC, (fL cs).length = cs.length * 3
 | [] => rfl
 | c :: r => by
  have h := fL_len r
  unfold fL at h ⊢
  rw [List.flatMap_cons, List.length_append, h, fA_len, List.length_cons]
  omega
theorem fL_get : ∀ (cs : List FC) (t : Nat) (c : FC) (_ : cs[t]? = some c) (j : Nat) (v : Value) (_ : (fA c).toList[j]? = some v), (fL cs)[t * 3 + j]? = some v
 | [], t, c, h, j, v, _ => by simp at h
 | d :: r, 0, c, h, j, v, hv => by
  simp at h
  subst h
  have hj : j < 3 := by have := (List.getElem?_eq_some_iff.1 hv).1; rwa [fA_len] at this
  unfold fL
  rw [List.flatMap_cons, List.getElem?_append_left (by rw [fA_len]; omega), Nat.zero_mul, Nat.zero_add]
  exact hv
 | d :: r, t + 1, c, h, j, v, hv => by
  have ih := fL_get r t c (by simpa using h) j v hv
  unfold fL at ih ⊢
  rw [List.flatMap_cons, List.getElem?_append_right (by rw [fA_len]; omega), fA_len, show (t + 1) * 3 + j - 3 = t * 3 + j by omega]
  exact ih
theorem fL_one {cs : List FC} (h : ∀ x ∈ cs, SlF x) : ∀ u ∈ fL cs, u.oneCell' = true := fun u hu => by
 unfold fL at hu
 obtain ⟨x, hx, hu⟩ := List.mem_flatMap.1 hu
 exact (Array.all_eq_true_iff_forall_mem.1 (h x hx).one) u (by simpa using hu)
theorem fL_take : ∀ (cs : List FC) (n : Nat), fL (cs.take n) = (fL cs).take (n * 3)
 | [], n => by simp [fL]
 | c :: r, 0 => by simp [fL]
 | c :: r, n + 1 => by
  have ih := fL_take r n
  unfold fL at ih ⊢
  rw [List.take_succ_cons, List.flatMap_cons, List.flatMap_cons, ih, show (n + 1) * 3 = (fA c).toList.length + n * 3 by rw [fA_len]; omega, List.take_length_add_append]
theorem fL_drop : ∀ (cs : List FC) (n : Nat), fL (cs.drop n) = (fL cs).drop (n * 3)
 | [], n => by simp [fL]
 | c :: r, 0 => by simp [fL]
 | c :: r, n + 1 => by
  have ih := fL_drop r n
  unfold fL at ih ⊢
  rw [List.drop_succ_cons, List.flatMap_cons, ih, show (n + 1) * 3 = (fA c).toList.length + n * 3 by rw [fA_len]; omega, List.drop_length_add_append]
def OwnF (w : World) (v : Value) (cs : List FC) : Prop := w.ownsRow 0 49 3 v cs.length (fL cs)
theorem OwnF.form {w : World} {v : Value} {l : List FC} (h : OwnF w v l) : (v = .slice none 0 0 ∧ l = []) ∨ ∃ g cap cur, v = .slice (some ⟨g, 0, none⟩) l.length cap ∧ Blk w g 49 cur ∧ l.length ≤ cap ∧ cap ≤ maxLen ∧ cur.size = cap * 3 ∧ cur.toList.take (l.length * 3) = fL l := by
 rcases h.2 with ⟨rfl, h0⟩ | ⟨g, cap, cur, rfl, _, h3, h4, h5, h6, h7⟩
 ·exact .inl ⟨rfl, List.eq_nil_of_length_eq_zero h0⟩
 ·exact .inr ⟨g, cap, cur, rfl, h3, h4, h5, h6, h7⟩
theorem OwnF.sl {w : World} {v : Value} {l : List FC} (h : OwnF w v l) : ∃ a c, v = .slice a l.length c := by
 rcases h.form with ⟨rfl, rfl⟩ | ⟨g, cap, cur, rfl, _⟩
 ·exact ⟨_, _, rfl⟩
 ·exact ⟨_, _, rfl⟩
theorem OwnF.lt {w : World} {v : Value} {l : List FC} (h : OwnF w v l) : ∀ k, v.ownBlock = some k → k < w.heap.size := fun k hk => (World.ownsRow.lt h k hk).2
theorem OwnF.grown {w w' : World} {v : Value} {l : List FC} {S : Nat → Prop} (h : OwnF w v l) (hg : Grown w w' S) (hs : ∀ k, v.ownBlock = some k → ¬ S k) : OwnF w' v l := by
 refine ⟨h.1, ?_⟩
 rcases h.2 with h1 | ⟨g, cap, cur, rfl, h2, h3, h4⟩
 ·exact .inl h1
 ·exact .inr ⟨g, cap, cur, rfl, h2, hg.blk h3 (hs g rfl), h4⟩
theorem OwnF.below {w w' : World} {v : Value} {l : List FC} (h : OwnF w v l) (hb : Below w.heap.size w w') : OwnF w' v l := h.grown (Grown.below (S := fun _ => False) hb) fun _ _ h => h
theorem OwnF.typ {w : World} {v : Value} {l : List FC} (h : OwnF w v l) {k : Nat} (hk : v.ownBlock = some k) : Typ w k 49 := by
 rcases h.form with ⟨rfl, _⟩ | ⟨g, cap, cur, rfl, h3, _⟩
 ·simp [Value.ownBlock] at hk
 ·simp [Value.ownBlock] at hk
  subst hk
  exact h3.typ
theorem OwnF.ne {w : World} {v : Value} {l : List FC} {p : Nat} {T : TypeId} {cs : Array Value} (h : OwnF w v l) (hp : Blk w p T cs) (hT : T ≠ 49) : v.ownBlock ≠ some p := fun e => hT ((h.typ e).one hp.typ).symm
theorem OwnF.at {w : World} {a : Option Addr} {n cp : Nat} {l : List FC} (h : OwnF w (.slice a n cp) l) {t : Nat} {c : FC} (ht : l[t]? = some c) : ∃ g, a = some ⟨g, 0, none⟩ ∧ w.rangeAt g (t * 3) (fA c).toList := by
 rcases h.form with ⟨_, rfl⟩ | ⟨g, cap, cur, e, h3, h4, _, _, h5⟩
 ·simp at ht
 ·injection e with e1 _ _
  refine ⟨g, e1, fun j v hv => ?_⟩
  have h6 := fL_get l t c ht j v hv
  have hj : j < 3 := by have := (List.getElem?_eq_some_iff.1 hv).1; rwa [fA_len] at this
  have htl := (List.getElem?_eq_some_iff.1 ht).1
  rw [h3.cell, ← h6, ← h5, List.getElem?_take, if_pos (by omega), Array.getElem?_toList]
theorem ownF_empty (w : World) : OwnF (w.alloc (.cells #[] 49)) (.slice (some ⟨w.heap.size, 0, none⟩) 0 0) [] :=
 ⟨rfl, .inr ⟨w.heap.size, 0, #[], rfl, Nat.zero_le _, Blk.new w 49 #[], Nat.le_refl _, by decide, rfl, rfl⟩⟩
theorem ownF_nil (w : World) : OwnF w (.slice none 0 0) [] := ⟨rfl, .inl ⟨rfl, rfl⟩⟩
theorem Tryz.infoF : (Tryz.prog.info? 49).map (fun i => (i.zero, i.size, i.bytes)) = some (some (.agg (fA zeroF)), 3, 48) := by kernel_rfl
theorem run_appF (w : World) (ty : TypeId) (v : Value) (l : List FC) (hown : OwnF w v l) (g off c : Nat) (m : List FC) (hm : ∀ x ∈ m, SlF x) (hg : ∀ j u, (fL m)[j]? = some u → w.cell? ⟨g, off + j, none⟩ = some u) (hb : l.length + m.length ≤ 1000000000000) :
  ∃ v' w', (Builtin.append_ #[22, 22] ty #[v, .slice (some ⟨g, off, none⟩) m.length c]).run Tryz.prog w = .ok v' w' ∧ OwnF w' v' (l ++ m) ∧ (Grown w w' fun k => v.ownBlock = some k) ∧ Moved w v v' := by
 obtain ⟨i, hi, hzz⟩ := Option.map_eq_some_iff.1 Tryz.infoF
 simp only [Prod.mk.injEq] at hzz
 obtain ⟨hz, hsz, hby⟩ := hzz
 obtain ⟨v', w', hr, h1, h2, _, h3⟩ := run_append_own_at (P := Tryz.prog) w 0 22 ty 49 i (.agg (fA zeroF)) 3 48 Tryz.underlying22 hi hz hsz hby rfl (by omega) v l.length (fL l) hown ⟨g, off, none⟩ m.length c (fL m) (by rw [fL_len]) (fun j u hu => by
   rw [Addr.add_mid]; exact hg j u hu)
  (fL_one hm) (by unfold maxLen; omega) (by omega) (Nat.zero_le _)
 refine ⟨v', w', hr, ?_, Grown.of h2 fun k _ e => e, ?_⟩
 ·unfold OwnF
  rw [List.length_append, show fL (l ++ m) = fL l ++ fL m by simp [fL]]
  exact h1
 ·rcases h3 with h3 | h3
  ·exact .inl h3
  ·exact .inr ⟨_, h3, Nat.le_refl _⟩
theorem f_built (s : ByteArray) : Tryz.prog.built 49 [(0, .string s)] = some (fA ⟨s, .slice none 0 0, 0⟩) := by kernel_rfl
theorem bsFE (w : World) : (Instr.buildSlice 22 0 #[]).run Tryz.prog w = .ok (.slice (some ⟨w.heap.size, 0, none⟩) 0 0) (w.alloc (.cells #[] 49)) := by kernel_rfl
theorem bsF (s : ByteArray) (a : Option Addr) (n c : Nat) (k : Int) (w : World) : (Instr.buildSlice 22 1 #[(0, .agg (fA ⟨s, .slice a n c, k⟩))]).run Tryz.prog w = .ok (.slice (some ⟨w.heap.size, 0, none⟩) 1 1) (w.alloc (.cells (fA ⟨s, .slice a n c, k⟩) 49)) := by kernel_rfl
theorem bsBE (w : World) : (Instr.buildSlice 40 0 #[]).run Tryz.prog w = .ok (.slice (some ⟨w.heap.size, 0, none⟩) 0 0) (w.alloc (.cells #[] 5)) := by kernel_rfl
theorem fL_set : ∀ (l : List FC) (t : Nat) (x y : FC) (j : Nat) (v : Value) (_ : l[t]? = some x) (_ : j < 3) (_ : (fA x).setIfInBounds j v = fA y), (fL l).set (t * 3 + j) v = fL (l.set t y)
 | [], t, x, y, j, v, h, _, _ => by simp at h
 | d :: r, 0, x, y, j, v, h, hj, hy => by
  simp at h
  subst h
  have h2 := congrArg Array.toList hy
  rw [Array.toList_setIfInBounds] at h2
  unfold fL
  rw [Nat.zero_mul, Nat.zero_add, List.flatMap_cons, List.set_cons_zero, List.flatMap_cons, List.set_append_left _ _ (by rw [fA_len]; exact hj), h2]
 | d :: r, t + 1, x, y, j, v, h, hj, hy => by
  have ih := fL_set r t x y j v (by simpa using h) hj hy
  unfold fL at ih ⊢
  rw [List.flatMap_cons, List.set_cons_succ, List.flatMap_cons, List.set_append_right _ _ (by rw [fA_len]; omega), fA_len, show (t + 1) * 3 + j - 3 = t * 3 + j by omega, ih]
theorem OwnF.set {w : World} {g n cp : Nat} {l : List FC} (h : OwnF w (.slice (some ⟨g, 0, none⟩) n cp) l) {t : Nat} {x y : FC} (ht : l[t]? = some x) {j : Nat} {v : Value} (hj : j < 3) (hy : (fA x).setIfInBounds j v = fA y) : OwnF (w.setCell ⟨g, t * 3 + j, none⟩ v) (.slice (some ⟨g, 0, none⟩) n cp) (l.set t y) := by
 rcases h.form with ⟨e, _⟩ | ⟨g', cap, cur, e, h3, h4, h5, h6, h7⟩
 ·cases e
 ·injection e with e1 e2 e3
  injection e1 with e1
  injection e1 with e1
  subst e1 e2 e3
  have htl := (List.getElem?_eq_some_iff.1 ht).1
  refine ⟨by rw [fL_len], .inr ⟨g, cp, cur.setIfInBounds (t * 3 + j) v, by rw [List.length_set], Nat.zero_le _, h3.set _ _, by rw [List.length_set]; exact h4, h5, by rw [Array.size_setIfInBounds]; exact h6, ?_⟩⟩
  rw [List.length_set, Array.toList_setIfInBounds, List.take_set, h7]
  exact fL_set l t x y j v ht hj hy
theorem Tryz.in25 (w : World) (vs : Array Value) : (callFunc 25 vs).run Tryz.prog w = .ok (.enter 25 vs) w := by kernel_rfl
theorem Tryz.in50 (w : World) (vs : Array Value) : (callFunc 50 vs).run Tryz.prog w = .ok (.enter 50 vs) w := by kernel_rfl
structure PF where
 nm : ByteArray
 bs : List Int
 sf : Int
structure DV where
 fs : List PF
 room : Int
 used : Int
 fuse : Int
 out : Bool
 acts : Int
def FcAt (w : World) (x : FC) (f : PF) : Prop := x.nm = f.nm ∧ x.sf = f.sf ∧ Own w x.b f.bs
theorem FcAt.grown {w w' : World} {x : FC} {f : PF} {S : Nat → Prop} (h : FcAt w x f) (hg : Grown w w' S) (hs : ∀ k, Typ w k 5 → ¬ S k) : FcAt w' x f := ⟨h.1, h.2.1, h.2.2.grown hg fun k hk => hs k (h.2.2.typ hk)⟩
theorem FcAt.sl {w : World} {x : FC} {f : PF} (h : FcAt w x f) : SlF x := h.2.2.sl
structure FcsAt (w : World) (cs : List FC) (fs : List PF) : Prop where
 len : cs.length = fs.length
 each : ∀ (i : Nat) (x : FC) (f : PF), cs[i]? = some x → fs[i]? = some f → FcAt w x f
 apart : ∀ (i j : Nat) (x y : FC), cs[i]? = some x → cs[j]? = some y → i ≠ j → ∀ k, x.b.ownBlock = some k → y.b.ownBlock ≠ some k
theorem FcsAt.nil (w : World) : FcsAt w [] [] := ⟨rfl, fun i x f h => by simp at h, fun i j x y h => by simp at h⟩
theorem FcsAt.grown {w w' : World} {cs : List FC} {fs : List PF} {S : Nat → Prop} (h : FcsAt w cs fs) (hg : Grown w w' S) (hs : ∀ k, Typ w k 5 → ¬ S k) : FcsAt w' cs fs := ⟨h.len, fun i x f h1 h2 => (h.each i x f h1 h2).grown hg hs, h.apart⟩
theorem FcsAt.sl {w : World} {cs : List FC} {fs : List PF} (h : FcsAt w cs fs) : ∀ x ∈ cs, SlF x := fun x hx => by
 obtain ⟨i, hi, rfl⟩ := List.getElem_of_mem hx
 exact (h.each i _ (fs[i]'(by rw [← h.len]; exact hi)) (List.getElem?_eq_getElem hi) (List.getElem?_eq_getElem _)).sl
def stA (vf : Value) (D : DV) : Array Value := #[vf, .int .i64 D.room, .int .i64 D.used, .int .i64 D.fuse, .bool D.out, .int .i64 D.acts]
structure DskAt (w : World) (p : Nat) (vf : Value) (cs : List FC) (D : DV) : Prop where
 blk : Blk w p 71 (stA vf D)
 own : OwnF w vf cs
 fcs : FcsAt w cs D.fs
theorem DskAt.grown {w w' : World} {p : Nat} {vf : Value} {cs : List FC} {D : DV} {S : Nat → Prop} (h : DskAt w p vf cs D) (hg : Grown w w' S) (hs : ∀ k, Typ w k 5 ∨ Typ w k 49 ∨ Typ w k 71 → ¬ S k) : DskAt w' p vf cs D :=
 ⟨hg.blk h.blk (hs p (.inr (.inr h.blk.typ))), h.own.grown hg fun k hk => hs k (.inr (.inl (h.own.typ hk))), h.fcs.grown hg fun k hk => hs k (.inl hk)⟩
theorem DskAt.below {w w' : World} {p : Nat} {vf : Value} {cs : List FC} {D : DV} (h : DskAt w p vf cs D) (hb : Below w.heap.size w w') : DskAt w' p vf cs D := h.grown (Grown.below (S := fun _ => False) hb) fun _ _ h => h
theorem DskAt.put {w : World} {p : Nat} {vf : Value} {cs : List FC} {D D' : DV} (h : DskAt w p vf cs D) {j : Nat} {v : Value} (hy : (stA vf D).setIfInBounds j v = stA vf D') (hf : D'.fs = D.fs) : DskAt (w.setCell ⟨p, j, none⟩ v) p vf cs D' := by
 have hg : Grown w (w.setCell ⟨p, j, none⟩ v) fun k => k = p := Grown.setCell w p j v fun _ => rfl
 refine ⟨hy ▸ h.blk.set j v, h.own.grown hg fun k hk e => h.own.ne h.blk (by decide) (e ▸ hk), ?_⟩
 rw [hf]
 exact h.fcs.grown hg fun k hk e => absurd (hk.one (e ▸ h.blk.typ)) (by decide)
def fnd (n : ByteArray) : List PF → Nat → Nat × Bool
 | [], i => (i, false)
 | f :: r, i => if Op.bytesLess f.nm.toList n.toList = true then fnd n r (i + 1) else (i, f.nm.toList == n.toList)
theorem fnd_le (n : ByteArray) : ∀ (l : List PF) (i : Nat), i ≤ (fnd n l i).1 ∧ (fnd n l i).1 ≤ i + l.length
 | [], i => ⟨Nat.le_refl _, Nat.le_refl _⟩
 | f :: r, i => by
  unfold fnd
  split
  ·have := fnd_le n r (i + 1)
   rw [List.length_cons]
   omega
  ·rw [List.length_cons]
   exact ⟨Nat.le_refl _, by omega⟩
set_option maxRecDepth 8000 in
set_option maxHeartbeats 2000000 in
theorem find_any (p : Nat) (n : ByteArray) (vf : Value) (cs : List FC) (D : DV) (w : World) (hD : DskAt w p vf cs D) (hL : cs.length ≤ 1000000000000) : Calls Tryz.prog 25 #[ptr p, .string n] w fun e w' => e = .returned (.tuple #[.int .i64 ((fnd n D.fs 0).1 : Int), .bool (fnd n D.fs 0).2]) ∧ Below w.heap.size w w' := by
 obtain ⟨va, vc, rfl⟩ := hD.own.sl
 have HD := Keep.mk hD
 have HL := Keep.mk hL
 clear hD hL
 go_enter Tryz.func25, Tryz.ntmps25
 have c0 := HD.out.blk.c 0 (by rfl : (stA (.slice va cs.length vc) D)[0]? = some (.slice va cs.length vc))
 refine wp_seq_k fun K1 hK1 => rgn ?_
 refine VlS (.int .i64 0) ?_
 refine VbF ?_
 refine WL.nil (hK1 _ _ ?_)
 refine wp_seq_k fun K2 hK2 => ?_
 refine wp_seq_k fun K3 hK3 => rgn ?_
 refine VlS (.pointer (some ⟨p, 0, none⟩)) ?_
 refine VlS (.pointer (some ⟨p, 0, none⟩)) ?_
 refine VlS (.pointer (some ⟨p, 0, none⟩)) ?_
 refine VlS (.slice va cs.length vc) ?_
 refine VlS (.int .i64 (cs.length : Int)) ?_
 refine VlS (.int .i64 0) ?_
 refine WL.nil (hK3 _ _ ?_)
 refine wp_block ?_
 refine wp_loop (fun ac wr => ∃ (t : Nat), ac = apF (fun f => { tmps := #[.pointer (some ⟨p, 0, none⟩), .string n, undef, undef, f 4, f 5, f 6, f 7, .pointer (some ⟨p, 0, none⟩), .pointer (some ⟨p, 0, none⟩), .pointer (some ⟨p, 0, none⟩), .slice va cs.length vc, .int .i64 (cs.length : Int), .int .i64 (t : Int), f 14, f 15, f 16, f 17, f 18, f 19, f 20, f 21, f 22, f 23, f 24, f 25, f 26, f 27, undef, undef, undef, undef, undef], defers := [] }) ac ∧ t ≤ cs.length ∧ DskAt wr p (.slice va cs.length vc) cs D ∧ Below w.heap.size w wr ∧ fnd n D.fs 0 = fnd n (D.fs.drop t) t) (fun a _ => cs.length - (intOf (a.tmps.getD 13 undef)).toNat) ⟨0, rfl, by omega, HD.out, Below.refl _ _, rfl⟩ ?_
 rintro ac wr ⟨t, hac, ht, hD, hB, hF⟩
 obtain ⟨f, rfl⟩ := unF hac
 have JD := Keep.mk hD
 have JB := Keep.mk hB
 have JF := Keep.mk hF
 clear hD hB hF
 have c0 := JD.out.blk.c 0 (by rfl : (stA (.slice va cs.length vc) D)[0]? = some (.slice va cs.length vc))
 by_cases hlt : t < cs.length
 ·have hlt' : (t : Int) < (cs.length : Int) := by omega
  have hwt : IntKind.i64.wrap ((t : Int) + 1) = (t : Int) + 1 := by rw [IntKind.wrap_i64]; have := HL.out; omega
  obtain ⟨x, hx⟩ : ∃ x, cs[t]? = some x := ⟨cs[t], List.getElem?_eq_getElem hlt⟩
  obtain ⟨f_, hf_⟩ : ∃ f, D.fs[t]? = some f := ⟨D.fs[t]'(by have := JD.out.fcs.len; omega), List.getElem?_eq_getElem _⟩
  obtain ⟨g, ha, hrg⟩ := JD.out.own.at hx
  subst ha
  have HRg := Keep.mk hrg
  have Hnm : Keep (x.nm = f_.nm) := ⟨(JD.out.fcs.each t x f_ hx hf_).1⟩
  have Hsl : Keep (SlF x) := ⟨(JD.out.fcs.each t x f_ hx hf_).sl⟩
  have JF2 : Keep (fnd n D.fs 0 = if Op.bytesLess f_.nm.toList n.toList = true then fnd n (D.fs.drop (t + 1)) (t + 1) else (t, f_.nm.toList == n.toList)) := ⟨by
   have h := JF.out
   rw [List.drop_eq_getElem_cons (by have := JD.out.fcs.len; omega)] at h
   rw [List.getElem?_eq_getElem (by have := JD.out.fcs.len; omega)] at hf_
   injection hf_ with hf_
   rw [hf_] at h
   exact h⟩
  clear hrg hx hf_ JF c0
  refine wp_seq_k fun K4 hK4 => rgn ?_
  refine VbT ?_
  refine WL.nil (hK4 _ _ ?_)
  refine wp_seq_k fun K5 hK5 => ?_
  refine wp_cond_true rfl ?_
  refine wp_skip ?_
  refine hK5 _ _ ?_
  refine wp_seq_k fun K6 hK6 => ?_
  refine wp_block ?_
  refine wp_seq_k fun K7 hK7 => rgn ?_
  refine VlS (.int .i64 (t : Int)) ?_
  refine VlS (.pointer (some ⟨g, t * 3, none⟩)) ?_
  refine WL.mid (by kernel_rfl) 49 (.tmp 16) rfl g (t * 3) rfl (fA x).toList _ HRg.out Tryz.underlying49 rfl (Tryz.sizeFL x) ?_
  rw [fA_back]
  simp only [Act.put, pqA, pqB, pqC]
  refine WL.new (by kernel_rfl) 49 rfl _ Tryz.newF ?_
  have HN := Keep.mk (Blk.new wr 49 (fA zeroF))
  have BN := Keep.mk (below_new wr (.cells (fA zeroF) 49))
  generalize wr.alloc (.cells (fA zeroF) 49) = wa at *
  obtain ⟨g7, hg7⟩ : ∃ g, Keep (g = wr.heap.size) := ⟨_, ⟨rfl⟩⟩
  rw [← hg7.out] at HN ⊢
  simp only [Act.put, pqA, pqB, pqC]
  refine VlS (.int .i64 (t : Int)) ?_
  refine WL.storeR (by kernel_rfl) 49 (.tmp 7) (.tmp 17) rfl g7 (fA x) rfl rfl 49 (fA zeroF) HN.out (Tryz.sizeFB x) rfl Hsl.out.one ?_
  have H7 := Keep.mk (HN.out.setRow (fA x))
  have B7 := Keep.mk (below_setRow BN.out (b := g7) (by rw [hg7.out]; exact Nat.le_refl _) (fA x))
  generalize wa.setRow g7 (fA x) = wb at *
  have JDb := Keep.mk (JD.out.below B7.out)
  have JBb : Keep (Below w.heap.size w wb) := ⟨JB.out.trans (B7.out.mono JB.out.size)⟩
  clear HN BN hg7 HRg JD JB B7
  obtain ⟨nx, hnx⟩ : ∃ nx, nx = x.nm := ⟨_, rfl⟩
  have c7 := H7.out.c 0 (by rw [hnx]; rfl : (fA x)[0]? = some (.string nx))
  rw [← hnx] at Hnm
  clear hnx
  simp only [Act.put]
  refine WL.nil (hK7 _ _ ?_)
  refine wp_seq_k fun K8 hK8 => ?_
  rcases Bool.eq_false_or_eq_true (Op.bytesLess nx.toList n.toList) with hbl | hbl
  ·skip
   refine rgn ?_
   refine VlS (.pointer (some ⟨g7, 0, none⟩)) ?_
   refine VlS (.string nx) ?_
   refine VlS (.string n) ?_
   refine VbF ?_
   refine WL.nil (hK8 _ _ ?_)
   refine wp_cond_false rfl ?_
   refine wp_skip ?_
   refine hK6 _ _ ?_
   refine rgn ?_
   refine VlS (.int .i64 ((t : Int) + 1)) ?_
   refine VlS (.int .i64 ((t : Int) + 1)) ?_
   refine WL.nil ?_
   have h := JF2.out
   rw [← Hnm.out, hbl, if_pos rfl] at h
   refine ⟨⟨t + 1, rfl, by omega, JDb.out, JBb.out, h⟩, ?_⟩
   simp only [intOf]; show cs.length - ((t : Int) + 1).toNat < cs.length - ((t : Int)).toNat; omega
  ·skip
   refine rgn ?_
   refine VlS (.pointer (some ⟨g7, 0, none⟩)) ?_
   refine VlS (.string nx) ?_
   refine VlS (.string n) ?_
   refine VbT ?_
   refine WL.nil (hK8 _ _ ?_)
   refine wp_cond_true rfl ?_
   refine wp_seq_k fun K9 hK9 => ?_
   obtain ⟨eq_, heq_⟩ : ∃ b : Bool, Keep ((nx.toList == n.toList) = b) := ⟨_, ⟨rfl⟩⟩
   have heq2 := heq_.out
   have k7 := c7
   refine wp_region_held_drew (S := fun wx => wx.cell? ⟨g7, 0, none⟩ = some (.string nx)) (by kernel_rfl) (c7) (fun hHeld => ?_)
   refine TkG (i := 0) (oi := ⟨some 22, Op.move (Operand.tmp 6), 3, _, _, none⟩) (v := .int .i64 (t : Int)) rfl hHeld ?_
   refine TkG (i := 1) (oi := ⟨some 23, Op.fieldAddr 49 (Operand.tmp 7) 0, 0, _, _, none⟩) (v := .pointer (some ⟨g7, 0, none⟩)) rfl hHeld ?_
   refine TkG (i := 2) (oi := ⟨some 24, Op.load 9 (Operand.tmp 23), 9, _, _, none⟩) (v := .string nx) rfl hHeld ?_
   refine TkG (i := 3) (oi := ⟨some 25, Op.move (Operand.tmp 1), 9, _, _, none⟩) (v := .string n) rfl hHeld ?_
   refine TkG (i := 4) (oi := ⟨some 26, Op.binOp BinOp.eql 9 (Operand.tmp 24) (Operand.tmp 25) 9, 4, _, _, none⟩) (v := .bool eq_) rfl hHeld ?_
   refine TkG (i := 5) (oi := ⟨some 4, Op.assign (Operand.tmp 22), 3, _, _, none⟩) (v := .int .i64 (t : Int)) rfl hHeld ?_
   refine TkG (i := 6) (oi := ⟨some 5, Op.assign (Operand.tmp 26), 4, _, _, none⟩) (v := .bool eq_) rfl hHeld ?_
   refine wpAnyH_done (by kernel_rfl) ?_ _
   refine hK9 _ _ ?_
   refine wp_ret ?_
   go_ret2
   have h := JF2.out
   rw [← Hnm.out, hbl, if_neg (by simp)] at h
   rw [h, heq_.out]
   exact ⟨rfl, JBb.out.drew⟩
 ·have hte : Keep (t = cs.length) := ⟨by omega⟩
  have hlt' : ¬ (t : Int) < (cs.length : Int) := by omega
  refine wp_seq_k fun K10 hK10 => rgn ?_
  refine VbF ?_
  refine WL.nil (hK10 _ _ ?_)
  refine wp_seq_k fun K11 hK11 => ?_
  refine wp_cond_false rfl ?_
  refine wp_exit ?_
  refine hK2 _ _ ?_
  refine wp_seq_k fun K12 hK12 => rgn ?_
  refine VlS (.pointer (some ⟨p, 0, none⟩)) ?_
  refine VlS (.pointer (some ⟨p, 0, none⟩)) ?_
  refine VlS (.pointer (some ⟨p, 0, none⟩)) ?_
  refine VlS (.slice va cs.length vc) ?_
  refine VlS (.int .i64 (cs.length : Int)) ?_
  refine VlS (.int .i64 (cs.length : Int)) ?_
  refine VbF ?_
  refine WL.nil (hK12 _ _ ?_)
  refine wp_ret ?_
  go_ret2
  have h := JF.out
  rw [hte.out, List.drop_eq_nil_of_le (by have := JD.out.fcs.len; omega)] at h
  rw [h]
  exact ⟨rfl, JB.out⟩
def DV.act (D : DV) : DV := { D with acts := D.acts + 1, out := if D.fuse = 0 then true else D.out, fuse := if D.fuse = 0 then -1 else if 0 < D.fuse then D.fuse - 1 else D.fuse }
set_option maxRecDepth 8000 in
theorem act_any (p : Nat) (vf : Value) (cs : List FC) (D : DV) (w : World) (hD : DskAt w p vf cs D) (hA : 0 ≤ D.acts ∧ D.acts ≤ 4611686018427387904) (hF : -9223372036854775808 < D.fuse ∧ D.fuse ≤ 9223372036854775807) : Calls Tryz.prog 50 #[ptr p] w fun e w' => e = .returned (.bool (decide (D.fuse = 0))) ∧ DskAt w' p vf cs D.act ∧ Grown w w' fun k => k = p := by
 have HD := Keep.mk hD
 have HA := Keep.mk hA
 have HF := Keep.mk hF
 clear hD hA hF
 go_enter Tryz.func50, Tryz.ntmps50
 have c5 := HD.out.blk.c 5 (by rfl : (stA vf D)[5]? = some (.int .i64 D.acts))
 have hwa : IntKind.i64.wrap (D.acts + 1) = D.acts + 1 := by rw [IntKind.wrap_i64]; have := HA.out; omega
 refine wp_seq_k fun K1 hK1 => rgn ?_
 refine VbF ?_
 refine WL.nil (hK1 _ _ ?_)
 refine wp_seq_k fun K2 hK2 => rgn ?_
 refine VlS (.pointer (some ⟨p, 0, none⟩)) ?_
 refine VlS (.pointer (some ⟨p, 0, none⟩)) ?_
 refine VlS (.pointer (some ⟨p, 5, none⟩)) ?_
 refine VlS (.int .i64 D.acts) ?_
 refine VlS (.int .i64 (D.acts + 1)) ?_
 refine VlS (.pointer (some ⟨p, 0, none⟩)) ?_
 refine VlS (.pointer (some ⟨p, 5, none⟩)) ?_
 have f_o := HD.out.blk.frozen 5
 refine WL.cell (by kernel_rfl) (w.setCell ⟨p, 5, none⟩ (.int .i64 (D.acts + 1))) (by go_simp) ?_
 clear f_o
 have H1 : Keep (DskAt (w.setCell ⟨p, 5, none⟩ (.int .i64 (D.acts + 1))) p vf cs ({ D with acts := D.acts + 1 })) := ⟨HD.out.put rfl rfl⟩
 have G_w1 : Keep (Grown w (w.setCell ⟨p, 5, none⟩ (.int .i64 (D.acts + 1))) fun k => k = p) := ⟨Grown.setCell w p 5 _ fun _ => rfl⟩
 generalize w.setCell ⟨p, 5, none⟩ (.int .i64 (D.acts + 1)) = w1 at *
 clear c5 HD
 obtain ⟨fu, hfu⟩ : ∃ z, Keep (z = D.fuse) := ⟨_, ⟨rfl⟩⟩
 have c3 : w1.cell? ⟨p, 3, none⟩ = some (.int .i64 fu) := by rw [hfu.out]; exact H1.out.blk.c 3 rfl
 have c4 : w1.cell? ⟨p, 4, none⟩ = some (.bool D.out) := H1.out.blk.c 4 rfl
 simp only [Act.put]
 refine WL.nil (hK2 _ _ ?_)
 refine wp_seq_k fun K3 hK3 => ?_
 refine wp_seq_k fun K4 hK4 => rgn ?_
 refine VlS (.pointer (some ⟨p, 0, none⟩)) ?_
 refine VlS (.pointer (some ⟨p, 0, none⟩)) ?_
 refine VlS (.pointer (some ⟨p, 3, none⟩)) ?_
 refine VlS (.int .i64 fu) ?_
 by_cases h2_4 : fu = 0
 ·skip
  refine VbT ?_
  refine WL.nil (hK4 _ _ ?_)
  refine wp_cond_true rfl ?_
  refine wp_seq_k fun K5 hK5 => rgn ?_
  refine VlS (.pointer (some ⟨p, 0, none⟩)) ?_
  refine VlS (.pointer (some ⟨p, 0, none⟩)) ?_
  refine VlS (.pointer (some ⟨p, 4, none⟩)) ?_
  have f_o := H1.out.blk.frozen 4
  refine WL.cell (by kernel_rfl) (w1.setCell ⟨p, 4, none⟩ (.bool true)) (by go_simp) ?_
  clear f_o
  have H2 : Keep (DskAt (w1.setCell ⟨p, 4, none⟩ (.bool true)) p vf cs ({ D with acts := D.acts + 1, out := true })) := ⟨H1.out.put rfl rfl⟩
  have G_w2 : Keep (Grown w1 (w1.setCell ⟨p, 4, none⟩ (.bool true)) fun k => k = p) := ⟨Grown.setCell w1 p 4 _ fun _ => rfl⟩
  generalize w1.setCell ⟨p, 4, none⟩ (.bool true) = w2 at *
  clear c3 c4 H1
  have c3 : w2.cell? ⟨p, 3, none⟩ = some (.int .i64 fu) := by rw [hfu.out]; exact H2.out.blk.c 3 rfl
  simp only [Act.put]
  refine WL.nil (hK5 _ _ ?_)
  refine wp_seq_k fun K6 hK6 => rgn ?_
  refine VlS (.pointer (some ⟨p, 0, none⟩)) ?_
  refine VlS (.pointer (some ⟨p, 0, none⟩)) ?_
  refine VlS (.pointer (some ⟨p, 3, none⟩)) ?_
  have f_o := H2.out.blk.frozen 3
  refine WL.cell (by kernel_rfl) (w2.setCell ⟨p, 3, none⟩ (.int .i64 (-1))) (by go_simp) ?_
  clear f_o
  have H3 : Keep (DskAt (w2.setCell ⟨p, 3, none⟩ (.int .i64 (-1))) p vf cs ({ D with acts := D.acts + 1, out := true, fuse := -1 })) := ⟨H2.out.put rfl rfl⟩
  have G_w3 : Keep (Grown w2 (w2.setCell ⟨p, 3, none⟩ (.int .i64 (-1))) fun k => k = p) := ⟨Grown.setCell w2 p 3 _ fun _ => rfl⟩
  generalize w2.setCell ⟨p, 3, none⟩ (.int .i64 (-1)) = w3 at *
  simp only [Act.put]
  refine WL.nil (hK6 _ _ ?_)
  refine wp_seq_k fun K7 hK7 => rgn ?_
  refine VbT ?_
  refine WL.nil (hK7 _ _ ?_)
  refine wp_ret ?_
  go_ret
  have h0 : D.fuse = 0 := by rw [← hfu.out]; exact h2_4
  have e : D.act = { D with acts := D.acts + 1, out := true, fuse := -1 } := by unfold DV.act; rw [if_pos h0, if_pos h0]
  rw [e, h0]
  exact ⟨rfl, H3.out, (G_w1.out.trans G_w2.out).trans G_w3.out⟩
 ·skip
  refine VbF ?_
  refine WL.nil (hK4 _ _ ?_)
  refine wp_cond_false rfl ?_
  refine wp_skip ?_
  refine hK3 _ _ ?_
  refine wp_seq_k fun K8 hK8 => ?_
  refine wp_seq_k fun K9 hK9 => rgn ?_
  refine VlS (.pointer (some ⟨p, 0, none⟩)) ?_
  refine VlS (.pointer (some ⟨p, 0, none⟩)) ?_
  refine VlS (.pointer (some ⟨p, 3, none⟩)) ?_
  refine VlS (.int .i64 fu) ?_
  by_cases h6_4 : 0 < fu
  ·skip
   refine VbT ?_
   refine WL.nil (hK9 _ _ ?_)
   refine wp_cond_true rfl ?_
   have hwf : IntKind.i64.wrap (fu - 1) = fu - 1 := by rw [IntKind.wrap_i64]; have := HF.out; have := hfu.out; omega
   refine rgn ?_
   refine VlS (.pointer (some ⟨p, 0, none⟩)) ?_
   refine VlS (.pointer (some ⟨p, 0, none⟩)) ?_
   refine VlS (.pointer (some ⟨p, 3, none⟩)) ?_
   refine VlS (.int .i64 fu) ?_
   refine VlS (.int .i64 (fu - 1)) ?_
   refine VlS (.pointer (some ⟨p, 0, none⟩)) ?_
   refine VlS (.pointer (some ⟨p, 3, none⟩)) ?_
   have f_o := H1.out.blk.frozen 3
   refine WL.cell (by kernel_rfl) (w1.setCell ⟨p, 3, none⟩ (.int .i64 (fu - 1))) (by go_simp) ?_
   clear f_o
   have H2 : Keep (DskAt (w1.setCell ⟨p, 3, none⟩ (.int .i64 (fu - 1))) p vf cs ({ D with acts := D.acts + 1, fuse := fu - 1 })) := ⟨H1.out.put rfl rfl⟩
   have G_w2 : Keep (Grown w1 (w1.setCell ⟨p, 3, none⟩ (.int .i64 (fu - 1))) fun k => k = p) := ⟨Grown.setCell w1 p 3 _ fun _ => rfl⟩
   generalize w1.setCell ⟨p, 3, none⟩ (.int .i64 (fu - 1)) = w2 at *
   simp only [Act.put]
   refine WL.nil (hK8 _ _ ?_)
   refine wp_seq_k fun K10 hK10 => rgn ?_
   refine VbF ?_
   refine WL.nil (hK10 _ _ ?_)
   refine wp_ret ?_
   go_ret
   have h0 : ¬ D.fuse = 0 := by rw [← hfu.out]; exact h2_4
   have h1 : 0 < D.fuse := by rw [← hfu.out]; exact h6_4
   have e : D.act = { D with acts := D.acts + 1, fuse := fu - 1 } := by unfold DV.act; rw [if_neg h0, if_neg h0, if_pos h1, hfu.out]
   rw [e]
   exact ⟨by rw [decide_eq_false h0]; rfl, H2.out, G_w1.out.trans G_w2.out⟩
  ·skip
   refine VbF ?_
   refine WL.nil (hK9 _ _ ?_)
   refine wp_cond_false rfl ?_
   refine wp_skip ?_
   refine hK8 _ _ ?_
   refine wp_seq_k fun K11 hK11 => rgn ?_
   refine VbF ?_
   refine WL.nil (hK11 _ _ ?_)
   refine wp_ret ?_
   go_ret
   have h0 : ¬ D.fuse = 0 := by rw [← hfu.out]; exact h2_4
   have h1 : ¬ 0 < D.fuse := by rw [← hfu.out]; exact h6_4
   have e : D.act = { D with acts := D.acts + 1 } := by unfold DV.act; rw [if_neg h0, if_neg h0, if_neg h1]
   rw [e]
   exact ⟨by rw [decide_eq_false h0]; rfl, H1.out, G_w1.out⟩
end Go.Proofs.YteijjfeainamdaaGreatDoor
