import Derived.Test.YtdeiicldfgkidaaGreatChecked
import Derived.WalkKit
import Derived.WalkSpells
import Derived.WalkLawsBesides
import Derived.BigQuiet
import Derived.BigRegion
import Derived.Deep.WholeRow
import Derived.Deep.MidRow
import Derived.Deep.RegionWith
import Derived.Deep.DeepCutAuto
import Derived.Deep.RegionHeld3
import Derived.Deep.QuietTactic
import Derived.Laws.OwnMore
import Derived.Laws.BytesArg
import Derived.Lib.AppendStr
import Derived.Maps.AppendAt
import Derived.Deep.DeepAppendWide
import Derived.ChangeKeysEq
import Derived.Laws.StructEq
import Derived.ArgAppend
import Derived.Lib.ConvBytes
namespace Go.Proofs.YtdeiicldfgkidaaGreat
open Go.RowKit

theorem hid_in {p : Prop} (h : p) : Hid p := h
structure Keep (p : Prop) : Prop where
 out : p

def Blk (w : World) (b : Nat) (T : TypeId) (cs : Array Value) : Prop := w.heap[b]? = some (.cells cs T (0, 0))

theorem Blk.lt {w : World} {b : Nat} {T : TypeId} {cs : Array Value} (h : Blk w b T cs) : b < w.heap.size := (Array.getElem?_eq_some_iff.1 h).1
theorem Blk.cell {w : World} {b : Nat} {T : TypeId} {cs : Array Value} (h : Blk w b T cs) (j : Nat) : w.cell? ⟨b, j, none⟩ = cs[j]? := cell_of_row w b j cs T (0, 0) h
theorem Blk.frozen {w : World} {b : Nat} {T : TypeId} {cs : Array Value} (h : Blk w b T cs) (j : Nat) : w.frozen? ⟨b, j, none⟩ = false := by
 unfold Blk at h; simp [World.frozen?, h]
theorem Blk.new (w : World) (T : TypeId) (cs : Array Value) : Blk (w.alloc (.cells cs T)) w.heap.size T cs := heap_alloc_new w _
theorem Blk.alloc {w : World} {b : Nat} {T : TypeId} {cs : Array Value} (h : Blk w b T cs) (o : Obj) : Blk (w.alloc o) b T cs := by
 unfold Blk; rw [Below.heap_alloc w o b h.lt]; exact h
theorem Blk.drew {w : World} {b : Nat} {T : TypeId} {cs : Array Value} (h : Blk w b T cs) : Blk w.drew b T cs := h
theorem Blk.drewN {w : World} {b : Nat} {T : TypeId} {cs : Array Value} (h : Blk w b T cs) (n : Nat) : Blk (w.drewN n) b T cs := h
theorem Blk.below {w w' : World} {B b : Nat} {T : TypeId} {cs : Array Value} (h : Blk w b T cs) (hb : Below B w w') (hlt : b < B) : Blk w' b T cs := by
 unfold Blk; rw [hb.block b hlt]; exact h
theorem Blk.set {w : World} {b : Nat} {T : TypeId} {cs : Array Value} (h : Blk w b T cs) (j : Nat) (v : Value) : Blk (w.setCell ⟨b, j, none⟩ v) b T (cs.setIfInBounds j v) := by
 unfold Blk; rw [setCell_eq_setRow w b j cs T (0, 0) v h]; exact setRow_heap w b cs _ T (0, 0) h
theorem Blk.set_ne {w : World} {b b' j : Nat} {T : TypeId} {cs : Array Value} (h : Blk w b T cs) (hne : b ≠ b') (v : Value) : Blk (w.setCell ⟨b', j, none⟩ v) b T cs := by
 unfold Blk; rw [Below.heap_setCell w _ v b hne]; exact h
theorem Blk.setRow {w : World} {b : Nat} {T : TypeId} {cs : Array Value} (h : Blk w b T cs) (cs' : Array Value) : Blk (w.setRow b cs') b T cs' := setRow_heap w b cs cs' T (0, 0) h
theorem Blk.setRow_ne {w : World} {b b' : Nat} {T : TypeId} {cs : Array Value} (h : Blk w b T cs) (hne : b ≠ b') (cs' : Array Value) : Blk (w.setRow b' cs') b T cs := by
 unfold Blk; rw [setRow_other w b' b cs' hne]; exact h
theorem below_setRow {B : Nat} {a w : World} (h : Below B a w) {b : Nat} (hb : B ≤ b) (cs : Array Value) : Below B a (w.setRow b cs) :=
 h.trans ⟨rfl, rfl, rfl, by simp, fun k hk => setRow_other w b k cs (by omega)⟩
theorem below_new (w : World) (o : Obj) : Below w.heap.size w (w.alloc o) := (Below.refl _ _).alloc (Nat.le_refl _) o
theorem blk_type {w : World} {k : Nat} {T T' : TypeId} {cs cs' : Array Value} (h : Blk w k T cs) (h' : Blk w k T' cs') : T = T' := by
 unfold Blk at h h'; rw [h] at h'; simp at h'; exact h'.2
theorem blk_ne {w : World} {k k' : Nat} {T T' : TypeId} {cs cs' : Array Value} (h : Blk w k T cs) (h' : Blk w k' T' cs') (ht : T ≠ T') : k ≠ k' := by
 rintro rfl; exact ht (blk_type h h')
theorem cell_lt {w : World} {h j : Nat} {v : Value} (hc : w.cell? ⟨h, j, none⟩ = some v) : h < w.heap.size := by
 apply Nat.lt_of_not_le; intro hle
 simp [World.cell?, Array.getElem?_eq_none hle] at hc

abbrev ptr (g : Nat) : Value := .pointer (some ⟨g, 0, none⟩)

theorem grownBy_refl (w : World) (o : Option Nat) : w.grownBy w o := ⟨rfl, rfl, rfl, Nat.le_refl _, fun _ _ _ => rfl⟩
theorem grownBy_setCell (w : World) (g j : Nat) (v : Value) : w.grownBy (w.setCell ⟨g, j, none⟩ v) (some g) :=
 ⟨rfl, rfl, rfl, by simp [World.setCell], fun i _ hn => Below.heap_setCell w _ v i (fun e => hn (by rw [e]))⟩
theorem grownBy_setRow (w : World) (g : Nat) (cs : Array Value) : w.grownBy (w.setRow g cs) (some g) :=
 ⟨rfl, rfl, rfl, by simp, fun i _ hn => setRow_other w g i cs (fun e => hn (by rw [e]))⟩
theorem grownBy_below {w w' : World} (h : Below w.heap.size w w') (o : Option Nat) : w.grownBy w' o := ⟨h.os, h.tape, h.output, h.size, fun i hi _ => h.block i hi⟩

structure Grown (w w' : World) (S : Nat → Prop) : Prop where
 os : w'.os = w.os
 tape : w'.tape = w.tape
 output : w'.output = w.output
 size : w.heap.size ≤ w'.heap.size
 block : ∀ k, k < w.heap.size → ¬ S k → w'.heap[k]? = w.heap[k]?
theorem Grown.refl (w : World) (S : Nat → Prop) : Grown w w S := ⟨rfl, rfl, rfl, Nat.le_refl _, fun _ _ _ => rfl⟩
theorem Grown.trans {a b c : World} {S : Nat → Prop} (h : Grown a b S) (k : Grown b c S) : Grown a c S :=
 ⟨k.os.trans h.os, k.tape.trans h.tape, k.output.trans h.output, Nat.le_trans h.size k.size, fun i hi hs => (k.block i (Nat.lt_of_lt_of_le hi h.size) hs).trans (h.block i hi hs)⟩
theorem Grown.next {a b c : World} {S T : Nat → Prop} (h : Grown a b S) (k : Grown b c T) (hT : ∀ i, i < a.heap.size → T i → S i) : Grown a c S :=
 ⟨k.os.trans h.os, k.tape.trans h.tape, k.output.trans h.output, Nat.le_trans h.size k.size, fun i hi hs => (k.block i (Nat.lt_of_lt_of_le hi h.size) (fun ht => hs (hT i hi ht))).trans (h.block i hi hs)⟩
theorem Grown.mono {a b : World} {S T : Nat → Prop} (h : Grown a b S) (hT : ∀ i, i < a.heap.size → S i → T i) : Grown a b T := (Grown.refl a T).next h hT
theorem Grown.of {a b : World} {S : Nat → Prop} {o : Option Nat} (h : a.grownBy b o) (ho : ∀ k, k < a.heap.size → o = some k → S k) : Grown a b S :=
 ⟨h.os, h.tape, h.output, h.size, fun i hi hs => h.block i hi (fun e => hs (ho i hi e.symm))⟩
theorem Grown.below {a b : World} {S : Nat → Prop} (h : Below a.heap.size a b) : Grown a b S := ⟨h.os, h.tape, h.output, h.size, fun i hi _ => h.block i hi⟩
theorem Grown.alloc (w : World) (o : Obj) (S : Nat → Prop) : Grown w (w.alloc o) S := Grown.below (below_new w o)
theorem Grown.drew {a b : World} {S : Nat → Prop} (h : Grown a b S) : Grown a b.drew S := ⟨h.os, h.tape, h.output, h.size, h.block⟩
theorem Grown.drewN {a b : World} {S : Nat → Prop} (h : Grown a b S) (n : Nat) : Grown a (b.drewN n) S := ⟨h.os, h.tape, h.output, h.size, h.block⟩
theorem Grown.setCell (w : World) (g j : Nat) (v : Value) {S : Nat → Prop} (hS : g < w.heap.size → S g) : Grown w (w.setCell ⟨g, j, none⟩ v) S :=
 Grown.of (grownBy_setCell w g j v) fun k hk e => by injection e with e; subst e; exact hS hk
theorem Grown.setRow (w : World) (g : Nat) (cs : Array Value) {S : Nat → Prop} (hS : g < w.heap.size → S g) : Grown w (w.setRow g cs) S :=
 Grown.of (grownBy_setRow w g cs) fun k hk e => by injection e with e; subst e; exact hS hk
theorem Grown.blk {a b : World} {S : Nat → Prop} (h : Grown a b S) {k : Nat} {T : TypeId} {cs : Array Value} (hk : Blk a k T cs) (hs : ¬ S k) : Blk b k T cs := by
 unfold Blk; rw [h.block k hk.lt hs]; exact hk
theorem Grown.cell {a b : World} {S : Nat → Prop} (h : Grown a b S) {k j : Nat} {v : Value} (hk : a.cell? ⟨k, j, none⟩ = some v) (hs : ¬ S k) : b.cell? ⟨k, j, none⟩ = some v := by
 rw [World.cell?_of_block (h.block k (cell_lt hk) hs)]; exact hk
theorem Grown.to_below {a b : World} {S : Nat → Prop} (h : Grown a b S) {B : Nat} (hs : ∀ k, k < B → ¬ S k) (hB : B ≤ a.heap.size) : Below B a b :=
 ⟨h.os, h.tape, h.output, h.size, fun i hi => h.block i (by omega) (hs i hi)⟩

def bv (l : List Int) : List Value := l.map fun c => .int .u8 c
theorem bv_len (l : List Int) : (bv l).length = l.length := by simp [bv]
theorem bv_get (l : List Int) (i : Nat) (h : i < l.length) : (bv l)[i]? = some (.int .u8 (l.getD i 0)) := by
 simp [bv, h, List.getD]
theorem bv_app (a b : List Int) : bv (a ++ b) = bv a ++ bv b := by simp [bv]
theorem bv_one (l : List Int) : ∀ u ∈ bv l, u.oneCell' = true := fun u hu => by simp [bv] at hu; obtain ⟨_, _, rfl⟩ := hu; rfl
def RowAt (w : World) (v : Value) (l : List Int) : Prop :=
 (v = .slice none 0 0 ∧ l = []) ∨ (∃ a c, v = .slice (some a) 0 c ∧ l = []) ∨ ∃ h off cap, v = .slice (some ⟨h, off, none⟩) l.length cap ∧ l.length ≤ cap ∧ ∀ i, i < l.length → w.cell? ⟨h, off + i, none⟩ = some (.int .u8 (l.getD i 0))
theorem row_form {w : World} {v : Value} {l : List Int} (h : RowAt w v l) : ∃ a c, v = .slice a l.length c := by
 rcases h with ⟨rfl, rfl⟩ | ⟨a, c, rfl, rfl⟩ | ⟨b, off, cap, rfl, _⟩
 ·exact ⟨_, _, rfl⟩
 ·exact ⟨_, _, rfl⟩
 ·exact ⟨_, _, rfl⟩
theorem RowAt.grown {w w' : World} {v : Value} {l : List Int} {S : Nat → Prop} (h : RowAt w v l) (hg : Grown w w' S) (hs : ∀ b, v.ownBlock = some b → b < w.heap.size → ¬ S b) : RowAt w' v l := by
 rcases h with h | h | ⟨b, off, cap, h1, h2, h3⟩
 ·exact .inl h
 ·exact .inr (.inl h)
 ·exact .inr (.inr ⟨b, off, cap, h1, h2, fun i hi => hg.cell (h3 i hi) (hs b (by rw [h1]; rfl) (cell_lt (h3 i hi)))⟩)
theorem RowAt.below {w w' : World} {v : Value} {l : List Int} (h : RowAt w v l) (hb : Below w.heap.size w w') : RowAt w' v l :=
 h.grown (Grown.below (S := fun _ => False) hb) fun _ _ _ h => h

def Own (w : World) (v : Value) (l : List Int) : Prop := w.ownsRow 0 5 1 v l.length (bv l)
theorem Own.row {w : World} {v : Value} {l : List Int} (h : Own w v l) : RowAt w v l := by
 have h' := h
 obtain ⟨_, h2⟩ := h
 rcases h2 with ⟨rfl, h0⟩ | ⟨g, cap, cur, rfl, hg, hh, hc, _⟩
 ·exact .inl ⟨rfl, List.eq_nil_of_length_eq_zero (by omega)⟩
 ·refine .inr <| .inr ⟨g, 0, cap, rfl, by omega, fun i hi => ?_⟩
  rw [Nat.zero_add, World.ownsRow.cellAt h' i (by omega), bv_get l i hi]
theorem Own.lt {w : World} {v : Value} {l : List Int} (h : Own w v l) : ∀ k, v.ownBlock = some k → k < w.heap.size := fun k hk => (World.ownsRow.lt h k hk).2
theorem Own.grown {w w' : World} {v : Value} {l : List Int} {S : Nat → Prop} (h : Own w v l) (hg : Grown w w' S) (hs : ∀ k, v.ownBlock = some k → ¬ S k) : Own w' v l := by
 refine ⟨h.1, ?_⟩
 rcases h.2 with h1 | ⟨g, cap, cur, rfl, h2, h3, h4⟩
 ·exact .inl h1
 ·exact .inr ⟨g, cap, cur, rfl, h2, hg.blk h3 (hs g rfl), h4⟩
theorem Own.ne {w : World} {v : Value} {l : List Int} {p : Nat} {T : TypeId} {cs : Array Value} (h : Own w v l) (hp : Blk w p T cs) (hT : T ≠ 5) : v.ownBlock ≠ some p := by
 intro e
 rcases h.2 with ⟨rfl, _⟩ | ⟨g, cap, cur, rfl, _, h3, _⟩
 ·simp [Value.ownBlock] at e
 ·simp [Value.ownBlock] at e
  subst e
  exact hT (blk_type hp h3)
theorem Own.form {w : World} {v : Value} {l : List Int} (h : Own w v l) : (v = .slice none 0 0 ∧ l = []) ∨ ∃ g cap cur, v = .slice (some ⟨g, 0, none⟩) l.length cap ∧ Blk w g 5 cur ∧ l.length ≤ cap ∧ cap ≤ maxLen ∧ cur.size = cap ∧ cur.toList.take l.length = bv l := by
 rcases h.2 with ⟨rfl, h0⟩ | ⟨g, cap, cur, rfl, _, h3, h4, h5, h6, h7⟩
 ·exact .inl ⟨rfl, List.eq_nil_of_length_eq_zero h0⟩
 ·exact .inr ⟨g, cap, cur, rfl, h3, h4, h5, by omega, by simpa using h7⟩
theorem Own.mk {w : World} {g cap : Nat} {cur : Array Value} {l : List Int} (h3 : Blk w g 5 cur) (h4 : l.length ≤ cap) (h5 : cap ≤ maxLen) (h6 : cur.size = cap) (h7 : cur.toList.take l.length = bv l) : Own w (.slice (some ⟨g, 0, none⟩) l.length cap) l :=
 ⟨by rw [bv_len]; omega, .inr ⟨g, cap, cur, rfl, Nat.zero_le _, h3, h4, h5, by omega, by simpa using h7⟩⟩
def Moved (w : World) (v v' : Value) : Prop := v'.ownBlock = v.ownBlock ∨ ∃ k, v'.ownBlock = some k ∧ w.heap.size ≤ k
theorem Moved.refl (w : World) (v : Value) : Moved w v v := .inl rfl
theorem Moved.trans {a b : World} {v v1 v2 : Value} (h : Moved a v v1) (hs : a.heap.size ≤ b.heap.size) (k : Moved b v1 v2) : Moved a v v2 := by
 rcases k with e | ⟨j, h1, h2⟩
 ·rcases h with h | ⟨i, h1, h2⟩
  ·exact .inl (e.trans h)
  ·exact .inr ⟨i, e.trans h1, h2⟩
 ·exact .inr ⟨j, h1, by omega⟩
theorem Moved.old {a : World} {v v1 : Value} (h : Moved a v v1) {k : Nat} (hk : k < a.heap.size) (e : v1.ownBlock = some k) : v.ownBlock = some k := by
 rcases h with h | ⟨i, h1, h2⟩
 ·rw [← h]; exact e
 ·rw [h1] at e; injection e with e; omega

theorem Tryz.info5 : (Tryz.prog.info? 5).map (fun i => (i.zero, i.size, i.bytes)) = some (some (.int .u8 0), 1, 1) := by kernel_rfl
theorem row_one (w : World) (c : Int) : RowAt (w.alloc (.cells #[.int .u8 c] 5)) (.slice (some ⟨w.heap.size, 0, none⟩) 1 1) [c] := by
 refine .inr <| .inr ⟨w.heap.size, 0, 1, rfl, by simp, fun i hi => ?_⟩
 have e : i = 0 := by simp at hi; exact hi
 subst e
 rw [(Blk.new w 5 #[.int .u8 c]).cell]; rfl

def AppPost (w : World) (v : Value) (l : List Int) (v' : Value) (w' : World) : Prop :=
 Own w' v' l ∧ ((v'.ownBlock = v.ownBlock ∧ Grown w w' fun k => v.ownBlock = some k) ∨ (v'.ownBlock = some w.heap.size ∧ Below w.heap.size w w'))
theorem AppPost.moved {w w' : World} {v v' : Value} {l : List Int} (h : AppPost w v l v' w') : Moved w v v' := by
 rcases h.2 with h | h
 ·exact .inl h.1
 ·exact .inr ⟨_, h.1, Nat.le_refl _⟩
theorem AppPost.grown {w w' : World} {v v' : Value} {l : List Int} (h : AppPost w v l v' w') : Grown w w' fun k => v.ownBlock = some k := by
 rcases h.2 with h | h
 ·exact h.2
 ·exact Grown.below h.2

section
theorem run_app_cells (w : World) (ty : TypeId) (v : Value) (l : List Int) (hown : Own w v l) (a : Addr) (c : Nat) (m : List Int) (hnews : ∀ j u, (bv m)[j]? = some u → w.cell? (a.add j) = some u) (hb : l.length + m.length ≤ 200000000000000) :
  ∃ v' w', (Builtin.append_ #[24, 24] ty #[v, .slice (some a) m.length c]).run Tryz.prog w = .ok v' w' ∧ AppPost w v (l ++ m) v' w' := by
 obtain ⟨i, hi, hzz⟩ := Option.map_eq_some_iff.1 Tryz.info5
 simp only [Prod.mk.injEq] at hzz
 obtain ⟨hz, hsz, hby⟩ := hzz
 have h63 : l.length + m.length ≤ maxLen := by unfold maxLen; omega
 have hlm : (bv m).length = m.length * i.size := by rw [bv_len, hsz]; omega
 obtain ⟨v', w', hr, h1, h2, h3⟩ := run_append_own_wide (P := Tryz.prog) w 0 24 ty 5 i (.int .u8 0) 1 1 Tryz.underlying24 hi hz hsz hby rfl (by omega) v l.length (bv l) hown a m.length c (bv m) (by rw [bv_len]; omega) hnews (bv_one m) h63 (by omega) (Nat.zero_le _)
 have hO : Own w' v' (l ++ m) := by unfold Own; rw [List.length_append, bv_app]; exact h1
 refine ⟨v', w', hr, hO, ?_⟩
 rcases hown.form with ⟨rfl, rfl⟩ | ⟨g, cap, cur, rfl, hg, hnc, hcm, hcs, htake⟩
 ·by_cases hm : m.length = 0
  ·have e := h3.2 ⟨rfl, hm⟩
   subst e
   exact .inl ⟨rfl, Grown.of h2 fun k _ e => by simp [Value.ownBlock] at e⟩
  ·have hr2 := run_append_nil (P := Tryz.prog) w 24 ty 5 i (.int .u8 0) Tryz.underlying24 hi hz a m.length c (bv m) hlm hnews (by omega) (by omega) (by rw [hby]; omega)
   have e := hr.symm.trans hr2
   injection e with e1 e2
   subst e1 e2
   exact .inr ⟨rfl, ⟨rfl, rfl, rfl, by simp, fun k hk => Below.heap_alloc w.drew _ k hk⟩⟩
 ·by_cases hroom : l.length + m.length ≤ cap
  ·have hr2 := run_append_room (P := Tryz.prog) w 24 ty 5 i Tryz.underlying24 hi g l.length cap cur hg a m.length c (bv m) hlm hnews (bv_one m) hroom (by rw [hsz, bv_len, hcs]; omega)
   have e := hr.symm.trans hr2
   injection e with e1 e2
   subst e1
   exact .inl ⟨rfl, Grown.of h2 fun k _ e => e⟩
  ·have holds : ∀ j u, (bv l)[j]? = some u → w.cell? ((⟨g, 0, none⟩ : Addr).add j) = some u := World.ownsRow.cells (g := g) hown rfl
   have hr2 := run_append_grow (P := Tryz.prog) w 24 ty 5 i (.int .u8 0) Tryz.underlying24 hi hz ⟨g, 0, none⟩ l.length cap (bv l) (by rw [bv_len, hsz]; omega) holds a m.length c (bv m) hlm hnews (by omega) (by omega) (by rw [hby]; exact growslice_fits_wide (by omega) (by omega))
   have e := hr.symm.trans hr2
   injection e with e1 e2
   subst e1 e2
   exact .inr ⟨rfl, ⟨rfl, rfl, rfl, by simp, fun k hk => Below.heap_alloc w.drew _ k hk⟩⟩
theorem run_app_row (w : World) (ty : TypeId) (v vx : Value) (l m : List Int) (hown : Own w v l) (hrow : RowAt w vx m) (hb : l.length + m.length ≤ 200000000000000) :
  ∃ v' w', (Builtin.append_ #[24, 24] ty #[v, vx]).run Tryz.prog w = .ok v' w' ∧ AppPost w v (l ++ m) v' w' := by
 rcases hrow with ⟨rfl, rfl⟩ | ⟨ad, c, rfl, rfl⟩ | ⟨b, off, cap, rfl, hcap, hc⟩
 ·obtain ⟨i, hi, _⟩ := Option.map_eq_some_iff.1 Tryz.info5
  have hrun := run_append_owned_none (P := Tryz.prog) (w := w) 0 24 ty 5 i 1 Tryz.underlying24 hi v l.length (bv l) hown
  exact ⟨v, w, hrun, by simpa using hown, .inl ⟨rfl, Grown.refl _ _⟩⟩
 ·exact run_app_cells w ty v l hown ad c [] (fun j u hu => by simp [bv] at hu) hb
 ·refine run_app_cells w ty v l hown ⟨b, off, none⟩ cap m (fun j u hu => ?_) hb
  have hj : j < m.length := by have := (List.getElem?_eq_some_iff.1 hu).1; rwa [bv_len] at this
  rw [bv_get m j hj] at hu
  rw [Addr.add_mid, hc j hj]; exact hu
end
theorem wpList_app {ops : Array Oper} {rest : List Oper} {o : Oper} {a : Act} {w : World} {Q : Exit → Act → World → Prop} (hgd : o.guard = none) (s x : Operand)
  (ho : o.op = .call { callee := .builtin .append, args := #[s, x], argTypes := #[24, 24] }) (v vx : Value) (l m : List Int)
  (hs : a.eval s = v) (hx : a.eval x = vx) (hown : Own w v l) (hrow : RowAt w vx m) (hb : l.length + m.length ≤ 200000000000000)
  (h : ∀ v' w', AppPost w v (l ++ m) v' w' → wpList Tryz.prog ops Q rest (a.put o.dst v') w') : wpList Tryz.prog ops Q (o :: rest) a w := by
 refine wpList_plain hgd fun K hK => ?_
 obtain ⟨v', w', hr, h2⟩ := run_app_row w o.type v vx l m hown hrow hb
 unfold Oper.wp execOp
 simp only [ho, resolve, invoke, builtin, Sem.run_bind, Sem.run_pure, Result.andThen_ok, List.map_toArray, List.map_cons, List.map_nil, hs, hx, hr]
 exact hK _ _ (h v' w' h2)
def numF : Nat → Nat → List Int
 | 0, x => [(x : Int)]
 | f + 1, x => if x < 128 then [(x : Int)] else ((x % 128 + 128 : Nat) : Int) :: numF f (x / 128)
def numL (x : Nat) : List Int := numF 9 x

theorem numF_more (f : Nat) : ∀ x, x < 128 ^ (f + 1) → numF (f + 1) x = numF f x := by
 induction f with
 | zero => intro x hx; simp only [numF]; rw [if_pos (by simpa using hx)]
 | succ f ih =>
  intro x hx
  by_cases h : x < 128
  ·simp only [numF, if_pos h]
  ·have h2 : x / 128 < 128 ^ (f + 1) := by rw [Nat.div_lt_iff_lt_mul (by omega)]; rw [Nat.pow_succ] at hx; exact hx
   rw [show numF (f + 1 + 1) x = ((x % 128 + 128 : Nat) : Int) :: numF (f + 1) (x / 128) by rw [numF, if_neg h]]
   rw [show numF (f + 1) x = ((x % 128 + 128 : Nat) : Int) :: numF f (x / 128) by rw [numF, if_neg h], ih _ h2]
theorem numL_small (x : Nat) (h : x < 128) : numL x = [(x : Int)] := by unfold numL; rw [numF, if_pos h]
theorem numL_step (x : Nat) (h : 128 ≤ x) (hx : x < 18446744073709551616) : numL x = ((x % 128 + 128 : Nat) : Int) :: numL (x / 128) := by
 unfold numL
 rw [numF, if_neg (by omega), numF_more 8 (x / 128) (by
  have : (128 : Nat) ^ (8 + 1) = 9223372036854775808 := by decide
  rw [this]; omega)]
theorem numF_len (f : Nat) : ∀ x, (numF f x).length ≤ f + 1 := by
 induction f with
 | zero => intro x; simp [numF]
 | succ f ih =>
  intro x
  rw [numF]
  split
  ·simp
  ·have := ih (x / 128); simp; omega
theorem numL_len (x : Nat) : (numL x).length ≤ 10 := numF_len 9 x

def Byts (l : List Int) : Prop := ∀ c ∈ l, 0 ≤ c ∧ c < 256
theorem Byts.nil : Byts [] := fun _ h => by simp at h
theorem Byts.one {c : Int} (h : 0 ≤ c ∧ c < 256) : Byts [c] := fun x hx => by simp at hx; subst hx; exact h
theorem Byts.take {a : List Int} (h : Byts a) (n : Nat) : Byts (a.take n) := fun c hc => h c (List.mem_of_mem_take hc)
theorem Byts.drop {a : List Int} (h : Byts a) (n : Nat) : Byts (a.drop n) := fun c hc => h c (List.mem_of_mem_drop hc)
theorem Byts.getD {a : List Int} (h : Byts a) (n : Nat) : 0 ≤ a.getD n 0 ∧ a.getD n 0 < 256 := by
 rw [List.getD_eq_getElem?_getD]
 by_cases hn : n < a.length
 ·rw [List.getElem?_eq_getElem hn]; exact h _ (List.getElem_mem hn)
 ·rw [List.getElem?_eq_none (by omega)]; decide

def fstG : List Int → Nat → Int → Int × Int × Int
 | [], _, _ => (0, 0, 20)
 | c :: D, i, x => if i = 9 ∧ 1 < c then (0, 0, 22) else if c = 0 ∧ 0 < i then (0, 0, 21) else if c < 128 then (x + c % 128 * 2 ^ (7 * i), (i : Int) + 1, 0) else fstG D (i + 1) (x + c % 128 * 2 ^ (7 * i))
def fstM (D : List Int) (most : Int) : Int × Int × Int := if (fstG D 0 0).2.2 = 0 ∧ most < (fstG D 0 0).1 then (0, 0, 22) else fstG D 0 0

theorem pow7 (i : Nat) : (0 : Int) < 2 ^ (7 * i) := Int.pow_pos (by decide)

theorem fstG_inv (D : List Int) : ∀ (i : Nat) (y z k : Int), Byts D → i ≤ 9 → fstG D i y = (z, k, 0) →
  ∃ x : Nat, z = y + x * 2 ^ (7 * i) ∧ (x : Int) * 2 ^ (7 * i) < 18446744073709551616 ∧ (0 < i → 0 < x) ∧ k = (i : Int) + (numF (9 - i) x).length ∧ ∃ rest, D = numF (9 - i) x ++ rest := by
 induction D with
 | nil => intro i y z k _ _ h; simp [fstG] at h
 | cons c D ih =>
  intro i y z k hB hi h
  have hc := hB c (by simp)
  have hD : Byts D := fun x hx => hB x (by simp [hx])
  simp only [fstG] at h
  by_cases h1 : i = 9 ∧ 1 < c
  ·rw [if_pos h1] at h; simp at h
  ·rw [if_neg h1] at h
   by_cases h2 : c = 0 ∧ 0 < i
   ·rw [if_pos h2] at h; simp at h
   ·rw [if_neg h2] at h
    have hpp := pow7 i
    by_cases h3 : c < 128
    ·rw [if_pos h3] at h
     simp only [Prod.mk.injEq] at h
     obtain ⟨rfl, rfl, _⟩ := h
     refine ⟨c.toNat, ?_, ?_, fun _ => by omega, ?_, D, ?_⟩
     ·rw [show c % 128 = c by omega, Int.toNat_of_nonneg hc.1]
     ·rw [Int.toNat_of_nonneg hc.1]
      by_cases h9 : i = 9
      ·subst h9
       have : (2 : Int) ^ (7 * 9) = 9223372036854775808 := by decide
       rw [this]; omega
      ·have hle : (2 : Int) ^ (7 * i) ≤ 2 ^ (7 * 8) := by
        have := Nat.pow_le_pow_right (n := 2) (by decide) (show 7 * i ≤ 7 * 8 by omega)
        exact_mod_cast this
       have h56 : (2 : Int) ^ (7 * 8) = 72057594037927936 := by decide
       have : c * 2 ^ (7 * i) ≤ 127 * 2 ^ (7 * i) := Int.mul_le_mul_of_nonneg_right (by omega) (by omega)
       omega
     ·cases h9 : 9 - i with
      | zero => simp [numF]
      | succ f => rw [numF, if_pos (by omega)]; simp
     ·cases h9 : 9 - i with
      | zero => simp [numF, Int.toNat_of_nonneg hc.1]
      | succ f => rw [numF, if_pos (by omega)]; simp [Int.toNat_of_nonneg hc.1]
    ·rw [if_neg h3] at h
     obtain ⟨x, hz, hx, hx0, hk, rest, hr⟩ := ih (i + 1) _ z k hD (by omega) h
     have hp : (2 : Int) ^ (7 * (i + 1)) = 128 * 2 ^ (7 * i) := by
      rw [show 7 * (i + 1) = 7 * i + 7 by omega, Int.pow_add, Int.mul_comm]; rfl
     have hx1 := hx0 (by omega)
     have hc2 : c % 128 = c - 128 := by omega
     have e9 : 9 - i = (9 - (i + 1)) + 1 := by omega
     have hnum : numF (9 - i) ((c - 128).toNat + 128 * x) = c :: numF (9 - (i + 1)) x := by
      rw [e9, numF, if_neg (by omega), show ((c - 128).toNat + 128 * x) / 128 = x by omega, show ((c - 128).toNat + 128 * x) % 128 = (c - 128).toNat by omega]
      congr 1
      omega
     have hval : (((c - 128).toNat + 128 * x : Nat) : Int) * 2 ^ (7 * i) = (c - 128) * 2 ^ (7 * i) + x * 2 ^ (7 * (i + 1)) := by
      rw [hp, ← Int.mul_assoc, ← Int.add_mul]
      congr 1
      omega
     refine ⟨(c - 128).toNat + 128 * x, ?_, ?_, fun _ => by omega, ?_, rest, ?_⟩
     ·rw [hval, hz, hc2]; omega
     ·rw [hval]
      have a1 : (c - 128) * 2 ^ (7 * i) ≤ 127 * 2 ^ (7 * i) := Int.mul_le_mul_of_nonneg_right (by omega) (by omega)
      rw [hp] at hx
      by_cases h8 : i ≤ 8
      ·-- the sum of what is below and of a multiple of the place
       have hq : (18446744073709551616 : Int) = 2 ^ (64 - 7 * (i + 1)) * (128 * 2 ^ (7 * i)) := by
        rw [← hp, ← Int.pow_add, show 64 - 7 * (i + 1) + 7 * (i + 1) = 64 by omega]; rfl
       rw [hq] at hx ⊢
       have hxl : (x : Int) < 2 ^ (64 - 7 * (i + 1)) := Int.lt_of_mul_lt_mul_right hx (by omega)
       have h2 : ((x : Int) + 1) * (128 * 2 ^ (7 * i)) ≤ 2 ^ (64 - 7 * (i + 1)) * (128 * 2 ^ (7 * i)) := Int.mul_le_mul_of_nonneg_right (by omega) (by omega)
       rw [hp]
       have h3 : ((x : Int) + 1) * (128 * 2 ^ (7 * i)) = x * (128 * 2 ^ (7 * i)) + 128 * 2 ^ (7 * i) := by rw [Int.add_mul, Int.one_mul]
       omega
      ·omega
     ·rw [hnum, hk]; simp; omega
     ·rw [hnum, hr]; rfl
theorem fstG_form (D : List Int) (z k : Int) (hB : Byts D) (h : fstG D 0 0 = (z, k, 0)) :
  ∃ x : Nat, z = x ∧ x < 18446744073709551616 ∧ k = ((numL x).length : Int) ∧ ∃ rest, D = numL x ++ rest := by
 obtain ⟨x, h1, h2, _, h4, rest, h5⟩ := fstG_inv D 0 0 z k hB (by omega) h
 refine ⟨x, by simpa using h1, ?_, by simpa [numL] using h4, rest, by simpa [numL] using h5⟩
 simp at h2; omega
structure OutAt (w : World) (p : Nat) (v : Value) (l : List Int) : Prop where
 blk : Blk w p 144 #[v]
 own : Own w v l
def OF (p : Nat) (v : Value) : Nat → Prop := fun k => k = p ∨ v.ownBlock = some k
def OutPost (p : Nat) (v : Value) (l : List Int) (w : World) (e : Ending) (w' : World) : Prop :=
 e = .returned (.tuple #[]) ∧ ∃ v', OutAt w' p v' l ∧ Moved w v v' ∧ Grown w w' (OF p v)
theorem OutAt.grown {w w' : World} {p : Nat} {v : Value} {l : List Int} {S : Nat → Prop} (h : OutAt w p v l) (hg : Grown w w' S) (hs : ∀ k, OF p v k → ¬ S k) : OutAt w' p v l :=
 ⟨hg.blk h.blk (hs p (.inl rfl)), h.own.grown hg fun k hk => hs k (.inr hk)⟩
theorem OutAt.lt {w : World} {p : Nat} {v : Value} {l : List Int} (h : OutAt w p v l) {k : Nat} (hk : OF p v k) : k < w.heap.size := by
 rcases hk with rfl | hk
 ·exact h.blk.lt
 ·exact h.own.lt k hk
theorem OutPost.trans {p : Nat} {v v1 : Value} {l : List Int} {w w1 w2 : World} {e : Ending} (hm : Moved w v v1) (hg : Grown w w1 (OF p v)) (h : OutPost p v1 l w1 e w2) : OutPost p v l w e w2 := by
 obtain ⟨he, v2, h1, h2, h3⟩ := h
 refine ⟨he, v2, h1, hm.trans hg.size h2, hg.next h3 ?_⟩
 rintro i hi (rfl | h)
 ·exact .inl rfl
 ·exact .inr (hm.old hi h)

theorem OutAt.stored {w w1 : World} {p : Nat} {v v' : Value} {l m : List Int} (h : OutAt w p v l) (ha : AppPost w v m v' w1) : OutPost p v m w (.returned (.tuple #[])) (w1.setCell ⟨p, 0, none⟩ v') := by
 have hne := h.own.ne h.blk (by decide)
 have hp1 : Blk w1 p 144 #[v] := ha.grown.blk h.blk hne
 have hne1 : v'.ownBlock ≠ some p := ha.1.ne hp1 (by decide)
 refine ⟨rfl, v', ⟨hp1.set 0 v', ha.1.grown (Grown.setCell w1 p 0 v' (S := fun k => k = p) fun _ => rfl) fun k hk e => hne1 (by rw [hk, e])⟩, ha.moved, ?_⟩
 exact (ha.grown.mono fun i _ h => Or.inr h).next (Grown.setCell w1 p 0 v' (S := fun k => k = p) fun _ => rfl) fun i _ e => .inl e

theorem Own.sl {w : World} {v : Value} {l : List Int} (h : Own w v l) : ∃ a n c, v = .slice a n c := by
 rcases h.form with ⟨rfl, _⟩ | ⟨g, cap, cur, rfl, _⟩
 ·exact ⟨_, _, _, rfl⟩
 ·exact ⟨_, _, _, rfl⟩
theorem OutAt.box {w : World} {p : Nat} {v : Value} {l : List Int} (h : OutAt w p v l) (o : Obj) : OutAt (w.alloc o) p v l := h.grown (Grown.alloc w o fun _ => False) fun _ _ h => h
theorem OutPost.box {p : Nat} {v : Value} {l : List Int} {w w2 : World} {e : Ending} {o : Obj} (h : OutPost p v l (w.alloc o) e w2) : OutPost p v l w e w2 :=
 h.trans (Moved.refl _ _) (Grown.alloc w o _)

set_option maxRecDepth 8000 in
set_option maxHeartbeats 400000 in
theorem obyte_any (p : Nat) (v : Value) (l : List Int) (c : Int) (w : World) (h : OutAt w p v l) (hb : (l ++ [c]).length ≤ 200000000000000) :
  Calls Tryz.prog 73 #[ptr p, .int .u8 c] w (OutPost p v (l ++ [c]) w) := by
 have hO1 := h.box (.cells #[.int .u8 c] 5)
 have HO : Keep (OutAt (w.alloc (.cells #[.int .u8 c] 5)) p v l) := ⟨hO1⟩
 have c0 : w.cell? ⟨p, 0, none⟩ = some v := by rw [h.blk.cell]; rfl
 have HB : Keep (l.length + [c].length ≤ 200000000000000) := ⟨by simpa using hb⟩
 clear h hO1 hb
 go_enter Tryz.func73, Tryz.ntmps73
 go_wp2_with (first | (at_builtin; refine wpList_app rfl (.tmp 8) (.tmp 10) rfl v (.slice (some ⟨w.heap.size, 0, none⟩) 1 1) l [c] rfl rfl HO.out.own (row_one w c) HB.out ?_; intro v' w' hp; refine Hid.out ?_))
 refine hid_in ?_
 obtain ⟨a1, n1, k1, rfl⟩ := hp.1.sl
 have HP : Keep (AppPost (w.alloc (.cells #[.int .u8 c] 5)) v (l ++ [c]) (.slice a1 n1 k1) w') := ⟨hp⟩
 have hp1 : Blk w' p 144 #[v] := hp.grown.blk HO.out.blk (HO.out.own.ne HO.out.blk (by decide))
 have c1 : w'.cell? ⟨p, 0, none⟩ = some v := by rw [hp1.cell]; rfl
 have f1 : w'.frozen? ⟨p, 0, none⟩ = false := hp1.frozen 0
 clear hp hp1 c0
 go_wp2
 go_end0
 exact (HO.out.stored HP.out).box
set_option maxRecDepth 8000 in
set_option maxHeartbeats 400000 in
theorem oraw_any (p : Nat) (v vx : Value) (l m : List Int) (w : World) (h : OutAt w p v l) (hx : RowAt w vx m) (hb : (l ++ m).length ≤ 200000000000000) :
  Calls Tryz.prog 104 #[ptr p, vx] w (OutPost p v (l ++ m) w) := by
 have HO : Keep (OutAt w p v l) := ⟨h⟩
 have HX : Keep (RowAt w vx m) := ⟨hx⟩
 have c0 : w.cell? ⟨p, 0, none⟩ = some v := by rw [h.blk.cell]; rfl
 have HB : Keep (l.length + m.length ≤ 200000000000000) := ⟨by simpa using hb⟩
 clear h hx hb
 go_enter Tryz.func104, Tryz.ntmps104
 go_wp2_with (first | (at_builtin; refine wpList_app rfl (.tmp 8) (.tmp 9) rfl v vx l m rfl rfl HO.out.own HX.out HB.out ?_; intro v' w' hp; refine Hid.out ?_))
 refine hid_in ?_
 obtain ⟨a1, n1, k1, rfl⟩ := hp.1.sl
 have HP : Keep (AppPost w v (l ++ m) (.slice a1 n1 k1) w') := ⟨hp⟩
 have hp1 : Blk w' p 144 #[v] := hp.grown.blk HO.out.blk (HO.out.own.ne HO.out.blk (by decide))
 have c1 : w'.cell? ⟨p, 0, none⟩ = some v := by rw [hp1.cell]; rfl
 have f1 : w'.frozen? ⟨p, 0, none⟩ = false := hp1.frozen 0
 clear hp hp1 c0
 go_wp2
 go_end0
 exact HO.out.stored HP.out

set_option maxRecDepth 8000 in
set_option maxHeartbeats 1000000 in
theorem onum_any (p : Nat) (v : Value) (l : List Int) (x : Nat) (w : World) (h : OutAt w p v l) (hx : x < 18446744073709551616) (hb : (l ++ numL x).length ≤ 200000000000000) :
  Calls Tryz.prog 74 #[ptr p, .int .u64 (x : Int)] w (OutPost p v (l ++ numL x) w) := by
 have HO : Keep (OutAt w p v l) := ⟨h⟩
 have HB : Keep ((l ++ numL x).length ≤ 200000000000000) := ⟨hb⟩
 have HX : Keep (x < 18446744073709551616) := ⟨hx⟩
 clear h hx hb
 go_enter Tryz.func74, Tryz.ntmps74
 go_wp2
 go_loopw [1] (fun i wr => ∃ (y : Nat) (v1 : Value) (l1 : List Int), i = .int .u64 (y : Int) ∧ Keep (y < 18446744073709551616) ∧ OutAt wr p v1 l1 ∧ Keep (l1 ++ numL y = l ++ numL x) ∧ Moved w v v1 ∧ Grown w wr (OF p v)) (fun i _ => (intOf i).toNat)
 case atStart => exact ⟨x, v, l, rfl, HX, HO.out, ⟨rfl⟩, Moved.refl _ _, Grown.refl _ _⟩
 case round =>
  obtain ⟨y, v1, l1, rfl, hy, hO1, hl1, hm1, hg1⟩ := hrel
  by_cases h128 : 128 ≤ y
  ·have h128' : (128 : Int) ≤ (y : Int) := by omega
   have hs := numL_step y h128 hy.out
   have HS : Keep (numL y = ((y % 128 + 128 : Nat) : Int) :: numL (y / 128)) := ⟨hs⟩
   have hlen : Keep ((l1 ++ [(y : Int) % 128 + 128]).length ≤ 200000000000000) := ⟨by
    have e := congrArg List.length hl1.out
    have := HB.out
    rw [HS.out] at e
    simp only [List.length_append, List.length_cons, List.length_nil] at e this ⊢
    omega⟩
   clear hs
   go_wp2_with fail
   refine (obyte_any p v1 l1 _ wr hO1 hlen.out).mono ?_
   rintro e w2 ⟨rfl, v2, hO2, hm2, hg2⟩
   obtain ⟨z, hz⟩ : ∃ z, Keep (y / 128 = z) := ⟨_, ⟨rfl⟩⟩
   have hz1 : (y : Int) / 128 = (z : Int) := by have := hz.out; omega
   clear hO1
   go_wp2
   go_roundw
   case rel =>
    refine ⟨z, v2, l1 ++ [(y : Int) % 128 + 128], rfl, ⟨by have := hy.out; have := hz.out; omega⟩, hO2, ⟨?_⟩, hm1.trans hg1.size hm2, hg1.next hg2 ?_⟩
    ·rw [← hl1.out, HS.out, hz.out, List.append_assoc]
     simp
    ·rintro i hi (rfl | h)
     ·exact .inl rfl
     ·exact .inr (hm1.old hi h)
   case measure => simp only [intOf]; have := hz.out; omega
  ·have h128' : ¬ (128 : Int) ≤ (y : Int) := by omega
   have hs := numL_small y (by omega)
   have HL : Keep (l1 ++ [(y : Int)] = l ++ numL x) := ⟨by rw [← hl1.out, hs]⟩
   have hlen : Keep ((l1 ++ [(y : Int)]).length ≤ 200000000000000) := ⟨by rw [HL.out]; exact HB.out⟩
   clear hs
   go_wp2_with fail
   refine (obyte_any p v1 l1 _ wr hO1 hlen.out).mono ?_
   intro e w2 hpost
   rw [HL.out] at hpost
   have hpost2 := hpost.trans hm1 hg1
   obtain ⟨rfl, hrest⟩ := hpost2
   have HR : Keep (∃ v', OutAt w2 p v' (l ++ numL x) ∧ Moved w v v' ∧ Grown w w2 (OF p v)) := ⟨hrest⟩
   clear hrest hpost hO1
   go_wp2
   go_end0
   exact ⟨rfl, HR.out⟩

def zig (x : Int) : Nat := if 0 ≤ x then (2 * x).toNat else (-2 * x - 1).toNat
theorem zig_lt (x : Int) (h1 : -9223372036854775808 ≤ x) (h2 : x ≤ 9223372036854775807) : zig x < 18446744073709551616 := by
 unfold zig; split <;> omega
theorem zig_pos (x : Int) (h1 : 0 ≤ x) (h2 : x ≤ 9223372036854775807) : IntKind.u64.wrap (2 * IntKind.u64.wrap x) = (zig x : Int) := by
 simp only [IntKind.wrap_u64]; unfold zig; rw [if_pos h1]; omega
theorem zig_neg (x : Int) (h1 : x < 0) (h2 : -9223372036854775808 ≤ x) : IntKind.u64.wrap (IntKind.u64.wrap (-IntKind.u64.wrap (2 * IntKind.u64.wrap x)) - 1) = (zig x : Int) := by
 simp only [IntKind.wrap_u64]; unfold zig; rw [if_neg (by omega)]; omega

set_option maxRecDepth 8000 in
set_option maxHeartbeats 1000000 in
theorem osigned_any (p : Nat) (v : Value) (l : List Int) (x : Int) (w : World) (h : OutAt w p v l) (h1 : -9223372036854775808 ≤ x) (h2 : x ≤ 9223372036854775807) (hb : (l ++ numL (zig x)).length ≤ 200000000000000) :
  Calls Tryz.prog 131 #[ptr p, .int .i64 x] w (OutPost p v (l ++ numL (zig x)) w) := by
 have HO : Keep (OutAt w p v l) := ⟨h⟩
 have HB : Keep ((l ++ numL (zig x)).length ≤ 200000000000000) := ⟨hb⟩
 have HZ : Keep (zig x < 18446744073709551616) := ⟨zig_lt x h1 h2⟩
 by_cases hx : x < 0
 ·have HN : Keep (IntKind.u64.wrap (IntKind.u64.wrap (-IntKind.u64.wrap (2 * IntKind.u64.wrap x)) - 1) = (zig x : Int)) := ⟨zig_neg x hx h1⟩
  clear h h1 h2 hb
  go_enter Tryz.func131, Tryz.ntmps131
  go_wp2_with fail
  rw [HN.out]
  refine (onum_any p v l (zig x) w HO.out HZ.out HB.out).mono ?_
  rintro e w2 ⟨rfl, hrest⟩
  have HR := Keep.mk hrest
  clear hrest
  go_wp2
  go_end0
  exact ⟨rfl, HR.out⟩
 ·have HN : Keep (IntKind.u64.wrap (2 * IntKind.u64.wrap x) = (zig x : Int)) := ⟨zig_pos x (by omega) h2⟩
  clear h h1 h2 hb
  go_enter Tryz.func131, Tryz.ntmps131
  go_wp2_with fail
  rw [HN.out]
  refine (onum_any p v l (zig x) w HO.out HZ.out HB.out).mono ?_
  rintro e w2 ⟨rfl, hrest⟩
  have HR := Keep.mk hrest
  clear hrest
  go_wp2
  go_end0
  exact ⟨rfl, HR.out⟩

def bform (m : List Int) : List Int := numL m.length ++ m
theorem wrap64_len (n : Nat) (h : n ≤ 200000000000000) : IntKind.u64.wrap (n : Int) = n := by rw [IntKind.wrap_u64]; omega

def lst (s : ByteArray) : List Int := s.data.toList.map fun b => (b.toNat : Int)
theorem lst_len (s : ByteArray) : (lst s).length = s.size := by simp [lst]
theorem lst_cells (s : ByteArray) : Lib.strCells s = bv (lst s) := by simp [Lib.strCells, bv, lst]
theorem lst_byts (s : ByteArray) : Byts (lst s) := fun c hc => by
 simp [lst] at hc
 obtain ⟨b, _, rfl⟩ := hc
 have := b.toNat_lt
 omega
theorem lst_nums {l : List Int} (h : Byts l) : lst (strOfNums l) = l := by
 unfold lst
 rw [strOfNums_data, List.map_map]
 conv => rhs; rw [← List.map_id l]
 apply List.map_congr_left
 intro c hc
 have := h c hc
 simp
 omega
theorem nums_lst (s : ByteArray) : strOfNums (lst s) = s := by
 apply ByteArray.ext
 apply Array.ext'
 show (strOfNums (lst s)).data.toList = _
 rw [strOfNums_data]
 unfold lst
 rw [List.map_map]
 conv => rhs; rw [← List.map_id s.data.toList]
 apply List.map_congr_left
 intro b _
 simp

theorem run_app_string (w : World) (ty : TypeId) (v : Value) (l : List Int) (hown : Own w v l) (s : ByteArray) (hb : l.length + s.size ≤ 200000000000000) (hs : s.size ≤ 140737488355328) :
  ∃ v' w', (Builtin.append_ #[24, 9] ty #[v, .string s]).run Tryz.prog w = .ok v' w' ∧ AppPost w v (l ++ lst s) v' w' := by
 obtain ⟨i, hi, hzz⟩ := Option.map_eq_some_iff.1 Tryz.info5
 simp only [Prod.mk.injEq] at hzz
 obtain ⟨hz, hsz, hby⟩ := hzz
 have h63 : l.length + s.size ≤ maxLen := by unfold maxLen; omega
 by_cases hsm : l.length + s.size ≤ 140737488355328
 ·obtain ⟨v', w', hr, h1, h2, h3⟩ := Lib.run_append_own_string (P := Tryz.prog) w 0 24 9 ty 5 i Tryz.underlying24 Tryz.underlying9 hi hz hsz hby v l.length (bv l) hown s h63 hsm (Nat.zero_le _)
  have hO : Own w' v' (l ++ lst s) := by unfold Own; rw [List.length_append, bv_app, lst_len, ← lst_cells]; exact h1
  refine ⟨v', w', hr, hO, ?_⟩
  rcases hown.form with ⟨rfl, rfl⟩ | ⟨g, cap, cur, rfl, hg, hnc, hcm, hcs, htake⟩
  ·by_cases h0 : s.size = 0
   ·have e := h3.2 ⟨rfl, h0⟩
    subst e
    exact .inl ⟨rfl, Grown.of h2 fun k _ e => e⟩
   ·have hr2 := run_append_nil_string (P := Tryz.prog) w 24 9 ty 5 i (.int .u8 0) Tryz.underlying24 Tryz.underlying9 hi hz s (by omega) (by omega) (by rw [hby]; omega)
    have e := hr.symm.trans hr2
    injection e with e1 e2
    subst e1
    exact .inr ⟨rfl, h2.os, h2.tape, h2.output, h2.size, fun k hk => h2.block k hk (by simp [Value.ownBlock])⟩
  ·by_cases hroom : l.length + s.size ≤ cap
   ·have hr2 := Lib.run_append_room_string (P := Tryz.prog) w 24 9 ty 5 i Tryz.underlying24 Tryz.underlying9 hi hsz g l.length cap cur hg s hroom (by omega)
    have e := hr.symm.trans hr2
    injection e with e1 e2
    subst e1
    exact .inl ⟨rfl, Grown.of h2 fun k _ e => e⟩
   ·have holds : ∀ j u, (bv l)[j]? = some u → w.cell? ((⟨g, 0, none⟩ : Addr).add j) = some u := World.ownsRow.cells (g := g) hown rfl
    have hr2 := Lib.run_append_grow_string (P := Tryz.prog) w 24 9 ty 5 i (.int .u8 0) Tryz.underlying24 Tryz.underlying9 hi hz ⟨g, 0, none⟩ l.length cap (bv l) (by rw [bv_len, hsz]; omega) holds s (by omega) (by omega) (by rw [hby]; exact growslice_fits (by omega) (by omega))
    have e := hr.symm.trans hr2
    injection e with e1 e2
    subst e1 e2
    exact .inr ⟨rfl, ⟨rfl, rfl, rfl, by simp, fun k hk => Below.heap_alloc w.drew _ k hk⟩⟩
 ·rcases hown.form with ⟨rfl, rfl⟩ | ⟨g, cap, cur, rfl, hg, hnc, hcm, hcs, htake⟩
  ·simp at hsm; omega
  ·have hll : (l ++ lst s).length = l.length + s.size := by rw [List.length_append, lst_len]
   by_cases hroom : l.length + s.size ≤ cap
   ·have hr2 := Lib.run_append_room_string (P := Tryz.prog) w 24 9 ty 5 i Tryz.underlying24 Tryz.underlying9 hi hsz g l.length cap cur hg s hroom (by omega)
    refine ⟨_, _, hr2, ?_, .inl ⟨rfl, Grown.setRow w g _ fun _ => rfl⟩⟩
    rw [← hll]
    refine Own.mk (Blk.setRow hg _) (by omega) hcm (by simp only [List.size_toArray, List.length_append, List.length_take, List.length_drop, Array.length_toList, Lib.strCells_length, lst_len]; omega) ?_
    rw [htake, hll, lst_cells, ← bv_app]
    exact List.take_left' (by rw [bv_len, hll])
   ·have holds : ∀ j u, (bv l)[j]? = some u → w.cell? ((⟨g, 0, none⟩ : Addr).add j) = some u := World.ownsRow.cells (g := g) hown rfl
    have hr2 := Lib.run_append_grow_string (P := Tryz.prog) w 24 9 ty 5 i (.int .u8 0) Tryz.underlying24 Tryz.underlying9 hi hz ⟨g, 0, none⟩ l.length cap (bv l) (by rw [bv_len, hsz]; omega) holds s (by omega) (by omega) (by rw [hby]; exact growslice_fits_wide (by omega) (by omega))
    refine ⟨_, _, hr2, ?_, .inr ⟨rfl, ⟨rfl, rfl, rfl, by simp, fun k hk => Below.heap_alloc w.drew _ k hk⟩⟩⟩
    have hge := grownCap_ge w (l.length + s.size) cap 5
    rw [← hll] at hge ⊢
    refine Own.mk (heap_alloc_new w.drew _) hge (grownCap_le_maxLen w _ cap 5 (by rw [hll]; exact h63)) ?_ ?_
    ·have hz1 : (Value.int IntKind.u8 0).cells.size = 1 := rfl
     simp only [Array.size_append, List.size_toArray, size_zeroCells, hz1, bv_len, Lib.strCells_length]
     omega
    ·simp only [Array.toList_append]
     rw [lst_cells, ← bv_app]
     exact List.take_left' (by rw [bv_len])

theorem wpList_appS {ops : Array Oper} {rest : List Oper} {o : Oper} {a : Act} {w : World} {Q : Exit → Act → World → Prop} (hgd : o.guard = none) (s x : Operand)
  (ho : o.op = .call { callee := .builtin .append, args := #[s, x], argTypes := #[24, 9] }) (v : Value) (l : List Int) (t : ByteArray)
  (hs : a.eval s = v) (hx : a.eval x = .string t) (hown : Own w v l) (hb : l.length + t.size ≤ 200000000000000) (ht : t.size ≤ 140737488355328)
  (h : ∀ v' w', AppPost w v (l ++ lst t) v' w' → wpList Tryz.prog ops Q rest (a.put o.dst v') w') : wpList Tryz.prog ops Q (o :: rest) a w := by
 refine wpList_plain hgd fun K hK => ?_
 obtain ⟨v', w', hr, h2⟩ := run_app_string w o.type v l hown t hb ht
 unfold Oper.wp execOp
 simp only [ho, resolve, invoke, builtin, Sem.run_bind, Sem.run_pure, Result.andThen_ok, List.map_toArray, List.map_cons, List.map_nil, hs, hx, hr]
 exact hK _ _ (h v' w' h2)

set_option maxRecDepth 8000 in
set_option maxHeartbeats 1000000 in
theorem olayS_any (p : Nat) (v : Value) (l : List Int) (t : ByteArray) (w : World) (h : OutAt w p v l) (hb : l.length + (bform (lst t)).length ≤ 200000000000000) (ht : t.size ≤ 140737488355328) :
  Calls Tryz.prog 142 #[ptr p, .string t] w (OutPost p v (l ++ bform (lst t)) w) := by
 have HO : Keep (OutAt w p v l) := ⟨h⟩
 have HB : Keep (l.length + (numL t.size).length + t.size ≤ 200000000000000) := ⟨by simpa [bform, Nat.add_assoc, lst_len] using hb⟩
 have hw := wrap64_len t.size (by have := HB.out; omega)
 have HT := Keep.mk ht
 clear h hb ht
 go_enter Tryz.func142, Tryz.ntmps142
 go_wp2_with fail
 refine (onum_any p v l t.size w HO.out (by have := HB.out; omega) (by have := HB.out; simp only [List.length_append]; omega)).mono ?_
 rintro e w1 ⟨rfl, v1, hO1, hm1, hg1⟩
 have HO1 : Keep (OutAt w1 p v1 (l ++ numL t.size)) := ⟨hO1⟩
 have c0 : w1.cell? ⟨p, 0, none⟩ = some v1 := by rw [hO1.blk.cell]; rfl
 have HB1 : Keep ((l ++ numL t.size).length + t.size ≤ 200000000000000) := ⟨by simpa using HB.out⟩
 clear hO1
 go_wp2_with (first | (at_builtin; refine wpList_appS rfl (.tmp 13) (.tmp 14) rfl v1 (l ++ numL t.size) t rfl rfl HO1.out.own HB1.out HT.out ?_; intro v' w' hp; refine Hid.out ?_))
 refine hid_in ?_
 obtain ⟨a1, n1, k1, rfl⟩ := hp.1.sl
 have HP : Keep (AppPost w1 v1 (l ++ bform (lst t)) (.slice a1 n1 k1) w') := ⟨by rw [List.append_assoc, ← lst_len] at hp; exact hp⟩
 have hp1 : Blk w' p 144 #[v1] := hp.grown.blk HO1.out.blk (HO1.out.own.ne HO1.out.blk (by decide))
 have c1 : w'.cell? ⟨p, 0, none⟩ = some v1 := by rw [hp1.cell]; rfl
 have f1 : w'.frozen? ⟨p, 0, none⟩ = false := hp1.frozen 0
 clear hp hp1 c0
 go_wp2
 go_end0
 exact (HO1.out.stored HP.out).trans hm1 hg1

set_option maxRecDepth 8000 in
set_option maxHeartbeats 400000 in
theorem otext_any (p : Nat) (v : Value) (l : List Int) (t : ByteArray) (w : World) (h : OutAt w p v l) (hb : l.length + (bform (lst t)).length ≤ 200000000000000) (ht : t.size ≤ 140737488355328) :
  Calls Tryz.prog 123 #[ptr p, .string t] w (OutPost p v (l ++ bform (lst t)) w) := by
 have HC := Keep.mk (olayS_any p v l t w h hb ht)
 clear h hb ht
 go_enter Tryz.func123, Tryz.ntmps123
 go_wp2_with fail
 refine HC.out.mono ?_
 rintro e w1 ⟨rfl, hrest⟩
 have HR := Keep.mk hrest
 clear hrest
 go_wp2
 go_end0
 exact ⟨rfl, HR.out⟩

set_option maxRecDepth 8000 in
set_option maxHeartbeats 400000 in
theorem olen_any (p : Nat) (v : Value) (l : List Int) (w : World) (h : OutAt w p v l) :
  Calls Tryz.prog 38 #[ptr p] w fun e w' => e = .returned (.int .i64 (l.length : Int)) ∧ w' = w := by
 obtain ⟨a, c, rfl⟩ := row_form h.own.row
 have c0 : w.cell? ⟨p, 0, none⟩ = some (.slice a l.length c) := by rw [h.blk.cell]; rfl
 clear h
 go_enter Tryz.func38, Tryz.ntmps38
 go_wp2
 go_ret
 exact ⟨rfl, rfl⟩

set_option maxRecDepth 8000 in
set_option maxHeartbeats 400000 in
theorem newOut_any (w : World) : Calls Tryz.prog 72 #[] w fun e w' => e = .returned (ptr w.heap.size) ∧ w' = w.alloc (.cells #[.slice none 0 0] 144) := by
 go_enter Tryz.func72, Tryz.ntmps72
 go_wp2
 go_ret
 exact ⟨rfl, rfl⟩
def bytesA (n : Nat) (c : Nat → Int) : Array Value := Array.ofFn (n := n) fun i => .int .u8 (c i.val)
def upd (c : Nat → Int) (t : Nat) (v : Int) : Nat → Int := fun i => if i = t then v else c i
theorem bytesA_size (n : Nat) (c : Nat → Int) : (bytesA n c).size = n := by simp [bytesA]
theorem bytesA_get (n : Nat) (c : Nat → Int) (j : Nat) (h : j < n) : (bytesA n c)[j]? = some (.int .u8 (c j)) := by simp [bytesA, h]
theorem bytesA_set (n : Nat) (c : Nat → Int) (j : Nat) (v : Int) : (bytesA n c).setIfInBounds j (.int .u8 v) = bytesA n (upd c j v) := by
 apply Array.ext_getElem?
 intro i
 rw [Array.getElem?_setIfInBounds]
 by_cases e : j = i
 ·subst e
  by_cases hj : j < n <;> simp [bytesA, upd, hj]
 ·by_cases hi : i < n <;> simp [bytesA, upd, hi, e, Ne.symm e]
theorem bytesA_one (n : Nat) (c : Nat → Int) : (bytesA n c).all (·.oneCell') = true := by
 rw [Array.all_eq_true_iff_forall_mem]; intro v hv; simp [bytesA] at hv; obtain ⟨i, rfl⟩ := hv; rfl
theorem bytesA_sizes (n : Nat) (c d : Nat → Int) : (bytesA n c).size = (bytesA n d).size := by rw [bytesA_size, bytesA_size]
theorem bytesA_congr {n : Nat} {c d : Nat → Int} (h : ∀ i, i < n → c i = d i) : bytesA n c = bytesA n d := by
 apply Array.ext_getElem?
 intro i
 by_cases hi : i < n
 ·rw [bytesA_get _ _ _ hi, bytesA_get _ _ _ hi, h i hi]
 ·rw [Array.getElem?_eq_none (by rw [bytesA_size]; omega), Array.getElem?_eq_none (by rw [bytesA_size]; omega)]
def hl (n : Nat) (c : Nat → Int) : List Int := (List.range n).map c
theorem hl_len (n : Nat) (c : Nat → Int) : (hl n c).length = n := by simp [hl]
theorem hl_get (n : Nat) (c : Nat → Int) (i : Nat) (h : i < n) : (hl n c).getD i 0 = c i := by simp [hl, List.getD_eq_getElem?_getD, h]
theorem hl_bytesA (n : Nat) (c : Nat → Int) : (bytesA n c).toList = bv (hl n c) := by
 apply List.ext_getElem?
 intro i
 rw [Array.getElem?_toList]
 by_cases h : i < n
 ·rw [bytesA_get _ _ _ h, bv_get _ _ (by rw [hl_len]; exact h), hl_get _ _ _ h]
 ·rw [Array.getElem?_eq_none (by rw [bytesA_size]; omega), List.getElem?_eq_none (by rw [bv_len, hl_len]; omega)]

theorem Tryz.size41 : (Tryz.prog.info? 41).map (·.size) = some 32 := by kernel_rfl
theorem Tryz.size41B (c : Nat → Int) : (Tryz.prog.info? 41).map (·.size) = some (bytesA 32 c).size := by rw [bytesA_size]; exact Tryz.size41
theorem run_box_agg {P : Program} (w : World) (t : TypeId) (cs : Array Value) : (Instr.box t (.agg cs)).run P w = .ok (.pointer (some ⟨w.heap.size, 0, none⟩)) (w.alloc (.cells cs t)) := rfl
theorem wpList_boxA {P : Program} {ops : Array Oper} {rest : List Oper} {o : Oper} {a : Act} {w : World} {Q : Exit → Act → World → Prop} (hg : o.guard = none) (t : TypeId) (x : Operand) (ho : o.op = .box t x)
  (cs : Array Value) (hx : a.eval x = .agg cs)
  (h : wpList P ops Q rest (a.put o.dst (.pointer (some ⟨w.heap.size, 0, none⟩))) (w.alloc (.cells cs t))) : wpList P ops Q (o :: rest) a w := by
 refine wpList_plain hg fun K hK => ?_
 unfold Oper.wp execOp
 simp only [ho, hx, Sem.run_bind, run_box_agg, Result.andThen_ok]
 exact hK _ _ h
theorem row_arr {w : World} {g : Nat} {T : TypeId} {n : Nat} {c : Nat → Int} (h : Blk w g T (bytesA n c)) : RowAt w (.slice (some ⟨g, 0, none⟩) n n) (hl n c) := by
 refine .inr (.inr ⟨g, 0, n, by rw [hl_len], by rw [hl_len]; exact Nat.le_refl _, fun i hi => ?_⟩)
 rw [hl_len] at hi
 rw [Nat.zero_add, h.cell, bytesA_get _ _ _ hi, hl_get _ _ _ hi]

set_option maxRecDepth 8000 in
set_option maxHeartbeats 400000 in
theorem ohash_any (p : Nat) (v : Value) (l : List Int) (c : Nat → Int) (w : World) (h : OutAt w p v l) (hb : l.length + 32 ≤ 200000000000000) :
  Calls Tryz.prog 75 #[ptr p, .agg (bytesA 32 c)] w (OutPost p v (l ++ hl 32 c) w) := by
 have HO : Keep (OutAt (w.alloc (.cells (bytesA 32 c) 41)) p v l) := ⟨h.box _⟩
 have HR : Keep (RowAt (w.alloc (.cells (bytesA 32 c) 41)) (.slice (some ⟨w.heap.size, 0, none⟩) 32 32) (hl 32 c)) := ⟨row_arr (Blk.new w 41 (bytesA 32 c))⟩
 clear h
 go_enter Tryz.func75, Tryz.ntmps75
 go_wp2_with (first | (refine wpList_boxA rfl 41 (.tmp 1) rfl (bytesA 32 c) rfl ?_; refine Hid.out ?_))
 refine hid_in ?_
 go_wp2_with fail
 refine (oraw_any p v _ l (hl 32 c) _ HO.out HR.out (by rw [List.length_append, hl_len]; exact hb)).mono ?_
 intro e w1 hpost
 have hpost2 := hpost.box
 obtain ⟨rfl, hrest⟩ := hpost2
 have HP := Keep.mk hrest
 clear hpost hrest
 go_wp2
 go_end0
 exact ⟨rfl, HP.out⟩

theorem made_bytes (n : Nat) : madeCells #[.int .u8 0] n = bytesA n fun _ => 0 := by
 apply Array.ext_getElem?
 intro i
 by_cases h : i < n <;> simp [madeCells, bytesA, h, Nat.mod_one]
theorem run_makeB (l c : Nat) (hlc : l ≤ c) (hc : c ≤ 281474976710656) (w : World) : (Instr.makeSlice 24 (.int .i64 (l : Int)) (.int .i64 (c : Int))).run Tryz.prog w = .ok (.slice (some ⟨w.heap.size, 0, none⟩) l c) (w.alloc (.cells (bytesA c fun _ => 0) 5)) := by
 obtain ⟨i, hi, hzz⟩ := Option.map_eq_some_iff.1 Tryz.info5
 simp only [Prod.mk.injEq] at hzz
 obtain ⟨hz, hs, hb⟩ := hzz
 have hr := run_make (P := Tryz.prog) w 24 5 i (.int .u8 0) Tryz.underlying24 hi hz .i64 .i64 (l : Int) (c : Int) (by omega) (by omega) (by rw [hb]; omega) (by omega)
 simp only [Int.toNat_natCast, hs, Nat.mul_one, Value.cells] at hr
 rw [made_bytes] at hr
 exact hr
theorem wpList_makeB {ops : Array Oper} {rest : List Oper} {o : Oper} {a : Act} {w : World} {Q : Exit → Act → World → Prop} (hgd : o.guard = none) (x y : Operand) (ho : o.op = .makeSlice 24 x y) (l c : Nat) (hlc : l ≤ c) (hc : c ≤ 281474976710656)
  (hx : a.eval x = .int .i64 (l : Int)) (hy : a.eval y = .int .i64 (c : Int))
  (h : wpList Tryz.prog ops Q rest (a.put o.dst (.slice (some ⟨w.heap.size, 0, none⟩) l c)) (w.alloc (.cells (bytesA c fun _ => 0) 5))) : wpList Tryz.prog ops Q (o :: rest) a w := by
 refine wpList_plain hgd fun K hK => ?_
 have hrun := run_makeB l c hlc hc w
 unfold Oper.wp
 simp only [execOp, ho, hx, hy, Sem.run_bind, hrun, Result.andThen_ok]
 exact hK _ _ h
theorem run_copyB (w : World) (g cap : Nat) (v : Value) (m : List Int) (ty T : TypeId) (cur : Array Value) (hg : Blk w g T cur) (hs : cur.size = m.length) (hr : RowAt w v m) :
  (Builtin.copy_ #[24, 24] ty #[.slice (some ⟨g, 0, none⟩) m.length cap, v]).run Tryz.prog w = .ok (goInt m.length) (w.setRow g (bv m).toArray) := by
 have hst := run_storeCells_at Tryz.prog g 0 T (bv m) 0 cur w hg (by rw [bv_len]; omega) (bv_one m)
 have hcur : (cur.toList.take (0 + 0) ++ bv m ++ cur.toList.drop (0 + 0 + (bv m).length)).toArray = (bv m).toArray := by
  rw [bv_len, List.drop_of_length_le (by rw [Array.length_toList]; omega)]; simp
 rw [hcur] at hst
 obtain ⟨i, hi, hzz⟩ := Option.map_eq_some_iff.1 Tryz.info5
 simp only [Prod.mk.injEq] at hzz
 obtain ⟨_, hsz, _⟩ := hzz
 rcases hr with ⟨rfl, rfl⟩ | ⟨ad, c, rfl, rfl⟩ | ⟨b, off, cap2, rfl, _, hc⟩
 ·simp only [bv, List.map_nil] at hst ⊢
  simp [Builtin.copy_, run_underlying Tryz.underlying24, Builtin.lenOf, Builtin.firstCells, sizeOf, typeInfo, hi, hst]
 ·simp only [bv, List.map_nil] at hst ⊢
  simp [Builtin.copy_, run_underlying Tryz.underlying24, Builtin.lenOf, Builtin.firstCells, sizeOf, typeInfo, hi, loadCells, loadCellsFrom, hst]
 ·have hl := run_loadCells_list (P := Tryz.prog) w ⟨b, off, none⟩ (bv m) (fun j v hv => by
   have hj : j < m.length := by have := (List.getElem?_eq_some_iff.1 hv).1; rwa [bv_len] at this
   rw [bv_get m j hj] at hv
   rw [Addr.add_mid, hc j hj]; exact hv)
  rw [bv_len] at hl
  simp [Builtin.copy_, run_underlying Tryz.underlying24, Builtin.lenOf, Builtin.firstCells, sizeOf, typeInfo, hi, hsz, hl, hst]

set_option maxRecDepth 8000 in
set_option maxHeartbeats 400000 in
theorem odone_any (p : Nat) (v : Value) (l : List Int) (w : World) (h : OutAt w p v l) (hb : l.length ≤ 200000000000000) :
  Calls Tryz.prog 39 #[ptr p] w fun e w' => e = .returned (.slice (some ⟨w.heap.size, 0, none⟩) l.length l.length) ∧ w' = w.alloc (.cells (bv l).toArray 5) := by
 have HO : Keep (OutAt (w.alloc (.cells (bytesA l.length fun _ => 0) 5)) p v l) := ⟨h.box _⟩
 have HB : Keep (l.length ≤ 281474976710656) := ⟨by omega⟩
 obtain ⟨a, c, rfl⟩ := row_form h.own.row
 have c0 : w.cell? ⟨p, 0, none⟩ = some (.slice a l.length c) := by rw [h.blk.cell]; rfl
 clear h hb
 go_enter Tryz.func39, Tryz.ntmps39
 go_wp2_with (first | (refine wpList_makeB rfl (.tmp 8) (.tmp 8) rfl l.length l.length (Nat.le_refl _) HB.out rfl rfl ?_; refine Hid.out ?_))
 refine hid_in ?_
 have hg := Keep.mk (Blk.new w 5 (bytesA l.length fun _ => 0))
 obtain ⟨w1, hw1⟩ : ∃ w1, Keep (w1 = w.alloc (.cells (bytesA l.length fun _ => 0) 5)) := ⟨_, ⟨rfl⟩⟩
 rw [← hw1.out] at hg HO ⊢
 have c1 : w1.cell? ⟨p, 0, none⟩ = some (.slice a l.length c) := by rw [HO.out.blk.cell]; rfl
 clear c0
 have hcp := run_copyB w1 w.heap.size l.length (.slice a l.length c) l 3 5 (bytesA l.length fun _ => 0) hg.out (bytesA_size _ _) HO.out.own.row
 go_wp2
 go_ret
 refine ⟨rfl, ?_⟩
 rw [hw1.out]
 exact World.setRow_alloc_new _ _ _ _
def LayPost (v : Value) (l : List Int) (w : World) (e : Ending) (w' : World) : Prop :=
 ∃ v', e = .returned v' ∧ Own w' v' l ∧ Moved w v v' ∧ Grown w w' fun k => v.ownBlock = some k
theorem LayPost.trans {v v1 : Value} {l : List Int} {w w1 w2 : World} {e : Ending} (h : LayPost v1 l w1 e w2) (hm : Moved w v v1) (hg : Grown w w1 fun k => v.ownBlock = some k) : LayPost v l w e w2 := by
 obtain ⟨v2, he, h1, h2, h3⟩ := h
 exact ⟨v2, he, h1, hm.trans hg.size h2, hg.next h3 fun i hi h => hm.old hi h⟩
theorem Own.box {w : World} {v : Value} {l : List Int} (h : Own w v l) (o : Obj) : Own (w.alloc o) v l := h.grown (Grown.alloc w o fun _ => False) fun _ _ h => h
theorem AppPost.box {w w' : World} {v v' : Value} {l : List Int} {o : Obj} (h : AppPost (w.alloc o) v l v' w') : Own w' v' l ∧ Moved w v v' ∧ Grown w w' fun k => v.ownBlock = some k :=
 ⟨h.1, (Moved.refl w v).trans (Grown.alloc w o fun _ => False).size h.moved, (Grown.alloc w o _).next h.grown fun _ _ h => h⟩



theorem Tryz.new41 (w : World) : (Instr.alloc 41 true (.tuple #[])).run Tryz.prog w = .ok (.pointer (some ⟨w.heap.size, 0, none⟩)) (w.alloc (.cells (bytesA 32 fun _ => 0) 41)) := by kernel_rfl
theorem wpList_bld {P : Program} {ops : Array Oper} {rest : List Oper} {o : Oper} {a : Act} {w : World} {Q : Exit → Act → World → Prop} (hg : o.guard = none) (t : TypeId) (parts : Array (Nat × Operand)) (ho : o.op = .build t parts)
  (cells : Array Value) (hf : P.built t (parts.map fun (i, x) => (i, a.eval x)).toList = some cells)
  (h : wpList P ops Q rest (a.put o.dst (.agg cells)) w) : wpList P ops Q (o :: rest) a w :=
 wpList_build hg t parts ho (by rw [hf]; rfl) (by rw [hf]; exact h)
theorem wpList_new {P : Program} {ops : Array Oper} {rest : List Oper} {o : Oper} {a : Act} {w : World} {Q : Exit → Act → World → Prop} (hg : o.guard = none) (t : TypeId) (ho : o.op = .alloc t)
  (cells : Array Value) (hf : ∀ w : World, (Instr.alloc t true (.tuple #[])).run P w = .ok (.pointer (some ⟨w.heap.size, 0, none⟩)) (w.alloc (.cells cells t)))
  (h : wpList P ops Q rest (a.put o.dst (.pointer (some ⟨w.heap.size, 0, none⟩))) (w.alloc (.cells cells t))) : wpList P ops Q (o :: rest) a w := by
 refine wpList_plain hg fun K hK => ?_
 unfold Oper.wp execOp
 simp only [ho, Sem.run_bind, hf w, Result.andThen_ok]
 exact hK _ _ h

def hof (l : List Int) : Nat → Int := fun i => l.getD i 0

structure OpV where
 kind : Int
 key : ByteArray
 text : ByteArray
 n : Int
 node : List Int
 op : Int

def idL (node : List Int) (op : Int) : List Value := bv (hl 32 (hof node)) ++ [.int .i64 op]
def opL (x : OpV) : List Value := [.int .i64 x.kind, .string x.key, .string x.text, .int .i64 x.n] ++ idL x.node x.op
def opA (x : OpV) : Array Value := (opL x).toArray
def idA (node : List Int) (op : Int) : Array Value := (idL node op).toArray
def z32 : List Int := List.replicate 32 0
def zeroOp : OpV := ⟨0, ByteArray.empty, ByteArray.empty, 0, z32, 0⟩

theorem idL_len (c : List Int) (o : Int) : (idL c o).length = 33 := by simp [idL, bv_len, hl_len]
theorem opL_len (x : OpV) : (opL x).length = 37 := by simp [opL, idL_len]
theorem opA_size (x : OpV) : (opA x).size = 37 := by simp [opA, opL_len]
theorem idA_size (c : List Int) (o : Int) : (idA c o).size = 33 := by simp [idA, idL_len]
theorem opA_list (x : OpV) : (opA x).toList = opL x := rfl
theorem opA_sizes (x y : OpV) : (opA x).size = (opA y).size := by rw [opA_size, opA_size]
theorem idL_node (c : List Int) (o : Int) : (idL c o).take 32 = bv (hl 32 (hof c)) := by
 unfold idL; exact List.take_left' (by simp [bv_len, hl_len])
theorem idL_op (c : List Int) (o : Int) : (idL c o)[32]? = some (.int .i64 o) := by
 unfold idL
 rw [List.getElem?_append_right (by simp [bv_len, hl_len])]
 simp [bv_len, hl_len]
theorem opA_0 (x : OpV) : (opA x)[0]? = some (.int .i64 x.kind) := by simp [opA, opL]
theorem opA_1 (x : OpV) : (opA x)[1]? = some (.string x.key) := by simp [opA, opL]
theorem opA_2 (x : OpV) : (opA x)[2]? = some (.string x.text) := by simp [opA, opL]
theorem opA_3 (x : OpV) : (opA x)[3]? = some (.int .i64 x.n) := by simp [opA, opL]
theorem opA_36 (x : OpV) : (opA x)[36]? = some (.int .i64 x.op) := by
 simp only [opA, opL, List.getElem?_toArray]
 rw [List.getElem?_append_right (by simp)]
 exact idL_op _ _
theorem opL_at (x : OpV) : (opL x).drop 4 = idL x.node x.op := by simp [opL]
theorem set_0 (x : OpV) (k : Int) : (opA x).setIfInBounds 0 (.int .i64 k) = opA { x with kind := k } := by simp [opA, opL]
theorem set_1 (x : OpV) (k : ByteArray) : (opA x).setIfInBounds 1 (.string k) = opA { x with key := k } := by simp [opA, opL]
theorem set_2 (x : OpV) (k : ByteArray) : (opA x).setIfInBounds 2 (.string k) = opA { x with text := k } := by simp [opA, opL]
theorem set_3 (x : OpV) (k : Int) : (opA x).setIfInBounds 3 (.int .i64 k) = opA { x with n := k } := by simp [opA, opL]
theorem set_36 (x : OpV) (k : Int) : (opA x).setIfInBounds 36 (.int .i64 k) = opA { x with op := k } := by
 simp only [opA, opL, idL, List.setIfInBounds_toArray]
 rw [List.set_append_right _ _ (by simp), List.set_append_right _ _ (by simp [bv_len, hl_len])]
 simp [bv_len, hl_len]
theorem put_at (x : OpV) (c : List Int) (o : Int) : ((opA x).toList.take 4 ++ (idA c o).toList ++ (opA x).toList.drop (4 + (idA c o).size)).toArray = opA { x with node := c, op := o } := by
 rw [idA_size, opA_list, List.drop_of_length_le (by rw [opL_len]; omega)]
 simp [opA, opL, idA]
theorem hl_hof (c : List Int) (h : c.length = 32) : hl 32 (hof c) = c := by
 apply List.ext_getElem (by rw [hl_len, h])
 intro i h1 h2
 have := hl_get 32 (hof c) i (by rw [hl_len] at h1; exact h1)
 rw [List.getD_eq_getElem?_getD, List.getElem?_eq_getElem h1, Option.getD_some] at this
 rw [this]
 simp [hof, List.getD, h2]
theorem hl_of (f : Nat → Int) : hl 32 (hof (hl 32 f)) = hl 32 f := hl_hof _ (hl_len _ _)
theorem bytesA_bv (f : Nat → Int) : bytesA 32 f = (bv (hl 32 f)).toArray := by
 apply Array.ext'; rw [hl_bytesA]
theorem put_node (x : OpV) (f : Nat → Int) : ((opA x).toList.take 4 ++ (bytesA 32 f).toList ++ (opA x).toList.drop (4 + (bytesA 32 f).size)).toArray = opA { x with node := hl 32 f } := by
 rw [bytesA_size, opA_list, bytesA_bv]
 simp only [opA, opL, idL]
 rw [hl_of]
 have : (List.drop (4 + 32) ([Value.int .i64 x.kind, Value.string x.key, Value.string x.text, Value.int .i64 x.n] ++ (bv (hl 32 (hof x.node)) ++ [Value.int .i64 x.op]))) = [Value.int .i64 x.op] := by
  rw [← List.append_assoc]
  exact List.drop_left' (by simp [bv_len, hl_len])
 rw [this]
 simp
theorem opA_one (x : OpV) : (opA x).all (·.oneCell') = true := by
 rw [Array.all_eq_true_iff_forall_mem]
 intro v hv
 simp only [opA, opL, idL, List.mem_toArray, List.mem_append, List.mem_cons, List.not_mem_nil, or_false] at hv
 rcases hv with (rfl | rfl | rfl | rfl) | h | rfl
 ·rfl
 ·rfl
 ·rfl
 ·rfl
 ·exact bv_one _ v h
 ·rfl
theorem idA_one (c : List Int) (o : Int) : (idA c o).all (·.oneCell') = true := by
 rw [Array.all_eq_true_iff_forall_mem]
 intro v hv
 simp only [idA, idL, List.mem_toArray, List.mem_append, List.mem_cons, List.not_mem_nil, or_false] at hv
 rcases hv with h | rfl
 ·exact bv_one _ v h
 ·rfl

theorem Tryz.size88 : (Tryz.prog.info? 88).map (·.size) = some 37 := by kernel_rfl
theorem Tryz.size86 : (Tryz.prog.info? 86).map (·.size) = some 33 := by kernel_rfl
theorem Tryz.size88B (x : OpV) : (Tryz.prog.info? 88).map (·.size) = some (opA x).size := by rw [opA_size]; exact Tryz.size88
theorem Tryz.size88L (x : OpV) : (Tryz.prog.info? 88).map (·.size) = some (opL x).length := by rw [opL_len]; exact Tryz.size88
theorem Tryz.size86B (c : List Int) (o : Int) : (Tryz.prog.info? 86).map (·.size) = some (idA c o).size := by rw [idA_size]; exact Tryz.size86
theorem Tryz.size86L (c : List Int) (o : Int) : (Tryz.prog.info? 86).map (·.size) = some (idL c o).length := by rw [idL_len]; exact Tryz.size86
theorem Tryz.new88 (w : World) : (Instr.alloc 88 true (.tuple #[])).run Tryz.prog w = .ok (.pointer (some ⟨w.heap.size, 0, none⟩)) (w.alloc (.cells (opA zeroOp) 88)) := by kernel_rfl
theorem Tryz.built88 : Tryz.prog.built 88 [] = some (opA zeroOp) := by kernel_rfl
theorem Tryz.built86 : Tryz.prog.built 86 [] = some (idA z32 0) := by kernel_rfl
theorem Tryz.built41 : Tryz.prog.built 41 [] = some (bytesA 32 (hof z32)) := by kernel_rfl

def nd (p q : List Int) : Bool := (List.range 32).all fun i => hof p i == hof q i
def sm (a b : OpV) : Bool := a.kind == b.kind && (a.key == b.key && (a.text == b.text && (a.n == b.n && (nd a.node b.node && a.op == b.op))))
theorem nd_refl (p : List Int) : nd p p = true := by simp [nd]
theorem bs_refl (a : ByteArray) : (a == a) = true := by rw [beq_toListBytes]; simp
theorem sm_refl (a : OpV) : sm a a = true := by simp [sm, nd_refl, bs_refl]

theorem Tryz.cells5q : Tryz.prog.cellsOf 5 = 1 := by kernel_rfl
theorem Tryz.isAgg5q (w : World) : (isAgg 5).run Tryz.prog w = .ok false w := by kernel_rfl
theorem Tryz.size5q : (Tryz.prog.info? 5).map (·.size) = some 1 := by kernel_rfl
theorem run_part5q (c : Nat → Int) (i : Nat) (hi : i < 32) (w : World) : (part 5 (bytesA 32 c) i).run Tryz.prog w = .ok (.int .u8 (c i)) w := by
 unfold part
 rw [Sem.run_bind, Tryz.isAgg5q]
 simp [Result.andThen, bytesA_get 32 c i hi]
theorem run_items2 (c e : Nat → Int) (d : Nat) (w : World) : ∀ is : List Nat, (∀ i ∈ is, i < 32) → (Op.eqItems (d + 1) 5 1 (bytesA 32 c) (bytesA 32 e) is).run Tryz.prog w = .ok (is.all fun i => c i == e i) w
 | [], _ => by simp [Op.eqItems]
 | i :: is, h => by
  have hi := h i (by simp)
  have ih := run_items2 c e d w is (fun j hj => h j (by simp [hj]))
  simp only [Op.eqItems, Sem.run_bind, Nat.mul_one, run_part5q c i hi, run_part5q e i hi, Result.andThen_ok]
  rw [run_equalIn_int (P := Tryz.prog) (w := w) d 5 .u8 .u8 (c i) (e i) Tryz.underlying5]
  by_cases hh : c i = e i
  ·simp [Result.andThen_ok, ih, hh]
  ·simp [Result.andThen_ok, hh]
theorem run_equal_arr2 (d : Nat) (c e : List Int) (w : World) : (Op.equalIn (d + 2) 41 (.agg (bytesA 32 (hof c))) (.agg (bytesA 32 (hof e)))).run Tryz.prog w = .ok (nd c e) w := by
 obtain ⟨i, hi, _⟩ := Option.map_eq_some_iff.1 Tryz.size5q
 rw [run_equalIn_array (P := Tryz.prog) w (d + 1) _ _ Tryz.underlying41 hi, Tryz.cells5q]
 exact run_items2 (hof c) (hof e) d w _ (fun j hj => List.mem_range.1 hj)
theorem run_eqlH (c e : List Int) (w : World) : (binOp .eql 41 (.agg (bytesA 32 (hof c))) (.agg (bytesA 32 (hof e)))).run Tryz.prog w = .ok (.bool (nd c e)) w := by
 rw [run_eql_struct, run_equal_arr2 9998]; rfl
theorem run_neqH (c e : List Int) (w : World) : (binOp .neq 41 (.agg (bytesA 32 (hof c))) (.agg (bytesA 32 (hof e)))).run Tryz.prog w = .ok (.bool (!nd c e)) w := by
 rw [run_neq_struct, run_equal_arr2 9998]; rfl
theorem Tryz.isAgg41q (w : World) : (isAgg 41).run Tryz.prog w = .ok true w := by kernel_rfl
theorem Tryz.isAgg86q (w : World) : (isAgg 86).run Tryz.prog w = .ok true w := by kernel_rfl
theorem Tryz.isAgg3q (w : World) : (isAgg 3).run Tryz.prog w = .ok false w := by kernel_rfl
theorem Tryz.isAgg2q (w : World) : (isAgg 2).run Tryz.prog w = .ok false w := by kernel_rfl
theorem Tryz.isAgg9q (w : World) : (isAgg 9).run Tryz.prog w = .ok false w := by kernel_rfl
theorem Tryz.sizeOf41q (w : World) : (sizeOf 41).run Tryz.prog w = .ok 32 w := by kernel_rfl
theorem Tryz.sizeOf86q (w : World) : (sizeOf 86).run Tryz.prog w = .ok 33 w := by kernel_rfl
theorem Tryz.fields86 : (Tryz.prog.fieldsOf 86).toList.map (fun f => (f.name == "_", f.type, f.offset)) = [(false, 41, 0), (false, 3, 32)] := by kernel_rfl
theorem Tryz.fields88 : (Tryz.prog.fieldsOf 88).toList.map (fun f => (f.name == "_", f.type, f.offset)) = [(false, 3, 0), (false, 9, 1), (false, 9, 2), (false, 2, 3), (false, 86, 4)] := by kernel_rfl
theorem run_part29 (c : List Int) (o : Int) (w : World) : (part 41 (idA c o) 0).run Tryz.prog w = .ok (.agg (bytesA 32 (hof c))) w := by
 unfold part
 simp only [Sem.run_bind, Tryz.isAgg41q, Result.andThen_ok, Tryz.sizeOf41q, if_true]
 rw [bytesA_bv, show (idA c o).extract 0 (0 + 32) = (bv (hl 32 (hof c))).toArray by
  apply Array.ext'
  simp only [idA, Array.toList_extract, List.extract_eq_take_drop, List.drop_zero]
  exact idL_node c o]
 rfl
theorem run_part32 (c : List Int) (o : Int) (w : World) : (part 3 (idA c o) 32).run Tryz.prog w = .ok (.int .i64 o) w := by
 unfold part
 simp only [Sem.run_bind, Tryz.isAgg3q, Result.andThen_ok]
 have : (idA c o)[32]? = some (.int .i64 o) := by simp only [idA, List.getElem?_toArray]; exact idL_op c o
 simp [this]
theorem fields_of {fs : List Field} {l : List (Bool × TypeId × Nat)} (h : fs.map (fun f => (f.name == "_", f.type, f.offset)) = l) (d : Nat) (xs ys : Array Value) (w : World) :
  (Op.eqFields d xs ys fs).run Tryz.prog w = (l.foldr (fun q k => if q.1 = false then do
   let a ← part q.2.1 xs q.2.2
   let b ← part q.2.1 ys q.2.2
   let r ← Op.equalIn d q.2.1 a b
   if (!r) = true then pure false else k
  else k) (pure true : Sem Bool)).run Tryz.prog w := by
 subst h
 congr 1
 induction fs with
 | nil => rfl
 | cons f fs ih =>
  simp only [Op.eqFields, List.map_cons, List.foldr_cons, ih]
  by_cases hf : f.name = "_" <;> simp [hf]
theorem run_equal31 (d : Nat) (c e : List Int) (o p : Int) (w : World) : (Op.equalIn (d + 3) 86 (.agg (idA c o)) (.agg (idA e p))).run Tryz.prog w = .ok (nd c e && o == p) w := by
 rw [run_equalIn_agg (P := Tryz.prog) w (d + 2) 86 _ _ (by kernel_rfl) (by kernel_rfl), fields_of Tryz.fields86]
 simp only [List.foldr_cons, List.foldr_nil, if_true, Sem.run_bind, run_part29, run_part32, Result.andThen_ok, run_equal_arr2 d, Sem.run_ite, run_equalIn_int (P := Tryz.prog) w (d + 1) 3 .i64 .i64 o p Tryz.underlying3, Sem.run_pure]
 cases nd c e <;> cases o == p <;> simp
theorem run_eql31 (c e : List Int) (o p : Int) (w : World) : (binOp .eql 86 (.agg (idA c o)) (.agg (idA e p))).run Tryz.prog w = .ok (.bool (nd c e && o == p)) w := by
 rw [run_eql_struct, run_equal31 9997]; rfl
theorem run_partA (x : OpV) (w : World) : (part 86 (opA x) 4).run Tryz.prog w = .ok (.agg (idA x.node x.op)) w := by
 unfold part
 simp only [Sem.run_bind, Tryz.isAgg86q, Result.andThen_ok, Tryz.sizeOf86q, if_true]
 rw [show (opA x).extract 4 (4 + 33) = idA x.node x.op by
  apply Array.ext'
  simp only [opA, idA, Array.toList_extract, List.extract_eq_take_drop, opL_at]
  exact List.take_of_length_le (by rw [idL_len]; omega)]
 rfl
theorem run_part1 (t : TypeId) (hs : ∀ w, (isAgg t).run Tryz.prog w = .ok false w) (cs : Array Value) (j : Nat) (v : Value) (h : cs[j]? = some v) (w : World) : (part t cs j).run Tryz.prog w = .ok v w := by
 unfold part
 simp only [Sem.run_bind, hs, Result.andThen_ok]
 simp [h]
theorem run_equal33 (x y : OpV) (w : World) : (Op.equalIn 10000 88 (.agg (opA x)) (.agg (opA y))).run Tryz.prog w = .ok (sm x y) w := by
 rw [run_equalIn_agg (P := Tryz.prog) w 9999 88 _ _ (by kernel_rfl) (by kernel_rfl), fields_of Tryz.fields88]
 simp only [List.foldr_cons, List.foldr_nil, if_true, Sem.run_bind, run_partA, run_part1 3 Tryz.isAgg3q _ 0 _ (opA_0 _), run_part1 9 Tryz.isAgg9q _ 1 _ (opA_1 _), run_part1 9 Tryz.isAgg9q _ 2 _ (opA_2 _), run_part1 2 Tryz.isAgg2q _ 3 _ (opA_3 _), Result.andThen_ok, run_equal31 9996, Sem.run_ite,
  run_equalIn_int (P := Tryz.prog) w 9998 3 .i64 .i64 _ _ Tryz.underlying3, run_equalIn_int (P := Tryz.prog) w 9998 2 .i64 .i64 _ _ Tryz.underlying2, run_equalIn_string (P := Tryz.prog) w 9998 9 _ _ Tryz.underlying9, Sem.run_pure, ← beq_toListBytes]
 unfold sm
 cases x.kind == y.kind <;> cases x.key == y.key <;> cases x.text == y.text <;> cases x.n == y.n <;> cases nd x.node y.node <;> cases x.op == y.op <;> simp
theorem run_eql33 (x y : OpV) (w : World) : (binOp .eql 88 (.agg (opA x)) (.agg (opA y))).run Tryz.prog w = .ok (.bool (sm x y)) w := by
 rw [run_eql_struct, run_equal33]; rfl
def marks (t : Nat) : List Int := (List.range t).map fun i : Nat => 192 + (i : Int)
theorem marks_len (t : Nat) : (marks t).length = t := by simp [marks]
def WideAt (w : World) (v : Value) (l : List Int) : Prop :=
 ∃ g cap, v = .slice (some ⟨g, 0, none⟩) l.length cap ∧ Own w (.slice (some ⟨g, 0, none⟩) (l ++ marks 7).length cap) (l ++ marks 7)
theorem WideAt.cap {w : World} {v : Value} {l : List Int} (h : WideAt w v l) : ∃ g cap, v = .slice (some ⟨g, 0, none⟩) l.length cap ∧ l.length + 7 ≤ cap ∧ cap ≤ maxLen ∧ (∀ i, i < l.length + 7 → w.cell? ⟨g, i, none⟩ = some (.int .u8 ((l ++ marks 7).getD i 0))) ∧ ∃ cur, Blk w g 5 cur ∧ cur.size = cap := by
 obtain ⟨g, cap, rfl, h2⟩ := h
 rcases h2.form with ⟨e, _⟩ | ⟨g', cap', cur, e, hb, h3, h4, h5, h6⟩
 ·cases e
 ·injection e with e1 e2 e3
  injection e1 with e1
  injection e1 with e1
  subst e1 e3
  refine ⟨g, cap, rfl, by rw [List.length_append, marks_len] at h3; exact h3, h4, fun i hi => ?_, cur, hb, h5⟩
  rw [World.ownsRow.cellAt h2 i (by rw [List.length_append, marks_len]; omega), bv_get _ _ (by rw [List.length_append, marks_len]; omega)]
theorem WideAt.row {w : World} {v : Value} {l : List Int} (h : WideAt w v l) : RowAt w v l := by
 obtain ⟨g, cap, rfl, h1, _, h2, _⟩ := h.cap
 refine .inr (.inr ⟨g, 0, cap, rfl, by omega, fun i hi => ?_⟩)
 rw [Nat.zero_add, h2 i (by omega)]
 simp [List.getD_eq_getElem?_getD, List.getElem?_append, hi]
theorem WideAt.grown {w w' : World} {v : Value} {l : List Int} {S : Nat → Prop} (h : WideAt w v l) (hg : Grown w w' S) (hs : ∀ k, v.ownBlock = some k → ¬ S k) : WideAt w' v l := by
 obtain ⟨g, cap, rfl, h2⟩ := h
 exact ⟨g, cap, rfl, h2.grown hg fun k hk => hs k hk⟩


theorem conv_row (v : Value) (l : List Int) (w : World) (h : RowAt w v l) : (convert 24 9 v).run Tryz.prog w = .ok (.string (strOfNums l)) w := by
 rcases h with ⟨rfl, rfl⟩ | ⟨a, c, rfl, rfl⟩ | ⟨b, off, cap, rfl, _, hc⟩
 ·rw [run_convert_bytes_nil (P := Tryz.prog) w 24 5 Tryz.underlying24 Tryz.underlying5 0 0 9 Tryz.underlying9]; rfl
 ·rw [run_convert_bytes_string (P := Tryz.prog) w 24 9 5 _ 0 c Tryz.underlying24 Tryz.underlying5 Tryz.underlying9]
  simp [Conv.bytesToString, loadCells, loadCellsFrom, strOfNums]
  rfl
 ·exact run_convert_bytes_arg (P := Tryz.prog) w 24 5 Tryz.underlying24 Tryz.underlying5 b off l.length cap l rfl hc 9 Tryz.underlying9

def Typ (w : World) (k : Nat) (T : TypeId) : Prop := ∃ cs fz, w.heap[k]? = some (.cells cs T fz)
theorem Blk.typ {w : World} {k : Nat} {T : TypeId} {cs : Array Value} (h : Blk w k T cs) : Typ w k T := ⟨cs, _, h⟩
theorem Typ.lt {w : World} {k : Nat} {T : TypeId} (h : Typ w k T) : k < w.heap.size := by
 obtain ⟨cs, fz, h⟩ := h
 exact (Array.getElem?_eq_some_iff.1 h).1
theorem Typ.one {w : World} {k : Nat} {T T' : TypeId} (h : Typ w k T) (h' : Typ w k T') : T = T' := by
 obtain ⟨cs, fz, h⟩ := h
 obtain ⟨cs', fz', h'⟩ := h'
 rw [h] at h'; simp at h'; exact h'.2.1
theorem Typ.ne {w : World} {k k' : Nat} {T T' : TypeId} (h : Typ w k T) (h' : Typ w k' T') (ht : T ≠ T') : k ≠ k' := by
 rintro rfl; exact ht (h.one h')
theorem Grown.typ {a b : World} {S : Nat → Prop} (h : Grown a b S) {k : Nat} {T : TypeId} (hk : Typ a k T) (hs : ¬ S k) : Typ b k T := by
 have hlt := hk.lt
 obtain ⟨cs, fz, h1⟩ := hk
 exact ⟨cs, fz, by rw [h.block k hlt hs]; exact h1⟩
theorem Own.typ {w : World} {v : Value} {l : List Int} (h : Own w v l) {k : Nat} (hk : v.ownBlock = some k) : Typ w k 5 := by
 rcases h.2 with ⟨rfl, _⟩ | ⟨g, cap, cur, rfl, _, h3, _⟩
 ·simp [Value.ownBlock] at hk
 ·simp [Value.ownBlock] at hk
  subst hk
  exact ⟨cur, _, h3⟩

def OwnT (w : World) (v : Value) (l : List Int) : Prop :=
 (v = .slice none 0 0 ∧ l = []) ∨ ∃ g cap cur fz, v = .slice (some ⟨g, 0, none⟩) l.length cap ∧ w.heap[g]? = some (.cells cur 5 fz) ∧ (fz = (0, 0) ∨ cap ≤ fz.1) ∧ l.length ≤ cap ∧ cap ≤ maxLen ∧ cur.size = cap ∧ cur.toList.take l.length = bv l
theorem OwnT.typ {w : World} {v : Value} {l : List Int} (h : OwnT w v l) {k : Nat} (hk : v.ownBlock = some k) : Typ w k 5 := by
 rcases h with ⟨rfl, _⟩ | ⟨g, cap, cur, fz, rfl, h3, _⟩
 ·simp [Value.ownBlock] at hk
 ·simp [Value.ownBlock] at hk
  subst hk
  exact ⟨cur, _, h3⟩
theorem OwnT.lt {w : World} {v : Value} {l : List Int} (h : OwnT w v l) : ∀ k, v.ownBlock = some k → k < w.heap.size := fun _ hk => (h.typ hk).lt
theorem OwnT.ne {w : World} {v : Value} {l : List Int} {p : Nat} {T : TypeId} {cs : Array Value} (h : OwnT w v l) (hp : Blk w p T cs) (hT : T ≠ 5) : v.ownBlock ≠ some p := fun e => hT (hp.typ.one (h.typ e))
theorem OwnT.grown {w w' : World} {v : Value} {l : List Int} {S : Nat → Prop} (h : OwnT w v l) (hg : Grown w w' S) (hs : ∀ k, v.ownBlock = some k → ¬ S k) : OwnT w' v l := by
 rcases h with h1 | ⟨g, cap, cur, fz, rfl, h3, h4⟩
 ·exact .inl h1
 ·exact .inr ⟨g, cap, cur, fz, rfl, by rw [hg.block g (Array.getElem?_eq_some_iff.1 h3).1 (hs g rfl)]; exact h3, h4⟩
theorem OwnT.box {w : World} {v : Value} {l : List Int} (h : OwnT w v l) (o : Obj) : OwnT (w.alloc o) v l := h.grown (Grown.alloc w o fun _ => False) fun _ _ h => h
theorem take_get {cur : Array Value} {l : List Int} {n : Nat} (h : cur.toList.take n = bv l) (hl : l.length = n) (t : Nat) (ht : t < n) : cur[t]? = some (.int .u8 (l.getD t 0)) := by
 have h1 := bv_get l t (by omega)
 rw [← h, List.getElem?_take, if_pos ht] at h1
 simpa using h1
theorem OwnT.cells {w : World} {g n cap : Nat} {l : List Int} (h : OwnT w (.slice (some ⟨g, 0, none⟩) n cap) l) (t : Nat) (ht : t < l.length) : w.cell? ⟨g, t, none⟩ = some (.int .u8 (l.getD t 0)) ∧ w.frozen? ⟨g, t, none⟩ = false := by
 rcases h with ⟨e, _⟩ | ⟨g', cap', cur, fz, e, hb, hf, h3, h4, h5, h6⟩
 ·cases e
 ·injection e with e1 e2 e3
  injection e1 with e1
  injection e1 with e1
  subst e1 e2 e3
  refine ⟨by rw [cell_of_row w g t cur 5 fz hb]; exact take_get h6 rfl t ht, ?_⟩
  rcases hf with rfl | hf
  ·simp [World.frozen?, hb]
  ·simp only [World.frozen?, hb]
   simp
   omega
theorem OwnT.row {w : World} {v : Value} {l : List Int} (h : OwnT w v l) : RowAt w v l := by
 have h' := h
 rcases h with h1 | ⟨g, cap, cur, fz, rfl, hb, hf, h3, h4, h5, h6⟩
 ·exact .inl h1
 ·exact .inr (.inr ⟨g, 0, cap, rfl, h3, fun i hi => by rw [Nat.zero_add]; exact (h'.cells i hi).1⟩)
theorem OwnT.sl {w : World} {v : Value} {l : List Int} (h : OwnT w v l) : ∃ a n c, v = .slice a n c := by
 rcases h with ⟨rfl, _⟩ | ⟨g, cap, cur, fz, rfl, _⟩
 ·exact ⟨_, _, _, rfl⟩
 ·exact ⟨_, _, _, rfl⟩
theorem bv_set (l : List Int) (t : Nat) (c : Int) : (bv l).set t (.int .u8 c) = bv (l.set t c) := by simp [bv, List.map_set]
theorem OwnT.set {w : World} {g n cap : Nat} {l : List Int} (h : OwnT w (.slice (some ⟨g, 0, none⟩) n cap) l) (t : Nat) (c : Int) : OwnT (w.setCell ⟨g, t, none⟩ (.int .u8 c)) (.slice (some ⟨g, 0, none⟩) n cap) (l.set t c) := by
 rcases h with ⟨e, _⟩ | ⟨g', cap', cur, fz, e, hb, hf, h3, h4, h5, h6⟩
 ·cases e
 ·injection e with e1 e2 e3
  injection e1 with e1
  injection e1 with e1
  subst e1 e2 e3
  refine .inr ⟨g, cap, cur.setIfInBounds t (.int .u8 c), fz, by rw [List.length_set], ?_, hf, by rw [List.length_set]; exact h3, h4, by simp [h5], ?_⟩
  ·rw [setCell_eq_setRow w g t cur 5 fz _ hb]; exact setRow_heap w g cur _ 5 fz hb
  ·rw [Array.toList_setIfInBounds, List.length_set, List.take_set, h6, bv_set]
theorem OwnT.plain {w : World} {va : Option Addr} {n vc : Nat} {l : List Int} (h : OwnT w (.slice va n vc) l) : (∀ a, va = some a → a.off = 0 ∧ a.spot = none) ∧ (va = none → n = 0 ∧ vc = 0) ∧ n ≤ vc ∧ n = l.length := by
 rcases h with ⟨e, e2⟩ | ⟨g, cap, cur, fz, e, hb, _, h3, _⟩
 ·injection e with e1 e2 e3
  subst e1 e2 e3
  subst e2
  exact ⟨fun a ha => by simp at ha, fun _ => ⟨rfl, rfl⟩, by omega, rfl⟩
 ·injection e with e1 e2 e3
  subst e1 e2 e3
  exact ⟨fun a ha => by simp at ha; subst ha; exact ⟨rfl, rfl⟩, fun h => by simp at h, h3, rfl⟩
def AppPostT (w : World) (v : Value) (l : List Int) (v' : Value) (w' : World) : Prop :=
 OwnT w' v' l ∧ ((v'.ownBlock = v.ownBlock ∧ Grown w w' fun k => v.ownBlock = some k) ∨ (v'.ownBlock = some w.heap.size ∧ Below w.heap.size w w'))
theorem AppPostT.grown {w w' : World} {v v' : Value} {l : List Int} (h : AppPostT w v l v' w') : Grown w w' fun k => v.ownBlock = some k := by
 rcases h.2 with h | h
 ·exact h.2
 ·exact Grown.below h.2

def bp : Option Nat → Value
 | none => .pointer none
 | some q => ptr q
structure InAt (w : World) (p : Nat) (s : ByteArray) (a : Nat) (bad : Option Nat) : Prop where
 blk : Blk w p 117 #[.string s, .int .i64 (a : Int), bp bad]
 le : a ≤ s.size
def BadAt (w : World) (q : Nat) (why : Int) (a : Nat) : Prop := Blk w q 71 #[.int .i64 why, .int .i64 (a : Int)]
def err (q : Nat) : Value := .iface 69 (ptr q)

set_option maxRecDepth 8000 in
set_option maxHeartbeats 400000 in
theorem ileft_any (p : Nat) (s : ByteArray) (a : Nat) (bad : Option Nat) (w : World) (h : InAt w p s a bad) (hb : s.size ≤ 140737488355328) :
  Calls Tryz.prog 89 #[ptr p] w fun e w' => e = .returned (.int .i64 ((s.size : Int) - a)) ∧ ∃ q, w' = w.drewN q := by
 have c0 : w.cell? ⟨p, 0, none⟩ = some (.string s) := by rw [h.blk.cell]; rfl
 have c1 : w.cell? ⟨p, 1, none⟩ = some (.int .i64 (a : Int)) := by rw [h.blk.cell]; rfl
 have hle := h.le
 have h1 : (a : Int) ≤ (s.size : Int) := by omega
 have h2 : (s.size : Int) ≤ 140737488355328 := by omega
 clear h hb hle
 go_enter Tryz.func89, Tryz.ntmps89
 go_wp2
 go_quiet (fail)
 go_wp2
 go_ret
 exact ⟨rfl, nq, rfl⟩

set_option maxRecDepth 8000 in
set_option maxHeartbeats 400000 in
theorem iat_any (p : Nat) (s : ByteArray) (a : Nat) (bad : Option Nat) (w : World) (h : InAt w p s a bad) :
  Calls Tryz.prog 45 #[ptr p] w fun e w' => e = .returned (.int .i64 (a : Int)) ∧ w' = w := by
 have c1 : w.cell? ⟨p, 1, none⟩ = some (.int .i64 (a : Int)) := by rw [h.blk.cell]; rfl
 clear h
 go_enter Tryz.func45, Tryz.ntmps45
 go_wp2
 go_ret
 exact ⟨rfl, rfl⟩

set_option maxRecDepth 8000 in
set_option maxHeartbeats 400000 in
theorem ifail_any (p : Nat) (s : ByteArray) (a : Nat) (why : Int) (w : World) (h : InAt w p s a none) :
  Calls Tryz.prog 84 #[ptr p, .int .i64 why] w fun e w' => e = .returned (err w.heap.size) ∧ InAt w' p s a (some w.heap.size) ∧ BadAt w' w.heap.size why a ∧ Grown w w' fun k => k = p := by
 have HI := Keep.mk h
 have c1 : w.cell? ⟨p, 1, none⟩ = some (.int .i64 (a : Int)) := by rw [h.blk.cell]; rfl
 have hlt := h.blk.lt
 have hne : p ≠ w.heap.size := by omega
 have hb1 := (h.blk.alloc (.cells #[.int .i64 why, .int .i64 (a : Int)] 71))
 have HB := Keep.mk hb1
 have HN := Keep.mk (Blk.new w 71 #[.int .i64 why, .int .i64 (a : Int)])
 have HG := Keep.mk (Grown.alloc w (.cells #[.int .i64 why, .int .i64 (a : Int)] 71) fun k => k = p)
 have HL := Keep.mk h.le
 clear h hb1 
 go_enter Tryz.func84, Tryz.ntmps84
 go_wp2_with (first | (refine wpList_boxA rfl 71 (.tmp 11) rfl _ rfl ?_; refine Hid.out ?_))
 refine hid_in ?_
 generalize w.alloc (.cells #[.int .i64 why, .int .i64 (a : Int)] 71) = w1 at *
 have c2 : w1.cell? ⟨p, 2, none⟩ = some (.pointer none) := by rw [HB.out.cell]; rfl
 have f2 := HB.out.frozen 2
 clear c1
 go_wp2
 go_ret
 exact ⟨rfl, ⟨HB.out.set 2 _, HL.out⟩, HN.out.set_ne (fun e => hne e.symm) _, HG.out.trans (Grown.setCell w1 p 2 _ fun _ => rfl)⟩
theorem lst_get (s : ByteArray) (t : Nat) (h : t < s.size) : (lst s).drop t = (s[t].toNat : Int) :: (lst s).drop (t + 1) := by
 have h' : t < (lst s).length := by rw [lst_len]; exact h
 rw [List.drop_eq_getElem_cons h']
 congr 1
 simp [lst]
 rfl

set_option maxRecDepth 8000 in
set_option maxHeartbeats 4000000 in
theorem first_any (s : ByteArray) (w : World) (hb : s.size ≤ 140737488355328) :
  Calls Tryz.prog 83 #[.string s] w fun e w' => e = .returned (.tuple #[.int .u64 (fstG (lst s) 0 0).1, .int .i64 (fstG (lst s) 0 0).2.1, .int .i64 (fstG (lst s) 0 0).2.2]) ∧ w' = w := by
 have hsm : (s.size : Int) ≤ 140737488355328 := by omega
 have HB := Keep.mk (lst_byts s)
 clear hb
 go_enter Tryz.func83, Tryz.ntmps83
 go_wp2
 go_loop [5, 6] (fun x i => ∃ (t : Nat) (y : Int), t ≤ 9 ∧ t ≤ s.size ∧ x = .int .u64 y ∧ i = .int .i64 t ∧ Keep (fstG ((lst s).drop t) t y = fstG (lst s) 0 0) ∧ Keep (0 ≤ y ∧ y < 2 ^ (7 * t))) (fun _ i => 10 - (intOf i).toNat)
 case atStart => exact ⟨0, 0, by omega, by omega, rfl, rfl, ⟨by simp⟩, ⟨by simp⟩⟩
 case round =>
  obtain ⟨t, y, ht, hts, rfl, rfl, hF, hy⟩ := hrel
  by_cases hlt : t < s.size
  ·have hlt' : (t : Int) < (s.size : Int) := by omega
   obtain ⟨c, hc⟩ : ∃ c : Int, Keep ((s[t].toNat : Int) = c) := ⟨_, ⟨rfl⟩⟩
   have hc1 := hc.out
   have hcb := s[t].toNat_lt
   have hc0 : 0 ≤ c := by omega
   have hc2 : c < 256 := by omega
   have hg := lst_get s t hlt
   rw [hc1] at hg
   have HG := Keep.mk hg
   clear hg hcb
   rcases (by omega : t = 0 ∨ t = 1 ∨ t = 2 ∨ t = 3 ∨ t = 4 ∨ t = 5 ∨ t = 6 ∨ t = 7 ∨ t = 8 ∨ t = 9) with rfl | rfl | rfl | rfl | rfl | rfl | rfl | rfl | rfl | rfl
   ·have e7 : (2 : Int) ^ (7 * 0) = 1 := by decide
    by_cases h0 : c = 0
    ·have hr : fstG (lst s) 0 0 = (y + c % 128 * 2 ^ (7 * 0), ((0 : Nat) : Int) + 1, 0) := by rw [← hF.out, HG.out, fstG, if_neg (by omega), if_neg (by omega), if_pos (by omega)]
     have hz := Keep.mk e7
     clear HG hc e7
     subst h0
     have HR := Keep.mk hr
     clear hr
     go_wp2
     go_ret3
     refine ⟨?_, rfl⟩
     rw [HR.out]
     refine congrArg (fun z => Ending.returned (Value.tuple #[Value.int .u64 z, Value.int .i64 1, Value.int .i64 0])) ?_
     have hyb := hy.out
     rw [hz.out] at hyb ⊢
     first | omega | (rw [IntKind.wrap_u64]; omega)
    have hc3 : (c == 0) = false := by simpa using h0
    by_cases h1 : c < 128
    ·have hr : fstG (lst s) 0 0 = (y + c % 128 * 2 ^ (7 * 0), ((0 : Nat) : Int) + 1, 0) := by rw [← hF.out, HG.out, fstG, if_neg (by omega), if_neg (by omega), if_pos (by omega)]
     have hz := Keep.mk e7
     clear e7
     have HR := Keep.mk hr
     clear hr
     go_wp2
     go_ret3
     refine ⟨?_, rfl⟩
     rw [HR.out]
     refine congrArg (fun z => Ending.returned (Value.tuple #[Value.int .u64 z, Value.int .i64 1, Value.int .i64 0])) ?_
     have hyb := hy.out
     rw [hz.out] at hyb ⊢
     first | omega | (rw [IntKind.wrap_u64]; omega)
    have hr : fstG ((lst s).drop 1) (0+1) (y + c % 128 * 2 ^ (7 * 0)) = fstG (lst s) 0 0 := by rw [← hF.out, HG.out, fstG, if_neg (by omega), if_neg (by omega), if_neg h1]
    have HR := Keep.mk hr
    have hz := Keep.mk e7
    have hz2 : Keep ((2 : Int) ^ (7 * 1) = 128) := ⟨by decide⟩
    clear hr e7
    go_wp2
    refine ⟨⟨1, y + c % 128 * 2 ^ (7 * 0), by omega, by omega, ?_, rfl, ⟨HR.out⟩, ⟨?_⟩⟩, by simp [intOf]⟩
    ·have hyb := hy.out
     rw [hz.out] at hyb ⊢
     refine congrArg (Value.int .u64) ?_
     first | omega | (rw [IntKind.wrap_u64]; omega)
    ·have hyb := hy.out
     rw [hz.out] at hyb ⊢
     rw [hz2.out]
     omega
   ·have e7 : (2 : Int) ^ (7 * 1) = 128 := by decide
    by_cases h0 : c = 0
    ·have hr : fstG (lst s) 0 0 = (0, 0, 21) := by rw [← hF.out, HG.out, fstG, if_neg (by omega), if_pos ⟨h0, by omega⟩]
     clear HG hc
     subst h0
     clear e7
     have HR := Keep.mk hr
     clear hr
     go_wp2
     go_ret3
     refine ⟨?_, rfl⟩
     rw [HR.out]
     rfl
    by_cases h1 : c < 128
    ·have hr : fstG (lst s) 0 0 = (y + c % 128 * 2 ^ (7 * 1), ((1 : Nat) : Int) + 1, 0) := by rw [← hF.out, HG.out, fstG, if_neg (by omega), if_neg (by omega), if_pos h1]
     have hz := Keep.mk e7
     clear e7
     have hc3 : (c == 0) = false := by simpa using h0
     have HR := Keep.mk hr
     clear hr
     go_wp2
     go_ret3
     refine ⟨?_, rfl⟩
     rw [HR.out]
     refine congrArg (fun z => Ending.returned (Value.tuple #[Value.int .u64 z, Value.int .i64 2, Value.int .i64 0])) ?_
     have hyb := hy.out
     rw [hz.out] at hyb ⊢
     first | omega | (rw [IntKind.wrap_u64]; omega)
    have hr : fstG ((lst s).drop 2) (1+1) (y + c % 128 * 2 ^ (7 * 1)) = fstG (lst s) 0 0 := by rw [← hF.out, HG.out, fstG, if_neg (by omega), if_neg (by omega), if_neg h1]
    have HR := Keep.mk hr
    have hz := Keep.mk e7
    have hz2 : Keep ((2 : Int) ^ (7 * 2) = 16384) := ⟨by decide⟩
    clear hr e7
    have hc3 : (c == 0) = false := by simpa using h0
    go_wp2
    refine ⟨⟨2, y + c % 128 * 2 ^ (7 * 1), by omega, by omega, ?_, rfl, ⟨HR.out⟩, ⟨?_⟩⟩, by simp [intOf]⟩
    ·have hyb := hy.out
     rw [hz.out] at hyb ⊢
     refine congrArg (Value.int .u64) ?_
     first | omega | (rw [IntKind.wrap_u64]; omega)
    ·have hyb := hy.out
     rw [hz.out] at hyb ⊢
     rw [hz2.out]
     omega
   ·have e7 : (2 : Int) ^ (7 * 2) = 16384 := by decide
    by_cases h0 : c = 0
    ·have hr : fstG (lst s) 0 0 = (0, 0, 21) := by rw [← hF.out, HG.out, fstG, if_neg (by omega), if_pos ⟨h0, by omega⟩]
     clear HG hc
     subst h0
     clear e7
     have HR := Keep.mk hr
     clear hr
     go_wp2
     go_ret3
     refine ⟨?_, rfl⟩
     rw [HR.out]
     rfl
    by_cases h1 : c < 128
    ·have hr : fstG (lst s) 0 0 = (y + c % 128 * 2 ^ (7 * 2), ((2 : Nat) : Int) + 1, 0) := by rw [← hF.out, HG.out, fstG, if_neg (by omega), if_neg (by omega), if_pos h1]
     have hz := Keep.mk e7
     clear e7
     have hc3 : (c == 0) = false := by simpa using h0
     have HR := Keep.mk hr
     clear hr
     go_wp2
     go_ret3
     refine ⟨?_, rfl⟩
     rw [HR.out]
     refine congrArg (fun z => Ending.returned (Value.tuple #[Value.int .u64 z, Value.int .i64 3, Value.int .i64 0])) ?_
     have hyb := hy.out
     rw [hz.out] at hyb ⊢
     first | omega | (rw [IntKind.wrap_u64]; omega)
    have hr : fstG ((lst s).drop 3) (2+1) (y + c % 128 * 2 ^ (7 * 2)) = fstG (lst s) 0 0 := by rw [← hF.out, HG.out, fstG, if_neg (by omega), if_neg (by omega), if_neg h1]
    have HR := Keep.mk hr
    have hz := Keep.mk e7
    have hz2 : Keep ((2 : Int) ^ (7 * 3) = 2097152) := ⟨by decide⟩
    clear hr e7
    have hc3 : (c == 0) = false := by simpa using h0
    go_wp2
    refine ⟨⟨3, y + c % 128 * 2 ^ (7 * 2), by omega, by omega, ?_, rfl, ⟨HR.out⟩, ⟨?_⟩⟩, by simp [intOf]⟩
    ·have hyb := hy.out
     rw [hz.out] at hyb ⊢
     refine congrArg (Value.int .u64) ?_
     first | omega | (rw [IntKind.wrap_u64]; omega)
    ·have hyb := hy.out
     rw [hz.out] at hyb ⊢
     rw [hz2.out]
     omega
   ·have e7 : (2 : Int) ^ (7 * 3) = 2097152 := by decide
    by_cases h0 : c = 0
    ·have hr : fstG (lst s) 0 0 = (0, 0, 21) := by rw [← hF.out, HG.out, fstG, if_neg (by omega), if_pos ⟨h0, by omega⟩]
     clear HG hc
     subst h0
     clear e7
     have HR := Keep.mk hr
     clear hr
     go_wp2
     go_ret3
     refine ⟨?_, rfl⟩
     rw [HR.out]
     rfl
    by_cases h1 : c < 128
    ·have hr : fstG (lst s) 0 0 = (y + c % 128 * 2 ^ (7 * 3), ((3 : Nat) : Int) + 1, 0) := by rw [← hF.out, HG.out, fstG, if_neg (by omega), if_neg (by omega), if_pos h1]
     have hz := Keep.mk e7
     clear e7
     have hc3 : (c == 0) = false := by simpa using h0
     have HR := Keep.mk hr
     clear hr
     go_wp2
     go_ret3
     refine ⟨?_, rfl⟩
     rw [HR.out]
     refine congrArg (fun z => Ending.returned (Value.tuple #[Value.int .u64 z, Value.int .i64 4, Value.int .i64 0])) ?_
     have hyb := hy.out
     rw [hz.out] at hyb ⊢
     first | omega | (rw [IntKind.wrap_u64]; omega)
    have hr : fstG ((lst s).drop 4) (3+1) (y + c % 128 * 2 ^ (7 * 3)) = fstG (lst s) 0 0 := by rw [← hF.out, HG.out, fstG, if_neg (by omega), if_neg (by omega), if_neg h1]
    have HR := Keep.mk hr
    have hz := Keep.mk e7
    have hz2 : Keep ((2 : Int) ^ (7 * 4) = 268435456) := ⟨by decide⟩
    clear hr e7
    have hc3 : (c == 0) = false := by simpa using h0
    go_wp2
    refine ⟨⟨4, y + c % 128 * 2 ^ (7 * 3), by omega, by omega, ?_, rfl, ⟨HR.out⟩, ⟨?_⟩⟩, by simp [intOf]⟩
    ·have hyb := hy.out
     rw [hz.out] at hyb ⊢
     refine congrArg (Value.int .u64) ?_
     first | omega | (rw [IntKind.wrap_u64]; omega)
    ·have hyb := hy.out
     rw [hz.out] at hyb ⊢
     rw [hz2.out]
     omega
   ·have e7 : (2 : Int) ^ (7 * 4) = 268435456 := by decide
    by_cases h0 : c = 0
    ·have hr : fstG (lst s) 0 0 = (0, 0, 21) := by rw [← hF.out, HG.out, fstG, if_neg (by omega), if_pos ⟨h0, by omega⟩]
     clear HG hc
     subst h0
     clear e7
     have HR := Keep.mk hr
     clear hr
     go_wp2
     go_ret3
     refine ⟨?_, rfl⟩
     rw [HR.out]
     rfl
    by_cases h1 : c < 128
    ·have hr : fstG (lst s) 0 0 = (y + c % 128 * 2 ^ (7 * 4), ((4 : Nat) : Int) + 1, 0) := by rw [← hF.out, HG.out, fstG, if_neg (by omega), if_neg (by omega), if_pos h1]
     have hz := Keep.mk e7
     clear e7
     have hc3 : (c == 0) = false := by simpa using h0
     have HR := Keep.mk hr
     clear hr
     go_wp2
     go_ret3
     refine ⟨?_, rfl⟩
     rw [HR.out]
     refine congrArg (fun z => Ending.returned (Value.tuple #[Value.int .u64 z, Value.int .i64 5, Value.int .i64 0])) ?_
     have hyb := hy.out
     rw [hz.out] at hyb ⊢
     first | omega | (rw [IntKind.wrap_u64]; omega)
    have hr : fstG ((lst s).drop 5) (4+1) (y + c % 128 * 2 ^ (7 * 4)) = fstG (lst s) 0 0 := by rw [← hF.out, HG.out, fstG, if_neg (by omega), if_neg (by omega), if_neg h1]
    have HR := Keep.mk hr
    have hz := Keep.mk e7
    have hz2 : Keep ((2 : Int) ^ (7 * 5) = 34359738368) := ⟨by decide⟩
    clear hr e7
    have hc3 : (c == 0) = false := by simpa using h0
    go_wp2
    refine ⟨⟨5, y + c % 128 * 2 ^ (7 * 4), by omega, by omega, ?_, rfl, ⟨HR.out⟩, ⟨?_⟩⟩, by simp [intOf]⟩
    ·have hyb := hy.out
     rw [hz.out] at hyb ⊢
     refine congrArg (Value.int .u64) ?_
     first | omega | (rw [IntKind.wrap_u64]; omega)
    ·have hyb := hy.out
     rw [hz.out] at hyb ⊢
     rw [hz2.out]
     omega
   ·have e7 : (2 : Int) ^ (7 * 5) = 34359738368 := by decide
    by_cases h0 : c = 0
    ·have hr : fstG (lst s) 0 0 = (0, 0, 21) := by rw [← hF.out, HG.out, fstG, if_neg (by omega), if_pos ⟨h0, by omega⟩]
     clear HG hc
     subst h0
     clear e7
     have HR := Keep.mk hr
     clear hr
     go_wp2
     go_ret3
     refine ⟨?_, rfl⟩
     rw [HR.out]
     rfl
    by_cases h1 : c < 128
    ·have hr : fstG (lst s) 0 0 = (y + c % 128 * 2 ^ (7 * 5), ((5 : Nat) : Int) + 1, 0) := by rw [← hF.out, HG.out, fstG, if_neg (by omega), if_neg (by omega), if_pos h1]
     have hz := Keep.mk e7
     clear e7
     have hc3 : (c == 0) = false := by simpa using h0
     have HR := Keep.mk hr
     clear hr
     go_wp2
     go_ret3
     refine ⟨?_, rfl⟩
     rw [HR.out]
     refine congrArg (fun z => Ending.returned (Value.tuple #[Value.int .u64 z, Value.int .i64 6, Value.int .i64 0])) ?_
     have hyb := hy.out
     rw [hz.out] at hyb ⊢
     first | omega | (rw [IntKind.wrap_u64]; omega)
    have hr : fstG ((lst s).drop 6) (5+1) (y + c % 128 * 2 ^ (7 * 5)) = fstG (lst s) 0 0 := by rw [← hF.out, HG.out, fstG, if_neg (by omega), if_neg (by omega), if_neg h1]
    have HR := Keep.mk hr
    have hz := Keep.mk e7
    have hz2 : Keep ((2 : Int) ^ (7 * 6) = 4398046511104) := ⟨by decide⟩
    clear hr e7
    have hc3 : (c == 0) = false := by simpa using h0
    go_wp2
    refine ⟨⟨6, y + c % 128 * 2 ^ (7 * 5), by omega, by omega, ?_, rfl, ⟨HR.out⟩, ⟨?_⟩⟩, by simp [intOf]⟩
    ·have hyb := hy.out
     rw [hz.out] at hyb ⊢
     refine congrArg (Value.int .u64) ?_
     first | omega | (rw [IntKind.wrap_u64]; omega)
    ·have hyb := hy.out
     rw [hz.out] at hyb ⊢
     rw [hz2.out]
     omega
   ·have e7 : (2 : Int) ^ (7 * 6) = 4398046511104 := by decide
    by_cases h0 : c = 0
    ·have hr : fstG (lst s) 0 0 = (0, 0, 21) := by rw [← hF.out, HG.out, fstG, if_neg (by omega), if_pos ⟨h0, by omega⟩]
     clear HG hc
     subst h0
     clear e7
     have HR := Keep.mk hr
     clear hr
     go_wp2
     go_ret3
     refine ⟨?_, rfl⟩
     rw [HR.out]
     rfl
    by_cases h1 : c < 128
    ·have hr : fstG (lst s) 0 0 = (y + c % 128 * 2 ^ (7 * 6), ((6 : Nat) : Int) + 1, 0) := by rw [← hF.out, HG.out, fstG, if_neg (by omega), if_neg (by omega), if_pos h1]
     have hz := Keep.mk e7
     clear e7
     have hc3 : (c == 0) = false := by simpa using h0
     have HR := Keep.mk hr
     clear hr
     go_wp2
     go_ret3
     refine ⟨?_, rfl⟩
     rw [HR.out]
     refine congrArg (fun z => Ending.returned (Value.tuple #[Value.int .u64 z, Value.int .i64 7, Value.int .i64 0])) ?_
     have hyb := hy.out
     rw [hz.out] at hyb ⊢
     first | omega | (rw [IntKind.wrap_u64]; omega)
    have hr : fstG ((lst s).drop 7) (6+1) (y + c % 128 * 2 ^ (7 * 6)) = fstG (lst s) 0 0 := by rw [← hF.out, HG.out, fstG, if_neg (by omega), if_neg (by omega), if_neg h1]
    have HR := Keep.mk hr
    have hz := Keep.mk e7
    have hz2 : Keep ((2 : Int) ^ (7 * 7) = 562949953421312) := ⟨by decide⟩
    clear hr e7
    have hc3 : (c == 0) = false := by simpa using h0
    go_wp2
    refine ⟨⟨7, y + c % 128 * 2 ^ (7 * 6), by omega, by omega, ?_, rfl, ⟨HR.out⟩, ⟨?_⟩⟩, by simp [intOf]⟩
    ·have hyb := hy.out
     rw [hz.out] at hyb ⊢
     refine congrArg (Value.int .u64) ?_
     first | omega | (rw [IntKind.wrap_u64]; omega)
    ·have hyb := hy.out
     rw [hz.out] at hyb ⊢
     rw [hz2.out]
     omega
   ·have e7 : (2 : Int) ^ (7 * 7) = 562949953421312 := by decide
    by_cases h0 : c = 0
    ·have hr : fstG (lst s) 0 0 = (0, 0, 21) := by rw [← hF.out, HG.out, fstG, if_neg (by omega), if_pos ⟨h0, by omega⟩]
     clear HG hc
     subst h0
     clear e7
     have HR := Keep.mk hr
     clear hr
     go_wp2
     go_ret3
     refine ⟨?_, rfl⟩
     rw [HR.out]
     rfl
    by_cases h1 : c < 128
    ·have hr : fstG (lst s) 0 0 = (y + c % 128 * 2 ^ (7 * 7), ((7 : Nat) : Int) + 1, 0) := by rw [← hF.out, HG.out, fstG, if_neg (by omega), if_neg (by omega), if_pos h1]
     have hz := Keep.mk e7
     clear e7
     have hc3 : (c == 0) = false := by simpa using h0
     have HR := Keep.mk hr
     clear hr
     go_wp2
     go_ret3
     refine ⟨?_, rfl⟩
     rw [HR.out]
     refine congrArg (fun z => Ending.returned (Value.tuple #[Value.int .u64 z, Value.int .i64 8, Value.int .i64 0])) ?_
     have hyb := hy.out
     rw [hz.out] at hyb ⊢
     first | omega | (rw [IntKind.wrap_u64]; omega)
    have hr : fstG ((lst s).drop 8) (7+1) (y + c % 128 * 2 ^ (7 * 7)) = fstG (lst s) 0 0 := by rw [← hF.out, HG.out, fstG, if_neg (by omega), if_neg (by omega), if_neg h1]
    have HR := Keep.mk hr
    have hz := Keep.mk e7
    have hz2 : Keep ((2 : Int) ^ (7 * 8) = 72057594037927936) := ⟨by decide⟩
    clear hr e7
    have hc3 : (c == 0) = false := by simpa using h0
    go_wp2
    refine ⟨⟨8, y + c % 128 * 2 ^ (7 * 7), by omega, by omega, ?_, rfl, ⟨HR.out⟩, ⟨?_⟩⟩, by simp [intOf]⟩
    ·have hyb := hy.out
     rw [hz.out] at hyb ⊢
     refine congrArg (Value.int .u64) ?_
     first | omega | (rw [IntKind.wrap_u64]; omega)
    ·have hyb := hy.out
     rw [hz.out] at hyb ⊢
     rw [hz2.out]
     omega
   ·have e7 : (2 : Int) ^ (7 * 8) = 72057594037927936 := by decide
    by_cases h0 : c = 0
    ·have hr : fstG (lst s) 0 0 = (0, 0, 21) := by rw [← hF.out, HG.out, fstG, if_neg (by omega), if_pos ⟨h0, by omega⟩]
     clear HG hc
     subst h0
     clear e7
     have HR := Keep.mk hr
     clear hr
     go_wp2
     go_ret3
     refine ⟨?_, rfl⟩
     rw [HR.out]
     rfl
    by_cases h1 : c < 128
    ·have hr : fstG (lst s) 0 0 = (y + c % 128 * 2 ^ (7 * 8), ((8 : Nat) : Int) + 1, 0) := by rw [← hF.out, HG.out, fstG, if_neg (by omega), if_neg (by omega), if_pos h1]
     have hz := Keep.mk e7
     clear e7
     have hc3 : (c == 0) = false := by simpa using h0
     have HR := Keep.mk hr
     clear hr
     go_wp2
     go_ret3
     refine ⟨?_, rfl⟩
     rw [HR.out]
     refine congrArg (fun z => Ending.returned (Value.tuple #[Value.int .u64 z, Value.int .i64 9, Value.int .i64 0])) ?_
     have hyb := hy.out
     rw [hz.out] at hyb ⊢
     first | omega | (rw [IntKind.wrap_u64]; omega)
    have hr : fstG ((lst s).drop 9) (8+1) (y + c % 128 * 2 ^ (7 * 8)) = fstG (lst s) 0 0 := by rw [← hF.out, HG.out, fstG, if_neg (by omega), if_neg (by omega), if_neg h1]
    have HR := Keep.mk hr
    have hz := Keep.mk e7
    have hz2 : Keep ((2 : Int) ^ (7 * 9) = 9223372036854775808) := ⟨by decide⟩
    clear hr e7
    have hc3 : (c == 0) = false := by simpa using h0
    go_wp2
    refine ⟨⟨9, y + c % 128 * 2 ^ (7 * 8), by omega, by omega, ?_, rfl, ⟨HR.out⟩, ⟨?_⟩⟩, by simp [intOf]⟩
    ·have hyb := hy.out
     rw [hz.out] at hyb ⊢
     refine congrArg (Value.int .u64) ?_
     first | omega | (rw [IntKind.wrap_u64]; omega)
    ·have hyb := hy.out
     rw [hz.out] at hyb ⊢
     rw [hz2.out]
     omega
   ·have e7 : (2 : Int) ^ (7 * 9) = 9223372036854775808 := by decide
    by_cases h2 : 1 < c
    ·have hr : fstG (lst s) 0 0 = (0, 0, 22) := by rw [← hF.out, HG.out, fstG, if_pos ⟨rfl, h2⟩]
     clear e7
     have HR := Keep.mk hr
     clear hr
     go_wp2
     go_ret3
     refine ⟨?_, rfl⟩
     rw [HR.out]
     rfl
    by_cases h0 : c = 0
    ·have hr : fstG (lst s) 0 0 = (0, 0, 21) := by rw [← hF.out, HG.out, fstG, if_neg (by omega), if_pos ⟨h0, by omega⟩]
     clear HG hc
     subst h0
     clear e7
     have HR := Keep.mk hr
     clear hr
     go_wp2
     go_ret3
     refine ⟨?_, rfl⟩
     rw [HR.out]
     rfl
    have h1 : c < 128 := by omega
    have hr : fstG (lst s) 0 0 = (y + c % 128 * 2 ^ (7 * 9), ((9 : Nat) : Int) + 1, 0) := by rw [← hF.out, HG.out, fstG, if_neg (by omega), if_neg (by omega), if_pos h1]
    have hz := Keep.mk e7
    clear e7
    have hc3 : (c == 0) = false := by simpa using h0
    have HR := Keep.mk hr
    clear hr
    go_wp2
    go_ret3
    refine ⟨?_, rfl⟩
    rw [HR.out]
    refine congrArg (fun z => Ending.returned (Value.tuple #[Value.int .u64 z, Value.int .i64 10, Value.int .i64 0])) ?_
    have hyb := hy.out
    rw [hz.out] at hyb ⊢
    first | omega | (rw [IntKind.wrap_u64]; omega)
  ·have hlt' : ¬ ((t : Int) < (s.size : Int)) := by omega
   have hr : fstG (lst s) 0 0 = (0, 0, 20) := by
    rw [← hF.out, List.drop_of_length_le (by rw [lst_len]; omega), fstG]
   have HR := Keep.mk hr
   clear hr
   go_wp2
   go_ret3
   refine ⟨?_, rfl⟩
   rw [HR.out]
   rfl
theorem lst_extract (s : ByteArray) (a b : Nat) : lst (s.extract a b) = ((lst s).drop a).take (b - a) := by
 unfold lst
 rw [← List.map_drop, ← List.map_take]
 congr 1
 rw [ByteArray.data_extract, Array.toList_extract]
theorem lst_from (s : ByteArray) (a : Nat) : lst (s.extract a s.size) = (lst s).drop a := by
 rw [lst_extract, List.take_of_length_le (by rw [List.length_drop, lst_len]; omega)]
theorem fstG_shape (D : List Int) : ∀ (i : Nat) (x : Int), ((fstG D i x).2.2 ≠ 0 → (fstG D i x).1 = 0 ∧ (fstG D i x).2.1 = 0) ∧ ((fstG D i x).2.2 = 0 → (i : Int) < (fstG D i x).2.1 ∧ (fstG D i x).2.1 ≤ i + D.length) := by
 induction D with
 | nil => intro i x; simp [fstG]
 | cons c D ih =>
  intro i x
  rw [fstG]
  by_cases h1 : i = 9 ∧ 1 < c
  ·rw [if_pos h1]; simp
  ·rw [if_neg h1]
   by_cases h2 : c = 0 ∧ 0 < i
   ·rw [if_pos h2]; simp
   ·rw [if_neg h2]
    by_cases h3 : c < 128
    ·rw [if_pos h3]; simp; omega
    ·rw [if_neg h3]
     have h := ih (i + 1) (x + c % 128 * 2 ^ (7 * i))
     refine ⟨h.1, fun h0 => ?_⟩
     have := h.2 h0
     simp only [List.length_cons]
     omega
theorem fstM_shape (D : List Int) (most : Int) : ((fstM D most).2.2 ≠ 0 → (fstM D most).1 = 0 ∧ (fstM D most).2.1 = 0) ∧ 0 ≤ (fstM D most).2.1 ∧ (fstM D most).2.1 ≤ D.length := by
 have h := fstG_shape D 0 0
 unfold fstM
 split
 ·simp
 ·refine ⟨h.1, ?_⟩
  by_cases h0 : (fstG D 0 0).2.2 = 0
  ·have := h.2 h0; omega
  ·have := h.1 h0; omega

def ErrAs (w w' : World) (why : Int) (a : Nat) (bad : Option Nat) (er : Value) : Prop :=
 (why = 0 ∧ bad = none ∧ er = .nilIface) ∨ (why ≠ 0 ∧ ∃ q, w.heap.size ≤ q ∧ bad = some q ∧ er = err q ∧ BadAt w' q why a)
def RdPost (p : Nat) (s : ByteArray) (why : Int) (a : Nat) (res : Value) (w : World) (e : Ending) (w' : World) : Prop :=
 ∃ bad er, e = .returned (.tuple #[res, er]) ∧ InAt w' p s a bad ∧ (Grown w w' fun k => k = p) ∧ ErrAs w w' why a bad er

set_option maxRecDepth 8000 in
set_option maxHeartbeats 1000000 in
theorem inum_good (p : Nat) (s : ByteArray) (a : Nat) (most : Nat) (w : World) (h : InAt w p s a none) (hb : s.size ≤ 140737488355328) :
  Calls Tryz.prog 48 #[ptr p, .int .u64 (most : Int)] w (RdPost p s (fstM ((lst s).drop a) most).2.2 (a + (fstM ((lst s).drop a) most).2.1.toNat) (.int .u64 (fstM ((lst s).drop a) most).1) w) := by
 have HI := Keep.mk h
 have c0 : w.cell? ⟨p, 0, none⟩ = some (.string s) := by rw [h.blk.cell]; rfl
 have c1 : w.cell? ⟨p, 1, none⟩ = some (.int .i64 (a : Int)) := by rw [h.blk.cell]; rfl
 have c2 : w.cell? ⟨p, 2, none⟩ = some (.pointer none) := by rw [h.blk.cell]; rfl
 have hle := h.le
 have h1 : (a : Int) ≤ (s.size : Int) := by omega
 have h2 : (s.size : Int) ≤ 140737488355328 := by omega
 have hS := Keep.mk (fstM_shape ((lst s).drop a) most)
 have HF := fun wx => first_any (s.extract a s.size) wx (by rw [← lst_len, lst_from, List.length_drop, lst_len]; omega)
 rw [lst_from] at HF
 have hM : Keep (fstM ((lst s).drop a) most = if (fstG ((lst s).drop a) 0 0).2.2 = 0 ∧ (most : Int) < (fstG ((lst s).drop a) 0 0).1 then (0, 0, 22) else fstG ((lst s).drop a) 0 0) := ⟨rfl⟩
 have hlen : Keep (((lst s).drop a).length = s.size - a) := ⟨by rw [List.length_drop, lst_len]⟩
 generalize fstM ((lst s).drop a) most = R at *
 generalize fstG ((lst s).drop a) 0 0 = G at *
 obtain ⟨x, k, y⟩ := G
 simp only at HF hM
 have HF2 := Keep.mk HF
 clear HF h hb hle
 go_enter Tryz.func48, Tryz.ntmps48
 go_wp2_with fail
 go_quiet (first | (go_at_call 83; refine Calls.quiet_of_same (HF2.out _)))
 obtain ⟨w1, hw1⟩ : ∃ w1, Keep (w1 = w.drewN nq) := ⟨_, ⟨rfl⟩⟩
 rw [← hw1.out]
 have hI1 : InAt w1 p s a none := by rw [hw1.out]; exact ⟨HI.out.blk.drewN nq, HI.out.le⟩
 have hG1 : Grown w w1 (fun k => k = p) := by rw [hw1.out]; exact (Grown.refl w _).drewN nq
 have d1 : w1.cell? ⟨p, 1, none⟩ = some (.int .i64 (a : Int)) := by rw [hI1.blk.cell]; rfl
 have f1 := hI1.blk.frozen 1
 have HI1 := Keep.mk hI1
 have HG1 := Keep.mk hG1
 clear c0 c1 c2 hI1 hG1 hw1
 by_cases hy : y = 0
 ·subst hy
  by_cases hx : (most : Int) < x
  ·have hR : Keep (R = (0, 0, 22)) := ⟨by rw [hM.out, if_pos ⟨rfl, hx⟩]⟩
   go_wp2_with fail
   refine (ifail_any p s a 22 w1 HI1.out).mono ?_
   rintro e w2 ⟨rfl, h3, h4, h5⟩
   have HP := Keep.mk (And.intro h3 (And.intro h4 h5))
   clear h3 h4 h5
   go_wp2
   go_ret2
   rw [hR.out]
   exact ⟨some w1.heap.size, err w1.heap.size, rfl, HP.out.1, HG1.out.trans HP.out.2.2, .inr ⟨by decide, w1.heap.size, HG1.out.size, rfl, rfl, HP.out.2.1⟩⟩
  ·have hR : Keep (R = (x, k, 0)) := ⟨by rw [hM.out, if_neg (fun h => hx h.2)]⟩
   rw [hR.out] at hS
   have hk0 : 0 ≤ k := hS.out.2.1
   have hk1 : k ≤ (s.size : Int) - a := by have := hS.out.2.2; simp only at this; rw [hlen.out] at this; omega
   obtain ⟨kn, rfl⟩ : ∃ kn : Nat, k = (kn : Int) := ⟨k.toNat, by omega⟩
   have HI2 : Keep (InAt (w1.setCell ⟨p, 1, none⟩ (.int .i64 ((a : Int) + (kn : Int)))) p s (a + kn) none) := ⟨⟨HI1.out.blk.set 1 _, by omega⟩⟩
   clear hS
   go_wp2
   go_ret2
   rw [hR.out]
   exact ⟨none, .nilIface, rfl, HI2.out, HG1.out.trans (Grown.setCell w1 p 1 _ fun _ => rfl), .inl ⟨rfl, rfl, rfl⟩⟩
 ·have hR : Keep (R = (x, k, y)) := ⟨by rw [hM.out, if_neg (fun h => hy h.1)]⟩
  rw [hR.out] at hS
  have hxk := hS.out.1 hy
  simp only at hxk
  obtain ⟨rfl, rfl⟩ := hxk
  have hy1 : (y == 0) = false := by simpa using hy
  have hy2 : (y != 0) = true := by simpa using hy
  clear hS
  go_wp2_with fail
  refine (ifail_any p s a y w1 HI1.out).mono ?_
  rintro e w2 ⟨rfl, h3, h4, h5⟩
  have HP := Keep.mk (And.intro h3 (And.intro h4 h5))
  clear h3 h4 h5
  go_wp2
  go_ret2
  rw [hR.out]
  exact ⟨some w1.heap.size, err w1.heap.size, rfl, HP.out.1, HG1.out.trans HP.out.2.2, .inr ⟨hy, w1.heap.size, HG1.out.size, rfl, rfl, HP.out.2.1⟩⟩

theorem below_drewN (w : World) (n : Nat) : Below w.heap.size w (w.drewN n) := ⟨rfl, rfl, rfl, Nat.le_refl _, fun _ _ => rfl⟩

def nextW (D : List Int) (n : Int) : Int := if n < 0 then 1 else if (D.length : Int) < n then 20 else 0
def nextN (D : List Int) (n : Int) : Nat := if nextW D n = 0 then n.toNat else 0
set_option maxRecDepth 8000 in
set_option maxHeartbeats 1000000 in
theorem inext_good (p : Nat) (s : ByteArray) (a : Nat) (n : Int) (w : World) (h : InAt w p s a none) (hb : s.size ≤ 140737488355328) (hn1 : -9223372036854775808 ≤ n) (hn2 : n ≤ 9223372036854775807) :
  Calls Tryz.prog 112 #[ptr p, .int .i64 n] w (RdPost p s (nextW ((lst s).drop a) n) (a + nextN ((lst s).drop a) n) (.string (s.extract a (a + nextN ((lst s).drop a) n))) w) := by
 have HI := Keep.mk h
 have c0 : w.cell? ⟨p, 0, none⟩ = some (.string s) := by rw [h.blk.cell]; rfl
 have c1 : w.cell? ⟨p, 1, none⟩ = some (.int .i64 (a : Int)) := by rw [h.blk.cell]; rfl
 have c2 : w.cell? ⟨p, 2, none⟩ = some (.pointer none) := by rw [h.blk.cell]; rfl
 have hle := h.le
 have h1 : (a : Int) ≤ (s.size : Int) := by omega
 have h2 : (s.size : Int) ≤ 140737488355328 := by omega
 have hlen : ((lst s).drop a).length = s.size - a := by rw [List.length_drop, lst_len]
 have f1 := h.blk.frozen 1
 have hse : s.extract a a = ByteArray.empty := by
  rw [← nums_lst (s.extract a a), lst_extract]; simp [strOfNums]; rfl
 by_cases hneg : n < 0
 ·have hW : nextW ((lst s).drop a) n = 1 := by unfold nextW; rw [if_pos hneg]
  have hN : nextN ((lst s).drop a) n = 0 := by unfold nextN; rw [hW]; rfl
  rw [hW, hN, Nat.add_zero, hse]
  clear hW hN hse hlen h hn1 hn2 hb hle
  go_enter Tryz.func112, Tryz.ntmps112
  go_wp2_with fail
  refine (ifail_any p s a 1 w HI.out).mono ?_
  rintro e w2 ⟨rfl, h3, h4, h5⟩
  have HP := Keep.mk (And.intro h3 (And.intro h4 h5))
  clear h3 h4 h5
  go_wp2
  go_ret2
  exact ⟨some w.heap.size, err w.heap.size, rfl, HP.out.1, HP.out.2.2, .inr ⟨by decide, w.heap.size, Nat.le_refl _, rfl, rfl, HP.out.2.1⟩⟩
 ·by_cases hbig : (s.size : Int) - a < n
  ·have hW : nextW ((lst s).drop a) n = 20 := by unfold nextW; rw [if_neg hneg, if_pos (by rw [hlen]; omega)]
   have hN : nextN ((lst s).drop a) n = 0 := by unfold nextN; rw [hW]; rfl
   rw [hW, hN, Nat.add_zero, hse]
   have HSz := Keep.mk hb
   clear hW hN hse hlen h hn1 hn2 hb hle
   go_enter Tryz.func112, Tryz.ntmps112
   go_wp2_with fail
   refine (ileft_any p s a none w HI.out HSz.out).mono ?_
   rintro e w1 ⟨rfl, q, hw1⟩
   have HI1 : Keep (InAt w1 p s a none) := ⟨by rw [hw1]; exact ⟨HI.out.blk.drewN q, HI.out.le⟩⟩
   have HG1 : Keep (Grown w w1 fun k => k = p) := ⟨by rw [hw1]; exact (Grown.refl w _).drewN q⟩
   clear hw1 c0 c1 c2
   go_wp2_with fail
   refine (ifail_any p s a 20 w1 HI1.out).mono ?_
   rintro e w2 ⟨rfl, h3, h4, h5⟩
   have HP := Keep.mk (And.intro h3 (And.intro h4 h5))
   clear h3 h4 h5
   go_wp2
   go_ret2
   exact ⟨some w1.heap.size, err w1.heap.size, rfl, HP.out.1, HG1.out.trans HP.out.2.2, .inr ⟨by decide, w1.heap.size, HG1.out.size, rfl, rfl, HP.out.2.1⟩⟩
  ·obtain ⟨m, rfl⟩ : ∃ m : Nat, n = (m : Int) := ⟨n.toNat, by omega⟩
   have hW : nextW ((lst s).drop a) m = 0 := by unfold nextW; rw [if_neg hneg, if_neg (by rw [hlen]; omega)]
   have hN : nextN ((lst s).drop a) m = m := by unfold nextN; rw [hW]; simp
   rw [hW, hN]
   have HSz := Keep.mk hb
   have hm1 : (a : Int) + (m : Int) ≤ (s.size : Int) := by omega
   clear hW hN hse hlen h hn1 hn2 hb hle
   go_enter Tryz.func112, Tryz.ntmps112
   go_wp2_with fail
   refine (ileft_any p s a none w HI.out HSz.out).mono ?_
   rintro e w1 ⟨rfl, q, hw1⟩
   have hI1 : InAt w1 p s a none := by rw [hw1]; exact ⟨HI.out.blk.drewN q, HI.out.le⟩
   have HG1 : Keep (Grown w w1 fun k => k = p) := ⟨by rw [hw1]; exact (Grown.refl w _).drewN q⟩
   have c0 : w1.cell? ⟨p, 0, none⟩ = some (.string s) := by rw [hI1.blk.cell]; rfl
   have c1 : w1.cell? ⟨p, 1, none⟩ = some (.int .i64 (a : Int)) := by rw [hI1.blk.cell]; rfl
   have HI1 := Keep.mk hI1
   clear hw1 c2 f1 hI1
   go_wp2_with fail
   go_quiet (fail)
   obtain ⟨w2, hw2⟩ : ∃ w2, Keep (w2 = w1.drewN nq) := ⟨_, ⟨rfl⟩⟩
   rw [← hw2.out]
   have hI2 : InAt w2 p s a none := by rw [hw2.out]; exact ⟨HI1.out.blk.drewN nq, HI1.out.le⟩
   have hG2 : Grown w w2 (fun k => k = p) := by rw [hw2.out]; exact HG1.out.drewN nq
   have d1 : w2.cell? ⟨p, 1, none⟩ = some (.int .i64 (a : Int)) := by rw [hI2.blk.cell]; rfl
   have f1 := hI2.blk.frozen 1
   have HI2 : Keep (InAt (w2.setCell ⟨p, 1, none⟩ (.int .i64 ((a : Int) + (m : Int)))) p s (a + m) none) := ⟨⟨hI2.blk.set 1 _, by omega⟩⟩
   have HG2 := Keep.mk hG2
   clear c0 c1 hI2 hG2 hw2
   go_wp2
   go_ret2
   exact ⟨none, .nilIface, rfl, HI2.out, HG2.out.trans (Grown.setCell w2 p 1 _ fun _ => rfl), .inl ⟨rfl, rfl, rfl⟩⟩
end Go.Proofs.YtdeiicldfgkidaaGreat
