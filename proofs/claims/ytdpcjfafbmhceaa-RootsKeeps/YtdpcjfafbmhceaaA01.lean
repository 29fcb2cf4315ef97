import Derived.Test.YtdpcjfafbmhceaaProg
import Derived.KernelRfl
import Derived.WalkKit
import Derived.WalkSpells
import Derived.WalkLawsBesides
import Derived.BigQuiet
import Derived.BigRegion
import Derived.Deep.WholeRow
import Derived.Deep.MidRow
import Derived.Deep.RegionWith
import Derived.Deep.DeepCutAuto
import Derived.Deep.RegionHeld3
import Derived.Deep.QuietTactic
import Derived.Laws.OwnMore
import Derived.Laws.BytesArg
import Derived.Lib.AppendStr
import Derived.Maps.AppendAt
import Derived.ChangeKeysEq
import Derived.ArgAppend
import Derived.Lib.ConvBytes
import Derived.Laws.CopyOwn
import Derived.Laws.AppendOwnNone
import Derived.Deep.DeepAppendWide
namespace Go.Proofs.Ytdpcjfafbmhceaa
open Go.RowKit
theorem zp {p : Prop} (h : p) : Hid p := h
structure Keep (p : Prop) : Prop where
 o : p
theorem Keep.out {p : Prop} (h : Keep p) : p := h.o
def Blk (w : World) (b : Nat) (T : TypeId) (cs : Array Value) : Prop := w.heap[b]? = some (.cells cs T (0, 0))
theorem Blk.lt {w : World} {b : Nat} {T : TypeId} {cs : Array Value} (h : Blk w b T cs) : b < w.heap.size := (Array.getElem?_eq_some_iff.1 h).1
theorem Blk.cell {w : World} {b : Nat} {T : TypeId} {cs : Array Value} (h : Blk w b T cs) (j : Nat) : w.cell? ⟨b, j, none⟩ = cs[j]? := cell_of_row w b j cs T (0, 0) h
theorem Blk.frozen {w : World} {b : Nat} {T : TypeId} {cs : Array Value} (h : Blk w b T cs) (j : Nat) : w.frozen? ⟨b, j, none⟩ = false := by
 unfold Blk at h; simp [World.frozen?, h]
theorem Blk.new (w : World) (T : TypeId) (cs : Array Value) : Blk (w.alloc (.cells cs T)) w.heap.size T cs := heap_alloc_new w _
theorem Blk.alloc {w : World} {b : Nat} {T : TypeId} {cs : Array Value} (h : Blk w b T cs) (o : Obj) : Blk (w.alloc o) b T cs := by
 unfold Blk; rw [Below.heap_alloc w o b h.lt]; exact h
theorem Blk.drew {w : World} {b : Nat} {T : TypeId} {cs : Array Value} (h : Blk w b T cs) : Blk w.drew b T cs := h
theorem Blk.below {w w' : World} {B b : Nat} {T : TypeId} {cs : Array Value} (h : Blk w b T cs) (hb : Below B w w') (hlt : b < B) : Blk w' b T cs := by
 unfold Blk; rw [hb.block b hlt]; exact h
theorem Blk.set {w : World} {b : Nat} {T : TypeId} {cs : Array Value} (h : Blk w b T cs) (j : Nat) (v : Value) : Blk (w.setCell ⟨b, j, none⟩ v) b T (cs.setIfInBounds j v) := by
 unfold Blk; rw [setCell_eq_setRow w b j cs T (0, 0) v h]; exact setRow_heap w b cs _ T (0, 0) h
theorem Blk.set_ne {w : World} {b b' j : Nat} {T : TypeId} {cs : Array Value} (h : Blk w b T cs) (hne : b ≠ b') (v : Value) : Blk (w.setCell ⟨b', j, none⟩ v) b T cs := by
 unfold Blk; rw [Below.heap_setCell w _ v b hne]; exact h
theorem Blk.setRow {w : World} {b : Nat} {T : TypeId} {cs : Array Value} (h : Blk w b T cs) (cs' : Array Value) : Blk (w.setRow b cs') b T cs' := setRow_heap w b cs cs' T (0, 0) h
theorem Blk.setRow_ne {w : World} {b b' : Nat} {T : TypeId} {cs : Array Value} (h : Blk w b T cs) (hne : b ≠ b') (cs' : Array Value) : Blk (w.setRow b' cs') b T cs := by
 unfold Blk; rw [setRow_other w b' b cs' hne]; exact h
theorem qf {B : Nat} {a w : World} (h : Below B a w) {b : Nat} (hb : B ≤ b) (cs : Array Value) : Below B a (w.setRow b cs) :=
 h.trans ⟨rfl, rfl, rfl, by simp, fun k hk => setRow_other w b k cs (by omega)⟩
theorem qg (w : World) (o : Obj) : Below w.heap.size w (w.alloc o) := (Below.refl _ _).alloc (Nat.le_refl _) o
theorem jX {w : World} {k : Nat} {T T' : TypeId} {cs cs' : Array Value} (h : Blk w k T cs) (h' : Blk w k T' cs') : T = T' := by
 unfold Blk at h h'; rw [h] at h'; simp at h'; exact h'.2
theorem zr {w : World} {k k' : Nat} {T T' : TypeId} {cs cs' : Array Value} (h : Blk w k T cs) (h' : Blk w k' T' cs') (ht : T ≠ T') : k ≠ k' := by
 rintro rfl; exact ht (jX h h')
theorem zM {w : World} {h j : Nat} {v : Value} (hc : w.cell? ⟨h, j, none⟩ = some v) : h < w.heap.size := by
 apply Nat.lt_of_not_le; intro hle
 simp [World.cell?, Array.getElem?_eq_none hle] at hc
abbrev ptr (g : Nat) : Value := .pointer (some ⟨g, 0, none⟩)
theorem Ki (w : World) (o : Option Nat) : w.grownBy w o := ⟨rfl, rfl, rfl, Nat.le_refl _, fun _ _ _ => rfl⟩
theorem zX (w : World) (g j : Nat) (v : Value) : w.grownBy (w.setCell ⟨g, j, none⟩ v) (some g) :=
 ⟨rfl, rfl, rfl, by simp [World.setCell], fun i _ hn => Below.heap_setCell w _ v i (fun e => hn (by rw [e]))⟩
theorem jc (w : World) (g : Nat) (cs : Array Value) : w.grownBy (w.setRow g cs) (some g) :=
 ⟨rfl, rfl, rfl, by simp, fun i _ hn => setRow_other w g i cs (fun e => hn (by rw [e]))⟩
theorem yb {w w' : World} (h : Below w.heap.size w w') (o : Option Nat) : w.grownBy w' o := ⟨h.os, h.tape, h.output, h.size, fun i hi _ => h.block i hi⟩
structure Grown (w w' : World) (S : Nat → Prop) : Prop where
 os : w'.os = w.os
 tape : w'.tape = w.tape
 output : w'.output = w.output
 size : w.heap.size ≤ w'.heap.size
 block : ∀ k, k < w.heap.size → ¬ S k → w'.heap[k]? = w.heap[k]?
theorem Grown.refl (w : World) (S : Nat → Prop) : Grown w w S := ⟨rfl, rfl, rfl, Nat.le_refl _, fun _ _ _ => rfl⟩
theorem Grown.trans {a b c : World} {S : Nat → Prop} (h : Grown a b S) (k : Grown b c S) : Grown a c S :=
 ⟨k.os.trans h.os, k.tape.trans h.tape, k.output.trans h.output, Nat.le_trans h.size k.size, fun i hi hs => (k.block i (Nat.lt_of_lt_of_le hi h.size) hs).trans (h.block i hi hs)⟩
theorem Grown.next {a b c : World} {S T : Nat → Prop} (h : Grown a b S) (k : Grown b c T) (hT : ∀ i, i < a.heap.size → T i → S i) : Grown a c S :=
 ⟨k.os.trans h.os, k.tape.trans h.tape, k.output.trans h.output, Nat.le_trans h.size k.size, fun i hi hs => (k.block i (Nat.lt_of_lt_of_le hi h.size) (fun ht => hs (hT i hi ht))).trans (h.block i hi hs)⟩
theorem Grown.mono {a b : World} {S T : Nat → Prop} (h : Grown a b S) (hT : ∀ i, i < a.heap.size → S i → T i) : Grown a b T := (Grown.refl a T).next h hT
theorem Grown.of {a b : World} {S : Nat → Prop} {o : Option Nat} (h : a.grownBy b o) (ho : ∀ k, k < a.heap.size → o = some k → S k) : Grown a b S :=
 ⟨h.os, h.tape, h.output, h.size, fun i hi hs => h.block i hi (fun e => hs (ho i hi e.symm))⟩
theorem Grown.below {a b : World} {S : Nat → Prop} (h : Below a.heap.size a b) : Grown a b S := ⟨h.os, h.tape, h.output, h.size, fun i hi _ => h.block i hi⟩
theorem Grown.alloc (w : World) (o : Obj) (S : Nat → Prop) : Grown w (w.alloc o) S := Grown.below (qg w o)
theorem Grown.drew {a b : World} {S : Nat → Prop} (h : Grown a b S) : Grown a b.drew S := ⟨h.os, h.tape, h.output, h.size, h.block⟩
theorem Grown.setCell (w : World) (g j : Nat) (v : Value) {S : Nat → Prop} (hS : g < w.heap.size → S g) : Grown w (w.setCell ⟨g, j, none⟩ v) S :=
 Grown.of (zX w g j v) fun k hk e => by injection e with e; subst e; exact hS hk
theorem Grown.setRow (w : World) (g : Nat) (cs : Array Value) {S : Nat → Prop} (hS : g < w.heap.size → S g) : Grown w (w.setRow g cs) S :=
 Grown.of (jc w g cs) fun k hk e => by injection e with e; subst e; exact hS hk
theorem Grown.blk {a b : World} {S : Nat → Prop} (h : Grown a b S) {k : Nat} {T : TypeId} {cs : Array Value} (hk : Blk a k T cs) (hs : ¬ S k) : Blk b k T cs := by
 unfold Blk; rw [h.block k hk.lt hs]; exact hk
theorem Grown.cell {a b : World} {S : Nat → Prop} (h : Grown a b S) {k j : Nat} {v : Value} (hk : a.cell? ⟨k, j, none⟩ = some v) (hs : ¬ S k) : b.cell? ⟨k, j, none⟩ = some v := by
 rw [World.cell?_of_block (h.block k (zM hk) hs)]; exact hk
theorem Grown.to_below {a b : World} {S : Nat → Prop} (h : Grown a b S) {B : Nat} (hs : ∀ k, k < B → ¬ S k) (hB : B ≤ a.heap.size) : Below B a b :=
 ⟨h.os, h.tape, h.output, h.size, fun i hi => h.block i (by omega) (hs i hi)⟩
def bv (l : List Int) : List Value := l.map fun c => .int .u8 c
theorem qY (l : List Int) : (bv l).length = l.length := by simp [bv]
theorem jP (l : List Int) (i : Nat) (h : i < l.length) : (bv l)[i]? = some (.int .u8 (l.getD i 0)) := by
 simp [bv, h, List.getD]
theorem ve (a b : List Int) : bv (a ++ b) = bv a ++ bv b := by simp [bv]
theorem vd (l : List Int) : ∀ u ∈ bv l, u.oneCell' = true := fun u hu => by simp [bv] at hu; obtain ⟨_, _, rfl⟩ := hu; rfl
def RowAt (w : World) (v : Value) (l : List Int) : Prop :=
 (v = .slice none 0 0 ∧ l = []) ∨ (∃ a c, v = .slice (some a) 0 c ∧ l = []) ∨ ∃ h off cap, v = .slice (some ⟨h, off, none⟩) l.length cap ∧ l.length ≤ cap ∧ ∀ i, i < l.length → w.cell? ⟨h, off + i, none⟩ = some (.int .u8 (l.getD i 0))
theorem qR {w : World} {v : Value} {l : List Int} (h : RowAt w v l) : ∃ a c, v = .slice a l.length c := by
 rcases h with ⟨rfl, rfl⟩ | ⟨a, c, rfl, rfl⟩ | ⟨b, off, cap, rfl, _⟩
 ·exact ⟨_, _, rfl⟩
 ·exact ⟨_, _, rfl⟩
 ·exact ⟨_, _, rfl⟩
theorem RowAt.grown {w w' : World} {v : Value} {l : List Int} {S : Nat → Prop} (h : RowAt w v l) (hg : Grown w w' S) (hs : ∀ b, v.ownBlock = some b → b < w.heap.size → ¬ S b) : RowAt w' v l := by
 rcases h with h | h | ⟨b, off, cap, h1, h2, h3⟩
 ·exact .inl h
 ·exact .inr (.inl h)
 ·exact .inr (.inr ⟨b, off, cap, h1, h2, fun i hi => hg.cell (h3 i hi) (hs b (by rw [h1]; rfl) (zM (h3 i hi)))⟩)
theorem RowAt.below {w w' : World} {v : Value} {l : List Int} (h : RowAt w v l) (hb : Below w.heap.size w w') : RowAt w' v l :=
 h.grown (Grown.below (S := fun _ => False) hb) fun _ _ _ h => h
def Own (w : World) (v : Value) (l : List Int) : Prop := w.ownsRow 0 5 1 v l.length (bv l)
theorem ju (w : World) : Own w (.slice none 0 0) [] := ⟨rfl, .inl ⟨rfl, rfl⟩⟩
theorem Own.row {w : World} {v : Value} {l : List Int} (h : Own w v l) : RowAt w v l := by
 have h' := h
 obtain ⟨_, h2⟩ := h
 rcases h2 with ⟨rfl, h0⟩ | ⟨g, cap, cur, rfl, hg, hh, hc, _⟩
 ·exact .inl ⟨rfl, List.eq_nil_of_length_eq_zero (by omega)⟩
 ·refine .inr <| .inr ⟨g, 0, cap, rfl, by omega, fun i hi => ?_⟩
  rw [Nat.zero_add, World.ownsRow.cellAt h' i (by omega), jP l i hi]
theorem Own.lt {w : World} {v : Value} {l : List Int} (h : Own w v l) : ∀ k, v.ownBlock = some k → k < w.heap.size := fun k hk => (World.ownsRow.lt h k hk).2
theorem Own.grown {w w' : World} {v : Value} {l : List Int} {S : Nat → Prop} (h : Own w v l) (hg : Grown w w' S) (hs : ∀ k, v.ownBlock = some k → ¬ S k) : Own w' v l := by
 refine ⟨h.1, ?_⟩
 rcases h.2 with h1 | ⟨g, cap, cur, rfl, h2, h3, h4⟩
 ·exact .inl h1
 ·exact .inr ⟨g, cap, cur, rfl, h2, hg.blk h3 (hs g rfl), h4⟩
theorem Own.ne {w : World} {v : Value} {l : List Int} {p : Nat} {T : TypeId} {cs : Array Value} (h : Own w v l) (hp : Blk w p T cs) (hT : T ≠ 5) : v.ownBlock ≠ some p := by
 intro e
 rcases h.2 with ⟨rfl, _⟩ | ⟨g, cap, cur, rfl, _, h3, _⟩
 ·simp [Value.ownBlock] at e
 ·simp [Value.ownBlock] at e
  subst e
  exact hT (jX hp h3)
theorem Own.form {w : World} {v : Value} {l : List Int} (h : Own w v l) : (v = .slice none 0 0 ∧ l = []) ∨ ∃ g cap cur, v = .slice (some ⟨g, 0, none⟩) l.length cap ∧ Blk w g 5 cur ∧ l.length ≤ cap ∧ cap ≤ maxLen ∧ cur.size = cap ∧ cur.toList.take l.length = bv l := by
 rcases h.2 with ⟨rfl, h0⟩ | ⟨g, cap, cur, rfl, _, h3, h4, h5, h6, h7⟩
 ·exact .inl ⟨rfl, List.eq_nil_of_length_eq_zero h0⟩
 ·exact .inr ⟨g, cap, cur, rfl, h3, h4, h5, by omega, by simpa using h7⟩
theorem Own.mk {w : World} {g cap : Nat} {cur : Array Value} {l : List Int} (h3 : Blk w g 5 cur) (h4 : l.length ≤ cap) (h5 : cap ≤ maxLen) (h6 : cur.size = cap) (h7 : cur.toList.take l.length = bv l) : Own w (.slice (some ⟨g, 0, none⟩) l.length cap) l :=
 ⟨by rw [qY]; omega, .inr ⟨g, cap, cur, rfl, Nat.zero_le _, h3, h4, h5, by omega, by simpa using h7⟩⟩
def Moved (w : World) (v v' : Value) : Prop := v'.ownBlock = v.ownBlock ∨ ∃ k, v'.ownBlock = some k ∧ w.heap.size ≤ k
theorem Moved.refl (w : World) (v : Value) : Moved w v v := .inl rfl
theorem Moved.trans {a b : World} {v v1 v2 : Value} (h : Moved a v v1) (hs : a.heap.size ≤ b.heap.size) (k : Moved b v1 v2) : Moved a v v2 := by
 rcases k with e | ⟨j, h1, h2⟩
 ·rcases h with h | ⟨i, h1, h2⟩
  ·exact .inl (e.trans h)
  ·exact .inr ⟨i, e.trans h1, h2⟩
 ·exact .inr ⟨j, h1, by omega⟩
theorem Moved.old {a : World} {v v1 : Value} (h : Moved a v v1) {k : Nat} (hk : k < a.heap.size) (e : v1.ownBlock = some k) : v.ownBlock = some k := by
 rcases h with h | ⟨i, h1, h2⟩
 ·rw [← h]; exact e
 ·rw [h1] at e; injection e with e; omega
theorem zB : (Try.prog.info? 5).map (fun i => (i.zero, i.size, i.bytes)) = some (some (.int .u8 0), 1, 1) := by kernel_rfl
theorem jb (w : World) (c : Int) : RowAt (w.alloc (.cells #[.int .u8 c] 5)) (.slice (some ⟨w.heap.size, 0, none⟩) 1 1) [c] := by
 refine .inr <| .inr ⟨w.heap.size, 0, 1, rfl, by simp, fun i hi => ?_⟩
 have e : i = 0 := by simp at hi; exact hi
 subst e
 rw [(Blk.new w 5 #[.int .u8 c]).cell]; rfl
def AppPost (w : World) (v : Value) (l : List Int) (v' : Value) (w' : World) : Prop :=
 Own w' v' l ∧ ((v'.ownBlock = v.ownBlock ∧ Grown w w' fun k => v.ownBlock = some k) ∨ (v'.ownBlock = some w.heap.size ∧ Below w.heap.size w w'))
theorem AppPost.moved {w w' : World} {v v' : Value} {l : List Int} (h : AppPost w v l v' w') : Moved w v v' := by
 rcases h.2 with h | h
 ·exact .inl h.1
 ·exact .inr ⟨_, h.1, Nat.le_refl _⟩
theorem AppPost.grown {w w' : World} {v v' : Value} {l : List Int} (h : AppPost w v l v' w') : Grown w w' fun k => v.ownBlock = some k := by
 rcases h.2 with h | h
 ·exact h.2
 ·exact Grown.below h.2
section
theorem jN (w : World) (ty : TypeId) (v : Value) (l : List Int) (hown : Own w v l) (a : Addr) (c : Nat) (m : List Int) (hnews : ∀ j u, (bv m)[j]? = some u → w.cell? (a.add j) = some u) (hb : l.length + m.length ≤ 140737488355328) :
  ∃ v' w', (Builtin.append_ #[42, 42] ty #[v, .slice (some a) m.length c]).run Try.prog w = .ok v' w' ∧ AppPost w v (l ++ m) v' w' := by
 obtain ⟨i, hi, hzz⟩ := Option.map_eq_some_iff.1 zB
 simp only [Prod.mk.injEq] at hzz
 obtain ⟨hz, hsz, hby⟩ := hzz
 have h63 : l.length + m.length ≤ maxLen := by unfold maxLen; omega
 have hlm : (bv m).length = m.length * i.size := by rw [qY, hsz]; omega
 obtain ⟨v', w', hr, h1, h2, _, h3⟩ := run_append_own_at (P := Try.prog) w 0 42 ty 5 i (.int .u8 0) 1 1 Try.underlying42 hi hz hsz hby rfl (by omega) v l.length (bv l) hown a m.length c (bv m) (by rw [qY]; omega) hnews (vd m) h63 (by omega) (Nat.zero_le _)
 have hO : Own w' v' (l ++ m) := by unfold Own; rw [List.length_append, ve]; exact h1
 refine ⟨v', w', hr, hO, ?_⟩
 rcases hown.form with ⟨rfl, rfl⟩ | ⟨g, cap, cur, rfl, hg, hnc, hcm, hcs, htake⟩
 ·rcases h3 with h3 | h3
  ·exact .inl ⟨h3, Grown.of h2 fun k _ e => by simp [Value.ownBlock] at e⟩
  ·exact .inr ⟨h3, h2.os, h2.tape, h2.output, h2.size, fun k hk => h2.block k hk (by simp [Value.ownBlock])⟩
 ·by_cases hroom : l.length + m.length ≤ cap
  ·have hr2 := run_append_room (P := Try.prog) w 42 ty 5 i Try.underlying42 hi g l.length cap cur hg a m.length c (bv m) hlm hnews (vd m) hroom (by rw [hsz, qY, hcs]; omega)
   have e := hr.symm.trans hr2
   injection e with e1 e2
   subst e1
   exact .inl ⟨rfl, Grown.of h2 fun k _ e => e⟩
  ·have holds : ∀ j u, (bv l)[j]? = some u → w.cell? ((⟨g, 0, none⟩ : Addr).add j) = some u := World.ownsRow.cells (g := g) hown rfl
   have hr2 := run_append_grow (P := Try.prog) w 42 ty 5 i (.int .u8 0) Try.underlying42 hi hz ⟨g, 0, none⟩ l.length cap (bv l) (by rw [qY, hsz]; omega) holds a m.length c (bv m) hlm hnews (by omega) (by omega) (by rw [hby]; exact growslice_fits (by omega) (by omega))
   have e := hr.symm.trans hr2
   injection e with e1 e2
   subst e1 e2
   exact .inr ⟨rfl, ⟨rfl, rfl, rfl, by simp, fun k hk => Below.heap_alloc w.drew _ k hk⟩⟩
theorem xx (w : World) (ty : TypeId) (v vx : Value) (l m : List Int) (hown : Own w v l) (hrow : RowAt w vx m) (hb : l.length + m.length ≤ 140737488355328) :
  ∃ v' w', (Builtin.append_ #[42, 42] ty #[v, vx]).run Try.prog w = .ok v' w' ∧ AppPost w v (l ++ m) v' w' := by
 rcases hrow with ⟨rfl, rfl⟩ | ⟨ad, c, rfl, rfl⟩ | ⟨b, off, cap, rfl, hcap, hc⟩
 ·obtain ⟨i, hi, _⟩ := Option.map_eq_some_iff.1 zB
  have hrun := run_append_owned_none (P := Try.prog) (w := w) 0 42 ty 5 i 1 Try.underlying42 hi v l.length (bv l) hown
  exact ⟨v, w, hrun, by simpa using hown, .inl ⟨rfl, Grown.refl _ _⟩⟩
 ·exact jN w ty v l hown ad c [] (fun j u hu => by simp [bv] at hu) hb
 ·refine jN w ty v l hown ⟨b, off, none⟩ cap m (fun j u hu => ?_) hb
  have hj : j < m.length := by have := (List.getElem?_eq_some_iff.1 hu).1; rwa [qY] at this
  rw [jP m j hj] at hu
  rw [Addr.add_mid, hc j hj]; exact hu
end
theorem jh {ops : Array Oper} {rest : List Oper} {o : Oper} {a : Act} {w : World} {Q : Exit → Act → World → Prop} (hgd : o.guard = none) (s x : Operand)
  (ho : o.op = .call { callee := .builtin .append, args := #[s, x], argTypes := #[42, 42] }) (v vx : Value) (l m : List Int)
  (hs : a.eval s = v) (hx : a.eval x = vx) (hown : Own w v l) (hrow : RowAt w vx m) (hb : l.length + m.length ≤ 140737488355328)
  (h : ∀ v' w', AppPost w v (l ++ m) v' w' → wpList Try.prog ops Q rest (a.put o.dst v') w') : wpList Try.prog ops Q (o :: rest) a w := by
 refine wpList_plain hgd fun K hK => ?_
 obtain ⟨v', w', hr, h2⟩ := xx w o.type v vx l m hown hrow hb
 unfold Oper.wp execOp
 simp only [ho, resolve, invoke, builtin, Sem.run_bind, Sem.run_pure, Result.andThen_ok, List.map_toArray, List.map_cons, List.map_nil, hs, hx, hr]
 exact hK _ _ (h v' w' h2)
def Byts (l : List Int) : Prop := ∀ c ∈ l, 0 ≤ c ∧ c < 256
theorem Byts.nil : Byts [] := fun _ h => by simp at h
theorem Byts.take {a : List Int} (h : Byts a) (n : Nat) : Byts (a.take n) := fun c hc => h c (List.mem_of_mem_take hc)
theorem Own.sl {w : World} {v : Value} {l : List Int} (h : Own w v l) : ∃ a n c, v = .slice a n c := by
 rcases h.form with ⟨rfl, _⟩ | ⟨g, cap, cur, rfl, _⟩
 ·exact ⟨_, _, _, rfl⟩
 ·exact ⟨_, _, _, rfl⟩
def lst (s : ByteArray) : List Int := s.data.toList.map fun b => (b.toNat : Int)
theorem zF (s : ByteArray) : (lst s).length = s.size := by simp [lst]
theorem Ju (s : ByteArray) : Lib.strCells s = bv (lst s) := by simp [Lib.strCells, bv, lst]
theorem vS (w : World) (ty : TypeId) (v : Value) (l : List Int) (hown : Own w v l) (s : ByteArray) (hb : l.length + s.size ≤ 140737488355328) :
  ∃ v' w', (Builtin.append_ #[42, 9] ty #[v, .string s]).run Try.prog w = .ok v' w' ∧ AppPost w v (l ++ lst s) v' w' := by
 obtain ⟨i, hi, hzz⟩ := Option.map_eq_some_iff.1 zB
 simp only [Prod.mk.injEq] at hzz
 obtain ⟨hz, hsz, hby⟩ := hzz
 have h63 : l.length + s.size ≤ maxLen := by unfold maxLen; omega
 obtain ⟨v', w', hr, h1, h2, h3⟩ := Lib.run_append_own_string (P := Try.prog) w 0 42 9 ty 5 i Try.underlying42 Try.underlying9 hi hz hsz hby v l.length (bv l) hown s h63 hb (Nat.zero_le _)
 have hO : Own w' v' (l ++ lst s) := by unfold Own; rw [List.length_append, ve, zF, ← Ju]; exact h1
 refine ⟨v', w', hr, hO, ?_⟩
 rcases hown.form with ⟨rfl, rfl⟩ | ⟨g, cap, cur, rfl, hg, hnc, hcm, hcs, htake⟩
 ·by_cases h0 : s.size = 0
  ·have e := h3.2 ⟨rfl, h0⟩
   subst e
   exact .inl ⟨rfl, Grown.of h2 fun k _ e => e⟩
  ·have hr2 := run_append_nil_string (P := Try.prog) w 42 9 ty 5 i (.int .u8 0) Try.underlying42 Try.underlying9 hi hz s (by omega) (by omega) (by rw [hby]; omega)
   have e := hr.symm.trans hr2
   injection e with e1 e2
   subst e1
   exact .inr ⟨rfl, h2.os, h2.tape, h2.output, h2.size, fun k hk => h2.block k hk (by simp [Value.ownBlock])⟩
 ·by_cases hroom : l.length + s.size ≤ cap
  ·have hr2 := Lib.run_append_room_string (P := Try.prog) w 42 9 ty 5 i Try.underlying42 Try.underlying9 hi hsz g l.length cap cur hg s hroom (by omega)
   have e := hr.symm.trans hr2
   injection e with e1 e2
   subst e1
   exact .inl ⟨rfl, Grown.of h2 fun k _ e => e⟩
  ·have holds : ∀ j u, (bv l)[j]? = some u → w.cell? ((⟨g, 0, none⟩ : Addr).add j) = some u := World.ownsRow.cells (g := g) hown rfl
   have hr2 := Lib.run_append_grow_string (P := Try.prog) w 42 9 ty 5 i (.int .u8 0) Try.underlying42 Try.underlying9 hi hz ⟨g, 0, none⟩ l.length cap (bv l) (by rw [qY, hsz]; omega) holds s (by omega) (by omega) (by rw [hby]; exact growslice_fits (by omega) (by omega))
   have e := hr.symm.trans hr2
   injection e with e1 e2
   subst e1 e2
   exact .inr ⟨rfl, ⟨rfl, rfl, rfl, by simp, fun k hk => Below.heap_alloc w.drew _ k hk⟩⟩
theorem Ky {ops : Array Oper} {rest : List Oper} {o : Oper} {a : Act} {w : World} {Q : Exit → Act → World → Prop} (hgd : o.guard = none) (s x : Operand)
  (ho : o.op = .call { callee := .builtin .append, args := #[s, x], argTypes := #[42, 9] }) (v : Value) (l : List Int) (t : ByteArray)
  (hs : a.eval s = v) (hx : a.eval x = .string t) (hown : Own w v l) (hb : l.length + t.size ≤ 140737488355328)
  (h : ∀ v' w', AppPost w v (l ++ lst t) v' w' → wpList Try.prog ops Q rest (a.put o.dst v') w') : wpList Try.prog ops Q (o :: rest) a w := by
 refine wpList_plain hgd fun K hK => ?_
 obtain ⟨v', w', hr, h2⟩ := vS w o.type v l hown t hb
 unfold Oper.wp execOp
 simp only [ho, resolve, invoke, builtin, Sem.run_bind, Sem.run_pure, Result.andThen_ok, List.map_toArray, List.map_cons, List.map_nil, hs, hx, hr]
 exact hK _ _ (h v' w' h2)
def qb (n : Nat) (c : Nat → Int) : Array Value := Array.ofFn (n := n) fun i => .int .u8 (c i.val)
def upd (c : Nat → Int) (t : Nat) (v : Int) : Nat → Int := fun i => if i = t then v else c i
theorem qB (n : Nat) (c : Nat → Int) : (qb n c).size = n := by simp [qb]
theorem qN (n : Nat) (c : Nat → Int) (j : Nat) (h : j < n) : (qb n c)[j]? = some (.int .u8 (c j)) := by simp [qb, h]
theorem zZ (n : Nat) (c : Nat → Int) (j : Nat) (v : Int) : (qb n c).setIfInBounds j (.int .u8 v) = qb n (upd c j v) := by
 apply Array.ext_getElem?
 intro i
 rw [Array.getElem?_setIfInBounds]
 by_cases e : j = i
 ·subst e
  by_cases hj : j < n <;> simp [qb, upd, hj]
 ·by_cases hi : i < n <;> simp [qb, upd, hi, e, Ne.symm e]
theorem qi (n : Nat) (c : Nat → Int) : (qb n c).all (·.oneCell') = true := by
 rw [Array.all_eq_true_iff_forall_mem]; intro v hv; simp [qb] at hv; obtain ⟨i, rfl⟩ := hv; rfl
theorem qh (n : Nat) (c d : Nat → Int) : (qb n c).size = (qb n d).size := by rw [qB, qB]
theorem jd {n : Nat} {c d : Nat → Int} (h : ∀ i, i < n → c i = d i) : qb n c = qb n d := by
 apply Array.ext_getElem?
 intro i
 by_cases hi : i < n
 ·rw [qN _ _ _ hi, qN _ _ _ hi, h i hi]
 ·rw [Array.getElem?_eq_none (by rw [qB]; omega), Array.getElem?_eq_none (by rw [qB]; omega)]
def hl (n : Nat) (c : Nat → Int) : List Int := (List.range n).map c
theorem jm (n : Nat) (c : Nat → Int) : (hl n c).length = n := by simp [hl]
theorem QX (n : Nat) (c : Nat → Int) (i : Nat) (h : i < n) : (hl n c).getD i 0 = c i := by simp [hl, List.getD_eq_getElem?_getD, h]
theorem Xo : (Try.prog.info? 32).map (·.size) = some 32 := by kernel_rfl
theorem qd (c : Nat → Int) : (Try.prog.info? 32).map (·.size) = some (qb 32 c).size := by rw [qB]; exact Xo
theorem vk {P : Program} (w : World) (t : TypeId) (cs : Array Value) : (Instr.box t (.agg cs)).run P w = .ok (.pointer (some ⟨w.heap.size, 0, none⟩)) (w.alloc (.cells cs t)) := rfl
theorem zD {P : Program} {ops : Array Oper} {rest : List Oper} {o : Oper} {a : Act} {w : World} {Q : Exit → Act → World → Prop} (hg : o.guard = none) (t : TypeId) (x : Operand) (ho : o.op = .box t x)
  (cs : Array Value) (hx : a.eval x = .agg cs)
  (h : wpList P ops Q rest (a.put o.dst (.pointer (some ⟨w.heap.size, 0, none⟩))) (w.alloc (.cells cs t))) : wpList P ops Q (o :: rest) a w := by
 refine wpList_plain hg fun K hK => ?_
 unfold Oper.wp execOp
 simp only [ho, hx, Sem.run_bind, vk, Result.andThen_ok]
 exact hK _ _ h
theorem xR {w : World} {g : Nat} {T : TypeId} {n : Nat} {c : Nat → Int} (h : Blk w g T (qb n c)) : RowAt w (.slice (some ⟨g, 0, none⟩) n n) (hl n c) := by
 refine .inr (.inr ⟨g, 0, n, by rw [jm], by rw [jm]; exact Nat.le_refl _, fun i hi => ?_⟩)
 rw [jm] at hi
 rw [Nat.zero_add, h.cell, qN _ _ _ hi, QX _ _ _ hi]
theorem km (n : Nat) : madeCells #[.int .u8 0] n = qb n fun _ => 0 := by
 apply Array.ext_getElem?
 intro i
 by_cases h : i < n <;> simp [madeCells, qb, h, Nat.mod_one]
theorem Jh (l c : Nat) (hlc : l ≤ c) (hc : c ≤ 281474976710656) (w : World) : (Instr.makeSlice 42 (.int .i64 (l : Int)) (.int .i64 (c : Int))).run Try.prog w = .ok (.slice (some ⟨w.heap.size, 0, none⟩) l c) (w.alloc (.cells (qb c fun _ => 0) 5)) := by
 obtain ⟨i, hi, hzz⟩ := Option.map_eq_some_iff.1 zB
 simp only [Prod.mk.injEq] at hzz
 obtain ⟨hz, hs, hb⟩ := hzz
 have hr := run_make (P := Try.prog) w 42 5 i (.int .u8 0) Try.underlying42 hi hz .i64 .i64 (l : Int) (c : Int) (by omega) (by omega) (by rw [hb]; omega) (by omega)
 simp only [Int.toNat_natCast, hs, Nat.mul_one, Value.cells] at hr
 rw [km] at hr
 exact hr
theorem JK {ops : Array Oper} {rest : List Oper} {o : Oper} {a : Act} {w : World} {Q : Exit → Act → World → Prop} (hgd : o.guard = none) (x y : Operand) (ho : o.op = .makeSlice 42 x y) (l c : Nat) (hlc : l ≤ c) (hc : c ≤ 281474976710656)
  (hx : a.eval x = .int .i64 (l : Int)) (hy : a.eval y = .int .i64 (c : Int))
  (h : wpList Try.prog ops Q rest (a.put o.dst (.slice (some ⟨w.heap.size, 0, none⟩) l c)) (w.alloc (.cells (qb c fun _ => 0) 5))) : wpList Try.prog ops Q (o :: rest) a w := by
 refine wpList_plain hgd fun K hK => ?_
 have hrun := Jh l c hlc hc w
 unfold Oper.wp
 simp only [execOp, ho, hx, hy, Sem.run_bind, hrun, Result.andThen_ok]
 exact hK _ _ h
theorem Yg (w : World) (g cap : Nat) (v : Value) (m : List Int) (ty T : TypeId) (cur : Array Value) (hg : Blk w g T cur) (hs : cur.size = m.length) (hr : RowAt w v m) :
  (Builtin.copy_ #[42, 42] ty #[.slice (some ⟨g, 0, none⟩) m.length cap, v]).run Try.prog w = .ok (goInt m.length) (w.setRow g (bv m).toArray) := by
 have hst := run_storeCells_at Try.prog g 0 T (bv m) 0 cur w hg (by rw [qY]; omega) (vd m)
 have hcur : (cur.toList.take (0 + 0) ++ bv m ++ cur.toList.drop (0 + 0 + (bv m).length)).toArray = (bv m).toArray := by
  rw [qY, List.drop_of_length_le (by rw [Array.length_toList]; omega)]; simp
 rw [hcur] at hst
 obtain ⟨i, hi, hzz⟩ := Option.map_eq_some_iff.1 zB
 simp only [Prod.mk.injEq] at hzz
 obtain ⟨_, hsz, _⟩ := hzz
 rcases hr with ⟨rfl, rfl⟩ | ⟨ad, c, rfl, rfl⟩ | ⟨b, off, cap2, rfl, _, hc⟩
 ·simp only [bv, List.map_nil] at hst ⊢
  simp [Builtin.copy_, run_underlying Try.underlying42, Builtin.lenOf, Builtin.firstCells, sizeOf, typeInfo, hi, hst]
 ·simp only [bv, List.map_nil] at hst ⊢
  simp [Builtin.copy_, run_underlying Try.underlying42, Builtin.lenOf, Builtin.firstCells, sizeOf, typeInfo, hi, loadCells, loadCellsFrom, hst]
 ·have hl := run_loadCells_list (P := Try.prog) w ⟨b, off, none⟩ (bv m) (fun j v hv => by
   have hj : j < m.length := by have := (List.getElem?_eq_some_iff.1 hv).1; rwa [qY] at this
   rw [jP m j hj] at hv
   rw [Addr.add_mid, hc j hj]; exact hv)
  rw [qY] at hl
  simp [Builtin.copy_, run_underlying Try.underlying42, Builtin.lenOf, Builtin.firstCells, sizeOf, typeInfo, hi, hsz, hl, hst]
theorem kc (w : World) (l : List Int) (hb : l.length ≤ 140737488355328) : Own (w.alloc (.cells (bv l).toArray 5)) (.slice (some ⟨w.heap.size, 0, none⟩) l.length l.length) l :=
 Own.mk (Blk.new w 5 _) (Nat.le_refl _) (by unfold maxLen; omega) (by simp [qY]) (by simp [← qY])
theorem Own.box {w : World} {v : Value} {l : List Int} (h : Own w v l) (o : Obj) : Own (w.alloc o) v l := h.grown (Grown.alloc w o fun _ => False) fun _ _ h => h
theorem AppPost.box {w w' : World} {v v' : Value} {l : List Int} {o : Obj} (h : AppPost (w.alloc o) v l v' w') : Own w' v' l ∧ Moved w v v' ∧ Grown w w' fun k => v.ownBlock = some k :=
 ⟨h.1, (Moved.refl w v).trans (Grown.alloc w o fun _ => False).size h.moved, (Grown.alloc w o _).next h.grown fun _ _ h => h⟩
theorem qm (w : World) : (Instr.alloc 32 true (.tuple #[])).run Try.prog w = .ok (.pointer (some ⟨w.heap.size, 0, none⟩)) (w.alloc (.cells (qb 32 fun _ => 0) 32)) := by kernel_rfl
theorem zE {P : Program} {ops : Array Oper} {rest : List Oper} {o : Oper} {a : Act} {w : World} {Q : Exit → Act → World → Prop} (hg : o.guard = none) (t : TypeId) (parts : Array (Nat × Operand)) (ho : o.op = .build t parts)
  (cells : Array Value) (hf : P.built t (parts.map fun (i, x) => (i, a.eval x)).toList = some cells)
  (h : wpList P ops Q rest (a.put o.dst (.agg cells)) w) : wpList P ops Q (o :: rest) a w :=
 wpList_build hg t parts ho (by rw [hf]; rfl) (by rw [hf]; exact h)
theorem qM {P : Program} {ops : Array Oper} {rest : List Oper} {o : Oper} {a : Act} {w : World} {Q : Exit → Act → World → Prop} (hg : o.guard = none) (t : TypeId) (ho : o.op = .alloc t)
  (cells : Array Value) (hf : ∀ w : World, (Instr.alloc t true (.tuple #[])).run P w = .ok (.pointer (some ⟨w.heap.size, 0, none⟩)) (w.alloc (.cells cells t)))
  (h : wpList P ops Q rest (a.put o.dst (.pointer (some ⟨w.heap.size, 0, none⟩))) (w.alloc (.cells cells t))) : wpList P ops Q (o :: rest) a w := by
 refine wpList_plain hg fun K hK => ?_
 unfold Oper.wp execOp
 simp only [ho, Sem.run_bind, hf w, Result.andThen_ok]
 exact hK _ _ h
theorem jo (v : Value) (l : List Int) (w : World) (h : RowAt w v l) : (convert 42 9 v).run Try.prog w = .ok (.string (strOfNums l)) w := by
 rcases h with ⟨rfl, rfl⟩ | ⟨a, c, rfl, rfl⟩ | ⟨b, off, cap, rfl, _, hc⟩
 ·rw [run_convert_bytes_nil (P := Try.prog) w 42 5 Try.underlying42 Try.underlying5 0 0 9 Try.underlying9]; rfl
 ·rw [run_convert_bytes_string (P := Try.prog) w 42 9 5 _ 0 c Try.underlying42 Try.underlying5 Try.underlying9]
  simp [Conv.bytesToString, loadCells, loadCellsFrom, strOfNums]
  rfl
 ·exact run_convert_bytes_arg (P := Try.prog) w 42 5 Try.underlying42 Try.underlying5 b off l.length cap l rfl hc 9 Try.underlying9
theorem Jy {w : World} {v : Value} {B : Nat} (ho : ∃ k, v.ownBlock = some k ∧ B ≤ k) (hB : B ≤ w.heap.size) {w' : World} {v' : Value} {m : List Int} (hp : AppPost w v m v' w') : (∃ k, v'.ownBlock = some k ∧ B ≤ k) ∧ Below B w w' := by
 obtain ⟨k, hk, hBk⟩ := ho
 rcases hp.2 with ⟨h1, h2⟩ | ⟨h1, h2⟩
 ·exact ⟨⟨k, by rw [h1, hk], hBk⟩, h2.to_below (fun i hi e => by rw [hk] at e; injection e with e; omega) hB⟩
 ·exact ⟨⟨_, h1, hB⟩, h2.mono hB⟩
def Typ (w : World) (k : Nat) (T : TypeId) : Prop := ∃ cs fz, w.heap[k]? = some (.cells cs T fz)
theorem Blk.typ {w : World} {k : Nat} {T : TypeId} {cs : Array Value} (h : Blk w k T cs) : Typ w k T := ⟨cs, _, h⟩
theorem Typ.lt {w : World} {k : Nat} {T : TypeId} (h : Typ w k T) : k < w.heap.size := by
 obtain ⟨cs, fz, h⟩ := h
 exact (Array.getElem?_eq_some_iff.1 h).1
theorem Typ.one {w : World} {k : Nat} {T T' : TypeId} (h : Typ w k T) (h' : Typ w k T') : T = T' := by
 obtain ⟨cs, fz, h⟩ := h
 obtain ⟨cs', fz', h'⟩ := h'
 rw [h] at h'; simp at h'; exact h'.2.1
theorem Typ.ne {w : World} {k k' : Nat} {T T' : TypeId} (h : Typ w k T) (h' : Typ w k' T') (ht : T ≠ T') : k ≠ k' := by
 rintro rfl; exact ht (h.one h')
theorem Grown.typ {a b : World} {S : Nat → Prop} (h : Grown a b S) {k : Nat} {T : TypeId} (hk : Typ a k T) (hs : ¬ S k) : Typ b k T := by
 have hlt := hk.lt
 obtain ⟨cs, fz, h1⟩ := hk
 exact ⟨cs, fz, by rw [h.block k hlt hs]; exact h1⟩
theorem Own.typ {w : World} {v : Value} {l : List Int} (h : Own w v l) {k : Nat} (hk : v.ownBlock = some k) : Typ w k 5 := by
 rcases h.2 with ⟨rfl, _⟩ | ⟨g, cap, cur, rfl, _, h3, _⟩
 ·simp [Value.ownBlock] at hk
 ·simp [Value.ownBlock] at hk
  subst hk
  exact ⟨cur, _, h3⟩
def OwnT (w : World) (v : Value) (l : List Int) : Prop :=
 (v = .slice none 0 0 ∧ l = []) ∨ ∃ g cap cur fz, v = .slice (some ⟨g, 0, none⟩) l.length cap ∧ w.heap[g]? = some (.cells cur 5 fz) ∧ (fz = (0, 0) ∨ cap ≤ fz.1) ∧ l.length ≤ cap ∧ cap ≤ maxLen ∧ cur.size = cap ∧ cur.toList.take l.length = bv l
theorem Own.tail {w : World} {v : Value} {l : List Int} (h : Own w v l) : OwnT w v l := by
 rcases h.form with h | ⟨g, cap, cur, rfl, hb, h3, h4, h5, h6⟩
 ·exact .inl h
 ·exact .inr ⟨g, cap, cur, _, rfl, hb, .inl rfl, h3, h4, h5, h6⟩
theorem OwnT.typ {w : World} {v : Value} {l : List Int} (h : OwnT w v l) {k : Nat} (hk : v.ownBlock = some k) : Typ w k 5 := by
 rcases h with ⟨rfl, _⟩ | ⟨g, cap, cur, fz, rfl, h3, _⟩
 ·simp [Value.ownBlock] at hk
 ·simp [Value.ownBlock] at hk
  subst hk
  exact ⟨cur, _, h3⟩
theorem OwnT.lt {w : World} {v : Value} {l : List Int} (h : OwnT w v l) : ∀ k, v.ownBlock = some k → k < w.heap.size := fun _ hk => (h.typ hk).lt
theorem OwnT.ne {w : World} {v : Value} {l : List Int} {p : Nat} {T : TypeId} {cs : Array Value} (h : OwnT w v l) (hp : Blk w p T cs) (hT : T ≠ 5) : v.ownBlock ≠ some p := fun e => hT (hp.typ.one (h.typ e))
theorem OwnT.grown {w w' : World} {v : Value} {l : List Int} {S : Nat → Prop} (h : OwnT w v l) (hg : Grown w w' S) (hs : ∀ k, v.ownBlock = some k → ¬ S k) : OwnT w' v l := by
 rcases h with h1 | ⟨g, cap, cur, fz, rfl, h3, h4⟩
 ·exact .inl h1
 ·exact .inr ⟨g, cap, cur, fz, rfl, by rw [hg.block g (Array.getElem?_eq_some_iff.1 h3).1 (hs g rfl)]; exact h3, h4⟩
theorem OwnT.box {w : World} {v : Value} {l : List Int} (h : OwnT w v l) (o : Obj) : OwnT (w.alloc o) v l := h.grown (Grown.alloc w o fun _ => False) fun _ _ h => h
theorem KB {cur : Array Value} {l : List Int} {n : Nat} (h : cur.toList.take n = bv l) (hl : l.length = n) (t : Nat) (ht : t < n) : cur[t]? = some (.int .u8 (l.getD t 0)) := by
 have h1 := jP l t (by omega)
 rw [← h, List.getElem?_take, if_pos ht] at h1
 simpa using h1
theorem OwnT.cells {w : World} {g n cap : Nat} {l : List Int} (h : OwnT w (.slice (some ⟨g, 0, none⟩) n cap) l) (t : Nat) (ht : t < l.length) : w.cell? ⟨g, t, none⟩ = some (.int .u8 (l.getD t 0)) ∧ w.frozen? ⟨g, t, none⟩ = false := by
 rcases h with ⟨e, _⟩ | ⟨g', cap', cur, fz, e, hb, hf, h3, h4, h5, h6⟩
 ·cases e
 ·injection e with e1 e2 e3
  injection e1 with e1
  injection e1 with e1
  subst e1 e2 e3
  refine ⟨by rw [cell_of_row w g t cur 5 fz hb]; exact KB h6 rfl t ht, ?_⟩
  rcases hf with rfl | hf
  ·simp [World.frozen?, hb]
  ·simp only [World.frozen?, hb]
   simp
   omega
theorem OwnT.row {w : World} {v : Value} {l : List Int} (h : OwnT w v l) : RowAt w v l := by
 have h' := h
 rcases h with h1 | ⟨g, cap, cur, fz, rfl, hb, hf, h3, h4, h5, h6⟩
 ·exact .inl h1
 ·exact .inr (.inr ⟨g, 0, cap, rfl, h3, fun i hi => by rw [Nat.zero_add]; exact (h'.cells i hi).1⟩)
theorem OwnT.sl {w : World} {v : Value} {l : List Int} (h : OwnT w v l) : ∃ a n c, v = .slice a n c := by
 rcases h with ⟨rfl, _⟩ | ⟨g, cap, cur, fz, rfl, _⟩
 ·exact ⟨_, _, _, rfl⟩
 ·exact ⟨_, _, _, rfl⟩
theorem OwnT.addr {w : World} {va : Option Addr} {n vc : Nat} {l : List Int} (h : OwnT w (.slice va n vc) l) (h0 : 0 < l.length) : ∃ g, va = some ⟨g, 0, none⟩ := by
 rcases h with ⟨_, e⟩ | ⟨g, cap, cur, fz, e, _⟩
 ·subst e; simp at h0
 ·injection e with e1 _ _
  exact ⟨g, e1⟩
theorem GN (l : List Int) (t : Nat) (c : Int) : (bv l).set t (.int .u8 c) = bv (l.set t c) := by simp [bv, List.map_set]
theorem OwnT.set {w : World} {g n cap : Nat} {l : List Int} (h : OwnT w (.slice (some ⟨g, 0, none⟩) n cap) l) (t : Nat) (c : Int) : OwnT (w.setCell ⟨g, t, none⟩ (.int .u8 c)) (.slice (some ⟨g, 0, none⟩) n cap) (l.set t c) := by
 rcases h with ⟨e, _⟩ | ⟨g', cap', cur, fz, e, hb, hf, h3, h4, h5, h6⟩
 ·cases e
 ·injection e with e1 e2 e3
  injection e1 with e1
  injection e1 with e1
  subst e1 e2 e3
  refine .inr ⟨g, cap, cur.setIfInBounds t (.int .u8 c), fz, by rw [List.length_set], ?_, hf, by rw [List.length_set]; exact h3, h4, by simp [h5], ?_⟩
  ·rw [setCell_eq_setRow w g t cur 5 fz _ hb]; exact setRow_heap w g cur _ 5 fz hb
  ·rw [Array.toList_setIfInBounds, List.length_set, List.take_set, h6, GN]
theorem OwnT.plain {w : World} {va : Option Addr} {n vc : Nat} {l : List Int} (h : OwnT w (.slice va n vc) l) : (∀ a, va = some a → a.off = 0 ∧ a.spot = none) ∧ (va = none → n = 0 ∧ vc = 0) ∧ n ≤ vc ∧ n = l.length := by
 rcases h with ⟨e, e2⟩ | ⟨g, cap, cur, fz, e, hb, _, h3, _⟩
 ·injection e with e1 e2 e3
  subst e1 e2 e3
  subst e2
  exact ⟨fun a ha => by simp at ha, fun _ => ⟨rfl, rfl⟩, by omega, rfl⟩
 ·injection e with e1 e2 e3
  subst e1 e2 e3
  exact ⟨fun a ha => by simp at ha; subst ha; exact ⟨rfl, rfl⟩, fun h => by simp at h, h3, rfl⟩
def AppPostT (w : World) (v : Value) (l : List Int) (v' : Value) (w' : World) : Prop :=
 OwnT w' v' l ∧ ((v'.ownBlock = v.ownBlock ∧ Grown w w' fun k => v.ownBlock = some k) ∨ (v'.ownBlock = some w.heap.size ∧ Below w.heap.size w w'))
theorem AppPostT.grown {w w' : World} {v v' : Value} {l : List Int} (h : AppPostT w v l v' w') : Grown w w' fun k => v.ownBlock = some k := by
 rcases h.2 with h | h
 ·exact h.2
 ·exact Grown.below h.2
theorem AppPost.tail {w w' : World} {v v' : Value} {l : List Int} (h : AppPost w v l v' w') : AppPostT w v l v' w' := ⟨h.1.tail, h.2⟩
theorem kM (L : List Value) (n : Nat) (x : Value) (h : n < L.length) : (L.set n x).take (n + 1) = L.take n ++ [x] := by
 rw [List.take_succ_eq_append_getElem (by rw [List.length_set]; exact h), List.getElem_set_self]
 congr 1
 rw [List.take_set]
 exact List.set_eq_of_length_le (by simp; omega)
theorem KG (w : World) (ty : TypeId) (v : Value) (l : List Int) (hown : OwnT w v l) (g1 : Nat) (m : Int) (hc : w.cell? ⟨g1, 0, none⟩ = some (.int .u8 m)) (hb : l.length + 1 ≤ 140737488355328) :
  ∃ v' w', (Builtin.append_ #[42, 42] ty #[v, .slice (some ⟨g1, 0, none⟩) 1 1]).run Try.prog w = .ok v' w' ∧ AppPostT w v (l ++ [m]) v' w' := by
 obtain ⟨i, hi, hzz⟩ := Option.map_eq_some_iff.1 zB
 simp only [Prod.mk.injEq] at hzz
 obtain ⟨hz, hsz, hby⟩ := hzz
 have hnews : ∀ j u, (bv [m])[j]? = some u → w.cell? ((⟨g1, 0, none⟩ : Addr).add j) = some u := fun j u hu => by
  cases j with
  | zero => simp [bv] at hu; subst hu; exact hc
  | succ j => simp [bv] at hu
 rcases hown with ⟨rfl, rfl⟩ | ⟨g, cap, cur, fz, rfl, hg, hf, hnc, hcm, hcs, htake⟩
 ·obtain ⟨v', w', hr, hp⟩ := jN w ty (.slice none 0 0) [] (ju w) ⟨g1, 0, none⟩ 1 [m] hnews (by simp)
  exact ⟨v', w', hr, hp.tail⟩
 ·by_cases hroom : l.length + 1 ≤ cap
  ·have hcell : (w.cell? ⟨g, l.length, none⟩).isSome = true := by
    rw [cell_of_row w g l.length cur 5 fz hg, Array.getElem?_eq_getElem (by omega)]; rfl
   have hfr : w.frozen? ⟨g, l.length, none⟩ = false := by
    rcases hf with rfl | hf
    ·simp [World.frozen?, hg]
    ·simp only [World.frozen?, hg]
     simp
     omega
   have hr := run_append_room_cells (P := Try.prog) w 42 ty 5 i Try.underlying42 hi g 0 l.length cap ⟨g1, 0, none⟩ 1 1 (bv [m]) (by rw [qY, hsz]; rfl) hnews (vd _) hroom
    (fun j hj => by
     have e : j = 0 := by rw [qY] at hj; simpa using hj
     subst e; rw [hsz]; simpa using hcell)
    (fun j hj => by
     have e : j = 0 := by rw [qY] at hj; simpa using hj
     subst e; rw [hsz]; simpa using hfr)
   have e : w.setCells g (0 + l.length * i.size) (bv [m]) = w.setCell ⟨g, l.length, none⟩ (.int .u8 m) := by
    rw [hsz, Nat.mul_one, Nat.zero_add]; rfl
   rw [e] at hr
   refine ⟨_, _, hr, .inr ⟨g, cap, cur.setIfInBounds l.length (.int .u8 m), fz, by simp, ?_, hf, by simpa using hroom, hcm, by simp [hcs], ?_⟩, .inl ⟨rfl, Grown.setCell w g _ _ fun _ => rfl⟩⟩
   ·rw [setCell_eq_setRow w g l.length cur 5 fz _ hg]; exact setRow_heap w g cur _ 5 fz hg
   ·have hlt9 : l.length < cur.toList.length := by simp; omega
    rw [Array.toList_setIfInBounds, List.length_append, List.length_singleton, ve, ← htake, kM cur.toList l.length (.int .u8 m) hlt9]
    rfl
  ·have holds : ∀ j u, (bv l)[j]? = some u → w.cell? ((⟨g, 0, none⟩ : Addr).add j) = some u := fun j u hu => by
    have hj : j < l.length := by have := (List.getElem?_eq_some_iff.1 hu).1; rwa [qY] at this
    rw [jP l j hj] at hu
    rw [Addr.add_mid, Nat.zero_add, cell_of_row w g j cur 5 fz hg, KB htake rfl j hj]; exact hu
   obtain ⟨v', w', hr, h1, h2⟩ := run_append_arg_grows (P := Try.prog) w 42 ty 5 i (.int .u8 0) 1 1 Try.underlying42 hi hz hsz hby rfl (by omega) ⟨g, 0, none⟩ l.length cap (bv l) (by rw [qY]; omega) holds ⟨g1, 0, none⟩ 1 1 (bv [m]) (by rw [qY]; rfl) hnews (by omega) (by unfold maxLen; omega) (by omega)
   have hr2 := run_append_grow (P := Try.prog) w 42 ty 5 i (.int .u8 0) Try.underlying42 hi hz ⟨g, 0, none⟩ l.length cap (bv l) (by rw [qY, hsz]; omega) holds ⟨g1, 0, none⟩ 1 1 (bv [m]) (by rw [qY, hsz]; rfl) hnews (by omega) (by omega) (by rw [hby]; exact growslice_fits (by omega) (by omega))
   have e := hr.symm.trans hr2
   injection e with e1 e2
   have hO : Own w' v' (l ++ [m]) := by
    refine ⟨by rw [qY]; omega, ?_⟩
    rcases h1.2 with ⟨_, h0⟩ | ⟨g', cap', cur', e', _, hb', h3', h4', h5', h6'⟩
    ·omega
    ·refine .inr ⟨g', cap', cur', by rw [List.length_append]; exact e', Nat.zero_le _, hb', by rw [List.length_append]; exact h3', h4', h5', ?_⟩
     rw [List.length_append, ve]; exact h6'
   refine ⟨v', w', hr, hO.tail, .inr ⟨by rw [e1]; rfl, h2.os, h2.tape, h2.output, h2.size, fun k hk => h2.block k hk (by simp)⟩⟩
theorem xv {ops : Array Oper} {rest : List Oper} {o : Oper} {a : Act} {w : World} {Q : Exit → Act → World → Prop} (hgd : o.guard = none) (s x : Operand)
  (ho : o.op = .call { callee := .builtin .append, args := #[s, x], argTypes := #[42, 42] }) (v : Value) (l : List Int) (g1 : Nat) (m : Int)
  (hs : a.eval s = v) (hx : a.eval x = .slice (some ⟨g1, 0, none⟩) 1 1) (hown : OwnT w v l) (hc : w.cell? ⟨g1, 0, none⟩ = some (.int .u8 m)) (hb : l.length + 1 ≤ 140737488355328)
  (h : ∀ v' w', AppPostT w v (l ++ [m]) v' w' → wpList Try.prog ops Q rest (a.put o.dst v') w') : wpList Try.prog ops Q (o :: rest) a w := by
 refine wpList_plain hgd fun K hK => ?_
 obtain ⟨v', w', hr, h2⟩ := KG w o.type v l hown g1 m hc hb
 unfold Oper.wp execOp
 simp only [ho, resolve, invoke, builtin, Sem.run_bind, Sem.run_pure, Result.andThen_ok, List.map_toArray, List.map_cons, List.map_nil, hs, hx, hr]
 exact hK _ _ (h v' w' h2)
theorem ku (w : World) (x : Value) (t : TypeId) : (w.alloc (.cells #[x] t)).cell? ⟨w.heap.size, 0, none⟩ = some x := by rw [(Blk.new w t #[x]).cell]; rfl
theorem Xi (w : World) (s : ByteArray) (hb : s.size ≤ 140737488355328) : ∃ v w', (convert 9 42 (.string s)).run Try.prog w = .ok v w' ∧ OwnT w' v (lst s) ∧ v.ownBlock = some w.heap.size ∧ Below w.heap.size w w' := by
 have hr := Lib.run_convert_string_bytes (P := Try.prog) w 9 42 5 s Try.underlying9 Try.underlying42 Try.underlying5
 refine ⟨_, _, hr, ?_, rfl, ⟨rfl, rfl, rfl, ?_, fun k hk => Lib.bytesWorld_at_old w 5 s k hk⟩⟩
 ·have hge := grownCap_ge w s.size 0 5
  have hcs : (Lib.bytesCells w 5 s).size = grownCap w s.size 0 5 := by
   have : s.data.size = s.size := rfl
   simp [Lib.bytesCells]; omega
  refine .inr ⟨w.heap.size, grownCap w s.size 0 5, _, _, by rw [zF], Lib.bytesWorld_at_new w 5 s, .inr (by rw [hcs]; exact Nat.le_refl _), by rw [zF]; exact hge, grownCap_le_maxLen w _ _ _ (by unfold maxLen; omega), hcs, ?_⟩
  rw [zF, ← Ju]
  simp only [Lib.bytesCells, Array.toList_append, Lib.strCells]
  rw [List.take_append_of_le_length (by simp), List.take_of_length_le (by simp)]
  simp
 ·rw [Lib.bytesWorld_size]; omega
theorem Xq : (Try.prog.info? 42).map (fun i => (i.zero, i.size, i.bytes)) = some (some (.slice none 0 0), 1, 24) := by kernel_rfl
def OwnV (w : World) (v : Value) (xs : List Value) : Prop := w.ownsRow 0 42 1 v xs.length xs
theorem KO (w : World) : OwnV w (.slice none 0 0) [] := ⟨rfl, .inl ⟨rfl, rfl⟩⟩
theorem OwnV.lt {w : World} {v : Value} {xs : List Value} (h : OwnV w v xs) : ∀ k, v.ownBlock = some k → k < w.heap.size := fun k hk => (World.ownsRow.lt h k hk).2
theorem OwnV.grown {w w' : World} {v : Value} {xs : List Value} {S : Nat → Prop} (h : OwnV w v xs) (hg : Grown w w' S) (hs : ∀ k, v.ownBlock = some k → ¬ S k) : OwnV w' v xs := by
 refine ⟨h.1, ?_⟩
 rcases h.2 with h1 | ⟨g, cap, cur, rfl, h2, h3, h4⟩
 ·exact .inl h1
 ·exact .inr ⟨g, cap, cur, rfl, h2, hg.blk h3 (hs g rfl), h4⟩
theorem OwnV.ne {w : World} {v : Value} {xs : List Value} {p : Nat} {T : TypeId} {cs : Array Value} (h : OwnV w v xs) (hp : Blk w p T cs) (hT : T ≠ 42) : v.ownBlock ≠ some p := by
 intro e
 rcases h.2 with ⟨rfl, _⟩ | ⟨g, cap, cur, rfl, _, h3, _⟩
 ·simp [Value.ownBlock] at e
 ·simp [Value.ownBlock] at e
  subst e
  exact hT (jX hp h3)
theorem OwnV.sl {w : World} {v : Value} {xs : List Value} (h : OwnV w v xs) : ∃ a c, v = .slice a xs.length c := by
 rcases h.2 with ⟨rfl, h0⟩ | ⟨g, cap, cur, rfl, _⟩
 ·exact ⟨none, 0, by rw [h0]⟩
 ·exact ⟨_, _, rfl⟩
theorem OwnV.at {w : World} {v : Value} {xs : List Value} (h : OwnV w v xs) (i : Nat) (hi : i < xs.length) : ∃ g c, v = .slice (some ⟨g, 0, none⟩) xs.length c ∧ w.cell? ⟨g, i, none⟩ = xs[i]? := by
 rcases h.2 with ⟨rfl, h0⟩ | ⟨g, cap, cur, rfl, _⟩
 ·omega
 ·exact ⟨g, cap, rfl, World.ownsRow.cellAt h i (by omega)⟩
theorem ja {ops : Array Oper} {rest : List Oper} {o : Oper} {a : Act} {w : World} {Q : Exit → Act → World → Prop} (hgd : o.guard = none) (s x : Operand)
  (ho : o.op = .call { callee := .builtin .append, args := #[s, x], argTypes := #[48, 48] }) (v u : Value) (xs : List Value) (g : Nat) (hu : u.oneCell' = true)
  (hs : a.eval s = v) (hx : a.eval x = .slice (some ⟨g, 0, none⟩) 1 1) (hown : OwnV w v xs) (hc : w.cell? ⟨g, 0, none⟩ = some u) (hb : xs.length + 1 ≤ 4398046511104)
  (h : ∀ v' w', OwnV w' v' (xs ++ [u]) → Moved w v v' → (Grown w w' fun k => v.ownBlock = some k) → wpList Try.prog ops Q rest (a.put o.dst v') w') : wpList Try.prog ops Q (o :: rest) a w := by
 obtain ⟨i, hi, hzz⟩ := Option.map_eq_some_iff.1 Xq
 simp only [Prod.mk.injEq] at hzz
 obtain ⟨hz, hsz, hby⟩ := hzz
 refine wpList_append_own_at w hgd s x 48 ho 0 42 i (.slice none 0 0) 1 24 Try.underlying48 hi hz hsz hby rfl (by omega) v xs.length xs hs hown ⟨g, 0, none⟩ 1 1 [u] hx rfl
  (fun j y hy => by
   cases j with
   | zero => simp at hy; subst hy; exact hc
   | succ j => simp at hy)
  (fun y hy => by simp at hy; subst hy; exact hu) (by unfold maxLen; omega) (by omega) (Nat.zero_le _) ?_
 intro v' w' h1 h2 _ h4
 refine h v' w' ?_ ?_ (Grown.of h2 fun k _ e => e)
 ·unfold OwnV; rw [List.length_append]; exact h1
 ·rcases h4 with h4 | h4
  ·exact .inl h4
  ·exact .inr ⟨_, h4, Nat.le_refl _⟩
def QF {α : Type} (f : Nat → α) (k : Nat) (x : α) : Nat → α := fun i => if i = k then x else f i
theorem ji {α : Type} (f : Nat → α) (k : Nat) (x : α) : QF f k x k = x := by simp [QF]
theorem xi {α : Type} (f : Nat → α) {k i : Nat} (x : α) (h : i ≠ k) : QF f k x i = f i := by simp [QF, h]
theorem Jo {α : Type} (f : Nat → α) (N : Nat) (x : α) : (List.range (N + 1)).map (QF f N x) = (List.range N).map f ++ [x] := by
 rw [List.range_succ, List.map_append]
 congr 1
 ·apply List.map_congr_left
  intro i hi
  rw [xi]
  have := List.mem_range.1 hi
  omega
 ·simp [ji]
theorem OwnV.sl3 {w : World} {v : Value} {xs : List Value} (h : OwnV w v xs) : ∃ a n c, v = .slice a n c := by
 obtain ⟨a, c, e⟩ := h.sl
 exact ⟨a, _, c, e⟩
theorem OwnV.typ {w : World} {v : Value} {xs : List Value} (h : OwnV w v xs) {k : Nat} (hk : v.ownBlock = some k) : Typ w k 42 := by
 rcases h.2 with ⟨rfl, _⟩ | ⟨g, cap, cur, rfl, _, h3, _⟩
 ·simp [Value.ownBlock] at hk
 ·simp [Value.ownBlock] at hk
  subst hk
  exact ⟨cur, _, h3⟩
theorem qp {P : Program} {fn : Func} {p u : Tmp} {ty : TypeId} (h : fn.results = #[.cell p ty, .tmp u]) (tmps : Array Value) (w : World) (g : Nat) (t : TypeId) (cs : Array Value) (fr : Nat × Nat) (d : TypeDesc) (y : Value)
  (hp : tmps.getD p undef = .pointer (some ⟨g, 0, none⟩)) (hy : tmps.getD u undef = y) (hg : w.heap[g]? = some (.cells cs t fr))
  (hu : P.underlying ty = some d) (hd : (match d with | .struct _ | .array _ _ => true | _ => false) = true) (hi : (P.info? ty).map (·.size) = some cs.size) :
  (results fn tmps).run P w = .ok (.tuple #[.agg cs, y]) w := by
 rw [results_cell_tmp h, hp, hy]
 simp [asAddr, Result.andThen, run_loadVar_row w g t ty cs fr d hg hu hd hi]
theorem kD (w : World) : (isAgg 5).run Try.prog w = .ok false w := by kernel_rfl
theorem kI : Try.prog.cellsOf 5 = 1 := by kernel_rfl
theorem vf : (Try.prog.info? 5).map (·.size) = some 1 := by kernel_rfl
theorem yR (c : Nat → Int) (i : Nat) (hi : i < 32) (w : World) : (part 5 (qb 32 c) i).run Try.prog w = .ok (.int .u8 (c i)) w := by
 unfold part
 rw [Sem.run_bind, kD]
 simp [Result.andThen, qN 32 c i hi]
theorem Ji (c : Nat → Int) (d : Nat) (w : World) : ∀ is : List Nat, (∀ i ∈ is, i < 32) → (Op.eqItems (d + 1) 5 1 (qb 32 c) (qb 32 c) is).run Try.prog w = .ok true w
 | [], _ => by simp [Op.eqItems]
 | i :: is, h => by
  have hi := h i (by simp)
  have ih := Ji c d w is (fun j hj => h j (by simp [hj]))
  simp only [Op.eqItems, Sem.run_bind, Nat.mul_one, yR c i hi, Result.andThen_ok]
  rw [run_equalIn_int (P := Try.prog) (w := w) d 5 .u8 .u8 (c i) (c i) Try.underlying5]
  simp [Result.andThen_ok, ih]
theorem Jj {P : Program} (a : Act) (o : Oper) (f : FuncId) (args : Array Operand) (ts : Array TypeId) (ho : o.op = .call { callee := .value (.func f), args := args, argTypes := ts })
  (hf : ∀ (w : World) (vs : Array Value), (callFunc f vs).run P w = .ok (.enter f vs) w) (w : World) :
  (execOp a.eval o).run P w = .ok (.enter f (args.map a.eval)) w := by
 unfold execOp
 simp only [ho]
 simp [resolve, Act.eval, go_sem]
 exact hf w _
theorem qz {P : Program} {Q : Exit → Act → World → Prop} {o : Oper} {a : Act} {w : World} {K : Act → World → Prop} (f : FuncId) (args : Array Operand) (ts : Array TypeId) (ho : o.op = .call { callee := .value (.func f), args := args, argTypes := ts })
  (hf : ∀ (w : World) (vs : Array Value), (callFunc f vs).run P w = .ok (.enter f vs) w)
  (vs : Array Value) (hvs : args.map a.eval = vs)
  (R : Value → World → Prop) (hc : Calls P f vs w fun e w' => ∃ v, e = .returned v ∧ R v w')
  (h : ∀ v w', R v w' → K (a.put o.dst v) w') : o.wp P a w K Q := by
 unfold Oper.wp
 rw [Jj a o f args ts ho hf w, Oper.upon_enter, hvs]
 refine hc.mono ?_
 rintro e w' ⟨v, rfl, hr⟩
 exact h v w' hr
theorem ql {w : World} {b : Nat} {T : TypeId} {cs : Array Value} (h : Blk w b T cs) : w.rangeAt b 0 cs.toList := fun j v hv => by
 rw [Nat.zero_add, h.cell]; simpa using hv
theorem zq {P : Program} {Q : Exit → Act → World → Prop} {o : Oper} {a : Act} {w : World} {K : Act → World → Prop} (v : Value) (hrun : (execOp a.eval o).run P w = .ok (.value v) w) (h : K (a.put o.dst v) w) : o.wp P a w K Q := by
 unfold Oper.wp
 rw [hrun]
 exact h
theorem xI (w : World) : (sizeOf 5).run Try.prog w = .ok 1 w := by kernel_rfl
theorem xq {P : Program} {ops : Array Oper} {S : World → Prop} {op : Oper} {a : Act} (hw : Region.wanted op (yielded ops a.tmps) = true) (t : TypeId) (x hi : Operand) (ho : op.op = .slice t x none (some hi) none)
  (vx vh vs : Value) (hx : a.eval x = vx) (hh : a.eval hi = vh) (hr : ∀ w : World, (Instr.sliceAt t vx none (some vh) none).run P w = .ok vs w) : YieldsIf P ops S op vs a :=
 .inl ⟨hw, fun w _ => by
  unfold execOp
  simp only [ho, hx, hh, Option.map_some, Option.map_none, Sem.run_bind, hr w, Result.andThen_ok, Sem.run_pure]⟩
theorem Yv (w : World) (g : Nat) (h : Blk w g 5 #[]) : Own w (.slice (some ⟨g, 0, none⟩) 0 0) [] := Own.mk (l := []) h (Nat.le_refl _) (Nat.zero_le _) rfl (by simp [bv])
theorem Zj {Q : Exit → Act → World → Prop} {o : Oper} {a : Act} {w : World} {K : Act → World → Prop} (s x : Operand)
  (ho : o.op = .call { callee := .builtin .append, args := #[s, x], argTypes := #[42, 42] }) (v vx : Value) (l m : List Int)
  (hs : a.eval s = v) (hx : a.eval x = vx) (hown : Own w v l) (hrow : RowAt w vx m) (hb : l.length + m.length ≤ 140737488355328)
  (h : ∀ v' w', AppPost w v (l ++ m) v' w' → K (a.put o.dst v') w') : o.wp Try.prog a w K Q := by
 obtain ⟨v', w', hr, h2⟩ := xx w o.type v vx l m hown hrow hb
 unfold Oper.wp execOp
 simp only [ho, resolve, invoke, builtin, Sem.run_bind, Sem.run_pure, Result.andThen_ok, List.map_toArray, List.map_cons, List.map_nil, hs, hx, hr]
 exact h v' w' h2
theorem qC {P : Program} {ops : Array Oper} {rest : List Oper} {o : Oper} {a : Act} {w : World} {Q : Exit → Act → World → Prop} (hw : Region.wanted o (yielded ops a.tmps) = true)
  (h : ∀ K : Act → World → Prop, (∀ a w, wpList P ops Q rest a w → K a w) → o.wp P a w K Q) : wpList P ops Q (o :: rest) a w :=
 wpList_step fun K hK => by rw [if_pos hw]; exact h K hK
theorem jZ {P : Program} {o : Oper} {a : Act} {w : World} {K : Act → World → Prop} {Q : Exit → Act → World → Prop} (t : TypeId) (parts : Array (Nat × Operand)) (ho : o.op = .build t parts)
  (cells : Array Value) (hf : P.built t (parts.map fun (i, x) => (i, a.eval x)).toList = some cells) (h : K (a.put o.dst (.agg cells)) w) : o.wp P a w K Q :=
 wp_build t parts ho (by rw [hf]; rfl) (by rw [hf]; exact h)
structure WL (P : Program) (ops : Array Oper) (Q : Exit → Act → World → Prop) (l : List Oper) (a : Act) (w : World) : Prop where
 out : wpList P ops Q l a w
theorem WL.skip {P : Program} {ops : Array Oper} {rest : List Oper} {o : Oper} {a : Act} {w : World} {Q : Exit → Act → World → Prop} (hw : Region.wanted o (yielded ops a.tmps) = false)
  (h : WL P ops Q rest (a.put o.dst undef) w) : WL P ops Q (o :: rest) a w :=
 ⟨wpList_step fun K hK => by rw [if_neg (by rw [hw]; simp)]; exact hK _ _ h.out⟩
theorem WL.val {P : Program} {ops : Array Oper} {rest : List Oper} {o : Oper} {a : Act} {w : World} {Q : Exit → Act → World → Prop} (hw : Region.wanted o (yielded ops a.tmps) = true) (v : Value)
  (hrun : (execOp a.eval o).run P w = .ok (.value v) w) (h : WL P ops Q rest (a.put o.dst v) w) : WL P ops Q (o :: rest) a w :=
 ⟨qC hw fun _ hK => zq v hrun (hK _ _ h.out)⟩
theorem WL.nil {P : Program} {ops : Array Oper} {a : Act} {w : World} {Q : Exit → Act → World → Prop} (h : Q .normal a w) : WL P ops Q [] a w := ⟨h⟩
theorem pqA {α : Type} (l : List α) (i : Nat) (a : α) : l.toArray.setIfInBounds i a = (l.set i a).toArray := List.setIfInBounds_toArray ..
theorem pqB {α : Type} (a b : α) (l : List α) : (a :: l).set 0 b = b :: l := List.set_cons_zero ..
theorem pqC {α : Type} (a b : α) (l : List α) (n : Nat) : (a :: l).set (n + 1) b = a :: l.set n b := List.set_cons_succ ..
theorem VlS {P : Program} {ops : Array Oper} {rest : List Oper} {o : Oper} {a a' : Act} {w : World} {Q : Exit → Act → World → Prop} (v : Value) (h : WL P ops Q rest a' w) (hw : Region.wanted o (yielded ops a.tmps) = true := by kernel_rfl) (hrun : (execOp a.eval o).run P w = .ok (.value v) w := by go_simp) (ha : a.put o.dst v = a' := by simp only [Act.put, pqA, pqB, pqC]; exact rfl) : WL P ops Q (o :: rest) a w := WL.val hw v hrun (by rw [ha]; exact h)
theorem SkS {P : Program} {ops : Array Oper} {rest : List Oper} {o : Oper} {a a' : Act} {w : World} {Q : Exit → Act → World → Prop} (h : WL P ops Q rest a' w) (hw : Region.wanted o (yielded ops a.tmps) = false := by kernel_rfl) (ha : a.put o.dst undef = a' := by simp only [Act.put, pqA, pqB, pqC]; exact rfl) : WL P ops Q (o :: rest) a w := WL.skip hw (by rw [ha]; exact h)
theorem tkS {P : Program} {md : Region.Mode} {ops : Array Oper} {S : World → Prop} {Q : Exit → Act → World → Prop} {i : Nat} {oi : Oper} {v : Value} {fuel : Nat} {listed : Array Bool} {a a' : Act} {w : World} (hi : ops[i]? = some oi) (hy : YieldsIf P ops S oi v a) (hS : S w) (h : wpAnyH P md ops Q S fuel (listed.setIfInBounds i true) a' w) (hs : Region.noSelect ops = true := by kernel_rfl) (hf : Region.free md ops listed i = true := by kernel_rfl) (hr : (Region.ready md ops listed).contains i = true := by kernel_rfl) (hQ : ∀ c a w, Q (.panic c) (a.put oi.dst v) w → Q (.panic c) a w := by exact fun _ _ _ h => h) (ha : a.put oi.dst v = a' := by simp only [Act.put, pqA, pqB, pqC]; exact rfl) : wpAnyH P md ops Q S (fuel + 1) listed a w := wpAnyH_take hi hs hf hr hQ hy hS (by rw [ha]; exact h)
theorem rgn {P : Program} {ops : Array Oper} {a : Act} {w : World} {Q : Exit → Act → World → Prop} {id : Nat} (h : WL P ops Q ops.toList a w) : (Code.region id ops false).wp P Q a w := wp_region_list h.out
def apF (F : (Nat → Value) → Act) (a : Act) : Act := F fun zz => a.tmps.toList.getD zz undef
theorem unF {F : (Nat → Value) → Act} {a : Act} (h : a = apF F a) : ∃ f, a = F f := ⟨_, h⟩
theorem WL.mid {P : Program} {ops : Array Oper} {rest : List Oper} {op : Oper} {a : Act} {w : World} {Q : Exit → Act → World → Prop} (hw : Region.wanted op (yielded ops a.tmps) = true) (ty : TypeId) (x : Operand) (ho : op.op = .load ty x)
  (b o : Nat) (hx : a.eval x = .pointer (some ⟨b, o, none⟩)) (cs : List Value) (d : TypeDesc) (hc : w.rangeAt b o cs)
  (hu : P.underlying ty = some d) (hd : d.isRow = true) (hi : (P.info? ty).map (·.size) = some cs.length)
  (h : WL P ops Q rest (a.put op.dst (.agg cs.toArray)) w) : WL P ops Q (op :: rest) a w :=
 ⟨qC hw fun _ hK => wp_load_mid ty x ho b o hx cs d hc hu hd hi (hK _ _ h.out)⟩
section
variable {P : Program} {ops : Array Oper} {rest : List Oper} {o : Oper} {a : Act} {w : World} {Q : Exit → Act → World → Prop}
theorem WL.row (hw : Region.wanted o (yielded ops a.tmps) = true) (ty : TypeId) (x : Operand) (ho : o.op = .load ty x)
  (b : Nat) (hx : a.eval x = .pointer (some ⟨b, 0, none⟩)) (t : TypeId) (cs : Array Value) (d : TypeDesc) (hc : Blk w b t cs)
  (hu : P.underlying ty = some d) (hd : d.isRow = true) (hi : (P.info? ty).map (·.size) = some cs.size)
  (h : WL P ops Q rest (a.put o.dst (.agg cs)) w) : WL P ops Q (o :: rest) a w :=
 WL.mid hw ty x ho b 0 hx cs.toList d (ql hc) hu hd (by rw [Array.length_toList]; exact hi) (by rw [Array.toArray_toList]; exact h)
theorem WL.midA (hw : Region.wanted o (yielded ops a.tmps) = true) (ty : TypeId) (x : Operand) (ho : o.op = .load ty x)
  (b of : Nat) (hx : a.eval x = .pointer (some ⟨b, of, none⟩)) (cs : Array Value) (d : TypeDesc) (hc : w.rangeAt b of cs.toList)
  (hu : P.underlying ty = some d) (hd : d.isRow = true) (hi : (P.info? ty).map (·.size) = some cs.size)
  (h : WL P ops Q rest (a.put o.dst (.agg cs)) w) : WL P ops Q (o :: rest) a w :=
 WL.mid hw ty x ho b of hx cs.toList d hc hu hd (by rw [Array.length_toList]; exact hi) (by rw [Array.toArray_toList]; exact h)
theorem WL.new (hw : Region.wanted o (yielded ops a.tmps) = true) (t : TypeId) (ho : o.op = .alloc t) (cells : Array Value)
  (hf : ∀ w : World, (Instr.alloc t true (.tuple #[])).run P w = .ok (.pointer (some ⟨w.heap.size, 0, none⟩)) (w.alloc (.cells cells t)))
  (h : WL P ops Q rest (a.put o.dst (.pointer (some ⟨w.heap.size, 0, none⟩))) (w.alloc (.cells cells t))) : WL P ops Q (o :: rest) a w :=
 ⟨qC hw fun K hK => by
  unfold Oper.wp execOp
  simp only [ho, Sem.run_bind, hf w, Result.andThen_ok]
  exact hK _ _ h.out⟩
theorem WL.box (hw : Region.wanted o (yielded ops a.tmps) = true) (t : TypeId) (x : Operand) (ho : o.op = .box t x) (cs : Array Value) (hx : a.eval x = .agg cs)
  (h : WL P ops Q rest (a.put o.dst (.pointer (some ⟨w.heap.size, 0, none⟩))) (w.alloc (.cells cs t))) : WL P ops Q (o :: rest) a w :=
 ⟨qC hw fun K hK => by
  unfold Oper.wp execOp
  simp only [ho, hx, Sem.run_bind, vk, Result.andThen_ok]
  exact hK _ _ h.out⟩
theorem WL.storeR (hw : Region.wanted o (yielded ops a.tmps) = true) (ty : TypeId) (x y : Operand) (ho : o.op = .store ty x y)
  (g : Nat) (cells : Array Value) (hx : a.eval x = .pointer (some ⟨g, 0, none⟩)) (hy : a.eval y = .agg cells)
  (t : TypeId) (old : Array Value) (hg : Blk w g t old) (hi : (P.info? ty).map (·.size) = some cells.size) (hold : old.size = cells.size) (h1 : cells.all (·.oneCell') = true)
  (h : WL P ops Q rest (a.put o.dst undef) (w.setRow g cells)) : WL P ops Q (o :: rest) a w :=
 ⟨qC hw fun _ hK => wp_store_row ty x y ho g cells hx hy t old hg hi hold h1 (hK _ _ h.out)⟩
theorem WL.cell (hw : Region.wanted o (yielded ops a.tmps) = true) (w' : World) (hrun : (execOp a.eval o).run P w = .ok .skip w')
  (h : WL P ops Q rest (a.put o.dst undef) w') : WL P ops Q (o :: rest) a w :=
 ⟨qC hw fun _ hK => by unfold Oper.wp; rw [hrun, Oper.upon_skip]; exact hK _ _ h.out⟩
theorem WL.valW (hw : Region.wanted o (yielded ops a.tmps) = true) (v : Value) (w' : World) (hrun : (execOp a.eval o).run P w = .ok (.value v) w')
  (h : WL P ops Q rest (a.put o.dst v) w') : WL P ops Q (o :: rest) a w :=
 ⟨qC hw fun _ hK => by unfold Oper.wp; rw [hrun, Oper.upon_value]; exact hK _ _ h.out⟩
theorem WL.bld (hw : Region.wanted o (yielded ops a.tmps) = true) (t : TypeId) (parts : Array (Nat × Operand)) (ho : o.op = .build t parts)
  (vs : List (Nat × Value)) (hv : (parts.map fun (i, x) => (i, a.eval x)).toList = vs) (cells : Array Value) (hf : P.built t vs = some cells)
  (h : WL P ops Q rest (a.put o.dst (.agg cells)) w) : WL P ops Q (o :: rest) a w :=
 ⟨qC hw fun _ hK => jZ t parts ho cells (by rw [hv]; exact hf) (hK _ _ h.out)⟩
theorem WL.bs (hw : Region.wanted o (yielded ops a.tmps) = true) (t : TypeId) (n : Nat) (parts : Array (Nat × Operand)) (ho : o.op = .buildSlice t n parts)
  (vs : Array (Nat × Value)) (hv : (parts.map fun (i, x) => (i, a.eval x)) = vs) (v : Value) (w' : World) (hrun : (Instr.buildSlice t n vs).run P w = .ok v w')
  (h : WL P ops Q rest (a.put o.dst v) w') : WL P ops Q (o :: rest) a w :=
 ⟨qC hw fun K hK => by
  unfold Oper.wp execOp
  simp only [ho, hv, Sem.run_bind, hrun, Result.andThen_ok]
  exact hK _ _ h.out⟩
theorem WL.part (hw : Region.wanted o (yielded ops a.tmps) = true) (ty : TypeId) (x y : Operand) (ho : o.op = .store ty x y)
  (g off : Nat) (cells : Array Value) (hx : a.eval x = .pointer (some ⟨g, off, none⟩)) (hy : a.eval y = .agg cells)
  (t : TypeId) (cur : Array Value) (hg : Blk w g t cur) (hi : (P.info? ty).map (·.size) = some cells.size) (hfit : off + cells.size ≤ cur.size) (h1 : cells.all (·.oneCell') = true)
  (new : Array Value) (hn : (cur.toList.take off ++ cells.toList ++ cur.toList.drop (off + cells.size)).toArray = new)
  (h : WL P ops Q rest (a.put o.dst undef) (w.setRow g new)) : WL P ops Q (o :: rest) a w := by
 subst hn
 refine ⟨qC hw fun K hK => ?_⟩
 have hst := run_storeCells_at P g off t cells.toList 0 cur w hg (by simpa using hfit) (fun v hv => (Array.all_eq_true_iff_forall_mem.1 h1) v (by simpa using hv))
 have hrun : (storeVar ty ⟨g, off, none⟩ (.agg cells)).run P w = .ok () (w.setRow g (cur.toList.take off ++ cells.toList ++ cur.toList.drop (off + cells.size)).toArray) := by
  cases hq : P.info? ty with
  | none => simp [hq] at hi
  | some i =>
   have hs : cells.size = i.size := by simp [hq] at hi; omega
   simp only [Nat.add_zero, Array.length_toList] at hst
   simp [storeVar, sizeOf, typeInfo, hq, Value.cells, hs, hst]
 unfold Oper.wp execOp
 simp only [ho, hx, hy, Instr.storeAt, Instr.sureAddr, Sem.run_bind, Sem.run_pure, Result.andThen_ok, hrun]
 exact hK _ _ h.out
theorem WL.callF (hw : Region.wanted o (yielded ops a.tmps) = true) (f : FuncId) (args : Array Operand) (ts : Array TypeId) (ho : o.op = .call { callee := .value (.func f), args := args, argTypes := ts })
  (hf : ∀ (w : World) (vs : Array Value), (callFunc f vs).run P w = .ok (.enter f vs) w) (vs : Array Value) (hvs : args.map a.eval = vs)
  (hc : Calls P f vs w fun e w' => ∃ v, e = .returned v ∧ WL P ops Q rest (a.put o.dst v) w') : WL P ops Q (o :: rest) a w :=
 ⟨qC hw fun K hK => by
  unfold Oper.wp
  rw [Jj a o f args ts ho hf w, Oper.upon_enter, hvs]
  refine hc.mono ?_
  rintro e w' ⟨v, rfl, hr⟩
  exact hK _ _ hr.out⟩
end
theorem Blk.c {w : World} {b : Nat} {T : TypeId} {cs : Array Value} (h : Blk w b T cs) (j : Nat) {v : Value} (hv : cs[j]? = some v) : w.cell? ⟨b, j, none⟩ = some v := by rw [h.cell]; exact hv
theorem WL.o {P : Program} {ops : Array Oper} {l : List Oper} {a : Act} {w : World} {Q : Exit → Act → World → Prop} (h : WL P ops Q l a w) : wpList P ops Q l a w := h.out
theorem kk {p : Prop} (h : p) : Keep p := ⟨h⟩
theorem kbx {w w' : World} {b : Nat} {T : TypeId} {cs : Array Value} (h : Keep (Blk w b T cs)) (k : Below w.heap.size w w') : Keep (Blk w' b T cs) := ⟨h.o.below k h.o.lt⟩
theorem tb {v w w' : World} (h : Keep (Below v.heap.size v w)) (k : Below w.heap.size w w') : Keep (Below v.heap.size v w') := ⟨h.o.trans (k.mono h.o.size)⟩
theorem nm (w : World) : ∃ z, Keep (z = w.heap.size) := ⟨_, ⟨rfl⟩⟩
theorem nn (w : World) : ∃ z, z = w.heap.size := ⟨_, rfl⟩
theorem lh {w : World} {r : Nat} (h : Keep (r = w.heap.size)) : Keep (w.heap.size ≤ r) := ⟨by rw [h.o]; exact Nat.le_refl _⟩
theorem lp {w : World} {r : Nat} (h : r = w.heap.size) : Keep (w.heap.size ≤ r) := ⟨by rw [h]; exact Nat.le_refl _⟩
theorem gF {a b : World} (h : Below a.heap.size a b) : Grown a b (fun _ => False) := Grown.below h
theorem CeS {P : Program} {ops : Array Oper} {rest : List Oper} {o : Oper} {a : Act} {w : World} {Q : Exit → Act → World → Prop} {a' : Act} (v : Value) {C : Prop} (c : C) (h : WL P ops Q rest a' w) (hw : Region.wanted o (yielded ops a.tmps) = true := by kernel_rfl) (hrun : C → (execOp a.eval o).run P w = .ok (.value v) w := by intro c_; go_simp) (ha : a.put o.dst v = a' := by simp only [Act.put, pqA, pqB, pqC]; exact rfl) : WL P ops Q (o :: rest) a w := VlS v h hw (hrun c) ha
theorem CeB {P : Program} {ops : Array Oper} {rest : List Oper} {o : Oper} {a : Act} {w : World} {Q : Exit → Act → World → Prop} {a' : Act} (v : Value) {b : Nat} {T : TypeId} {cs : Array Value} (H : Keep (Blk w b T cs)) (j : Nat) (h : WL P ops Q rest a' w) (hv : cs[j]? = some v := by rfl) (hw : Region.wanted o (yielded ops a.tmps) = true := by kernel_rfl) (hrun : w.cell? ⟨b, j, none⟩ = some v → (execOp a.eval o).run P w = .ok (.value v) w := by intro c_; go_simp) (ha : a.put o.dst v = a' := by simp only [Act.put, pqA, pqB, pqC]; exact rfl) : WL P ops Q (o :: rest) a w := VlS v h hw (hrun (by rw [H.o.cell]; exact hv)) ha
theorem RwS {P : Program} {ops : Array Oper} {rest : List Oper} {o : Oper} {a : Act} {w : World} {Q : Exit → Act → World → Prop} {a' : Act} {ty : TypeId} {x : Operand} {b : Nat} {t : TypeId} {cs : Array Value} (H : Blk w b t cs) (hi : (P.info? ty).map (·.size) = some cs.size) (h : WL P ops Q rest a' w) (ho : o.op = .load ty x := by rfl) (hx : a.eval x = .pointer (some ⟨b, 0, none⟩) := by rfl) (hu : ((P.underlying ty).map (·.isRow)) = some true := by kernel_rfl) (hw : Region.wanted o (yielded ops a.tmps) = true := by kernel_rfl) (ha : a.put o.dst (.agg cs) = a' := by simp only [Act.put, pqA, pqB, pqC]; exact rfl) : WL P ops Q (o :: rest) a w := by
 obtain ⟨d, hd, hr⟩ := Option.map_eq_some_iff.1 hu
 exact WL.row hw ty x ho b hx t cs d H hd hr hi (by rw [ha]; exact h)
theorem ClS {P : Program} {ops : Array Oper} {rest : List Oper} {o : Oper} {a : Act} {w : World} {Q : Exit → Act → World → Prop} {a' : Value → Act} {f : FuncId} {args : Array Operand} {ts : Array TypeId} {vs : Array Value} {F : Ending → World → Prop} (hc : Calls P f vs w F) (h : ∀ e w', F e w' → ∃ v, e = .returned v ∧ WL P ops Q rest (a' v) w') (ho : o.op = .call { callee := .value (.func f), args := args, argTypes := ts } := by rfl) (hf : ∀ (w : World) (vs : Array Value), (callFunc f vs).run P w = .ok (.enter f vs) w := by intro w vs; kernel_rfl) (hvs : args.map a.eval = vs := by simp [Act.eval]) (hw : Region.wanted o (yielded ops a.tmps) = true := by kernel_rfl) (ha : ∀ v, a.put o.dst v = a' v := by intro v; simp only [Act.put, pqA, pqB, pqC]; exact rfl) : WL P ops Q (o :: rest) a w :=
 WL.callF hw f args ts ho hf vs hvs (hc.mono fun e w' k => by
  obtain ⟨v, h1, h2⟩ := h e w' k
  exact ⟨v, h1, by rw [ha]; exact h2⟩)
theorem Vv {P : Program} {ops : Array Oper} {rest : List Oper} {o : Oper} {a a' : Act} {w : World} {Q : Exit → Act → World → Prop} (v : Value) (hw : Region.wanted o (yielded ops a.tmps) = true := by kernel_rfl) (hrun : (execOp a.eval o).run P w = .ok (.value v) w := by go_simp) (ha : a.put o.dst v = a' := by simp only [Act.put, pqA, pqB, pqC]; exact rfl) (h : WL P ops Q rest a' w) : WL P ops Q (o :: rest) a w := VlS v h hw hrun ha
theorem Vf {P : Program} {ops : Array Oper} {rest : List Oper} {o : Oper} {a a' : Act} {w : World} {Q : Exit → Act → World → Prop} (hw : Region.wanted o (yielded ops a.tmps) = true := by kernel_rfl) (hrun : (execOp a.eval o).run P w = .ok (.value (.bool false)) w := by go_simp) (ha : a.put o.dst (.bool false) = a' := by simp only [Act.put, pqA, pqB, pqC]; exact rfl) (h : WL P ops Q rest a' w) : WL P ops Q (o :: rest) a w := VlS _ h hw hrun ha
theorem Vt {P : Program} {ops : Array Oper} {rest : List Oper} {o : Oper} {a a' : Act} {w : World} {Q : Exit → Act → World → Prop} (hw : Region.wanted o (yielded ops a.tmps) = true := by kernel_rfl) (hrun : (execOp a.eval o).run P w = .ok (.value (.bool true)) w := by go_simp) (ha : a.put o.dst (.bool true) = a' := by simp only [Act.put, pqA, pqB, pqC]; exact rfl) (h : WL P ops Q rest a' w) : WL P ops Q (o :: rest) a w := VlS _ h hw hrun ha
theorem Vs {P : Program} {ops : Array Oper} {rest : List Oper} {o : Oper} {a a' : Act} {w : World} {Q : Exit → Act → World → Prop} (hw : Region.wanted o (yielded ops a.tmps) = false := by kernel_rfl) (ha : a.put o.dst undef = a' := by simp only [Act.put, pqA, pqB, pqC]; exact rfl) (h : WL P ops Q rest a' w) : WL P ops Q (o :: rest) a w := SkS h hw ha
theorem Vb {P : Program} {ops : Array Oper} {rest : List Oper} {o : Oper} {a a' : Act} {w : World} {Q : Exit → Act → World → Prop} (v : Value) {b : Nat} {T : TypeId} {cs : Array Value} (H : Keep (Blk w b T cs)) (j : Nat) (hv : cs[j]? = some v := by rfl) (hw : Region.wanted o (yielded ops a.tmps) = true := by kernel_rfl) (hrun : w.cell? ⟨b, j, none⟩ = some v → (execOp a.eval o).run P w = .ok (.value v) w := by intro c_; go_simp) (ha : a.put o.dst v = a' := by simp only [Act.put, pqA, pqB, pqC]; exact rfl) (h : WL P ops Q rest a' w) : WL P ops Q (o :: rest) a w := CeB v H j h hv hw hrun ha
theorem Vr {P : Program} {ops : Array Oper} {rest : List Oper} {o : Oper} {a a' : Act} {w : World} {Q : Exit → Act → World → Prop} {ty : TypeId} {x : Operand} {b : Nat} {t : TypeId} {cs : Array Value} (H : Blk w b t cs) (hi : (P.info? ty).map (·.size) = some cs.size) (ho : o.op = .load ty x := by rfl) (hx : a.eval x = .pointer (some ⟨b, 0, none⟩) := by rfl) (hu : ((P.underlying ty).map (·.isRow)) = some true := by kernel_rfl) (hw : Region.wanted o (yielded ops a.tmps) = true := by kernel_rfl) (ha : a.put o.dst (.agg cs) = a' := by simp only [Act.put, pqA, pqB, pqC]; exact rfl) (h : WL P ops Q rest a' w) : WL P ops Q (o :: rest) a w := RwS H hi h ho hx hu hw ha
theorem Ct {P : Program} {a : Act} {w : World} {Q : Exit → Act → World → Prop} {c : Operand} {x y : Code} (hc : a.eval c = .bool true := by rfl) (h : x.wp P Q a w) : (Code.cond c x y).wp P Q a w := wp_cond_true hc h
theorem Cf {P : Program} {a : Act} {w : World} {Q : Exit → Act → World → Prop} {c : Operand} {x y : Code} (hc : a.eval c = .bool false := by rfl) (h : y.wp P Q a w) : (Code.cond c x y).wp P Q a w := wp_cond_false hc h
theorem yi {P : Program} {ops : Array Oper} {S : World → Prop} {o : Oper} {v : Value} {a : Act} (h : ∀ w, S w → (execOp a.eval o).run P w = .ok (.value v) w) (hw : Region.wanted o (yielded ops a.tmps) = true := by rfl) : YieldsIf P ops S o v a := .inl ⟨hw, h⟩
theorem yn {P : Program} {ops : Array Oper} {S : World → Prop} {o : Oper} {a : Act} (hw : Region.wanted o (yielded ops a.tmps) = false := by rfl) : YieldsIf P ops S o undef a := .inr ⟨hw, rfl⟩
theorem uS {P : Program} {md : Region.Mode} {ops : Array Oper} {S : World → Prop} {Q : Exit → Act → World → Prop} {fuel : Nat} {listed : Array Bool} {a a' : Act} {w : World} (i : Nat) (oi : Oper) (v : Value) (hi : ops[i]? = some oi) (hy : YieldsIf P ops S oi v a) (hS : S w) (h : wpAnyH P md ops Q S fuel (listed.setIfInBounds i true) a' w) (hs : Region.noSelect ops = true := by kernel_rfl) (hf : Region.free md ops listed i = true := by kernel_rfl) (hr : (Region.ready md ops listed).contains i = true := by kernel_rfl) (hQ : ∀ c a w, Q (.panic c) (a.put oi.dst v) w → Q (.panic c) a w := by exact fun _ _ _ h => h) (ha : a.put oi.dst v = a' := by simp only [Act.put, pqA, pqB, pqC]; exact rfl) : wpAnyH P md ops Q S (fuel + 1) listed a w := tkS hi hy hS h hs hf hr hQ ha
theorem kNx {P : Program} {md : Region.Mode} {ops : Array Oper} {S : World → Prop} {Q : Exit → Act → World → Prop} {fuel : Nat} {listed : Array Bool} {a a' : Act} {w : World} (h : wpAnyH P md ops Q S fuel listed a' w) (ha : a = a' := by simp only [Act.put, pqA, pqB, pqC]; exact rfl) : wpAnyH P md ops Q S fuel listed a w := by rw [ha]; exact h
theorem rd1 {P : Program} {md : Region.Mode} {ops : Array Oper} {S : World → Prop} {Q : Exit → Act → World → Prop} {fuel : Nat} {listed : Array Bool} {a : Act} {w : World} (i : Nat) (o : Oper) (ho : ops[i]? = some o) (h : ∀ K' : Act → World → Prop, Shut (∀ a w, S w → (S w → wpAnyH P md ops Q S fuel (listed.setIfInBounds i true) a w) → K' a w) → Oper.wp P o a w K' Q) (hr : Region.ready md ops listed = [i] := by kernel_rfl) (hw : Region.wanted o (yielded ops a.tmps) = true := by rfl) : wpAnyH P md ops Q S (fuel + 1) listed a w := wpAnyH_ready hr (by simp) (AllReadyH.cons ho (fun K hK => by rw [if_pos hw]; exact h K hK) AllReadyH.nil)
theorem StR {P : Program} {ops : Array Oper} {rest : List Oper} {o : Oper} {a a' : Act} {w : World} {Q : Exit → Act → World → Prop} {ty : TypeId} {x y : Operand} {g : Nat} (cells : Array Value) {t : TypeId} {old : Array Value} (hg : Blk w g t old) (hi : (P.info? ty).map (·.size) = some cells.size) (hold : old.size = cells.size) (h1 : cells.all (·.oneCell') = true) (h : WL P ops Q rest a' (w.setRow g cells)) (ho : o.op = .store ty x y := by rfl) (hx : a.eval x = .pointer (some ⟨g, 0, none⟩) := by rfl) (hy : a.eval y = .agg cells := by rfl) (hw : Region.wanted o (yielded ops a.tmps) = true := by kernel_rfl) (ha : a.put o.dst undef = a' := by simp only [Act.put, pqA, pqB, pqC]; exact rfl) : WL P ops Q (o :: rest) a w := WL.storeR hw ty x y ho g cells hx hy t old hg hi hold h1 (by rw [ha]; exact h)
theorem uC {P : Program} {md : Region.Mode} {ops : Array Oper} {S : World → Prop} {Q : Exit → Act → World → Prop} {fuel : Nat} {listed : Array Bool} {a a' : Act} {w : World} (i : Nat) (oi : Oper) (v : Value) (hi : ops[i]? = some oi) (hS : S w) (h : wpAnyH P md ops Q S fuel (listed.setIfInBounds i true) a' w) (hy : YieldsIf P ops S oi v a := by exact Or.inl ⟨by rfl, fun w hS => by clear hS; go_simp⟩) (hs : Region.noSelect ops = true := by kernel_rfl) (hf : Region.free md ops listed i = true := by kernel_rfl) (hr : (Region.ready md ops listed).contains i = true := by kernel_rfl) (hQ : ∀ c a w, Q (.panic c) (a.put oi.dst v) w → Q (.panic c) a w := by exact fun _ _ _ h => h) (ha : a.put oi.dst v = a' := by simp only [Act.put, pqA, pqB, pqC]; exact rfl) : wpAnyH P md ops Q S (fuel + 1) listed a w := tkS hi hy hS h hs hf hr hQ ha
theorem uG {P : Program} {md : Region.Mode} {ops : Array Oper} {S : World → Prop} {Q : Exit → Act → World → Prop} {fuel : Nat} {listed : Array Bool} {a a' : Act} {w : World} (i : Nat) (oi : Oper) (v : Value) (hi : ops[i]? = some oi) (hS : S w) (h : wpAnyH P md ops Q S fuel (listed.setIfInBounds i true) a' w) (hy : YieldsIf P ops S oi v a := by exact Or.inl ⟨by rfl, fun w hS => by go_simp⟩) (hs : Region.noSelect ops = true := by kernel_rfl) (hf : Region.free md ops listed i = true := by kernel_rfl) (hr : (Region.ready md ops listed).contains i = true := by kernel_rfl) (hQ : ∀ c a w, Q (.panic c) (a.put oi.dst v) w → Q (.panic c) a w := by exact fun _ _ _ h => h) (ha : a.put oi.dst v = a' := by simp only [Act.put, pqA, pqB, pqC]; exact rfl) : wpAnyH P md ops Q S (fuel + 1) listed a w := tkS hi hy hS h hs hf hr hQ ha
theorem uJ {P : Program} {md : Region.Mode} {ops : Array Oper} {S : World → Prop} {Q : Exit → Act → World → Prop} {fuel : Nat} {listed : Array Bool} {a a' : Act} {w : World} (i : Nat) (oi : Oper) (v : Value) (hi : ops[i]? = some oi) (hS : S w) (h : wpAnyH P md ops Q S fuel (listed.setIfInBounds i true) a' w) (hy : YieldsIf P ops S oi v a := by exact Or.inl ⟨by rfl, fun w hS => by obtain ⟨hS1, hS2⟩ := hS; go_simp⟩) (hs : Region.noSelect ops = true := by kernel_rfl) (hf : Region.free md ops listed i = true := by kernel_rfl) (hr : (Region.ready md ops listed).contains i = true := by kernel_rfl) (hQ : ∀ c a w, Q (.panic c) (a.put oi.dst v) w → Q (.panic c) a w := by exact fun _ _ _ h => h) (ha : a.put oi.dst v = a' := by simp only [Act.put, pqA, pqB, pqC]; exact rfl) : wpAnyH P md ops Q S (fuel + 1) listed a w := tkS hi hy hS h hs hf hr hQ ha
theorem uK {P : Program} {md : Region.Mode} {ops : Array Oper} {S : World → Prop} {Q : Exit → Act → World → Prop} {fuel : Nat} {listed : Array Bool} {a a' : Act} {w : World} (i : Nat) (oi : Oper) (v : Value) (hi : ops[i]? = some oi) (hS : S w) (h : wpAnyH P md ops Q S fuel (listed.setIfInBounds i true) a' w) (hy : YieldsIf P ops S oi v a := by exact Or.inl ⟨by rfl, fun w hS => by obtain ⟨cS1, cS2, cS3⟩ := hS; go_simp⟩) (hs : Region.noSelect ops = true := by kernel_rfl) (hf : Region.free md ops listed i = true := by kernel_rfl) (hr : (Region.ready md ops listed).contains i = true := by kernel_rfl) (hQ : ∀ c a w, Q (.panic c) (a.put oi.dst v) w → Q (.panic c) a w := by exact fun _ _ _ h => h) (ha : a.put oi.dst v = a' := by simp only [Act.put, pqA, pqB, pqC]; exact rfl) : wpAnyH P md ops Q S (fuel + 1) listed a w := tkS hi hy hS h hs hf hr hQ ha
theorem uL {P : Program} {md : Region.Mode} {ops : Array Oper} {S : World → Prop} {Q : Exit → Act → World → Prop} {fuel : Nat} {listed : Array Bool} {a a' : Act} {w : World} (i : Nat) (oi : Oper) (v : Value) (hi : ops[i]? = some oi) (hS : S w) (h : wpAnyH P md ops Q S fuel (listed.setIfInBounds i true) a' w) (hy : YieldsIf P ops S oi v a := by exact Or.inl ⟨by rfl, fun w hS => by obtain ⟨cS1, cS2⟩ := hS; go_simp⟩) (hs : Region.noSelect ops = true := by kernel_rfl) (hf : Region.free md ops listed i = true := by kernel_rfl) (hr : (Region.ready md ops listed).contains i = true := by kernel_rfl) (hQ : ∀ c a w, Q (.panic c) (a.put oi.dst v) w → Q (.panic c) a w := by exact fun _ _ _ h => h) (ha : a.put oi.dst v = a' := by simp only [Act.put, pqA, pqB, pqC]; exact rfl) : wpAnyH P md ops Q S (fuel + 1) listed a w := tkS hi hy hS h hs hf hr hQ ha
theorem uM {P : Program} {md : Region.Mode} {ops : Array Oper} {S : World → Prop} {Q : Exit → Act → World → Prop} {fuel : Nat} {listed : Array Bool} {a a' : Act} {w : World} (i : Nat) (oi : Oper) (v : Value) (hi : ops[i]? = some oi) (hS : S w) (h : wpAnyH P md ops Q S fuel (listed.setIfInBounds i true) a' w) (hy : YieldsIf P ops S oi v a := by exact Or.inl ⟨by rfl, fun w hS => by obtain ⟨cS1, cS2, cS3, cS4, cS5⟩ := hS; go_simp⟩) (hs : Region.noSelect ops = true := by kernel_rfl) (hf : Region.free md ops listed i = true := by kernel_rfl) (hr : (Region.ready md ops listed).contains i = true := by kernel_rfl) (hQ : ∀ c a w, Q (.panic c) (a.put oi.dst v) w → Q (.panic c) a w := by exact fun _ _ _ h => h) (ha : a.put oi.dst v = a' := by simp only [Act.put, pqA, pqB, pqC]; exact rfl) : wpAnyH P md ops Q S (fuel + 1) listed a w := tkS hi hy hS h hs hf hr hQ ha
theorem zO {P : Program} {ops : Array Oper} {rest : List Oper} {o : Oper} {a : Act} {w : World} {Q : Exit → Act → World → Prop} {a' : Nat → Act} (t : TypeId) {cs : Array Value} (hf : ∀ w : World, (Instr.alloc t true (.tuple #[])).run P w = .ok (.pointer (some ⟨w.heap.size, 0, none⟩)) (w.alloc (.cells cs t))) (h : ∀ (b : Nat) (w' : World), Keep (b = w.heap.size) → Keep (Blk w' b t cs) → Keep (Below w.heap.size w w') → WL P ops Q rest (a' b) w') (ho : o.op = .alloc t := by rfl) (hw : Region.wanted o (yielded ops a.tmps) = true := by kernel_rfl) (ha : ∀ b, a.put o.dst (.pointer (some ⟨b, 0, none⟩)) = a' b := by intro b; simp only [Act.put, pqA, pqB, pqC]; exact rfl) : WL P ops Q (o :: rest) a w := WL.new hw t ho cs hf (by rw [ha]; exact h _ _ ⟨rfl⟩ ⟨Blk.new w t cs⟩ ⟨qg w _⟩)
theorem xM {P : Program} {ops : Array Oper} {rest : List Oper} {o : Oper} {a : Act} {w : World} {Q : Exit → Act → World → Prop} {a' : Nat → Act} (t : TypeId) (x : Operand) (cs : Array Value) (h : ∀ (b : Nat) (w' : World), Keep (b = w.heap.size) → Keep (Blk w' b t cs) → Keep (Below w.heap.size w w') → WL P ops Q rest (a' b) w') (hx : a.eval x = .agg cs := by rfl) (ho : o.op = .box t x := by rfl) (hw : Region.wanted o (yielded ops a.tmps) = true := by kernel_rfl) (ha : ∀ b, a.put o.dst (.pointer (some ⟨b, 0, none⟩)) = a' b := by intro b; simp only [Act.put, pqA, pqB, pqC]; exact rfl) : WL P ops Q (o :: rest) a w := WL.box hw t x ho cs hx (by rw [ha]; exact h _ _ ⟨rfl⟩ ⟨Blk.new w t cs⟩ ⟨qg w _⟩)
theorem zU {P : Program} {ops : Array Oper} {rest : List Oper} {o : Oper} {a : Act} {w : World} {Q : Exit → Act → World → Prop} {a' : Nat → Act} (t : TypeId) {cs : Array Value} (hf : ∀ w : World, (Instr.alloc t true (.tuple #[])).run P w = .ok (.pointer (some ⟨w.heap.size, 0, none⟩)) (w.alloc (.cells cs t))) (h : ∀ (b : Nat) (w' : World), Keep (b = w.heap.size) → Keep (Blk w' b t cs) → Below w.heap.size w w' → WL P ops Q rest (a' b) w') (ho : o.op = .alloc t := by rfl) (hw : Region.wanted o (yielded ops a.tmps) = true := by kernel_rfl) (ha : ∀ b, a.put o.dst (.pointer (some ⟨b, 0, none⟩)) = a' b := by intro b; simp only [Act.put, pqA, pqB, pqC]; exact rfl) : WL P ops Q (o :: rest) a w := WL.new hw t ho cs hf (by rw [ha]; exact h _ _ ⟨rfl⟩ ⟨Blk.new w t cs⟩ (qg w _))
theorem zH {P : Program} {ops : Array Oper} {rest : List Oper} {o : Oper} {a : Act} {w : World} {Q : Exit → Act → World → Prop} {a' : Nat → Act} (t : TypeId) (x : Operand) (cs : Array Value) (h : ∀ (b : Nat) (w' : World), Keep (b = w.heap.size) → Keep (Blk w' b t cs) → Below w.heap.size w w' → WL P ops Q rest (a' b) w') (hx : a.eval x = .agg cs := by rfl) (ho : o.op = .box t x := by rfl) (hw : Region.wanted o (yielded ops a.tmps) = true := by kernel_rfl) (ha : ∀ b, a.put o.dst (.pointer (some ⟨b, 0, none⟩)) = a' b := by intro b; simp only [Act.put, pqA, pqB, pqC]; exact rfl) : WL P ops Q (o :: rest) a w := WL.box hw t x ho cs hx (by rw [ha]; exact h _ _ ⟨rfl⟩ ⟨Blk.new w t cs⟩ (qg w _))
theorem kJ {P : Program} {ops : Array Oper} {rest : List Oper} {o : Oper} {a : Act} {w : World} {Q : Exit → Act → World → Prop} {a' : Nat → Act} (t : TypeId) {cs : Array Value} (hf : ∀ w : World, (Instr.alloc t true (.tuple #[])).run P w = .ok (.pointer (some ⟨w.heap.size, 0, none⟩)) (w.alloc (.cells cs t))) (h : ∀ (b : Nat) (w' : World), b = w.heap.size → Keep (Blk w' b t cs) → Keep (Below w.heap.size w w') → WL P ops Q rest (a' b) w') (ho : o.op = .alloc t := by rfl) (hw : Region.wanted o (yielded ops a.tmps) = true := by kernel_rfl) (ha : ∀ b, a.put o.dst (.pointer (some ⟨b, 0, none⟩)) = a' b := by intro b; simp only [Act.put, pqA, pqB, pqC]; exact rfl) : WL P ops Q (o :: rest) a w := WL.new hw t ho cs hf (by rw [ha]; exact h _ _ rfl ⟨Blk.new w t cs⟩ ⟨qg w _⟩)
theorem GS {P : Program} {ops : Array Oper} {rest : List Oper} {o : Oper} {a : Act} {w : World} {Q : Exit → Act → World → Prop} {a' : Nat → Act} (t : TypeId) (x : Operand) (cs : Array Value) (h : ∀ (b : Nat) (w' : World), b = w.heap.size → Keep (Blk w' b t cs) → Keep (Below w.heap.size w w') → WL P ops Q rest (a' b) w') (hx : a.eval x = .agg cs := by rfl) (ho : o.op = .box t x := by rfl) (hw : Region.wanted o (yielded ops a.tmps) = true := by kernel_rfl) (ha : ∀ b, a.put o.dst (.pointer (some ⟨b, 0, none⟩)) = a' b := by intro b; simp only [Act.put, pqA, pqB, pqC]; exact rfl) : WL P ops Q (o :: rest) a w := WL.box hw t x ho cs hx (by rw [ha]; exact h _ _ rfl ⟨Blk.new w t cs⟩ ⟨qg w _⟩)
theorem DT {P : Program} {ops : Array Oper} {rest : List Oper} {o : Oper} {a : Act} {w : World} {Q : Exit → Act → World → Prop} {a' : Nat → Act} (t : TypeId) (x : Operand) (cs : Array Value) (h : ∀ (b : Nat) (w' : World), b = w.heap.size → Keep (Blk w' b t cs) → Below w.heap.size w w' → WL P ops Q rest (a' b) w') (hx : a.eval x = .agg cs := by rfl) (ho : o.op = .box t x := by rfl) (hw : Region.wanted o (yielded ops a.tmps) = true := by kernel_rfl) (ha : ∀ b, a.put o.dst (.pointer (some ⟨b, 0, none⟩)) = a' b := by intro b; simp only [Act.put, pqA, pqB, pqC]; exact rfl) : WL P ops Q (o :: rest) a w := WL.box hw t x ho cs hx (by rw [ha]; exact h _ _ rfl ⟨Blk.new w t cs⟩ (qg w _))
abbrev Hs := Vector UInt8 32
namespace Hs
def f (h : Hs) (i : Nat) : Int := ((h.toArray.getD i 0).toNat : Int)
theorem f_get (h : Hs) (i : Nat) (hi : i < 32) : h.f i = ((h[i]'hi).toNat : Int) := by
 unfold f
 rw [Array.getD_eq_getD_getElem?, Array.getElem?_eq_getElem (by rw [h.size_toArray]; exact hi)]
 rfl
theorem ext' {a b : Hs} (h : ∀ i, i < 32 → a.f i = b.f i) : a = b := by
 apply Vector.ext
 intro i hi
 have h1 := h i hi
 rw [f_get a i hi, f_get b i hi] at h1
 exact UInt8.toNat_inj.1 (by omega)
def mk' (c : Nat → Int) (_ : ∀ i, i < 32 → 0 ≤ c i ∧ c i < 256) : Hs := Vector.ofFn fun i : Fin 32 => UInt8.ofNat (c i.val).toNat
theorem mk'_f (c : Nat → Int) (hc : ∀ i, i < 32 → 0 ≤ c i ∧ c i < 256) (i : Nat) (hi : i < 32) : (mk' c hc).f i = c i := by
 rw [f_get _ i hi]
 unfold mk'
 rw [Vector.getElem_ofFn, UInt8.toNat_ofNat']
 have := hc i hi
 show (((c i).toNat % 2 ^ 8 : Nat) : Int) = c i
 omega
end Hs
theorem vR (c e : Nat → Int) (d : Nat) (w : World) : ∀ is : List Nat, (∀ i ∈ is, i < 32) → (Op.eqItems (d + 1) 5 1 (qb 32 c) (qb 32 e) is).run Try.prog w = .ok (is.all fun i => c i == e i) w
 | [], _ => by simp [Op.eqItems]
 | i :: is, h => by
  have hi := h i (by simp)
  have ih := vR c e d w is (fun j hj => h j (by simp [hj]))
  simp only [Op.eqItems, Sem.run_bind, Nat.mul_one, yR c i hi, yR e i hi, Result.andThen_ok]
  rw [run_equalIn_int (P := Try.prog) (w := w) d 5 .u8 .u8 (c i) (e i) Try.underlying5]
  by_cases hh : c i = e i
  ·simp [Result.andThen_ok, ih, hh]
  ·simp [Result.andThen_ok, hh]
theorem jC (c e : Nat → Int) (w : World) : (Op.equalIn 10000 32 (.agg (qb 32 c)) (.agg (qb 32 e))).run Try.prog w = .ok ((List.range 32).all fun i => c i == e i) w := by
 obtain ⟨i, hi, _⟩ := Option.map_eq_some_iff.1 vf
 rw [run_equalIn_array (P := Try.prog) w 9999 _ _ Try.underlying32 hi, kI]
 exact vR c e 9998 w _ (fun j hj => List.mem_range.1 hj)
theorem Xn (x y : Hs) : ((List.range 32).all fun i => x.f i == y.f i) = decide (x = y) := by
 by_cases h : x = y
 ·subst h; simp
 ·rw [decide_eq_false h, Bool.eq_false_iff]
  intro h2
  refine h (Hs.ext' fun i hi => ?_)
  have := List.all_eq_true.1 h2 i (List.mem_range.2 hi)
  simpa using this
def jg (h : Hs) : List Value := (qb 32 h.f).toList
theorem jW (h : Hs) : (jg h).length = 32 := by rw [jg, Array.length_toList, qB]
theorem Qe (h : Hs) (v : Value) (hv : v ∈ jg h) : v.oneCell' = true := by
 have := Array.all_eq_true'.1 (qi 32 h.f) v (by unfold jg at hv; exact Array.mem_toList_iff.1 hv)
 simpa using this
theorem zT (h : Hs) : (jg h).toArray = qb 32 h.f := by rw [jg, Array.toArray_toList]
def qF (L : List Hs) : List Value := L.flatMap jg
theorem ym (x : Hs) (L : List Hs) : qF (x :: L) = jg x ++ qF L := rfl
theorem xU (L M : List Hs) : qF (L ++ M) = qF L ++ qF M := by simp [qF]
theorem jy : ∀ L : List Hs, (qF L).length = L.length * 32
 | [] => rfl
 | x :: L => by rw [ym, List.length_append, jW, jy L, List.length_cons]; omega
theorem JC : ∀ (L : List Hs) (i : Nat) (hi : i < L.length) (j : Nat), j < 32 → (qF L)[i * 32 + j]? = (jg L[i])[j]?
 | x :: L, 0, _, j, hj => by rw [ym, List.getElem?_append_left (by rw [jW]; omega)]; simp
 | x :: L, i + 1, hi, j, hj => by
  rw [ym, List.getElem?_append_right (by rw [jW]; omega), jW, show (i + 1) * 32 + j - 32 = i * 32 + j by omega]
  simpa using JC L i (by simpa using hi) j hj
theorem Jz (L : List Hs) (v : Value) (hv : v ∈ qF L) : v.oneCell' = true := by
 obtain ⟨x, _, hx⟩ := List.mem_flatMap.1 hv
 exact Qe x v hx
def Xr (w : World) (v : Value) (L : List Hs) : Prop :=
 (∃ a c, v = .slice a 0 c ∧ L = [] ∧ (a = none → c = 0)) ∨ ∃ b off cap, v = .slice (some ⟨b, off, none⟩) L.length cap ∧ L.length ≤ cap ∧ w.rangeAt b off (qF L)
theorem jt {w : World} {b off : Nat} {L : List Hs} (h : w.rangeAt b off (qF L)) (i : Nat) (hi : i < L.length) : w.rangeAt b (off + i * 32) (jg L[i]) := by
 intro j v hv
 have hj : j < 32 := by
  have := (List.getElem?_eq_some_iff.1 hv).1
  rwa [jW] at this
 rw [Nat.add_assoc]
 exact h _ v (by rw [JC L i hi j hj]; exact hv)
theorem zj {w w' : World} {B b off : Nat} {cs : List Value} (h : w.rangeAt b off cs) (hb : Below B w w') (hlt : b < B) : w'.rangeAt b off cs := fun j v hv => by
 rw [hb.cell (p := ⟨b, off + j, none⟩) hlt]; exact h j v hv
theorem kE : (Try.prog.info? 32).map (fun i => (i.zero, i.size, i.bytes)) = some (some (.agg (qb 32 fun _ => 0)), 32, 32) := by kernel_rfl
theorem VT (w : World) : (Instr.buildSlice 52 0 #[]).run Try.prog w = .ok (.slice (some ⟨w.heap.size, 0, none⟩) 0 0) (w.alloc (.cells #[] 32)) := by kernel_rfl
theorem VS (c : Nat → Int) (w : World) : (Instr.buildSlice 52 1 #[(0, .agg (qb 32 c))]).run Try.prog w = .ok (.slice (some ⟨w.heap.size, 0, none⟩) 1 1) (w.alloc (.cells (qb 32 c) 32)) := by kernel_rfl
theorem Grown.belowS {a b c : World} {S : Nat → Prop} (h : Grown a b S) (hb : Below b.heap.size b c) : Grown a c S := h.trans (Grown.below hb)
theorem GO (x : Hs) (w : World) : (Instr.buildSlice 52 1 #[(0, .agg (jg x).toArray)]).run Try.prog w = .ok (.slice (some ⟨w.heap.size, 0, none⟩) 1 1) (w.alloc (.cells (jg x).toArray 32)) := by rw [zT]; exact VS _ w
theorem yt {ops : Array Oper} {rest : List Oper} {o : Oper} {a : Act} {w : World} {Q : Exit → Act → World → Prop} (hgd : o.guard = none) (s x : Operand)
  (ho : o.op = .call { callee := .builtin .append, args := #[s, x], argTypes := #[52, 52] }) (base : Nat) (v : Value) (L M : List Hs) (b off cap : Nat)
  (hs : a.eval s = v) (hx : a.eval x = .slice (some ⟨b, off, none⟩) M.length cap) (hown : w.ownsRow base 32 32 v L.length (qF L)) (hc : w.rangeAt b off (qF M)) (hb : L.length + M.length ≤ 4398046511104) (hbase : base ≤ w.heap.size)
  (h : ∀ v' w', w'.ownsRow base 32 32 v' (L ++ M).length (qF (L ++ M)) → w.grownBy w' v.ownBlock → (v'.ownBlock = v.ownBlock ∨ v'.ownBlock = some w.heap.size) → wpList Try.prog ops Q rest (a.put o.dst v') w') : wpList Try.prog ops Q (o :: rest) a w := by
 obtain ⟨i, hi, hzz⟩ := Option.map_eq_some_iff.1 kE
 simp only [Prod.mk.injEq] at hzz
 obtain ⟨hz, hsz, hby⟩ := hzz
 have hzs : (Value.agg (qb 32 fun _ => 0)).cells.size = 32 := by show (qb 32 fun _ => 0).size = 32; exact qB _ _
 rw [xU, List.length_append] at h
 refine wpList_append_own_at w hgd s x 52 ho base 32 i _ 32 32 Try.underlying52 hi hz hsz hby hzs (by omega) v L.length _ hs hown ⟨b, off, none⟩ M.length cap (qF M) hx (jy M)
  (fun j u hu => by rw [Addr.add_mid]; exact hc j u hu) (Jz M) (by unfold maxLen; omega) (by omega) hbase ?_
 intro v' w' h1 h2 _ h4
 exact h v' w' h1 h2 h4
def xB : Nat → Nat → List Int
 | 0, x => [(x : Int)]
 | f + 1, x => if x < 128 then [(x : Int)] else ((x % 128 + 128 : Nat) : Int) :: xB f (x / 128)
def qQ (x : Nat) : List Int := xB 9 x
theorem YB (f : Nat) : ∀ x, x < 128 ^ (f + 1) → xB (f + 1) x = xB f x := by
 induction f with
 | zero => intro x hx; simp only [xB]; rw [if_pos (by simpa using hx)]
 | succ f ih =>
  intro x hx
  by_cases h : x < 128
  ·simp only [xB, if_pos h]
  ·have h2 : x / 128 < 128 ^ (f + 1) := by rw [Nat.div_lt_iff_lt_mul (by omega)]; rw [Nat.pow_succ] at hx; exact hx
   rw [show xB (f + 1 + 1) x = ((x % 128 + 128 : Nat) : Int) :: xB (f + 1) (x / 128) by rw [xB, if_neg h]]
   rw [show xB (f + 1) x = ((x % 128 + 128 : Nat) : Int) :: xB f (x / 128) by rw [xB, if_neg h], ih _ h2]
theorem ki (x : Nat) (h : x < 128) : qQ x = [(x : Int)] := by unfold qQ; rw [xB, if_pos h]
theorem Jt (x : Nat) (h : 128 ≤ x) (hx : x < 18446744073709551616) : qQ x = ((x % 128 + 128 : Nat) : Int) :: qQ (x / 128) := by
 unfold qQ
 rw [xB, if_neg (by omega), YB 8 (x / 128) (by
  have : (128 : Nat) ^ (8 + 1) = 9223372036854775808 := by decide
  rw [this]; omega)]
theorem ZM (f : Nat) : ∀ x, (xB f x).length ≤ f + 1 := by
 induction f with
 | zero => intro x; simp [xB]
 | succ f ih =>
  intro x
  rw [xB]
  split
  ·simp
  ·have := ih (x / 128); simp; omega
theorem qO (x : Nat) : (qQ x).length ≤ 10 := ZM 9 x
def zJ (m : List Int) : List Int := qQ m.length ++ m
theorem vI (n : Nat) (h : n ≤ 200000000000000) : IntKind.u64.wrap (n : Int) = n := by rw [IntKind.wrap_u64]; omega
def LayPost (v : Value) (l : List Int) (w : World) (e : Ending) (w' : World) : Prop :=
 ∃ v', e = .returned v' ∧ Own w' v' l ∧ Moved w v v' ∧ Grown w w' fun k => v.ownBlock = some k
theorem LayPost.trans {v v1 : Value} {l : List Int} {w w1 w2 : World} {e : Ending} (h : LayPost v1 l w1 e w2) (hm : Moved w v v1) (hg : Grown w w1 fun k => v.ownBlock = some k) : LayPost v l w e w2 := by
 obtain ⟨v2, he, h1, h2, h3⟩ := h
 exact ⟨v2, he, h1, hm.trans hg.size h2, hg.next h3 fun i hi h => hm.old hi h⟩
theorem AppPost.lay {w w' : World} {v v' : Value} {l : List Int} (h : AppPost w v l v' w') : LayPost v l w (.returned v') w' := ⟨v', rfl, h.1, h.moved, h.grown⟩
set_option maxRecDepth 8000 in
set_option maxHeartbeats 1000000 in
theorem KL (v : Value) (l : List Int) (x : Nat) (w : World) (h : Own w v l) (hx : x < 18446744073709551616) (hb : l.length + (qQ x).length ≤ 140737488355328) :
  Calls Try.prog 88 #[v, .int .u64 (x : Int)] w (LayPost v (l ++ qQ x) w) := by
 have HO : Keep (Own w v l) := ⟨h⟩
 have HB := kk hb
 have HX := kk hx
 clear h hx hb
 go_enter Try.func88, Try.ntmps88
 go_wp2
 go_loopw [0, 1] (fun b i wr => ∃ (y : Nat) (v1 : Value) (l1 : List Int), b = v1 ∧ i = .int .u64 (y : Int) ∧ Keep (y < 18446744073709551616) ∧ Own wr v1 l1 ∧ Keep (l1 ++ qQ y = l ++ qQ x) ∧ Moved w v v1 ∧ Grown w wr fun k => v.ownBlock = some k) (fun _ i _ => (intOf i).toNat)
 case atStart => exact ⟨x, v, l, rfl, rfl, HX, HO.out, ⟨rfl⟩, Moved.refl _ _, Grown.refl _ _⟩
 case round =>
  obtain ⟨y, v1, l1, rfl, rfl, hy, hO1, hl1, hm1, hg1⟩ := hrel
  by_cases h128 : 128 ≤ y
  ·have h128' : (128 : Int) ≤ (y : Int) := by omega
   have HS : Keep (qQ y = ((y % 128 + 128 : Nat) : Int) :: qQ (y / 128)) := ⟨Jt y h128 hy.out⟩
   have hlen : Keep (l1.length + [(y : Int) % 128 + 128].length ≤ 140737488355328) := ⟨by
    have e := congrArg List.length hl1.out
    have := HB.out
    rw [HS.out] at e
    simp only [List.length_append, List.length_cons, List.length_nil] at e this ⊢
    omega⟩
   have HO1 := kk (hO1.box (.cells #[.int .u8 ((y : Int) % 128 + 128)] 5))
   clear hO1
   go_wp2_with (first | (at_builtin; refine jh rfl (.tmp 7) (.tmp 12) rfl _ (.slice (some ⟨wr.heap.size, 0, none⟩) 1 1) l1 [(y : Int) % 128 + 128] rfl rfl HO1.out (jb wr _) hlen.out ?_; intro v' w' hp; refine Hid.out ?_))
   refine zp ?_
   have HP := kk hp.box
   clear hp
   obtain ⟨z, hz⟩ : ∃ z, Keep (y / 128 = z) := ⟨_, ⟨rfl⟩⟩
   have hz1 : (y : Int) / 128 = (z : Int) := by have := hz.out; omega
   have hwz : IntKind.u64.wrap (z : Int) = (z : Int) := by rw [IntKind.wrap_u64]; have := hz.out; have := hy.out; omega
   go_wp2
   go_roundw
   case rel =>
    obtain ⟨hO2, hm2, hg2⟩ := HP.out
    refine ⟨z, v', l1 ++ [(y : Int) % 128 + 128], rfl, rfl, ⟨by have := hy.out; have := hz.out; omega⟩, hO2, ⟨?_⟩, hm1.trans hg1.size hm2, hg1.next hg2 fun i hi h => hm1.old hi h⟩
    rw [← hl1.out, HS.out, hz.out, List.append_assoc]
    simp
   case measure => simp only [intOf]; have := hz.out; omega
  ·have h128' : ¬ (128 : Int) ≤ (y : Int) := by omega
   have HL : Keep (l1 ++ [(y : Int)] = l ++ qQ x) := ⟨by rw [← hl1.out, ki y (by omega)]⟩
   have hlen : Keep (l1.length + [(y : Int)].length ≤ 140737488355328) := ⟨by
    have e := congrArg List.length HL.out
    have := HB.out
    simp only [List.length_append, List.length_cons, List.length_nil] at e this ⊢
    omega⟩
   have HO1 := kk (hO1.box (.cells #[.int .u8 (y : Int)] 5))
   clear hO1
   go_wp2_with (first | (at_builtin; refine jh rfl (.tmp 16) (.tmp 19) rfl _ (.slice (some ⟨wr.heap.size, 0, none⟩) 1 1) l1 [(y : Int)] rfl rfl HO1.out (jb wr _) hlen.out ?_; intro v' w' hp; refine Hid.out ?_))
   refine zp ?_
   have HP := kk hp.box
   clear hp
   go_wp2
   go_ret
   obtain ⟨hO2, hm2, hg2⟩ := HP.out
   refine ⟨v', rfl, ?_, hm1.trans hg1.size hm2, hg1.next hg2 fun i hi h => hm1.old hi h⟩
   rw [← HL.out]; exact hO2
theorem xy (w : World) (ty : TypeId) (v : Value) (l : List Int) (hown : Own w v l) (a : Addr) (c : Nat) (m : List Int) (hnews : ∀ j u, (bv m)[j]? = some u → w.cell? (a.add j) = some u) (hb : l.length + m.length ≤ 200000000000000) :
  ∃ v' w', (Builtin.append_ #[42, 42] ty #[v, .slice (some a) m.length c]).run Try.prog w = .ok v' w' ∧ AppPost w v (l ++ m) v' w' := by
 obtain ⟨i, hi, hzz⟩ := Option.map_eq_some_iff.1 zB
 simp only [Prod.mk.injEq] at hzz
 obtain ⟨hz, hsz, hby⟩ := hzz
 have h63 : l.length + m.length ≤ maxLen := by unfold maxLen; omega
 have hlm : (bv m).length = m.length * i.size := by rw [qY, hsz]; omega
 obtain ⟨v', w', hr, h1, h2, _⟩ := run_append_own_wide (P := Try.prog) w 0 42 ty 5 i (.int .u8 0) 1 1 Try.underlying42 hi hz hsz hby rfl (by omega) v l.length (bv l) hown a m.length c (bv m) (by rw [qY]; omega) hnews (vd m) h63 (by omega) (Nat.zero_le _)
 have hO : Own w' v' (l ++ m) := by unfold Own; rw [List.length_append, ve]; exact h1
 refine ⟨v', w', hr, hO, ?_⟩
 rcases hown.form with ⟨rfl, rfl⟩ | ⟨g, cap, cur, rfl, hg, hnc, hcm, hcs, htake⟩
 ·by_cases hm : m.length = 0
  ·obtain rfl := List.eq_nil_of_length_eq_zero hm
   have hr2 : (Builtin.append_ #[42, 42] ty #[.slice none 0 0, .slice (some a) ([] : List Int).length c]).run Try.prog w = .ok (.slice none 0 0) w := by
    simp [Builtin.append_, run_underlying Try.underlying42, sizeOf, typeInfo, hi, Builtin.lenOf, Builtin.firstCells, loadCells, loadCellsFrom]
   have e := hr.symm.trans hr2
   injection e with e1 e2
   subst e1
   exact .inl ⟨rfl, Grown.of h2 fun k _ e => by simp [Value.ownBlock] at e⟩
  ·have hr2 := run_append_nil (P := Try.prog) w 42 ty 5 i (.int .u8 0) Try.underlying42 hi hz a m.length c (bv m) hlm hnews (by omega) (by simp at hb; omega) (by rw [hby]; simp at hb; omega)
   have e := hr.symm.trans hr2
   injection e with e1 e2
   subst e1 e2
   exact .inr ⟨rfl, ⟨rfl, rfl, rfl, by simp, fun k hk => Below.heap_alloc w.drew _ k hk⟩⟩
 ·by_cases hroom : l.length + m.length ≤ cap
  ·have hr2 := run_append_room (P := Try.prog) w 42 ty 5 i Try.underlying42 hi g l.length cap cur hg a m.length c (bv m) hlm hnews (vd m) hroom (by rw [hsz, qY, hcs]; omega)
   have e := hr.symm.trans hr2
   injection e with e1 e2
   subst e1
   exact .inl ⟨rfl, Grown.of h2 fun k _ e => e⟩
  ·have holds : ∀ j u, (bv l)[j]? = some u → w.cell? ((⟨g, 0, none⟩ : Addr).add j) = some u := World.ownsRow.cells (g := g) hown rfl
   have hr2 := run_append_grow (P := Try.prog) w 42 ty 5 i (.int .u8 0) Try.underlying42 hi hz ⟨g, 0, none⟩ l.length cap (bv l) (by rw [qY, hsz]; omega) holds a m.length c (bv m) hlm hnews (by omega) (by omega) (by rw [hby]; exact growslice_fits_wide (by omega) (by omega))
   have e := hr.symm.trans hr2
   injection e with e1 e2
   subst e1 e2
   exact .inr ⟨rfl, ⟨rfl, rfl, rfl, by simp, fun k hk => Below.heap_alloc w.drew _ k hk⟩⟩
theorem Kb (w : World) (ty : TypeId) (v vx : Value) (l m : List Int) (hown : Own w v l) (hrow : RowAt w vx m) (hb : l.length + m.length ≤ 200000000000000) :
  ∃ v' w', (Builtin.append_ #[42, 42] ty #[v, vx]).run Try.prog w = .ok v' w' ∧ AppPost w v (l ++ m) v' w' := by
 rcases hrow with ⟨rfl, rfl⟩ | ⟨ad, c, rfl, rfl⟩ | ⟨b, off, cap, rfl, hcap, hc⟩
 ·obtain ⟨i, hi, _⟩ := Option.map_eq_some_iff.1 zB
  have hrun := run_append_owned_none (P := Try.prog) (w := w) 0 42 ty 5 i 1 Try.underlying42 hi v l.length (bv l) hown
  exact ⟨v, w, hrun, by simpa using hown, .inl ⟨rfl, Grown.refl _ _⟩⟩
 ·exact xy w ty v l hown ad c [] (fun j u hu => by simp [bv] at hu) hb
 ·refine xy w ty v l hown ⟨b, off, none⟩ cap m (fun j u hu => ?_) hb
  have hj : j < m.length := by have := (List.getElem?_eq_some_iff.1 hu).1; rwa [qY] at this
  rw [jP m j hj] at hu
  rw [Addr.add_mid, hc j hj]; exact hu
theorem Kx {ops : Array Oper} {rest : List Oper} {o : Oper} {a : Act} {w : World} {Q : Exit → Act → World → Prop} (hgd : o.guard = none) (s x : Operand)
  (ho : o.op = .call { callee := .builtin .append, args := #[s, x], argTypes := #[42, 42] }) (v vx : Value) (l m : List Int)
  (hs : a.eval s = v) (hx : a.eval x = vx) (hown : Own w v l) (hrow : RowAt w vx m) (hb : l.length + m.length ≤ 200000000000000)
  (h : ∀ v' w', AppPost w v (l ++ m) v' w' → wpList Try.prog ops Q rest (a.put o.dst v') w') : wpList Try.prog ops Q (o :: rest) a w := by
 refine wpList_plain hgd fun K hK => ?_
 obtain ⟨v', w', hr, h2⟩ := Kb w o.type v vx l m hown hrow hb
 unfold Oper.wp execOp
 simp only [ho, resolve, invoke, builtin, Sem.run_bind, Sem.run_pure, Result.andThen_ok, List.map_toArray, List.map_cons, List.map_nil, hs, hx, hr]
 exact hK _ _ (h v' w' h2)
end Go.Proofs.Ytdpcjfafbmhceaa
