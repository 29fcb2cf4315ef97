import Derived.Test.YteecdcocgflklaaDoorChecked
import Derived.WalkKit
import Derived.WalkSpells
import Derived.WalkLawsBesides
import Derived.BigQuiet
import Derived.BigRegion
import Derived.Deep.WholeRow
import Derived.Deep.MidRow
import Derived.Deep.RegionWith
import Derived.Deep.DeepCutAuto
import Derived.Deep.RegionHeld3
import Derived.Deep.QuietTactic
import Derived.Laws.OwnMore
import Derived.Laws.BytesArg
import Derived.Lib.AppendStr
import Derived.Maps.AppendAt
import Derived.ChangeKeysEq
import Derived.ArgAppend
import Derived.Lib.ConvBytes
import Derived.Deep.DeepAppendWide
namespace Go.Proofs.YteecdcocgflklaaDoor
open Go.RowKit

theorem hid_in {p : Prop} (h : p) : Hid p := h
structure Keep (p : Prop) : Prop where
  out : p

def Blk (w : World) (b : Nat) (T : TypeId) (cs : Array Value) : Prop := w.heap[b]? = some (.cells cs T (0, 0))

theorem Blk.lt {w : World} {b : Nat} {T : TypeId} {cs : Array Value} (h : Blk w b T cs) : b < w.heap.size := (Array.getElem?_eq_some_iff.1 h).1
theorem Blk.cell {w : World} {b : Nat} {T : TypeId} {cs : Array Value} (h : Blk w b T cs) (j : Nat) : w.cell? ⟨b, j, none⟩ = cs[j]? := cell_of_row w b j cs T (0, 0) h
theorem Blk.frozen {w : World} {b : Nat} {T : TypeId} {cs : Array Value} (h : Blk w b T cs) (j : Nat) : w.frozen? ⟨b, j, none⟩ = false := by
  unfold Blk at h; simp [World.frozen?, h]
theorem Blk.new (w : World) (T : TypeId) (cs : Array Value) : Blk (w.alloc (.cells cs T)) w.heap.size T cs := heap_alloc_new w _
theorem Blk.alloc {w : World} {b : Nat} {T : TypeId} {cs : Array Value} (h : Blk w b T cs) (o : Obj) : Blk (w.alloc o) b T cs := by
  unfold Blk; rw [Below.heap_alloc w o b h.lt]; exact h
theorem Blk.drew {w : World} {b : Nat} {T : TypeId} {cs : Array Value} (h : Blk w b T cs) : Blk w.drew b T cs := h
theorem Blk.drewN {w : World} {b : Nat} {T : TypeId} {cs : Array Value} (h : Blk w b T cs) (n : Nat) : Blk (w.drewN n) b T cs := h
theorem Blk.below {w w' : World} {B b : Nat} {T : TypeId} {cs : Array Value} (h : Blk w b T cs) (hb : Below B w w') (hlt : b < B) : Blk w' b T cs := by
  unfold Blk; rw [hb.block b hlt]; exact h
theorem Blk.set {w : World} {b : Nat} {T : TypeId} {cs : Array Value} (h : Blk w b T cs) (j : Nat) (v : Value) : Blk (w.setCell ⟨b, j, none⟩ v) b T (cs.setIfInBounds j v) := by
  unfold Blk; rw [setCell_eq_setRow w b j cs T (0, 0) v h]; exact setRow_heap w b cs _ T (0, 0) h
theorem Blk.set_ne {w : World} {b b' j : Nat} {T : TypeId} {cs : Array Value} (h : Blk w b T cs) (hne : b ≠ b') (v : Value) : Blk (w.setCell ⟨b', j, none⟩ v) b T cs := by
  unfold Blk; rw [Below.heap_setCell w _ v b hne]; exact h
theorem Blk.setRow {w : World} {b : Nat} {T : TypeId} {cs : Array Value} (h : Blk w b T cs) (cs' : Array Value) : Blk (w.setRow b cs') b T cs' := setRow_heap w b cs cs' T (0, 0) h
theorem Blk.setRow_ne {w : World} {b b' : Nat} {T : TypeId} {cs : Array Value} (h : Blk w b T cs) (hne : b ≠ b') (cs' : Array Value) : Blk (w.setRow b' cs') b T cs := by
  unfold Blk; rw [setRow_other w b' b cs' hne]; exact h
theorem below_setRow {B : Nat} {a w : World} (h : Below B a w) {b : Nat} (hb : B ≤ b) (cs : Array Value) : Below B a (w.setRow b cs) :=
  h.trans ⟨rfl, rfl, rfl, by simp, fun k hk => setRow_other w b k cs (by omega)⟩
theorem below_new (w : World) (o : Obj) : Below w.heap.size w (w.alloc o) := (Below.refl _ _).alloc (Nat.le_refl _) o
theorem blk_type {w : World} {k : Nat} {T T' : TypeId} {cs cs' : Array Value} (h : Blk w k T cs) (h' : Blk w k T' cs') : T = T' := by
  unfold Blk at h h'; rw [h] at h'; simp at h'; exact h'.2
theorem blk_ne {w : World} {k k' : Nat} {T T' : TypeId} {cs cs' : Array Value} (h : Blk w k T cs) (h' : Blk w k' T' cs') (ht : T ≠ T') : k ≠ k' := by
  rintro rfl; exact ht (blk_type h h')
theorem cell_lt {w : World} {h j : Nat} {v : Value} (hc : w.cell? ⟨h, j, none⟩ = some v) : h < w.heap.size := by
  apply Nat.lt_of_not_le; intro hle
  simp [World.cell?, Array.getElem?_eq_none hle] at hc

abbrev ptr (g : Nat) : Value := .pointer (some ⟨g, 0, none⟩)

theorem grownBy_refl (w : World) (o : Option Nat) : w.grownBy w o := ⟨rfl, rfl, rfl, Nat.le_refl _, fun _ _ _ => rfl⟩
theorem grownBy_setCell (w : World) (g j : Nat) (v : Value) : w.grownBy (w.setCell ⟨g, j, none⟩ v) (some g) :=
  ⟨rfl, rfl, rfl, by simp [World.setCell], fun i _ hn => Below.heap_setCell w _ v i (fun e => hn (by rw [e]))⟩
theorem grownBy_setRow (w : World) (g : Nat) (cs : Array Value) : w.grownBy (w.setRow g cs) (some g) :=
  ⟨rfl, rfl, rfl, by simp, fun i _ hn => setRow_other w g i cs (fun e => hn (by rw [e]))⟩
theorem grownBy_below {w w' : World} (h : Below w.heap.size w w') (o : Option Nat) : w.grownBy w' o := ⟨h.os, h.tape, h.output, h.size, fun i hi _ => h.block i hi⟩

structure Grown (w w' : World) (S : Nat → Prop) : Prop where
  os : w'.os = w.os
  tape : w'.tape = w.tape
  output : w'.output = w.output
  size : w.heap.size ≤ w'.heap.size
  block : ∀ k, k < w.heap.size → ¬ S k → w'.heap[k]? = w.heap[k]?
theorem Grown.refl (w : World) (S : Nat → Prop) : Grown w w S := ⟨rfl, rfl, rfl, Nat.le_refl _, fun _ _ _ => rfl⟩
theorem Grown.trans {a b c : World} {S : Nat → Prop} (h : Grown a b S) (k : Grown b c S) : Grown a c S :=
  ⟨k.os.trans h.os, k.tape.trans h.tape, k.output.trans h.output, Nat.le_trans h.size k.size, fun i hi hs => (k.block i (Nat.lt_of_lt_of_le hi h.size) hs).trans (h.block i hi hs)⟩
theorem Grown.next {a b c : World} {S T : Nat → Prop} (h : Grown a b S) (k : Grown b c T) (hT : ∀ i, i < a.heap.size → T i → S i) : Grown a c S :=
  ⟨k.os.trans h.os, k.tape.trans h.tape, k.output.trans h.output, Nat.le_trans h.size k.size, fun i hi hs => (k.block i (Nat.lt_of_lt_of_le hi h.size) (fun ht => hs (hT i hi ht))).trans (h.block i hi hs)⟩
theorem Grown.mono {a b : World} {S T : Nat → Prop} (h : Grown a b S) (hT : ∀ i, i < a.heap.size → S i → T i) : Grown a b T := (Grown.refl a T).next h hT
theorem Grown.of {a b : World} {S : Nat → Prop} {o : Option Nat} (h : a.grownBy b o) (ho : ∀ k, k < a.heap.size → o = some k → S k) : Grown a b S :=
  ⟨h.os, h.tape, h.output, h.size, fun i hi hs => h.block i hi (fun e => hs (ho i hi e.symm))⟩
theorem Grown.below {a b : World} {S : Nat → Prop} (h : Below a.heap.size a b) : Grown a b S := ⟨h.os, h.tape, h.output, h.size, fun i hi _ => h.block i hi⟩
theorem Grown.alloc (w : World) (o : Obj) (S : Nat → Prop) : Grown w (w.alloc o) S := Grown.below (below_new w o)
theorem Grown.drew {a b : World} {S : Nat → Prop} (h : Grown a b S) : Grown a b.drew S := ⟨h.os, h.tape, h.output, h.size, h.block⟩
theorem Grown.drewN {a b : World} {S : Nat → Prop} (h : Grown a b S) (n : Nat) : Grown a (b.drewN n) S := ⟨h.os, h.tape, h.output, h.size, h.block⟩
theorem Grown.setCell (w : World) (g j : Nat) (v : Value) {S : Nat → Prop} (hS : g < w.heap.size → S g) : Grown w (w.setCell ⟨g, j, none⟩ v) S :=
  Grown.of (grownBy_setCell w g j v) fun k hk e => by injection e with e; subst e; exact hS hk
theorem Grown.setRow (w : World) (g : Nat) (cs : Array Value) {S : Nat → Prop} (hS : g < w.heap.size → S g) : Grown w (w.setRow g cs) S :=
  Grown.of (grownBy_setRow w g cs) fun k hk e => by injection e with e; subst e; exact hS hk
theorem Grown.blk {a b : World} {S : Nat → Prop} (h : Grown a b S) {k : Nat} {T : TypeId} {cs : Array Value} (hk : Blk a k T cs) (hs : ¬ S k) : Blk b k T cs := by
  unfold Blk; rw [h.block k hk.lt hs]; exact hk
theorem Grown.cell {a b : World} {S : Nat → Prop} (h : Grown a b S) {k j : Nat} {v : Value} (hk : a.cell? ⟨k, j, none⟩ = some v) (hs : ¬ S k) : b.cell? ⟨k, j, none⟩ = some v := by
  rw [World.cell?_of_block (h.block k (cell_lt hk) hs)]; exact hk
theorem Grown.to_below {a b : World} {S : Nat → Prop} (h : Grown a b S) {B : Nat} (hs : ∀ k, k < B → ¬ S k) (hB : B ≤ a.heap.size) : Below B a b :=
  ⟨h.os, h.tape, h.output, h.size, fun i hi => h.block i (by omega) (hs i hi)⟩

def bv (l : List Int) : List Value := l.map fun c => .int .u8 c
theorem bv_len (l : List Int) : (bv l).length = l.length := by simp [bv]
theorem bv_get (l : List Int) (i : Nat) (h : i < l.length) : (bv l)[i]? = some (.int .u8 (l.getD i 0)) := by
  simp [bv, h, List.getD]
theorem bv_app (a b : List Int) : bv (a ++ b) = bv a ++ bv b := by simp [bv]
theorem bv_one (l : List Int) : ∀ u ∈ bv l, u.oneCell' = true := fun u hu => by simp [bv] at hu; obtain ⟨_, _, rfl⟩ := hu; rfl
theorem bv_take (l : List Int) (n : Nat) : (bv l).take n = bv (l.take n) := by simp [bv, List.map_take]
def RowAt (w : World) (v : Value) (l : List Int) : Prop :=
  (v = .slice none 0 0 ∧ l = []) ∨ (∃ a c, v = .slice (some a) 0 c ∧ l = []) ∨ ∃ h off cap, v = .slice (some ⟨h, off, none⟩) l.length cap ∧ l.length ≤ cap ∧ ∀ i, i < l.length → w.cell? ⟨h, off + i, none⟩ = some (.int .u8 (l.getD i 0))
theorem row_form {w : World} {v : Value} {l : List Int} (h : RowAt w v l) : ∃ a c, v = .slice a l.length c := by
  rcases h with ⟨rfl, rfl⟩ | ⟨a, c, rfl, rfl⟩ | ⟨b, off, cap, rfl, _⟩
  · exact ⟨_, _, rfl⟩
  · exact ⟨_, _, rfl⟩
  · exact ⟨_, _, rfl⟩
theorem RowAt.grown {w w' : World} {v : Value} {l : List Int} {S : Nat → Prop} (h : RowAt w v l) (hg : Grown w w' S) (hs : ∀ b, v.ownBlock = some b → b < w.heap.size → ¬ S b) : RowAt w' v l := by
  rcases h with h | h | ⟨b, off, cap, h1, h2, h3⟩
  · exact .inl h
  · exact .inr (.inl h)
  · exact .inr (.inr ⟨b, off, cap, h1, h2, fun i hi => hg.cell (h3 i hi) (hs b (by rw [h1]; rfl) (cell_lt (h3 i hi)))⟩)
theorem RowAt.below {w w' : World} {v : Value} {l : List Int} (h : RowAt w v l) (hb : Below w.heap.size w w') : RowAt w' v l :=
  h.grown (Grown.below (S := fun _ => False) hb) fun _ _ _ h => h

def Own (w : World) (v : Value) (l : List Int) : Prop := w.ownsRow 0 5 1 v l.length (bv l)
theorem own_nil (w : World) : Own w (.slice none 0 0) [] := ⟨rfl, .inl ⟨rfl, rfl⟩⟩
theorem Own.row {w : World} {v : Value} {l : List Int} (h : Own w v l) : RowAt w v l := by
  have h' := h
  obtain ⟨_, h2⟩ := h
  rcases h2 with ⟨rfl, h0⟩ | ⟨g, cap, cur, rfl, hg, hh, hc, _⟩
  · exact .inl ⟨rfl, List.eq_nil_of_length_eq_zero (by omega)⟩
  · refine .inr <| .inr ⟨g, 0, cap, rfl, by omega, fun i hi => ?_⟩
    rw [Nat.zero_add, World.ownsRow.cellAt h' i (by omega), bv_get l i hi]
theorem Own.lt {w : World} {v : Value} {l : List Int} (h : Own w v l) : ∀ k, v.ownBlock = some k → k < w.heap.size := fun k hk => (World.ownsRow.lt h k hk).2
theorem Own.grown {w w' : World} {v : Value} {l : List Int} {S : Nat → Prop} (h : Own w v l) (hg : Grown w w' S) (hs : ∀ k, v.ownBlock = some k → ¬ S k) : Own w' v l := by
  refine ⟨h.1, ?_⟩
  rcases h.2 with h1 | ⟨g, cap, cur, rfl, h2, h3, h4⟩
  · exact .inl h1
  · exact .inr ⟨g, cap, cur, rfl, h2, hg.blk h3 (hs g rfl), h4⟩
theorem Own.ne {w : World} {v : Value} {l : List Int} {p : Nat} {T : TypeId} {cs : Array Value} (h : Own w v l) (hp : Blk w p T cs) (hT : T ≠ 5) : v.ownBlock ≠ some p := by
  intro e
  rcases h.2 with ⟨rfl, _⟩ | ⟨g, cap, cur, rfl, _, h3, _⟩
  · simp [Value.ownBlock] at e
  · simp [Value.ownBlock] at e
    subst e
    exact hT (blk_type hp h3)
theorem Own.form {w : World} {v : Value} {l : List Int} (h : Own w v l) : (v = .slice none 0 0 ∧ l = []) ∨ ∃ g cap cur, v = .slice (some ⟨g, 0, none⟩) l.length cap ∧ Blk w g 5 cur ∧ l.length ≤ cap ∧ cap ≤ maxLen ∧ cur.size = cap ∧ cur.toList.take l.length = bv l := by
  rcases h.2 with ⟨rfl, h0⟩ | ⟨g, cap, cur, rfl, _, h3, h4, h5, h6, h7⟩
  · exact .inl ⟨rfl, List.eq_nil_of_length_eq_zero h0⟩
  · exact .inr ⟨g, cap, cur, rfl, h3, h4, h5, by omega, by simpa using h7⟩
theorem Own.mk {w : World} {g cap : Nat} {cur : Array Value} {l : List Int} (h3 : Blk w g 5 cur) (h4 : l.length ≤ cap) (h5 : cap ≤ maxLen) (h6 : cur.size = cap) (h7 : cur.toList.take l.length = bv l) : Own w (.slice (some ⟨g, 0, none⟩) l.length cap) l :=
  ⟨by rw [bv_len]; omega, .inr ⟨g, cap, cur, rfl, Nat.zero_le _, h3, h4, h5, by omega, by simpa using h7⟩⟩
def Moved (w : World) (v v' : Value) : Prop := v'.ownBlock = v.ownBlock ∨ ∃ k, v'.ownBlock = some k ∧ w.heap.size ≤ k
theorem Moved.refl (w : World) (v : Value) : Moved w v v := .inl rfl
theorem Moved.trans {a b : World} {v v1 v2 : Value} (h : Moved a v v1) (hs : a.heap.size ≤ b.heap.size) (k : Moved b v1 v2) : Moved a v v2 := by
  rcases k with e | ⟨j, h1, h2⟩
  · rcases h with h | ⟨i, h1, h2⟩
    · exact .inl (e.trans h)
    · exact .inr ⟨i, e.trans h1, h2⟩
  · exact .inr ⟨j, h1, by omega⟩
theorem Moved.old {a : World} {v v1 : Value} (h : Moved a v v1) {k : Nat} (hk : k < a.heap.size) (e : v1.ownBlock = some k) : v.ownBlock = some k := by
  rcases h with h | ⟨i, h1, h2⟩
  · rw [← h]; exact e
  · rw [h1] at e; injection e with e; omega

theorem Tryd.info5 : (Tryd.prog.info? 5).map (fun i => (i.zero, i.size, i.bytes)) = some (some (.int .u8 0), 1, 1) := by kernel_rfl
theorem row_one (w : World) (c : Int) : RowAt (w.alloc (.cells #[.int .u8 c] 5)) (.slice (some ⟨w.heap.size, 0, none⟩) 1 1) [c] := by
  refine .inr <| .inr ⟨w.heap.size, 0, 1, rfl, by simp, fun i hi => ?_⟩
  have e : i = 0 := by simp at hi; exact hi
  subst e
  rw [(Blk.new w 5 #[.int .u8 c]).cell]; rfl

def AppPost (w : World) (v : Value) (l : List Int) (v' : Value) (w' : World) : Prop :=
  Own w' v' l ∧ ((v'.ownBlock = v.ownBlock ∧ Grown w w' fun k => v.ownBlock = some k) ∨ (v'.ownBlock = some w.heap.size ∧ Below w.heap.size w w'))
theorem AppPost.moved {w w' : World} {v v' : Value} {l : List Int} (h : AppPost w v l v' w') : Moved w v v' := by
  rcases h.2 with h | h
  · exact .inl h.1
  · exact .inr ⟨_, h.1, Nat.le_refl _⟩
theorem AppPost.grown {w w' : World} {v v' : Value} {l : List Int} (h : AppPost w v l v' w') : Grown w w' fun k => v.ownBlock = some k := by
  rcases h.2 with h | h
  · exact h.2
  · exact Grown.below h.2

section
theorem run_app_cells (w : World) (ty : TypeId) (v : Value) (l : List Int) (hown : Own w v l) (a : Addr) (c : Nat) (m : List Int) (hnews : ∀ j u, (bv m)[j]? = some u → w.cell? (a.add j) = some u) (hb : l.length + m.length ≤ 140737488355328) :
    ∃ v' w', (Builtin.append_ #[39, 39] ty #[v, .slice (some a) m.length c]).run Tryd.prog w = .ok v' w' ∧ AppPost w v (l ++ m) v' w' := by
  obtain ⟨i, hi, hzz⟩ := Option.map_eq_some_iff.1 Tryd.info5
  simp only [Prod.mk.injEq] at hzz
  obtain ⟨hz, hsz, hby⟩ := hzz
  have h63 : l.length + m.length ≤ maxLen := by unfold maxLen; omega
  have hlm : (bv m).length = m.length * i.size := by rw [bv_len, hsz]; omega
  obtain ⟨v', w', hr, h1, h2, _, h3⟩ := run_append_own_at (P := Tryd.prog) w 0 39 ty 5 i (.int .u8 0) 1 1 Tryd.underlying39 hi hz hsz hby rfl (by omega) v l.length (bv l) hown a m.length c (bv m) (by rw [bv_len]; omega) hnews (bv_one m) h63 (by omega) (Nat.zero_le _)
  have hO : Own w' v' (l ++ m) := by unfold Own; rw [List.length_append, bv_app]; exact h1
  refine ⟨v', w', hr, hO, ?_⟩
  rcases hown.form with ⟨rfl, rfl⟩ | ⟨g, cap, cur, rfl, hg, hnc, hcm, hcs, htake⟩
  · rcases h3 with h3 | h3
    · exact .inl ⟨h3, Grown.of h2 fun k _ e => by simp [Value.ownBlock] at e⟩
    · exact .inr ⟨h3, h2.os, h2.tape, h2.output, h2.size, fun k hk => h2.block k hk (by simp [Value.ownBlock])⟩
  · by_cases hroom : l.length + m.length ≤ cap
    · have hr2 := run_append_room (P := Tryd.prog) w 39 ty 5 i Tryd.underlying39 hi g l.length cap cur hg a m.length c (bv m) hlm hnews (bv_one m) hroom (by rw [hsz, bv_len, hcs]; omega)
      have e := hr.symm.trans hr2
      injection e with e1 e2
      subst e1
      exact .inl ⟨rfl, Grown.of h2 fun k _ e => e⟩
    · have holds : ∀ j u, (bv l)[j]? = some u → w.cell? ((⟨g, 0, none⟩ : Addr).add j) = some u := World.ownsRow.cells (g := g) hown rfl
      have hr2 := run_append_grow (P := Tryd.prog) w 39 ty 5 i (.int .u8 0) Tryd.underlying39 hi hz ⟨g, 0, none⟩ l.length cap (bv l) (by rw [bv_len, hsz]; omega) holds a m.length c (bv m) hlm hnews (by omega) (by omega) (by rw [hby]; exact growslice_fits (by omega) (by omega))
      have e := hr.symm.trans hr2
      injection e with e1 e2
      subst e1 e2
      exact .inr ⟨rfl, ⟨rfl, rfl, rfl, by simp, fun k hk => Below.heap_alloc w.drew _ k hk⟩⟩
theorem run_app_row (w : World) (ty : TypeId) (v vx : Value) (l m : List Int) (hown : Own w v l) (hrow : RowAt w vx m) (hb : l.length + m.length ≤ 140737488355328) :
    ∃ v' w', (Builtin.append_ #[39, 39] ty #[v, vx]).run Tryd.prog w = .ok v' w' ∧ AppPost w v (l ++ m) v' w' := by
  rcases hrow with ⟨rfl, rfl⟩ | ⟨ad, c, rfl, rfl⟩ | ⟨b, off, cap, rfl, hcap, hc⟩
  · obtain ⟨i, hi, _⟩ := Option.map_eq_some_iff.1 Tryd.info5
    have hrun := run_append_owned_none (P := Tryd.prog) (w := w) 0 39 ty 5 i 1 Tryd.underlying39 hi v l.length (bv l) hown
    exact ⟨v, w, hrun, by simpa using hown, .inl ⟨rfl, Grown.refl _ _⟩⟩
  · exact run_app_cells w ty v l hown ad c [] (fun j u hu => by simp [bv] at hu) hb
  · refine run_app_cells w ty v l hown ⟨b, off, none⟩ cap m (fun j u hu => ?_) hb
    have hj : j < m.length := by have := (List.getElem?_eq_some_iff.1 hu).1; rwa [bv_len] at this
    rw [bv_get m j hj] at hu
    rw [Addr.add_mid, hc j hj]; exact hu
end
theorem wpList_app {ops : Array Oper} {rest : List Oper} {o : Oper} {a : Act} {w : World} {Q : Exit → Act → World → Prop} (hgd : o.guard = none) (s x : Operand)
    (ho : o.op = .call { callee := .builtin .append, args := #[s, x], argTypes := #[39, 39] }) (v vx : Value) (l m : List Int)
    (hs : a.eval s = v) (hx : a.eval x = vx) (hown : Own w v l) (hrow : RowAt w vx m) (hb : l.length + m.length ≤ 140737488355328)
    (h : ∀ v' w', AppPost w v (l ++ m) v' w' → wpList Tryd.prog ops Q rest (a.put o.dst v') w') : wpList Tryd.prog ops Q (o :: rest) a w := by
  refine wpList_plain hgd fun K hK => ?_
  obtain ⟨v', w', hr, h2⟩ := run_app_row w o.type v vx l m hown hrow hb
  unfold Oper.wp execOp
  simp only [ho, resolve, invoke, builtin, Sem.run_bind, Sem.run_pure, Result.andThen_ok, List.map_toArray, List.map_cons, List.map_nil, hs, hx, hr]
  exact hK _ _ (h v' w' h2)
def Byts (l : List Int) : Prop := ∀ c ∈ l, 0 ≤ c ∧ c < 256
theorem Byts.nil : Byts [] := fun _ h => by simp at h
theorem Byts.app {a b : List Int} (h : Byts a) (k : Byts b) : Byts (a ++ b) := fun c hc => by
  rcases List.mem_append.1 hc with h1 | h1
  · exact h c h1
  · exact k c h1
theorem Byts.one {c : Int} (h : 0 ≤ c ∧ c < 256) : Byts [c] := fun x hx => by simp at hx; subst hx; exact h
theorem Byts.take {a : List Int} (h : Byts a) (n : Nat) : Byts (a.take n) := fun c hc => h c (List.mem_of_mem_take hc)
theorem Byts.drop {a : List Int} (h : Byts a) (n : Nat) : Byts (a.drop n) := fun c hc => h c (List.mem_of_mem_drop hc)
theorem Byts.getD {a : List Int} (h : Byts a) (n : Nat) : 0 ≤ a.getD n 0 ∧ a.getD n 0 < 256 := by
  rw [List.getD_eq_getElem?_getD]
  by_cases hn : n < a.length
  · rw [List.getElem?_eq_getElem hn]; exact h _ (List.getElem_mem hn)
  · rw [List.getElem?_eq_none (by omega)]; decide
theorem Own.sl {w : World} {v : Value} {l : List Int} (h : Own w v l) : ∃ a n c, v = .slice a n c := by
  rcases h.form with ⟨rfl, _⟩ | ⟨g, cap, cur, rfl, _⟩
  · exact ⟨_, _, _, rfl⟩
  · exact ⟨_, _, _, rfl⟩
def lst (s : ByteArray) : List Int := s.data.toList.map fun b => (b.toNat : Int)
theorem lst_len (s : ByteArray) : (lst s).length = s.size := by simp [lst]
theorem lst_cells (s : ByteArray) : Lib.strCells s = bv (lst s) := by simp [Lib.strCells, bv, lst]
theorem lst_byts (s : ByteArray) : Byts (lst s) := fun c hc => by
  simp [lst] at hc
  obtain ⟨b, _, rfl⟩ := hc
  have := b.toNat_lt
  omega
theorem lst_nums {l : List Int} (h : Byts l) : lst (strOfNums l) = l := by
  unfold lst
  rw [strOfNums_data, List.map_map]
  conv => rhs; rw [← List.map_id l]
  apply List.map_congr_left
  intro c hc
  have := h c hc
  simp
  omega
theorem nums_lst (s : ByteArray) : strOfNums (lst s) = s := by
  apply ByteArray.ext
  apply Array.ext'
  show (strOfNums (lst s)).data.toList = _
  rw [strOfNums_data]
  unfold lst
  rw [List.map_map]
  conv => rhs; rw [← List.map_id s.data.toList]
  apply List.map_congr_left
  intro b _
  simp
theorem run_app_string (w : World) (ty : TypeId) (v : Value) (l : List Int) (hown : Own w v l) (s : ByteArray) (hb : l.length + s.size ≤ 140737488355328) :
    ∃ v' w', (Builtin.append_ #[39, 9] ty #[v, .string s]).run Tryd.prog w = .ok v' w' ∧ AppPost w v (l ++ lst s) v' w' := by
  obtain ⟨i, hi, hzz⟩ := Option.map_eq_some_iff.1 Tryd.info5
  simp only [Prod.mk.injEq] at hzz
  obtain ⟨hz, hsz, hby⟩ := hzz
  have h63 : l.length + s.size ≤ maxLen := by unfold maxLen; omega
  obtain ⟨v', w', hr, h1, h2, h3⟩ := Lib.run_append_own_string (P := Tryd.prog) w 0 39 9 ty 5 i Tryd.underlying39 Tryd.underlying9 hi hz hsz hby v l.length (bv l) hown s h63 hb (Nat.zero_le _)
  have hO : Own w' v' (l ++ lst s) := by unfold Own; rw [List.length_append, bv_app, lst_len, ← lst_cells]; exact h1
  refine ⟨v', w', hr, hO, ?_⟩
  rcases hown.form with ⟨rfl, rfl⟩ | ⟨g, cap, cur, rfl, hg, hnc, hcm, hcs, htake⟩
  · by_cases h0 : s.size = 0
    · have e := h3.2 ⟨rfl, h0⟩
      subst e
      exact .inl ⟨rfl, Grown.of h2 fun k _ e => e⟩
    · have hr2 := run_append_nil_string (P := Tryd.prog) w 39 9 ty 5 i (.int .u8 0) Tryd.underlying39 Tryd.underlying9 hi hz s (by omega) (by omega) (by rw [hby]; omega)
      have e := hr.symm.trans hr2
      injection e with e1 e2
      subst e1
      exact .inr ⟨rfl, h2.os, h2.tape, h2.output, h2.size, fun k hk => h2.block k hk (by simp [Value.ownBlock])⟩
  · by_cases hroom : l.length + s.size ≤ cap
    · have hr2 := Lib.run_append_room_string (P := Tryd.prog) w 39 9 ty 5 i Tryd.underlying39 Tryd.underlying9 hi hsz g l.length cap cur hg s hroom (by omega)
      have e := hr.symm.trans hr2
      injection e with e1 e2
      subst e1
      exact .inl ⟨rfl, Grown.of h2 fun k _ e => e⟩
    · have holds : ∀ j u, (bv l)[j]? = some u → w.cell? ((⟨g, 0, none⟩ : Addr).add j) = some u := World.ownsRow.cells (g := g) hown rfl
      have hr2 := Lib.run_append_grow_string (P := Tryd.prog) w 39 9 ty 5 i (.int .u8 0) Tryd.underlying39 Tryd.underlying9 hi hz ⟨g, 0, none⟩ l.length cap (bv l) (by rw [bv_len, hsz]; omega) holds s (by omega) (by omega) (by rw [hby]; exact growslice_fits (by omega) (by omega))
      have e := hr.symm.trans hr2
      injection e with e1 e2
      subst e1 e2
      exact .inr ⟨rfl, ⟨rfl, rfl, rfl, by simp, fun k hk => Below.heap_alloc w.drew _ k hk⟩⟩
theorem wpList_appS {ops : Array Oper} {rest : List Oper} {o : Oper} {a : Act} {w : World} {Q : Exit → Act → World → Prop} (hgd : o.guard = none) (s x : Operand)
    (ho : o.op = .call { callee := .builtin .append, args := #[s, x], argTypes := #[39, 9] }) (v : Value) (l : List Int) (t : ByteArray)
    (hs : a.eval s = v) (hx : a.eval x = .string t) (hown : Own w v l) (hb : l.length + t.size ≤ 140737488355328)
    (h : ∀ v' w', AppPost w v (l ++ lst t) v' w' → wpList Tryd.prog ops Q rest (a.put o.dst v') w') : wpList Tryd.prog ops Q (o :: rest) a w := by
  refine wpList_plain hgd fun K hK => ?_
  obtain ⟨v', w', hr, h2⟩ := run_app_string w o.type v l hown t hb
  unfold Oper.wp execOp
  simp only [ho, resolve, invoke, builtin, Sem.run_bind, Sem.run_pure, Result.andThen_ok, List.map_toArray, List.map_cons, List.map_nil, hs, hx, hr]
  exact hK _ _ (h v' w' h2)
def bytesA (n : Nat) (c : Nat → Int) : Array Value := Array.ofFn (n := n) fun i => .int .u8 (c i.val)
def upd (c : Nat → Int) (t : Nat) (v : Int) : Nat → Int := fun i => if i = t then v else c i
theorem bytesA_size (n : Nat) (c : Nat → Int) : (bytesA n c).size = n := by simp [bytesA]
theorem bytesA_get (n : Nat) (c : Nat → Int) (j : Nat) (h : j < n) : (bytesA n c)[j]? = some (.int .u8 (c j)) := by simp [bytesA, h]
theorem bytesA_set (n : Nat) (c : Nat → Int) (j : Nat) (v : Int) : (bytesA n c).setIfInBounds j (.int .u8 v) = bytesA n (upd c j v) := by
  apply Array.ext_getElem?
  intro i
  rw [Array.getElem?_setIfInBounds]
  by_cases e : j = i
  · subst e
    by_cases hj : j < n <;> simp [bytesA, upd, hj]
  · by_cases hi : i < n <;> simp [bytesA, upd, hi, e, Ne.symm e]
theorem bytesA_one (n : Nat) (c : Nat → Int) : (bytesA n c).all (·.oneCell') = true := by
  rw [Array.all_eq_true_iff_forall_mem]; intro v hv; simp [bytesA] at hv; obtain ⟨i, rfl⟩ := hv; rfl
theorem bytesA_sizes (n : Nat) (c d : Nat → Int) : (bytesA n c).size = (bytesA n d).size := by rw [bytesA_size, bytesA_size]
theorem bytesA_congr {n : Nat} {c d : Nat → Int} (h : ∀ i, i < n → c i = d i) : bytesA n c = bytesA n d := by
  apply Array.ext_getElem?
  intro i
  by_cases hi : i < n
  · rw [bytesA_get _ _ _ hi, bytesA_get _ _ _ hi, h i hi]
  · rw [Array.getElem?_eq_none (by rw [bytesA_size]; omega), Array.getElem?_eq_none (by rw [bytesA_size]; omega)]
def hl (n : Nat) (c : Nat → Int) : List Int := (List.range n).map c
theorem hl_len (n : Nat) (c : Nat → Int) : (hl n c).length = n := by simp [hl]
theorem hl_get (n : Nat) (c : Nat → Int) (i : Nat) (h : i < n) : (hl n c).getD i 0 = c i := by simp [hl, List.getD_eq_getElem?_getD, h]
theorem hl_bytesA (n : Nat) (c : Nat → Int) : (bytesA n c).toList = bv (hl n c) := by
  apply List.ext_getElem?
  intro i
  rw [Array.getElem?_toList]
  by_cases h : i < n
  · rw [bytesA_get _ _ _ h, bv_get _ _ (by rw [hl_len]; exact h), hl_get _ _ _ h]
  · rw [Array.getElem?_eq_none (by rw [bytesA_size]; omega), List.getElem?_eq_none (by rw [bv_len, hl_len]; omega)]
theorem run_box_agg {P : Program} (w : World) (t : TypeId) (cs : Array Value) : (Instr.box t (.agg cs)).run P w = .ok (.pointer (some ⟨w.heap.size, 0, none⟩)) (w.alloc (.cells cs t)) := rfl
theorem wpList_boxA {P : Program} {ops : Array Oper} {rest : List Oper} {o : Oper} {a : Act} {w : World} {Q : Exit → Act → World → Prop} (hg : o.guard = none) (t : TypeId) (x : Operand) (ho : o.op = .box t x)
    (cs : Array Value) (hx : a.eval x = .agg cs)
    (h : wpList P ops Q rest (a.put o.dst (.pointer (some ⟨w.heap.size, 0, none⟩))) (w.alloc (.cells cs t))) : wpList P ops Q (o :: rest) a w := by
  refine wpList_plain hg fun K hK => ?_
  unfold Oper.wp execOp
  simp only [ho, hx, Sem.run_bind, run_box_agg, Result.andThen_ok]
  exact hK _ _ h
theorem row_arr {w : World} {g : Nat} {T : TypeId} {n : Nat} {c : Nat → Int} (h : Blk w g T (bytesA n c)) : RowAt w (.slice (some ⟨g, 0, none⟩) n n) (hl n c) := by
  refine .inr (.inr ⟨g, 0, n, by rw [hl_len], by rw [hl_len]; exact Nat.le_refl _, fun i hi => ?_⟩)
  rw [hl_len] at hi
  rw [Nat.zero_add, h.cell, bytesA_get _ _ _ hi, hl_get _ _ _ hi]
theorem made_bytes (n : Nat) : madeCells #[.int .u8 0] n = bytesA n fun _ => 0 := by
  apply Array.ext_getElem?
  intro i
  by_cases h : i < n <;> simp [madeCells, bytesA, h, Nat.mod_one]
theorem run_makeB (l c : Nat) (hlc : l ≤ c) (hc : c ≤ 281474976710656) (w : World) : (Instr.makeSlice 39 (.int .i64 (l : Int)) (.int .i64 (c : Int))).run Tryd.prog w = .ok (.slice (some ⟨w.heap.size, 0, none⟩) l c) (w.alloc (.cells (bytesA c fun _ => 0) 5)) := by
  obtain ⟨i, hi, hzz⟩ := Option.map_eq_some_iff.1 Tryd.info5
  simp only [Prod.mk.injEq] at hzz
  obtain ⟨hz, hs, hb⟩ := hzz
  have hr := run_make (P := Tryd.prog) w 39 5 i (.int .u8 0) Tryd.underlying39 hi hz .i64 .i64 (l : Int) (c : Int) (by omega) (by omega) (by rw [hb]; omega) (by omega)
  simp only [Int.toNat_natCast, hs, Nat.mul_one, Value.cells] at hr
  rw [made_bytes] at hr
  exact hr
theorem wpList_makeB {ops : Array Oper} {rest : List Oper} {o : Oper} {a : Act} {w : World} {Q : Exit → Act → World → Prop} (hgd : o.guard = none) (x y : Operand) (ho : o.op = .makeSlice 39 x y) (l c : Nat) (hlc : l ≤ c) (hc : c ≤ 281474976710656)
    (hx : a.eval x = .int .i64 (l : Int)) (hy : a.eval y = .int .i64 (c : Int))
    (h : wpList Tryd.prog ops Q rest (a.put o.dst (.slice (some ⟨w.heap.size, 0, none⟩) l c)) (w.alloc (.cells (bytesA c fun _ => 0) 5))) : wpList Tryd.prog ops Q (o :: rest) a w := by
  refine wpList_plain hgd fun K hK => ?_
  have hrun := run_makeB l c hlc hc w
  unfold Oper.wp
  simp only [execOp, ho, hx, hy, Sem.run_bind, hrun, Result.andThen_ok]
  exact hK _ _ h
theorem run_copyB (w : World) (g cap : Nat) (v : Value) (m : List Int) (ty T : TypeId) (cur : Array Value) (hg : Blk w g T cur) (hs : cur.size = m.length) (hr : RowAt w v m) :
    (Builtin.copy_ #[39, 39] ty #[.slice (some ⟨g, 0, none⟩) m.length cap, v]).run Tryd.prog w = .ok (goInt m.length) (w.setRow g (bv m).toArray) := by
  have hst := run_storeCells_at Tryd.prog g 0 T (bv m) 0 cur w hg (by rw [bv_len]; omega) (bv_one m)
  have hcur : (cur.toList.take (0 + 0) ++ bv m ++ cur.toList.drop (0 + 0 + (bv m).length)).toArray = (bv m).toArray := by
    rw [bv_len, List.drop_of_length_le (by rw [Array.length_toList]; omega)]; simp
  rw [hcur] at hst
  obtain ⟨i, hi, hzz⟩ := Option.map_eq_some_iff.1 Tryd.info5
  simp only [Prod.mk.injEq] at hzz
  obtain ⟨_, hsz, _⟩ := hzz
  rcases hr with ⟨rfl, rfl⟩ | ⟨ad, c, rfl, rfl⟩ | ⟨b, off, cap2, rfl, _, hc⟩
  · simp only [bv, List.map_nil] at hst ⊢
    simp [Builtin.copy_, run_underlying Tryd.underlying39, Builtin.lenOf, Builtin.firstCells, sizeOf, typeInfo, hi, hst]
  · simp only [bv, List.map_nil] at hst ⊢
    simp [Builtin.copy_, run_underlying Tryd.underlying39, Builtin.lenOf, Builtin.firstCells, sizeOf, typeInfo, hi, loadCells, loadCellsFrom, hst]
  · have hl := run_loadCells_list (P := Tryd.prog) w ⟨b, off, none⟩ (bv m) (fun j v hv => by
      have hj : j < m.length := by have := (List.getElem?_eq_some_iff.1 hv).1; rwa [bv_len] at this
      rw [bv_get m j hj] at hv
      rw [Addr.add_mid, hc j hj]; exact hv)
    rw [bv_len] at hl
    simp [Builtin.copy_, run_underlying Tryd.underlying39, Builtin.lenOf, Builtin.firstCells, sizeOf, typeInfo, hi, hsz, hl, hst]
theorem wpList_copyB {ops : Array Oper} {rest : List Oper} {o : Oper} {a : Act} {w : World} {Q : Exit → Act → World → Prop} (hgd : o.guard = none) (d s : Operand)
    (ho : o.op = .call { callee := .builtin .copy, args := #[d, s], argTypes := #[39, 39] }) (g cap : Nat) (v : Value) (m : List Int) (T : TypeId) (cur : Array Value)
    (hd : a.eval d = .slice (some ⟨g, 0, none⟩) m.length cap) (hs : a.eval s = v) (hg : Blk w g T cur) (hsz : cur.size = m.length) (hr : RowAt w v m)
    (h : wpList Tryd.prog ops Q rest (a.put o.dst (goInt m.length)) (w.setRow g (bv m).toArray)) : wpList Tryd.prog ops Q (o :: rest) a w := by
  refine wpList_plain hgd fun K hK => ?_
  have hrun := run_copyB w g cap v m o.type T cur hg hsz hr
  unfold Oper.wp
  simp only [execOp, ho, resolve, invoke, builtin, List.map_toArray, List.map_cons, List.map_nil, hd, hs, Sem.run_bind, Sem.run_pure, hrun, Result.andThen_ok]
  exact hK _ _ h
theorem own_done (w : World) (l : List Int) (hb : l.length ≤ 140737488355328) : Own (w.alloc (.cells (bv l).toArray 5)) (.slice (some ⟨w.heap.size, 0, none⟩) l.length l.length) l :=
  Own.mk (Blk.new w 5 _) (Nat.le_refl _) (by unfold maxLen; omega) (by simp [bv_len]) (by simp [← bv_len])
theorem Own.box {w : World} {v : Value} {l : List Int} (h : Own w v l) (o : Obj) : Own (w.alloc o) v l := h.grown (Grown.alloc w o fun _ => False) fun _ _ h => h
theorem AppPost.box {w w' : World} {v v' : Value} {l : List Int} {o : Obj} (h : AppPost (w.alloc o) v l v' w') : Own w' v' l ∧ Moved w v v' ∧ Grown w w' fun k => v.ownBlock = some k :=
  ⟨h.1, (Moved.refl w v).trans (Grown.alloc w o fun _ => False).size h.moved, (Grown.alloc w o _).next h.grown fun _ _ h => h⟩
theorem wpList_bld {P : Program} {ops : Array Oper} {rest : List Oper} {o : Oper} {a : Act} {w : World} {Q : Exit → Act → World → Prop} (hg : o.guard = none) (t : TypeId) (parts : Array (Nat × Operand)) (ho : o.op = .build t parts)
    (cells : Array Value) (hf : P.built t (parts.map fun (i, x) => (i, a.eval x)).toList = some cells)
    (h : wpList P ops Q rest (a.put o.dst (.agg cells)) w) : wpList P ops Q (o :: rest) a w :=
  wpList_build hg t parts ho (by rw [hf]; rfl) (by rw [hf]; exact h)
theorem wpList_new {P : Program} {ops : Array Oper} {rest : List Oper} {o : Oper} {a : Act} {w : World} {Q : Exit → Act → World → Prop} (hg : o.guard = none) (t : TypeId) (ho : o.op = .alloc t)
    (cells : Array Value) (hf : ∀ w : World, (Instr.alloc t true (.tuple #[])).run P w = .ok (.pointer (some ⟨w.heap.size, 0, none⟩)) (w.alloc (.cells cells t)))
    (h : wpList P ops Q rest (a.put o.dst (.pointer (some ⟨w.heap.size, 0, none⟩))) (w.alloc (.cells cells t))) : wpList P ops Q (o :: rest) a w := by
  refine wpList_plain hg fun K hK => ?_
  unfold Oper.wp execOp
  simp only [ho, Sem.run_bind, hf w, Result.andThen_ok]
  exact hK _ _ h
theorem conv_row (v : Value) (l : List Int) (w : World) (h : RowAt w v l) : (convert 39 9 v).run Tryd.prog w = .ok (.string (strOfNums l)) w := by
  rcases h with ⟨rfl, rfl⟩ | ⟨a, c, rfl, rfl⟩ | ⟨b, off, cap, rfl, _, hc⟩
  · rw [run_convert_bytes_nil (P := Tryd.prog) w 39 5 Tryd.underlying39 Tryd.underlying5 0 0 9 Tryd.underlying9]; rfl
  · rw [run_convert_bytes_string (P := Tryd.prog) w 39 9 5 _ 0 c Tryd.underlying39 Tryd.underlying5 Tryd.underlying9]
    simp [Conv.bytesToString, loadCells, loadCellsFrom, strOfNums]
    rfl
  · exact run_convert_bytes_arg (P := Tryd.prog) w 39 5 Tryd.underlying39 Tryd.underlying5 b off l.length cap l rfl hc 9 Tryd.underlying9
theorem grow_free {w : World} {v : Value} {B : Nat} (ho : ∃ k, v.ownBlock = some k ∧ B ≤ k) (hB : B ≤ w.heap.size) {w' : World} {v' : Value} {m : List Int} (hp : AppPost w v m v' w') : (∃ k, v'.ownBlock = some k ∧ B ≤ k) ∧ Below B w w' := by
  obtain ⟨k, hk, hBk⟩ := ho
  rcases hp.2 with ⟨h1, h2⟩ | ⟨h1, h2⟩
  · exact ⟨⟨k, by rw [h1, hk], hBk⟩, h2.to_below (fun i hi e => by rw [hk] at e; injection e with e; omega) hB⟩
  · exact ⟨⟨_, h1, hB⟩, h2.mono hB⟩
def Typ (w : World) (k : Nat) (T : TypeId) : Prop := ∃ cs fz, w.heap[k]? = some (.cells cs T fz)
theorem Blk.typ {w : World} {k : Nat} {T : TypeId} {cs : Array Value} (h : Blk w k T cs) : Typ w k T := ⟨cs, _, h⟩
theorem Typ.lt {w : World} {k : Nat} {T : TypeId} (h : Typ w k T) : k < w.heap.size := by
  obtain ⟨cs, fz, h⟩ := h
  exact (Array.getElem?_eq_some_iff.1 h).1
theorem Typ.one {w : World} {k : Nat} {T T' : TypeId} (h : Typ w k T) (h' : Typ w k T') : T = T' := by
  obtain ⟨cs, fz, h⟩ := h
  obtain ⟨cs', fz', h'⟩ := h'
  rw [h] at h'; simp at h'; exact h'.2.1
theorem Typ.ne {w : World} {k k' : Nat} {T T' : TypeId} (h : Typ w k T) (h' : Typ w k' T') (ht : T ≠ T') : k ≠ k' := by
  rintro rfl; exact ht (h.one h')
theorem Grown.typ {a b : World} {S : Nat → Prop} (h : Grown a b S) {k : Nat} {T : TypeId} (hk : Typ a k T) (hs : ¬ S k) : Typ b k T := by
  have hlt := hk.lt
  obtain ⟨cs, fz, h1⟩ := hk
  exact ⟨cs, fz, by rw [h.block k hlt hs]; exact h1⟩
theorem Own.typ {w : World} {v : Value} {l : List Int} (h : Own w v l) {k : Nat} (hk : v.ownBlock = some k) : Typ w k 5 := by
  rcases h.2 with ⟨rfl, _⟩ | ⟨g, cap, cur, rfl, _, h3, _⟩
  · simp [Value.ownBlock] at hk
  · simp [Value.ownBlock] at hk
    subst hk
    exact ⟨cur, _, h3⟩
def OwnT (w : World) (v : Value) (l : List Int) : Prop :=
  (v = .slice none 0 0 ∧ l = []) ∨ ∃ g cap cur fz, v = .slice (some ⟨g, 0, none⟩) l.length cap ∧ w.heap[g]? = some (.cells cur 5 fz) ∧ (fz = (0, 0) ∨ cap ≤ fz.1) ∧ l.length ≤ cap ∧ cap ≤ maxLen ∧ cur.size = cap ∧ cur.toList.take l.length = bv l
theorem Own.tail {w : World} {v : Value} {l : List Int} (h : Own w v l) : OwnT w v l := by
  rcases h.form with h | ⟨g, cap, cur, rfl, hb, h3, h4, h5, h6⟩
  · exact .inl h
  · exact .inr ⟨g, cap, cur, _, rfl, hb, .inl rfl, h3, h4, h5, h6⟩
theorem ownT_nil (w : World) : OwnT w (.slice none 0 0) [] := .inl ⟨rfl, rfl⟩
theorem OwnT.typ {w : World} {v : Value} {l : List Int} (h : OwnT w v l) {k : Nat} (hk : v.ownBlock = some k) : Typ w k 5 := by
  rcases h with ⟨rfl, _⟩ | ⟨g, cap, cur, fz, rfl, h3, _⟩
  · simp [Value.ownBlock] at hk
  · simp [Value.ownBlock] at hk
    subst hk
    exact ⟨cur, _, h3⟩
theorem OwnT.lt {w : World} {v : Value} {l : List Int} (h : OwnT w v l) : ∀ k, v.ownBlock = some k → k < w.heap.size := fun _ hk => (h.typ hk).lt
theorem OwnT.ne {w : World} {v : Value} {l : List Int} {p : Nat} {T : TypeId} {cs : Array Value} (h : OwnT w v l) (hp : Blk w p T cs) (hT : T ≠ 5) : v.ownBlock ≠ some p := fun e => hT (hp.typ.one (h.typ e))
theorem OwnT.grown {w w' : World} {v : Value} {l : List Int} {S : Nat → Prop} (h : OwnT w v l) (hg : Grown w w' S) (hs : ∀ k, v.ownBlock = some k → ¬ S k) : OwnT w' v l := by
  rcases h with h1 | ⟨g, cap, cur, fz, rfl, h3, h4⟩
  · exact .inl h1
  · exact .inr ⟨g, cap, cur, fz, rfl, by rw [hg.block g (Array.getElem?_eq_some_iff.1 h3).1 (hs g rfl)]; exact h3, h4⟩
theorem OwnT.box {w : World} {v : Value} {l : List Int} (h : OwnT w v l) (o : Obj) : OwnT (w.alloc o) v l := h.grown (Grown.alloc w o fun _ => False) fun _ _ h => h
theorem take_get {cur : Array Value} {l : List Int} {n : Nat} (h : cur.toList.take n = bv l) (hl : l.length = n) (t : Nat) (ht : t < n) : cur[t]? = some (.int .u8 (l.getD t 0)) := by
  have h1 := bv_get l t (by omega)
  rw [← h, List.getElem?_take, if_pos ht] at h1
  simpa using h1
theorem OwnT.cells {w : World} {g n cap : Nat} {l : List Int} (h : OwnT w (.slice (some ⟨g, 0, none⟩) n cap) l) (t : Nat) (ht : t < l.length) : w.cell? ⟨g, t, none⟩ = some (.int .u8 (l.getD t 0)) ∧ w.frozen? ⟨g, t, none⟩ = false := by
  rcases h with ⟨e, _⟩ | ⟨g', cap', cur, fz, e, hb, hf, h3, h4, h5, h6⟩
  · cases e
  · injection e with e1 e2 e3
    injection e1 with e1
    injection e1 with e1
    subst e1 e2 e3
    refine ⟨by rw [cell_of_row w g t cur 5 fz hb]; exact take_get h6 rfl t ht, ?_⟩
    rcases hf with rfl | hf
    · simp [World.frozen?, hb]
    · simp only [World.frozen?, hb]
      simp
      omega
theorem OwnT.row {w : World} {v : Value} {l : List Int} (h : OwnT w v l) : RowAt w v l := by
  have h' := h
  rcases h with h1 | ⟨g, cap, cur, fz, rfl, hb, hf, h3, h4, h5, h6⟩
  · exact .inl h1
  · exact .inr (.inr ⟨g, 0, cap, rfl, h3, fun i hi => by rw [Nat.zero_add]; exact (h'.cells i hi).1⟩)
theorem OwnT.sl {w : World} {v : Value} {l : List Int} (h : OwnT w v l) : ∃ a n c, v = .slice a n c := by
  rcases h with ⟨rfl, _⟩ | ⟨g, cap, cur, fz, rfl, _⟩
  · exact ⟨_, _, _, rfl⟩
  · exact ⟨_, _, _, rfl⟩
theorem OwnT.addr {w : World} {va : Option Addr} {n vc : Nat} {l : List Int} (h : OwnT w (.slice va n vc) l) (h0 : 0 < l.length) : ∃ g, va = some ⟨g, 0, none⟩ := by
  rcases h with ⟨_, e⟩ | ⟨g, cap, cur, fz, e, _⟩
  · subst e; simp at h0
  · injection e with e1 _ _
    exact ⟨g, e1⟩
theorem bv_set (l : List Int) (t : Nat) (c : Int) : (bv l).set t (.int .u8 c) = bv (l.set t c) := by simp [bv, List.map_set]
theorem OwnT.set {w : World} {g n cap : Nat} {l : List Int} (h : OwnT w (.slice (some ⟨g, 0, none⟩) n cap) l) (t : Nat) (c : Int) : OwnT (w.setCell ⟨g, t, none⟩ (.int .u8 c)) (.slice (some ⟨g, 0, none⟩) n cap) (l.set t c) := by
  rcases h with ⟨e, _⟩ | ⟨g', cap', cur, fz, e, hb, hf, h3, h4, h5, h6⟩
  · cases e
  · injection e with e1 e2 e3
    injection e1 with e1
    injection e1 with e1
    subst e1 e2 e3
    refine .inr ⟨g, cap, cur.setIfInBounds t (.int .u8 c), fz, by rw [List.length_set], ?_, hf, by rw [List.length_set]; exact h3, h4, by simp [h5], ?_⟩
    · rw [setCell_eq_setRow w g t cur 5 fz _ hb]; exact setRow_heap w g cur _ 5 fz hb
    · rw [Array.toList_setIfInBounds, List.length_set, List.take_set, h6, bv_set]
theorem OwnT.plain {w : World} {va : Option Addr} {n vc : Nat} {l : List Int} (h : OwnT w (.slice va n vc) l) : (∀ a, va = some a → a.off = 0 ∧ a.spot = none) ∧ (va = none → n = 0 ∧ vc = 0) ∧ n ≤ vc ∧ n = l.length := by
  rcases h with ⟨e, e2⟩ | ⟨g, cap, cur, fz, e, hb, _, h3, _⟩
  · injection e with e1 e2 e3
    subst e1 e2 e3
    subst e2
    exact ⟨fun a ha => by simp at ha, fun _ => ⟨rfl, rfl⟩, by omega, rfl⟩
  · injection e with e1 e2 e3
    subst e1 e2 e3
    exact ⟨fun a ha => by simp at ha; subst ha; exact ⟨rfl, rfl⟩, fun h => by simp at h, h3, rfl⟩
def AppPostT (w : World) (v : Value) (l : List Int) (v' : Value) (w' : World) : Prop :=
  OwnT w' v' l ∧ ((v'.ownBlock = v.ownBlock ∧ Grown w w' fun k => v.ownBlock = some k) ∨ (v'.ownBlock = some w.heap.size ∧ Below w.heap.size w w'))
theorem AppPostT.grown {w w' : World} {v v' : Value} {l : List Int} (h : AppPostT w v l v' w') : Grown w w' fun k => v.ownBlock = some k := by
  rcases h.2 with h | h
  · exact h.2
  · exact Grown.below h.2
theorem AppPost.tail {w w' : World} {v v' : Value} {l : List Int} (h : AppPost w v l v' w') : AppPostT w v l v' w' := ⟨h.1.tail, h.2⟩
theorem take_set_next (L : List Value) (n : Nat) (x : Value) (h : n < L.length) : (L.set n x).take (n + 1) = L.take n ++ [x] := by
  rw [List.take_succ_eq_append_getElem (by rw [List.length_set]; exact h), List.getElem_set_self]
  congr 1
  rw [List.take_set]
  exact List.set_eq_of_length_le (by simp; omega)
theorem run_app_one (w : World) (ty : TypeId) (v : Value) (l : List Int) (hown : OwnT w v l) (g1 : Nat) (m : Int) (hc : w.cell? ⟨g1, 0, none⟩ = some (.int .u8 m)) (hb : l.length + 1 ≤ 140737488355328) :
    ∃ v' w', (Builtin.append_ #[39, 39] ty #[v, .slice (some ⟨g1, 0, none⟩) 1 1]).run Tryd.prog w = .ok v' w' ∧ AppPostT w v (l ++ [m]) v' w' := by
  obtain ⟨i, hi, hzz⟩ := Option.map_eq_some_iff.1 Tryd.info5
  simp only [Prod.mk.injEq] at hzz
  obtain ⟨hz, hsz, hby⟩ := hzz
  have hnews : ∀ j u, (bv [m])[j]? = some u → w.cell? ((⟨g1, 0, none⟩ : Addr).add j) = some u := fun j u hu => by
    cases j with
    | zero => simp [bv] at hu; subst hu; exact hc
    | succ j => simp [bv] at hu
  rcases hown with ⟨rfl, rfl⟩ | ⟨g, cap, cur, fz, rfl, hg, hf, hnc, hcm, hcs, htake⟩
  · obtain ⟨v', w', hr, hp⟩ := run_app_cells w ty (.slice none 0 0) [] (own_nil w) ⟨g1, 0, none⟩ 1 [m] hnews (by simp)
    exact ⟨v', w', hr, hp.tail⟩
  · by_cases hroom : l.length + 1 ≤ cap
    · have hcell : (w.cell? ⟨g, l.length, none⟩).isSome = true := by
        rw [cell_of_row w g l.length cur 5 fz hg, Array.getElem?_eq_getElem (by omega)]; rfl
      have hfr : w.frozen? ⟨g, l.length, none⟩ = false := by
        rcases hf with rfl | hf
        · simp [World.frozen?, hg]
        · simp only [World.frozen?, hg]
          simp
          omega
      have hr := run_append_room_cells (P := Tryd.prog) w 39 ty 5 i Tryd.underlying39 hi g 0 l.length cap ⟨g1, 0, none⟩ 1 1 (bv [m]) (by rw [bv_len, hsz]; rfl) hnews (bv_one _) hroom
        (fun j hj => by
          have e : j = 0 := by rw [bv_len] at hj; simpa using hj
          subst e; rw [hsz]; simpa using hcell)
        (fun j hj => by
          have e : j = 0 := by rw [bv_len] at hj; simpa using hj
          subst e; rw [hsz]; simpa using hfr)
      have e : w.setCells g (0 + l.length * i.size) (bv [m]) = w.setCell ⟨g, l.length, none⟩ (.int .u8 m) := by
        rw [hsz, Nat.mul_one, Nat.zero_add]; rfl
      rw [e] at hr
      refine ⟨_, _, hr, .inr ⟨g, cap, cur.setIfInBounds l.length (.int .u8 m), fz, by simp, ?_, hf, by simpa using hroom, hcm, by simp [hcs], ?_⟩, .inl ⟨rfl, Grown.setCell w g _ _ fun _ => rfl⟩⟩
      · rw [setCell_eq_setRow w g l.length cur 5 fz _ hg]; exact setRow_heap w g cur _ 5 fz hg
      · have hlt9 : l.length < cur.toList.length := by simp; omega
        rw [Array.toList_setIfInBounds, List.length_append, List.length_singleton, bv_app, ← htake, take_set_next cur.toList l.length (.int .u8 m) hlt9]
        rfl
    · have holds : ∀ j u, (bv l)[j]? = some u → w.cell? ((⟨g, 0, none⟩ : Addr).add j) = some u := fun j u hu => by
        have hj : j < l.length := by have := (List.getElem?_eq_some_iff.1 hu).1; rwa [bv_len] at this
        rw [bv_get l j hj] at hu
        rw [Addr.add_mid, Nat.zero_add, cell_of_row w g j cur 5 fz hg, take_get htake rfl j hj]; exact hu
      obtain ⟨v', w', hr, h1, h2⟩ := run_append_arg_grows (P := Tryd.prog) w 39 ty 5 i (.int .u8 0) 1 1 Tryd.underlying39 hi hz hsz hby rfl (by omega) ⟨g, 0, none⟩ l.length cap (bv l) (by rw [bv_len]; omega) holds ⟨g1, 0, none⟩ 1 1 (bv [m]) (by rw [bv_len]; rfl) hnews (by omega) (by unfold maxLen; omega) (by omega)
      have hr2 := run_append_grow (P := Tryd.prog) w 39 ty 5 i (.int .u8 0) Tryd.underlying39 hi hz ⟨g, 0, none⟩ l.length cap (bv l) (by rw [bv_len, hsz]; omega) holds ⟨g1, 0, none⟩ 1 1 (bv [m]) (by rw [bv_len, hsz]; rfl) hnews (by omega) (by omega) (by rw [hby]; exact growslice_fits (by omega) (by omega))
      have e := hr.symm.trans hr2
      injection e with e1 e2
      have hO : Own w' v' (l ++ [m]) := by
        refine ⟨by rw [bv_len]; omega, ?_⟩
        rcases h1.2 with ⟨_, h0⟩ | ⟨g', cap', cur', e', _, hb', h3', h4', h5', h6'⟩
        · omega
        · refine .inr ⟨g', cap', cur', by rw [List.length_append]; exact e', Nat.zero_le _, hb', by rw [List.length_append]; exact h3', h4', h5', ?_⟩
          rw [List.length_append, bv_app]; exact h6'
      refine ⟨v', w', hr, hO.tail, .inr ⟨by rw [e1]; rfl, h2.os, h2.tape, h2.output, h2.size, fun k hk => h2.block k hk (by simp)⟩⟩
theorem wpList_appT {ops : Array Oper} {rest : List Oper} {o : Oper} {a : Act} {w : World} {Q : Exit → Act → World → Prop} (hgd : o.guard = none) (s x : Operand)
    (ho : o.op = .call { callee := .builtin .append, args := #[s, x], argTypes := #[39, 39] }) (v : Value) (l : List Int) (g1 : Nat) (m : Int)
    (hs : a.eval s = v) (hx : a.eval x = .slice (some ⟨g1, 0, none⟩) 1 1) (hown : OwnT w v l) (hc : w.cell? ⟨g1, 0, none⟩ = some (.int .u8 m)) (hb : l.length + 1 ≤ 140737488355328)
    (h : ∀ v' w', AppPostT w v (l ++ [m]) v' w' → wpList Tryd.prog ops Q rest (a.put o.dst v') w') : wpList Tryd.prog ops Q (o :: rest) a w := by
  refine wpList_plain hgd fun K hK => ?_
  obtain ⟨v', w', hr, h2⟩ := run_app_one w o.type v l hown g1 m hc hb
  unfold Oper.wp execOp
  simp only [ho, resolve, invoke, builtin, Sem.run_bind, Sem.run_pure, Result.andThen_ok, List.map_toArray, List.map_cons, List.map_nil, hs, hx, hr]
  exact hK _ _ (h v' w' h2)
theorem cell_one (w : World) (x : Value) (t : TypeId) : (w.alloc (.cells #[x] t)).cell? ⟨w.heap.size, 0, none⟩ = some x := by rw [(Blk.new w t #[x]).cell]; rfl
theorem conv_bytes (w : World) (s : ByteArray) (hb : s.size ≤ 140737488355328) : ∃ v w', (convert 9 39 (.string s)).run Tryd.prog w = .ok v w' ∧ OwnT w' v (lst s) ∧ v.ownBlock = some w.heap.size ∧ Below w.heap.size w w' := by
  have hr := Lib.run_convert_string_bytes (P := Tryd.prog) w 9 39 5 s Tryd.underlying9 Tryd.underlying39 Tryd.underlying5
  refine ⟨_, _, hr, ?_, rfl, ⟨rfl, rfl, rfl, ?_, fun k hk => Lib.bytesWorld_at_old w 5 s k hk⟩⟩
  · have hge := grownCap_ge w s.size 0 5
    have hcs : (Lib.bytesCells w 5 s).size = grownCap w s.size 0 5 := by
      have : s.data.size = s.size := rfl
      simp [Lib.bytesCells]; omega
    refine .inr ⟨w.heap.size, grownCap w s.size 0 5, _, _, by rw [lst_len], Lib.bytesWorld_at_new w 5 s, .inr (by rw [hcs]; exact Nat.le_refl _), by rw [lst_len]; exact hge, grownCap_le_maxLen w _ _ _ (by unfold maxLen; omega), hcs, ?_⟩
    rw [lst_len, ← lst_cells]
    simp only [Lib.bytesCells, Array.toList_append, Lib.strCells]
    rw [List.take_append_of_le_length (by simp), List.take_of_length_le (by simp)]
    simp
  · rw [Lib.bytesWorld_size]; omega
theorem Tryd.info39 : (Tryd.prog.info? 39).map (fun i => (i.zero, i.size, i.bytes)) = some (some (.slice none 0 0), 1, 24) := by kernel_rfl
def OwnV (w : World) (v : Value) (xs : List Value) : Prop := w.ownsRow 0 39 1 v xs.length xs
theorem ownV_nil (w : World) : OwnV w (.slice none 0 0) [] := ⟨rfl, .inl ⟨rfl, rfl⟩⟩
theorem OwnV.lt {w : World} {v : Value} {xs : List Value} (h : OwnV w v xs) : ∀ k, v.ownBlock = some k → k < w.heap.size := fun k hk => (World.ownsRow.lt h k hk).2
theorem OwnV.grown {w w' : World} {v : Value} {xs : List Value} {S : Nat → Prop} (h : OwnV w v xs) (hg : Grown w w' S) (hs : ∀ k, v.ownBlock = some k → ¬ S k) : OwnV w' v xs := by
  refine ⟨h.1, ?_⟩
  rcases h.2 with h1 | ⟨g, cap, cur, rfl, h2, h3, h4⟩
  · exact .inl h1
  · exact .inr ⟨g, cap, cur, rfl, h2, hg.blk h3 (hs g rfl), h4⟩
theorem OwnV.ne {w : World} {v : Value} {xs : List Value} {p : Nat} {T : TypeId} {cs : Array Value} (h : OwnV w v xs) (hp : Blk w p T cs) (hT : T ≠ 39) : v.ownBlock ≠ some p := by
  intro e
  rcases h.2 with ⟨rfl, _⟩ | ⟨g, cap, cur, rfl, _, h3, _⟩
  · simp [Value.ownBlock] at e
  · simp [Value.ownBlock] at e
    subst e
    exact hT (blk_type hp h3)
theorem OwnV.sl {w : World} {v : Value} {xs : List Value} (h : OwnV w v xs) : ∃ a c, v = .slice a xs.length c := by
  rcases h.2 with ⟨rfl, h0⟩ | ⟨g, cap, cur, rfl, _⟩
  · exact ⟨none, 0, by rw [h0]⟩
  · exact ⟨_, _, rfl⟩
theorem OwnV.at {w : World} {v : Value} {xs : List Value} (h : OwnV w v xs) (i : Nat) (hi : i < xs.length) : ∃ g c, v = .slice (some ⟨g, 0, none⟩) xs.length c ∧ w.cell? ⟨g, i, none⟩ = xs[i]? := by
  rcases h.2 with ⟨rfl, h0⟩ | ⟨g, cap, cur, rfl, _⟩
  · omega
  · exact ⟨g, cap, rfl, World.ownsRow.cellAt h i (by omega)⟩
theorem wpList_appV {ops : Array Oper} {rest : List Oper} {o : Oper} {a : Act} {w : World} {Q : Exit → Act → World → Prop} (hgd : o.guard = none) (s x : Operand)
    (ho : o.op = .call { callee := .builtin .append, args := #[s, x], argTypes := #[36, 36] }) (v u : Value) (xs : List Value) (g : Nat) (hu : u.oneCell' = true)
    (hs : a.eval s = v) (hx : a.eval x = .slice (some ⟨g, 0, none⟩) 1 1) (hown : OwnV w v xs) (hc : w.cell? ⟨g, 0, none⟩ = some u) (hb : xs.length + 1 ≤ 4398046511104)
    (h : ∀ v' w', OwnV w' v' (xs ++ [u]) → Moved w v v' → (Grown w w' fun k => v.ownBlock = some k) → wpList Tryd.prog ops Q rest (a.put o.dst v') w') : wpList Tryd.prog ops Q (o :: rest) a w := by
  obtain ⟨i, hi, hzz⟩ := Option.map_eq_some_iff.1 Tryd.info39
  simp only [Prod.mk.injEq] at hzz
  obtain ⟨hz, hsz, hby⟩ := hzz
  refine wpList_append_own_at w hgd s x 36 ho 0 39 i (.slice none 0 0) 1 24 Tryd.underlying36 hi hz hsz hby rfl (by omega) v xs.length xs hs hown ⟨g, 0, none⟩ 1 1 [u] hx rfl
    (fun j y hy => by
      cases j with
      | zero => simp at hy; subst hy; exact hc
      | succ j => simp at hy)
    (fun y hy => by simp at hy; subst hy; exact hu) (by unfold maxLen; omega) (by omega) (Nat.zero_le _) ?_
  intro v' w' h1 h2 _ h4
  refine h v' w' ?_ ?_ (Grown.of h2 fun k _ e => e)
  · unfold OwnV; rw [List.length_append]; exact h1
  · rcases h4 with h4 | h4
    · exact .inl h4
    · exact .inr ⟨_, h4, Nat.le_refl _⟩
def updN {α : Type} (f : Nat → α) (k : Nat) (x : α) : Nat → α := fun i => if i = k then x else f i
theorem updN_self {α : Type} (f : Nat → α) (k : Nat) (x : α) : updN f k x k = x := by simp [updN]
theorem updN_ne {α : Type} (f : Nat → α) {k i : Nat} (x : α) (h : i ≠ k) : updN f k x i = f i := by simp [updN, h]
theorem range_upd {α : Type} (f : Nat → α) (N : Nat) (x : α) : (List.range (N + 1)).map (updN f N x) = (List.range N).map f ++ [x] := by
  rw [List.range_succ, List.map_append]
  congr 1
  · apply List.map_congr_left
    intro i hi
    rw [updN_ne]
    have := List.mem_range.1 hi
    omega
  · simp [updN_self]
theorem OwnV.sl3 {w : World} {v : Value} {xs : List Value} (h : OwnV w v xs) : ∃ a n c, v = .slice a n c := by
  obtain ⟨a, c, e⟩ := h.sl
  exact ⟨a, _, c, e⟩
theorem OwnV.typ {w : World} {v : Value} {xs : List Value} (h : OwnV w v xs) {k : Nat} (hk : v.ownBlock = some k) : Typ w k 39 := by
  rcases h.2 with ⟨rfl, _⟩ | ⟨g, cap, cur, rfl, _, h3, _⟩
  · simp [Value.ownBlock] at hk
  · simp [Value.ownBlock] at hk
    subst hk
    exact ⟨cur, _, h3⟩
theorem results_cell_row2 {P : Program} {fn : Func} {p u : Tmp} {ty : TypeId} (h : fn.results = #[.cell p ty, .tmp u]) (tmps : Array Value) (w : World) (g : Nat) (t : TypeId) (cs : Array Value) (fr : Nat × Nat) (d : TypeDesc) (y : Value)
    (hp : tmps.getD p undef = .pointer (some ⟨g, 0, none⟩)) (hy : tmps.getD u undef = y) (hg : w.heap[g]? = some (.cells cs t fr))
    (hu : P.underlying ty = some d) (hd : (match d with | .struct _ | .array _ _ => true | _ => false) = true) (hi : (P.info? ty).map (·.size) = some cs.size) :
    (results fn tmps).run P w = .ok (.tuple #[.agg cs, y]) w := by
  rw [results_cell_tmp h, hp, hy]
  simp [asAddr, Result.andThen, run_loadVar_row w g t ty cs fr d hg hu hd hi]
theorem run_copyS (w : World) (g : Nat) (T ty : TypeId) (st : ByteArray) (n : Nat) (cur : Array Value) (hg : Blk w g T cur) (hs : cur.size = n) (hn : st.size = n ∨ st.size = 0) :
    (Builtin.copy_ #[39, 9] ty #[.slice (some ⟨g, 0, none⟩) n n, .string st]).run Tryd.prog w = .ok (goInt st.size) (w.setRow g ((bv (lst st)) ++ cur.toList.drop st.size).toArray) := by
  have hst := run_storeCells_at Tryd.prog g 0 T (bv (lst st)) 0 cur w hg (by rw [bv_len, lst_len]; omega) (bv_one _)
  have hcur : (cur.toList.take (0 + 0) ++ bv (lst st) ++ cur.toList.drop (0 + 0 + (bv (lst st)).length)).toArray = ((bv (lst st)) ++ cur.toList.drop st.size).toArray := by
    rw [bv_len, lst_len]; simp
  rw [hcur] at hst
  obtain ⟨i, hi, hzz⟩ := Option.map_eq_some_iff.1 Tryd.info5
  simp only [Prod.mk.injEq] at hzz
  obtain ⟨_, hsz, _⟩ := hzz
  have hf := Lib.run_firstCells_string (P := Tryd.prog) w 1 st
  rw [lst_cells] at hf
  have hmin : Nat.min st.size n = st.size := by rcases hn with h | h <;> simp [h]
  simp [Builtin.copy_, run_underlying Tryd.underlying39, Builtin.lenOf, sizeOf, typeInfo, hi, hsz, hmin, hf, hst]
theorem Tryd.isAgg5 (w : World) : (isAgg 5).run Tryd.prog w = .ok false w := by kernel_rfl
theorem Tryd.cells5 : Tryd.prog.cellsOf 5 = 1 := by kernel_rfl
theorem Tryd.size5 : (Tryd.prog.info? 5).map (·.size) = some 1 := by kernel_rfl
theorem run_part5 (c : Nat → Int) (i : Nat) (hi : i < 32) (w : World) : (part 5 (bytesA 32 c) i).run Tryd.prog w = .ok (.int .u8 (c i)) w := by
  unfold part
  rw [Sem.run_bind, Tryd.isAgg5]
  simp [Result.andThen, bytesA_get 32 c i hi]
theorem run_items (c : Nat → Int) (d : Nat) (w : World) : ∀ is : List Nat, (∀ i ∈ is, i < 32) → (Op.eqItems (d + 1) 5 1 (bytesA 32 c) (bytesA 32 c) is).run Tryd.prog w = .ok true w
  | [], _ => by simp [Op.eqItems]
  | i :: is, h => by
    have hi := h i (by simp)
    have ih := run_items c d w is (fun j hj => h j (by simp [hj]))
    simp only [Op.eqItems, Sem.run_bind, Nat.mul_one, run_part5 c i hi, Result.andThen_ok]
    rw [run_equalIn_int (P := Tryd.prog) (w := w) d 5 .u8 .u8 (c i) (c i) Tryd.underlying5]
    simp [Result.andThen_ok, ih]
theorem run_callF {P : Program} (a : Act) (o : Oper) (f : FuncId) (args : Array Operand) (ts : Array TypeId) (ho : o.op = .call { callee := .value (.func f), args := args, argTypes := ts })
    (hf : ∀ (w : World) (vs : Array Value), (callFunc f vs).run P w = .ok (.enter f vs) w) (w : World) :
    (execOp a.eval o).run P w = .ok (.enter f (args.map a.eval)) w := by
  unfold execOp
  simp only [ho]
  simp [resolve, Act.eval, go_sem]
  exact hf w _
theorem wp_callF {P : Program} {Q : Exit → Act → World → Prop} {o : Oper} {a : Act} {w : World} {K : Act → World → Prop} (f : FuncId) (args : Array Operand) (ts : Array TypeId) (ho : o.op = .call { callee := .value (.func f), args := args, argTypes := ts })
    (hf : ∀ (w : World) (vs : Array Value), (callFunc f vs).run P w = .ok (.enter f vs) w)
    (vs : Array Value) (hvs : args.map a.eval = vs)
    (R : Value → World → Prop) (hc : Calls P f vs w fun e w' => ∃ v, e = .returned v ∧ R v w')
    (h : ∀ v w', R v w' → K (a.put o.dst v) w') : o.wp P a w K Q := by
  unfold Oper.wp
  rw [run_callF a o f args ts ho hf w, Oper.upon_enter, hvs]
  refine hc.mono ?_
  rintro e w' ⟨v, rfl, hr⟩
  exact h v w' hr
theorem blk_range {w : World} {b : Nat} {T : TypeId} {cs : Array Value} (h : Blk w b T cs) : w.rangeAt b 0 cs.toList := fun j v hv => by
  rw [Nat.zero_add, h.cell]; simpa using hv
theorem wp_val {P : Program} {Q : Exit → Act → World → Prop} {o : Oper} {a : Act} {w : World} {K : Act → World → Prop} (v : Value) (hrun : (execOp a.eval o).run P w = .ok (.value v) w) (h : K (a.put o.dst v) w) : o.wp P a w K Q := by
  unfold Oper.wp
  rw [hrun]
  exact h
theorem Tryd.elemBy : Tryd.prog.elem 39 = 5 := by kernel_rfl
theorem Tryd.sizeOf5 (w : World) : (sizeOf 5).run Tryd.prog w = .ok 1 w := by kernel_rfl
theorem yieldsIf_slice {P : Program} {ops : Array Oper} {S : World → Prop} {op : Oper} {a : Act} (hw : Region.wanted op (yielded ops a.tmps) = true) (t : TypeId) (x hi : Operand) (ho : op.op = .slice t x none (some hi) none)
    (vx vh vs : Value) (hx : a.eval x = vx) (hh : a.eval hi = vh) (hr : ∀ w : World, (Instr.sliceAt t vx none (some vh) none).run P w = .ok vs w) : YieldsIf P ops S op vs a :=
  .inl ⟨hw, fun w _ => by
    unfold execOp
    simp only [ho, hx, hh, Option.map_some, Option.map_none, Sem.run_bind, hr w, Result.andThen_ok, Sem.run_pure]⟩
theorem sl_run (base : Option Addr) (n cap a : Nat) (ha : a ≤ cap) (wx : World) : (Instr.sliceAt 39 (.slice base n cap) none (some (.int .i64 (a : Int))) none).run Tryd.prog wx = .ok (.slice base a cap) wx := by
  have hu : Tryd.prog.underlying 39 = some (.slice (Tryd.prog.elem 39)) := by rw [Tryd.elemBy]; exact Tryd.underlying39
  have h1 := run_slice_h (P := Tryd.prog) (w := wx) 39 base n cap hu .i64 (a : Int) (by omega) (by omega)
  have h2 := run_sliceAt_slice (P := Tryd.prog) (w := wx) 39 (.slice base n cap) none (some (.int .i64 (a : Int))) none hu
  rw [Tryd.elemBy] at h1
  have h3 : sliced base 0 (a : Int).toNat cap 1 = .slice base a cap := by
    have h4 : (if cap = 0 then base else base.map (·.add (0 * 1))) = base := by
      split
      · rfl
      · cases base <;> rfl
    unfold sliced
    rw [h4, Int.toNat_natCast, Nat.sub_zero, Nat.sub_zero]
  rw [h2, h1]
  refine (congrArg (fun z => Result.andThen z fun s w => Result.ok (sliced base 0 (a : Int).toNat cap s) w) (Tryd.sizeOf5 wx)).trans ?_
  show Result.ok (sliced base 0 (a : Int).toNat cap 1) wx = _
  rw [h3]
theorem sub_any (vb : Value) (lb : List Int) (w : World) (hr : RowAt w vb lb) (a : Nat) (ha : a ≤ lb.length) :
    ∃ vs, (∀ wx : World, (Instr.sliceAt 39 vb none (some (.int .i64 (a : Int))) none).run Tryd.prog wx = .ok vs wx) ∧ ∀ wx, RowAt wx vb lb → RowAt wx vs (lb.take a) := by
  rcases hr with ⟨rfl, rfl⟩ | ⟨ad, c, rfl, rfl⟩ | ⟨h, off, cap, rfl, hc, _⟩
  · obtain rfl : a = 0 := by simpa using ha
    exact ⟨_, sl_run none 0 0 0 (by omega), fun wx h => by simpa using h⟩
  · obtain rfl : a = 0 := by simpa using ha
    exact ⟨_, sl_run (some ad) 0 c 0 (by omega), fun wx h => by simpa using h⟩
  · refine ⟨_, sl_run (some ⟨h, off, none⟩) lb.length cap a (by omega), fun wx hx => ?_⟩
    rcases hx with ⟨e, _⟩ | ⟨ad, c, e, rfl⟩ | ⟨h', off', cap', e, _, h3⟩
    · cases e
    · obtain rfl : a = 0 := by simpa using ha
      exact .inr (.inl ⟨_, _, rfl, by simp⟩)
    · injection e with e1 e2 e3
      injection e1 with e1
      injection e1 with e1 e4
      subst e1 e3 e4
      have hl : (lb.take a).length = a := by rw [List.length_take]; omega
      refine .inr (.inr ⟨h, off, cap, by rw [hl], by omega, fun i hi => ?_⟩)
      rw [hl] at hi
      rw [h3 i (by omega)]
      simp [List.getD_eq_getElem?_getD, hi]
theorem results_cell1_row {P : Program} {fn : Func} {p : Tmp} {ty : TypeId} (h : fn.results = #[.cell p ty]) (tmps : Array Value) (w : World) (g : Nat) (t : TypeId) (cs : Array Value) (fr : Nat × Nat) (d : TypeDesc)
    (hp : tmps.getD p undef = .pointer (some ⟨g, 0, none⟩)) (hg : w.heap[g]? = some (.cells cs t fr))
    (hu : P.underlying ty = some d) (hd : (match d with | .struct _ | .array _ _ => true | _ => false) = true) (hi : (P.info? ty).map (·.size) = some cs.size) :
    (results fn tmps).run P w = .ok (.agg cs) w := by
  have hr := run_loadVar_row (P := P) w g t ty cs fr d hg hu hd hi
  simp only [results, h]
  simp only [Array.getD_eq_getD_getElem?] at hp
  simp [asAddr, hp, hr]
theorem results_tmp_cell_row {P : Program} {fn : Func} {p u : Tmp} {ty : TypeId} (h : fn.results = #[.tmp u, .cell p ty]) (tmps : Array Value) (w : World) (g : Nat) (t : TypeId) (cs : Array Value) (fr : Nat × Nat) (d : TypeDesc) (y : Value)
    (hp : tmps.getD p undef = .pointer (some ⟨g, 0, none⟩)) (hy : tmps.getD u undef = y) (hg : w.heap[g]? = some (.cells cs t fr))
    (hu : P.underlying ty = some d) (hd : (match d with | .struct _ | .array _ _ => true | _ => false) = true) (hi : (P.info? ty).map (·.size) = some cs.size) :
    (results fn tmps).run P w = .ok (.tuple #[y, .agg cs]) w := by
  have hr := run_loadVar_row (P := P) w g t ty cs fr d hg hu hd hi
  simp only [results, h]
  simp only [Array.getD_eq_getD_getElem?] at hp hy
  simp [Result.andThen, asAddr, hp, hy, hr]
theorem results_cell_cell_row {P : Program} {fn : Func} {p p' : Tmp} {ty ty' : TypeId} (h : fn.results = #[.cell p ty, .cell p' ty']) (tmps : Array Value) (w : World) (g g' : Nat) (t t' : TypeId) (cs cs' : Array Value) (fr fr' : Nat × Nat) (d d' : TypeDesc)
    (hp : tmps.getD p undef = .pointer (some ⟨g, 0, none⟩)) (hp' : tmps.getD p' undef = .pointer (some ⟨g', 0, none⟩)) (hg : w.heap[g]? = some (.cells cs t fr)) (hg' : w.heap[g']? = some (.cells cs' t' fr'))
    (hu : P.underlying ty = some d) (hd : (match d with | .struct _ | .array _ _ => true | _ => false) = true) (hi : (P.info? ty).map (·.size) = some cs.size)
    (hu' : P.underlying ty' = some d') (hd' : (match d' with | .struct _ | .array _ _ => true | _ => false) = true) (hi' : (P.info? ty').map (·.size) = some cs'.size) :
    (results fn tmps).run P w = .ok (.tuple #[.agg cs, .agg cs']) w := by
  have hr := run_loadVar_row (P := P) w g t ty cs fr d hg hu hd hi
  have hr' := run_loadVar_row (P := P) w g' t' ty' cs' fr' d' hg' hu' hd' hi'
  simp only [results, h]
  simp only [Array.getD_eq_getD_getElem?] at hp hp'
  simp [Result.andThen, asAddr, hp, hp', hr, hr']
theorem below_two {B : Nat} {w w1 : World} (h : Below B w w1) {g : Nat} (hg : B ≤ g) (u v : Value) : Below B w ((w1.setCell ⟨g, 0, none⟩ u).setCell ⟨g, 1, none⟩ v) := (h.setCell hg _).setCell hg _
theorem own_empty (w : World) (g : Nat) (h : Blk w g 5 #[]) : Own w (.slice (some ⟨g, 0, none⟩) 0 0) [] := Own.mk (l := []) h (Nat.le_refl _) (Nat.zero_le _) rfl (by simp [bv])
theorem wp_app {Q : Exit → Act → World → Prop} {o : Oper} {a : Act} {w : World} {K : Act → World → Prop} (s x : Operand)
    (ho : o.op = .call { callee := .builtin .append, args := #[s, x], argTypes := #[39, 39] }) (v vx : Value) (l m : List Int)
    (hs : a.eval s = v) (hx : a.eval x = vx) (hown : Own w v l) (hrow : RowAt w vx m) (hb : l.length + m.length ≤ 140737488355328)
    (h : ∀ v' w', AppPost w v (l ++ m) v' w' → K (a.put o.dst v') w') : o.wp Tryd.prog a w K Q := by
  obtain ⟨v', w', hr, h2⟩ := run_app_row w o.type v vx l m hown hrow hb
  unfold Oper.wp execOp
  simp only [ho, resolve, invoke, builtin, Sem.run_bind, Sem.run_pure, Result.andThen_ok, List.map_toArray, List.map_cons, List.map_nil, hs, hx, hr]
  exact h v' w' h2
theorem yieldsIf_slice2 {P : Program} {ops : Array Oper} {S : World → Prop} {op : Oper} {a : Act} (hw : Region.wanted op (yielded ops a.tmps) = true) (t : TypeId) (x lo hi : Operand) (ho : op.op = .slice t x (some lo) (some hi) none)
    (vx vl vh vs : Value) (hx : a.eval x = vx) (hl : a.eval lo = vl) (hh : a.eval hi = vh) (hr : ∀ w : World, (Instr.sliceAt t vx (some vl) (some vh) none).run P w = .ok vs w) : YieldsIf P ops S op vs a :=
  .inl ⟨hw, fun w _ => by
    unfold execOp
    simp only [ho, hx, hl, hh, Option.map_some, Option.map_none, Sem.run_bind, hr w, Result.andThen_ok, Sem.run_pure]⟩
theorem sl_run2 (base : Option Addr) (n cap a b : Nat) (hab : a ≤ b) (hb : b ≤ cap) (wx : World) : (Instr.sliceAt 39 (.slice base n cap) (some (.int .i64 (a : Int))) (some (.int .i64 (b : Int))) none).run Tryd.prog wx = .ok (sliced base a b cap 1) wx := by
  have hu : Tryd.prog.underlying 39 = some (.slice (Tryd.prog.elem 39)) := by rw [Tryd.elemBy]; exact Tryd.underlying39
  have h1 := run_slice_lh (P := Tryd.prog) (w := wx) 39 base n cap hu .i64 .i64 (a : Int) (b : Int) (by omega) (by omega) (by omega)
  have h2 := run_sliceAt_slice (P := Tryd.prog) (w := wx) 39 (.slice base n cap) (some (.int .i64 (a : Int))) (some (.int .i64 (b : Int))) none hu
  rw [Tryd.elemBy] at h1
  rw [h2, h1]
  refine (congrArg (fun z => Result.andThen z fun s w => Result.ok (sliced base (a : Int).toNat (b : Int).toNat cap s) w) (Tryd.sizeOf5 wx)).trans ?_
  show Result.ok (sliced base (a : Int).toNat (b : Int).toNat cap 1) wx = _
  rw [Int.toNat_natCast, Int.toNat_natCast]
theorem mid_any (vb : Value) (lb : List Int) (w : World) (hr : RowAt w vb lb) (a M : Nat) (ha : a + M ≤ lb.length) :
    ∃ vs, (∀ wx : World, (Instr.sliceAt 39 vb (some (.int .i64 (a : Int))) (some (.int .i64 ((a : Int) + (M : Int)))) none).run Tryd.prog wx = .ok vs wx) ∧ ∀ wx, RowAt wx vb lb → RowAt wx vs ((lb.drop a).take M) := by
  have e : ((a : Int) + (M : Int)) = ((a + M : Nat) : Int) := by omega
  rw [e]
  have hl : ((lb.drop a).take M).length = M := by rw [List.length_take, List.length_drop]; omega
  rcases hr with ⟨rfl, rfl⟩ | ⟨ad, c, rfl, rfl⟩ | ⟨h, off, cap, rfl, hc, _⟩
  · obtain rfl : a = 0 := by simp at ha; omega
    obtain rfl : M = 0 := by simp at ha; omega
    exact ⟨_, sl_run2 none 0 0 0 0 (by omega) (by omega), fun wx h => .inl ⟨rfl, by simp⟩⟩
  · obtain rfl : a = 0 := by simp at ha; omega
    obtain rfl : M = 0 := by simp at ha; omega
    refine ⟨_, sl_run2 (some ad) 0 c 0 0 (by omega) (by omega), fun wx h => .inr (.inl ?_)⟩
    unfold sliced
    split
    · exact ⟨_, _, rfl, by simp⟩
    · exact ⟨_, _, rfl, by simp⟩
  · refine ⟨_, sl_run2 (some ⟨h, off, none⟩) lb.length cap a (a + M) (by omega) (by omega), fun wx hx => ?_⟩
    unfold sliced
    by_cases hca : cap = a
    · obtain rfl : M = 0 := by omega
      rw [if_pos hca]
      exact .inr (.inl ⟨_, _, by rw [Nat.add_zero, Nat.sub_self], by simp⟩)
    · rw [if_neg hca]
      rcases hx with ⟨e, _⟩ | ⟨ad, c, e, h0⟩ | ⟨h', off', cap', e, _, h3⟩
      · cases e
      · injection e with e1 e2
        obtain rfl : M = 0 := by omega
        exact .inr (.inl ⟨_, _, by rw [Nat.add_zero, Nat.sub_self]; rfl, by simp⟩)
      · injection e with e1 e2 e3
        injection e1 with e1
        injection e1 with e1 e4
        subst e1 e3 e4
        refine .inr (.inr ⟨h, off + a, cap - a, ?_, by omega, fun i hi => ?_⟩)
        · rw [hl, show a + M - a = M by omega]
          show Value.slice (some (Addr.add ⟨h, off, none⟩ (a * 1))) M (cap - a) = _
          rw [Nat.mul_one]
          cases a <;> rfl
        · rw [hl] at hi
          rw [Nat.add_assoc, h3 (a + i) (by omega)]
          simp [List.getD_eq_getElem?_getD, hi]
theorem row_two {w : World} {g : Nat} {v : Value} {l : List Int} (h : RowAt w v l) (hg : v.ownBlock ≠ some g) (a b : Value) : RowAt ((w.setCell ⟨g, 0, none⟩ a).setCell ⟨g, 1, none⟩ b) v l :=
  (h.grown (Grown.setCell w g 0 a (S := fun k => k = g) fun _ => rfl) (fun k hk _ e => hg (by rw [hk, e]))).grown (Grown.setCell _ g 1 b (S := fun k => k = g) fun _ => rfl) (fun k hk _ e => hg (by rw [hk, e]))
theorem run_copyG (w : World) (g o N cap : Nat) (v : Value) (m : List Int) (ty T : TypeId) (cur : Array Value) (hg : Blk w g T cur) (hN : m.length ≤ N) (hs : o + m.length ≤ cur.size) (hr : RowAt w v m) :
    (Builtin.copy_ #[39, 39] ty #[.slice (some ⟨g, o, none⟩) N cap, v]).run Tryd.prog w = .ok (goInt m.length) (w.setRow g (cur.toList.take o ++ bv m ++ cur.toList.drop (o + m.length)).toArray) := by
  have hst := run_storeCells_at Tryd.prog g o T (bv m) 0 cur w hg (by rw [bv_len]; omega) (bv_one m)
  rw [bv_len, Nat.add_zero] at hst
  have hmin : Nat.min m.length N = m.length := Nat.min_eq_left hN
  obtain ⟨i, hi, hzz⟩ := Option.map_eq_some_iff.1 Tryd.info5
  simp only [Prod.mk.injEq] at hzz
  obtain ⟨_, hsz, _⟩ := hzz
  rcases hr with ⟨rfl, rfl⟩ | ⟨ad, c, rfl, rfl⟩ | ⟨b, off, cap2, rfl, _, hc⟩
  · simp only [bv, List.map_nil, List.length_nil] at hst ⊢
    simp [Builtin.copy_, run_underlying Tryd.underlying39, Builtin.lenOf, Builtin.firstCells, sizeOf, typeInfo, hi, hst]
  · simp only [bv, List.map_nil, List.length_nil] at hst ⊢
    simp [Builtin.copy_, run_underlying Tryd.underlying39, Builtin.lenOf, Builtin.firstCells, sizeOf, typeInfo, hi, loadCells, loadCellsFrom, hst]
  · have hl := run_loadCells_list (P := Tryd.prog) w ⟨b, off, none⟩ (bv m) (fun j v hv => by
      have hj : j < m.length := by have := (List.getElem?_eq_some_iff.1 hv).1; rwa [bv_len] at this
      rw [bv_get m j hj] at hv
      rw [Addr.add_mid, hc j hj]; exact hv)
    rw [bv_len] at hl
    simp [Builtin.copy_, run_underlying Tryd.underlying39, Builtin.lenOf, Builtin.firstCells, sizeOf, typeInfo, hi, hsz, hmin, hl, hst]
theorem wpList_copyG {ops : Array Oper} {rest : List Oper} {op : Oper} {a : Act} {w : World} {Q : Exit → Act → World → Prop} (hgd : op.guard = none) (d s : Operand)
    (ho : op.op = .call { callee := .builtin .copy, args := #[d, s], argTypes := #[39, 39] }) (g o N cap : Nat) (v : Value) (m : List Int) (T : TypeId) (cur : Array Value)
    (hd : a.eval d = .slice (some ⟨g, o, none⟩) N cap) (hs : a.eval s = v) (hg : Blk w g T cur) (hN : m.length ≤ N) (hsz : o + m.length ≤ cur.size) (hr : RowAt w v m)
    (h : wpList Tryd.prog ops Q rest (a.put op.dst (goInt m.length)) (w.setRow g (cur.toList.take o ++ bv m ++ cur.toList.drop (o + m.length)).toArray)) : wpList Tryd.prog ops Q (op :: rest) a w := by
  refine wpList_plain hgd fun K hK => ?_
  have hrun := run_copyG w g o N cap v m op.type T cur hg hN hsz hr
  unfold Oper.wp
  simp only [execOp, ho, resolve, invoke, builtin, List.map_toArray, List.map_cons, List.map_nil, hd, hs, Sem.run_bind, Sem.run_pure, hrun, Result.andThen_ok]
  exact hK _ _ h
theorem Own.cells {w : World} {g n cap : Nat} {l : List Int} (h : Own w (.slice (some ⟨g, 0, none⟩) n cap) l) (t : Nat) (ht : t < l.length) : w.cell? ⟨g, t, none⟩ = some (.int .u8 (l.getD t 0)) ∧ w.frozen? ⟨g, t, none⟩ = false := h.tail.cells t ht
theorem Own.set {w : World} {g n cap : Nat} {l : List Int} (h : Own w (.slice (some ⟨g, 0, none⟩) n cap) l) (t : Nat) (c : Int) : Own (w.setCell ⟨g, t, none⟩ (.int .u8 c)) (.slice (some ⟨g, 0, none⟩) n cap) (l.set t c) := by
  rcases h.form with ⟨e, _⟩ | ⟨g', cap', cur, e, hb, h3, h4, h5, h6⟩
  · cases e
  · injection e with e1 e2 e3
    injection e1 with e1
    injection e1 with e1
    subst e1 e2 e3
    have hm := Own.mk (l := l.set t c) (hb.set t (.int .u8 c)) (by rw [List.length_set]; exact h3) h4 (by simp [h5]) (by rw [Array.toList_setIfInBounds, List.length_set, List.take_set, h6, bv_set])
    rw [List.length_set] at hm
    exact hm
theorem wpList_wanted {P : Program} {ops : Array Oper} {rest : List Oper} {o : Oper} {a : Act} {w : World} {Q : Exit → Act → World → Prop} (hw : Region.wanted o (yielded ops a.tmps) = true)
    (h : ∀ K : Act → World → Prop, (∀ a w, wpList P ops Q rest a w → K a w) → o.wp P a w K Q) : wpList P ops Q (o :: rest) a w :=
  wpList_step fun K hK => by rw [if_pos hw]; exact h K hK
theorem wpList_load_midG {P : Program} {ops : Array Oper} {rest : List Oper} {op : Oper} {a : Act} {w : World} {Q : Exit → Act → World → Prop} (hw : Region.wanted op (yielded ops a.tmps) = true) (ty : TypeId) (x : Operand) (ho : op.op = .load ty x)
    (b o : Nat) (hx : a.eval x = .pointer (some ⟨b, o, none⟩)) (cs : List Value) (d : TypeDesc) (hc : w.rangeAt b o cs)
    (hu : P.underlying ty = some d) (hd : d.isRow = true) (hi : (P.info? ty).map (·.size) = some cs.length)
    (h : wpList P ops Q rest (a.put op.dst (.agg cs.toArray)) w) : wpList P ops Q (op :: rest) a w :=
  wpList_wanted hw fun _ hK => wp_load_mid ty x ho b o hx cs d hc hu hd hi (hK _ _ h)

theorem wp_bldG {P : Program} {o : Oper} {a : Act} {w : World} {K : Act → World → Prop} {Q : Exit → Act → World → Prop} (t : TypeId) (parts : Array (Nat × Operand)) (ho : o.op = .build t parts)
    (cells : Array Value) (hf : P.built t (parts.map fun (i, x) => (i, a.eval x)).toList = some cells) (h : K (a.put o.dst (.agg cells)) w) : o.wp P a w K Q :=
  wp_build t parts ho (by rw [hf]; rfl) (by rw [hf]; exact h)

structure WL (P : Program) (ops : Array Oper) (Q : Exit → Act → World → Prop) (l : List Oper) (a : Act) (w : World) : Prop where
  out : wpList P ops Q l a w
theorem WL.skip {P : Program} {ops : Array Oper} {rest : List Oper} {o : Oper} {a : Act} {w : World} {Q : Exit → Act → World → Prop} (hw : Region.wanted o (yielded ops a.tmps) = false)
    (h : WL P ops Q rest (a.put o.dst undef) w) : WL P ops Q (o :: rest) a w :=
  ⟨wpList_step fun K hK => by rw [if_neg (by rw [hw]; simp)]; exact hK _ _ h.out⟩
theorem WL.val {P : Program} {ops : Array Oper} {rest : List Oper} {o : Oper} {a : Act} {w : World} {Q : Exit → Act → World → Prop} (hw : Region.wanted o (yielded ops a.tmps) = true) (v : Value)
    (hrun : (execOp a.eval o).run P w = .ok (.value v) w) (h : WL P ops Q rest (a.put o.dst v) w) : WL P ops Q (o :: rest) a w :=
  ⟨wpList_wanted hw fun _ hK => wp_val v hrun (hK _ _ h.out)⟩
theorem WL.nil {P : Program} {ops : Array Oper} {a : Act} {w : World} {Q : Exit → Act → World → Prop} (h : Q .normal a w) : WL P ops Q [] a w := ⟨h⟩
theorem WL.mid {P : Program} {ops : Array Oper} {rest : List Oper} {op : Oper} {a : Act} {w : World} {Q : Exit → Act → World → Prop} (hw : Region.wanted op (yielded ops a.tmps) = true) (ty : TypeId) (x : Operand) (ho : op.op = .load ty x)
    (b o : Nat) (hx : a.eval x = .pointer (some ⟨b, o, none⟩)) (cs : List Value) (d : TypeDesc) (hc : w.rangeAt b o cs)
    (hu : P.underlying ty = some d) (hd : d.isRow = true) (hi : (P.info? ty).map (·.size) = some cs.length)
    (h : WL P ops Q rest (a.put op.dst (.agg cs.toArray)) w) : WL P ops Q (op :: rest) a w :=
  ⟨wpList_wanted hw fun _ hK => wp_load_mid ty x ho b o hx cs d hc hu hd hi (hK _ _ h.out)⟩
theorem WL.call {P : Program} {ops : Array Oper} {rest : List Oper} {o : Oper} {a : Act} {w : World} {Q : Exit → Act → World → Prop} (hw : Region.wanted o (yielded ops a.tmps) = true)
    (h : ∀ K : Act → World → Prop, (∀ a w, WL P ops Q rest a w → K a w) → o.wp P a w K Q) : WL P ops Q (o :: rest) a w :=
  ⟨wpList_wanted hw fun K hK => h K fun a w h => hK a w h.out⟩

section
variable {P : Program} {ops : Array Oper} {rest : List Oper} {o : Oper} {a : Act} {w : World} {Q : Exit → Act → World → Prop}
theorem WL.row (hw : Region.wanted o (yielded ops a.tmps) = true) (ty : TypeId) (x : Operand) (ho : o.op = .load ty x)
    (b : Nat) (hx : a.eval x = .pointer (some ⟨b, 0, none⟩)) (t : TypeId) (cs : Array Value) (d : TypeDesc) (hc : Blk w b t cs)
    (hu : P.underlying ty = some d) (hd : d.isRow = true) (hi : (P.info? ty).map (·.size) = some cs.size)
    (h : WL P ops Q rest (a.put o.dst (.agg cs)) w) : WL P ops Q (o :: rest) a w :=
  WL.mid hw ty x ho b 0 hx cs.toList d (blk_range hc) hu hd (by rw [Array.length_toList]; exact hi) (by rw [Array.toArray_toList]; exact h)
theorem WL.midA (hw : Region.wanted o (yielded ops a.tmps) = true) (ty : TypeId) (x : Operand) (ho : o.op = .load ty x)
    (b of : Nat) (hx : a.eval x = .pointer (some ⟨b, of, none⟩)) (cs : Array Value) (d : TypeDesc) (hc : w.rangeAt b of cs.toList)
    (hu : P.underlying ty = some d) (hd : d.isRow = true) (hi : (P.info? ty).map (·.size) = some cs.size)
    (h : WL P ops Q rest (a.put o.dst (.agg cs)) w) : WL P ops Q (o :: rest) a w :=
  WL.mid hw ty x ho b of hx cs.toList d hc hu hd (by rw [Array.length_toList]; exact hi) (by rw [Array.toArray_toList]; exact h)
theorem WL.new (hw : Region.wanted o (yielded ops a.tmps) = true) (t : TypeId) (ho : o.op = .alloc t) (cells : Array Value)
    (hf : ∀ w : World, (Instr.alloc t true (.tuple #[])).run P w = .ok (.pointer (some ⟨w.heap.size, 0, none⟩)) (w.alloc (.cells cells t)))
    (h : WL P ops Q rest (a.put o.dst (.pointer (some ⟨w.heap.size, 0, none⟩))) (w.alloc (.cells cells t))) : WL P ops Q (o :: rest) a w :=
  ⟨wpList_wanted hw fun K hK => by
    unfold Oper.wp execOp
    simp only [ho, Sem.run_bind, hf w, Result.andThen_ok]
    exact hK _ _ h.out⟩
theorem WL.box (hw : Region.wanted o (yielded ops a.tmps) = true) (t : TypeId) (x : Operand) (ho : o.op = .box t x) (cs : Array Value) (hx : a.eval x = .agg cs)
    (h : WL P ops Q rest (a.put o.dst (.pointer (some ⟨w.heap.size, 0, none⟩))) (w.alloc (.cells cs t))) : WL P ops Q (o :: rest) a w :=
  ⟨wpList_wanted hw fun K hK => by
    unfold Oper.wp execOp
    simp only [ho, hx, Sem.run_bind, run_box_agg, Result.andThen_ok]
    exact hK _ _ h.out⟩
theorem WL.storeR (hw : Region.wanted o (yielded ops a.tmps) = true) (ty : TypeId) (x y : Operand) (ho : o.op = .store ty x y)
    (g : Nat) (cells : Array Value) (hx : a.eval x = .pointer (some ⟨g, 0, none⟩)) (hy : a.eval y = .agg cells)
    (t : TypeId) (old : Array Value) (hg : Blk w g t old) (hi : (P.info? ty).map (·.size) = some cells.size) (hold : old.size = cells.size) (h1 : cells.all (·.oneCell') = true)
    (h : WL P ops Q rest (a.put o.dst undef) (w.setRow g cells)) : WL P ops Q (o :: rest) a w :=
  ⟨wpList_wanted hw fun _ hK => wp_store_row ty x y ho g cells hx hy t old hg hi hold h1 (hK _ _ h.out)⟩
theorem WL.cell (hw : Region.wanted o (yielded ops a.tmps) = true) (w' : World) (hrun : (execOp a.eval o).run P w = .ok .skip w')
    (h : WL P ops Q rest (a.put o.dst undef) w') : WL P ops Q (o :: rest) a w :=
  ⟨wpList_wanted hw fun _ hK => by unfold Oper.wp; rw [hrun, Oper.upon_skip]; exact hK _ _ h.out⟩
theorem WL.valW (hw : Region.wanted o (yielded ops a.tmps) = true) (v : Value) (w' : World) (hrun : (execOp a.eval o).run P w = .ok (.value v) w')
    (h : WL P ops Q rest (a.put o.dst v) w') : WL P ops Q (o :: rest) a w :=
  ⟨wpList_wanted hw fun _ hK => by unfold Oper.wp; rw [hrun, Oper.upon_value]; exact hK _ _ h.out⟩
theorem WL.bld (hw : Region.wanted o (yielded ops a.tmps) = true) (t : TypeId) (parts : Array (Nat × Operand)) (ho : o.op = .build t parts)
    (vs : List (Nat × Value)) (hv : (parts.map fun (i, x) => (i, a.eval x)).toList = vs) (cells : Array Value) (hf : P.built t vs = some cells)
    (h : WL P ops Q rest (a.put o.dst (.agg cells)) w) : WL P ops Q (o :: rest) a w :=
  ⟨wpList_wanted hw fun _ hK => wp_bldG t parts ho cells (by rw [hv]; exact hf) (hK _ _ h.out)⟩
theorem WL.bs (hw : Region.wanted o (yielded ops a.tmps) = true) (t : TypeId) (n : Nat) (parts : Array (Nat × Operand)) (ho : o.op = .buildSlice t n parts)
    (vs : Array (Nat × Value)) (hv : (parts.map fun (i, x) => (i, a.eval x)) = vs) (v : Value) (w' : World) (hrun : (Instr.buildSlice t n vs).run P w = .ok v w')
    (h : WL P ops Q rest (a.put o.dst v) w') : WL P ops Q (o :: rest) a w :=
  ⟨wpList_wanted hw fun K hK => by
    unfold Oper.wp execOp
    simp only [ho, hv, Sem.run_bind, hrun, Result.andThen_ok]
    exact hK _ _ h.out⟩
theorem WL.part (hw : Region.wanted o (yielded ops a.tmps) = true) (ty : TypeId) (x y : Operand) (ho : o.op = .store ty x y)
    (g off : Nat) (cells : Array Value) (hx : a.eval x = .pointer (some ⟨g, off, none⟩)) (hy : a.eval y = .agg cells)
    (t : TypeId) (cur : Array Value) (hg : Blk w g t cur) (hi : (P.info? ty).map (·.size) = some cells.size) (hfit : off + cells.size ≤ cur.size) (h1 : cells.all (·.oneCell') = true)
    (new : Array Value) (hn : (cur.toList.take off ++ cells.toList ++ cur.toList.drop (off + cells.size)).toArray = new)
    (h : WL P ops Q rest (a.put o.dst undef) (w.setRow g new)) : WL P ops Q (o :: rest) a w := by
  subst hn
  refine ⟨wpList_wanted hw fun K hK => ?_⟩
  have hst := run_storeCells_at P g off t cells.toList 0 cur w hg (by simpa using hfit) (fun v hv => (Array.all_eq_true_iff_forall_mem.1 h1) v (by simpa using hv))
  have hrun : (storeVar ty ⟨g, off, none⟩ (.agg cells)).run P w = .ok () (w.setRow g (cur.toList.take off ++ cells.toList ++ cur.toList.drop (off + cells.size)).toArray) := by
    cases hq : P.info? ty with
    | none => simp [hq] at hi
    | some i =>
      have hs : cells.size = i.size := by simp [hq] at hi; omega
      simp only [Nat.add_zero, Array.length_toList] at hst
      simp [storeVar, sizeOf, typeInfo, hq, Value.cells, hs, hst]
  unfold Oper.wp execOp
  simp only [ho, hx, hy, Instr.storeAt, Instr.sureAddr, Sem.run_bind, Sem.run_pure, Result.andThen_ok, hrun]
  exact hK _ _ h.out
theorem run_callV (a : Act) (o : Oper) (f : FuncId) (x : Operand) (args : Array Operand) (ts : Array TypeId) (ho : o.op = .call { callee := .value x, args := args, argTypes := ts }) (hx : a.eval x = .func (.func f) #[] #[])
    (hf : ∀ (w : World) (vs : Array Value), (callFunc f vs).run P w = .ok (.enter f vs) w) (w : World) :
    (execOp a.eval o).run P w = .ok (.enter f (args.map a.eval)) w := by
  unfold execOp
  simp only [ho, resolve, hx]
  generalize Array.map a.eval args = vs
  simp [go_sem]
  exact hf w _
theorem WL.callF (hw : Region.wanted o (yielded ops a.tmps) = true) (f : FuncId) (args : Array Operand) (ts : Array TypeId) (ho : o.op = .call { callee := .value (.func f), args := args, argTypes := ts })
    (hf : ∀ (w : World) (vs : Array Value), (callFunc f vs).run P w = .ok (.enter f vs) w) (vs : Array Value) (hvs : args.map a.eval = vs)
    (hc : Calls P f vs w fun e w' => ∃ v, e = .returned v ∧ WL P ops Q rest (a.put o.dst v) w') : WL P ops Q (o :: rest) a w :=
  ⟨wpList_wanted hw fun K hK => by
    unfold Oper.wp
    rw [run_callF a o f args ts ho hf w, Oper.upon_enter, hvs]
    refine hc.mono ?_
    rintro e w' ⟨v, rfl, hr⟩
    exact hK _ _ hr.out⟩
theorem WL.callV (hw : Region.wanted o (yielded ops a.tmps) = true) (f : FuncId) (x : Operand) (args : Array Operand) (ts : Array TypeId) (ho : o.op = .call { callee := .value x, args := args, argTypes := ts }) (hx : a.eval x = .func (.func f) #[] #[])
    (hf : ∀ (w : World) (vs : Array Value), (callFunc f vs).run P w = .ok (.enter f vs) w) (vs : Array Value) (hvs : args.map a.eval = vs)
    (hc : Calls P f vs w fun e w' => ∃ v, e = .returned v ∧ WL P ops Q rest (a.put o.dst v) w') : WL P ops Q (o :: rest) a w :=
  ⟨wpList_wanted hw fun K hK => by
    unfold Oper.wp
    rw [run_callV a o f x args ts ho hx hf w, Oper.upon_enter, hvs]
    refine hc.mono ?_
    rintro e w' ⟨v, rfl, hr⟩
    exact hK _ _ hr.out⟩
end
theorem Blk.c {w : World} {b : Nat} {T : TypeId} {cs : Array Value} (h : Blk w b T cs) (j : Nat) {v : Value} (hv : cs[j]? = some v) : w.cell? ⟨b, j, none⟩ = some v := by rw [h.cell]; exact hv
theorem wpAnyH_weaken {P : Program} {md : Region.Mode} {ops : Array Oper} {Q : Exit → Act → World → Prop} {S S' : World → Prop} (h : ∀ w, S' w → S w) : ∀ (fuel : Nat) (listed : Array Bool) (a : Act) (w : World), wpAnyH P md ops Q S' fuel listed a w → wpAnyH P md ops Q S fuel listed a w
  | 0, _, _, _, h1 => h1
  | fuel + 1, _, _, _, h1 => ⟨h1.1, fun i hi => wpOp_mono (fun a' w' h2 => ⟨h w' h2.1, wpAnyH_weaken h fuel _ a' w' h2.2⟩) (h1.2 i hi)⟩
end Go.Proofs.YteecdcocgflklaaDoor


namespace Go.Proofs.YteecdcocgflklaaDoor
open Go.RowKit
set_option linter.unusedSimpArgs false
set_option linter.unusedVariables false
theorem owns_grown {w w' : World} {B T s n : Nat} {v : Value} {xs : List Value} {S : Nat → Prop} (h : w.ownsRow B T s v n xs) (hg : Grown w w' S) (hs : ∀ k, v.ownBlock = some k → ¬ S k) : w'.ownsRow B T s v n xs := by
  rcases h.2 with ⟨rfl, e⟩ | ⟨g, cap, cur, rfl, h1, h2, h3, h4, h5, h6⟩
  · exact ⟨h.1, .inl ⟨rfl, e⟩⟩
  · have hB : Blk w g T cur := h2
    exact ⟨h.1, .inr ⟨g, cap, cur, rfl, h1, hg.blk hB (hs g rfl), h3, h4, h5, h6⟩⟩
theorem owns_below {w w' : World} {B T s n : Nat} {v : Value} {xs : List Value} (h : w.ownsRow B T s v n xs) (hb : Below w.heap.size w w') : w'.ownsRow B T s v n xs := owns_grown h (Grown.below (S := fun _ => False) hb) fun _ _ e => e
theorem owns_lt {w : World} {B T s n : Nat} {v : Value} {xs : List Value} (h : w.ownsRow B T s v n xs) : ∀ k, v.ownBlock = some k → B ≤ k ∧ k < w.heap.size := fun k hk => World.ownsRow.lt h k hk
theorem owns_sl {w : World} {B T s n : Nat} {v : Value} {xs : List Value} (h : w.ownsRow B T s v n xs) : ∃ a c, v = .slice a n c := by
  rcases h.2 with ⟨rfl, e⟩ | ⟨g, cap, cur, rfl, _⟩
  · exact ⟨none, 0, by rw [e]⟩
  · exact ⟨_, _, rfl⟩
theorem owns_at {w : World} {B T n c : Nat} {a : Option Addr} {xs : List Value} (h : w.ownsRow B T 1 (.slice a n c) n xs) {i : Nat} (hi : i < n) {u : Value} (hu : xs[i]? = some u) : ∃ g, a = some ⟨g, 0, none⟩ ∧ w.cell? ⟨g, i, none⟩ = some u ∧ g < w.heap.size := by
  rcases h.2 with ⟨e, e2⟩ | ⟨g, cap, cur, e, h1, h2, h3, h4, h5, h6⟩
  · omega
  · injection e with e1 e2 e3
    have hB : Blk w g T cur := h2
    refine ⟨g, e1, ?_, hB.lt⟩
    rw [hB.cell, ← Array.getElem?_toList]
    rw [← h6, List.getElem?_take] at hu
    split at hu
    · exact hu
    · cases hu
theorem owns_new (w : World) (T B : Nat) (hB : B ≤ w.heap.size) : (w.alloc (.cells #[] T)).ownsRow B T 1 (.slice (some ⟨w.heap.size, 0, none⟩) 0 0) 0 ([] : List Value) :=
  ⟨rfl, .inr ⟨w.heap.size, 0, #[], rfl, hB, Blk.new w T #[], Nat.le_refl _, by decide, rfl, rfl⟩⟩
def BkS (B : Nat) (w : World) (k : Nat) : Prop := B ≤ k ∧ (Typ w k 61 ∨ Typ w k 39)
structure BkH (B : Nat) (w : World) (x : Nat) (R : List (List Int)) : Prop where
  mk' ::
  ge : B ≤ x
  ex : ∃ (vr : Value) (cs : List Value), Blk w x 61 #[vr] ∧ w.ownsRow B 39 1 vr cs.length cs ∧ cs.length = R.length ∧ ∀ (i : Nat) (v : Value) (l : List Int), cs[i]? = some v → R[i]? = some l → Own w v l
theorem owns_typ {w : World} {B T s n : Nat} {v : Value} {xs : List Value} (h : w.ownsRow B T s v n xs) {k : Nat} (hk : v.ownBlock = some k) : Typ w k T := by
  rcases h.2 with ⟨rfl, _⟩ | ⟨g, cap, cur, rfl, _, h3, _⟩
  · simp [Value.ownBlock] at hk
  · simp [Value.ownBlock] at hk
    subst hk
    exact ⟨cur, _, h3⟩
theorem BkH.grown {B : Nat} {w w' : World} {x : Nat} {R : List (List Int)} {S : Nat → Prop} (h : BkH B w x R) (hg : Grown w w' S) (hs : ∀ k, S k → ¬ Typ w k 61 ∧ ¬ Typ w k 39 ∧ (∀ (v : Value) (l : List Int), Own w v l → v.ownBlock = some k → False)) : BkH B w' x R := by
  obtain ⟨hB, vr, cs, h1, h2, h3, h4⟩ := h
  refine ⟨hB, vr, cs, hg.blk h1 fun e => (hs _ e).1 h1.typ, owns_grown h2 hg fun k hk e => (hs _ e).2.1 (owns_typ h2 hk), h3, fun i v l hv hl => (h4 i v l hv hl).grown hg fun k hk e => (hs _ e).2.2 v l (h4 i v l hv hl) hk⟩
theorem BkH.below {B : Nat} {w w' : World} {x : Nat} {R : List (List Int)} (h : BkH B w x R) (hb : Below w.heap.size w w') : BkH B w' x R := h.grown (Grown.below (S := fun _ => False) hb) fun _ e => e.elim
theorem BkS.next {B : Nat} {a b c : World} (h : Grown a b (BkS B a)) (k : Grown b c (BkS B b)) : Grown a c (BkS B a) := h.next k fun i hi e => by
  by_cases hs : BkS B a i
  · exact hs
  · refine ⟨e.1, ?_⟩
    have hb := h.block i hi hs
    have e2 := e.2
    unfold Typ at e2 ⊢
    rw [hb] at e2
    exact e2
theorem Own.bk {B : Nat} {w w' : World} {v : Value} {l : List Int} (h : Own w v l) (hg : Grown w w' (BkS B w)) : Own w' v l := h.grown hg fun k hk e => by
  rcases e.2 with e | e
  · exact absurd ((h.typ hk).one e) (by decide)
  · exact absurd ((h.typ hk).one e) (by decide)
theorem Typ.bk {B : Nat} {w w' : World} {k T : Nat} (h : Typ w k T) (hg : Grown w w' (BkS B w)) (h1 : T ≠ 61) (h2 : T ≠ 39) : Typ w' k T := hg.typ h fun e => by
  rcases e.2 with e | e
  · exact h1 (h.one e)
  · exact h2 (h.one e)
theorem Blk.bk {B : Nat} {w w' : World} {k T : Nat} {cs : Array Value} (h : Blk w k T cs) (hg : Grown w w' (BkS B w)) (h1 : T ≠ 61) (h2 : T ≠ 39) : Blk w' k T cs := hg.blk h fun e => by
  rcases e.2 with e | e
  · exact h1 (h.typ.one e)
  · exact h2 (h.typ.one e)
theorem Grown.bkBelow {B : Nat} {w w' : World} (hg : Grown w w' (BkS B w)) (hB : B ≤ w.heap.size) : Below B w w' := by
  refine ⟨hg.os, hg.tape, hg.output, hg.size, fun i hi => hg.block i (by omega) fun e => ?_⟩
  have := e.1
  omega
theorem infoBy : (Tryd.prog.info? 39).map (fun i => (i.zero, i.size, i.bytes)) = some (some (.slice none 0 0), 1, 24) := by kernel_rfl
theorem bsRw1 (a : Option Addr) (n c : Nat) (w : World) : (Instr.buildSlice 36 1 #[(0, .slice a n c)]).run Tryd.prog w = .ok (.slice (some ⟨w.heap.size, 0, none⟩) 1 1) (w.alloc (.cells #[.slice a n c] 39)) := by kernel_rfl
theorem run_appRw (w : World) (ty : TypeId) (B : Nat) (v : Value) (n : Nat) (xs : List Value) (hown : w.ownsRow B 39 1 v n xs) (gx : Nat) (a : Option Addr) (m c : Nat) (hc : w.cell? ⟨gx, 0, none⟩ = some (.slice a m c)) (hb : n + 1 ≤ 4398046511104) (hB : B ≤ w.heap.size) :
    ∃ v' w', (Builtin.append_ #[36, 36] ty #[v, .slice (some ⟨gx, 0, none⟩) 1 1]).run Tryd.prog w = .ok v' w' ∧ w'.ownsRow B 39 1 v' (n + 1) (xs ++ [.slice a m c]) ∧ (Grown w w' fun k => v.ownBlock = some k) ∧ (v'.ownBlock = v.ownBlock ∨ v'.ownBlock = some w.heap.size) := by
  obtain ⟨i, hi, hzz⟩ := Option.map_eq_some_iff.1 infoBy
  simp only [Prod.mk.injEq] at hzz
  obtain ⟨hz, hsz, hby⟩ := hzz
  obtain ⟨v', w', hr, h1, h2, _, h3⟩ := run_append_own_at (P := Tryd.prog) w B 36 ty 39 i (.slice none 0 0) 1 24 Tryd.underlying36 hi hz hsz hby rfl (by omega) v n xs hown ⟨gx, 0, none⟩ 1 1 [.slice a m c] rfl (fun j u hu => by
    cases j with
    | zero => simp at hu; subst hu; exact hc
    | succ j => simp at hu) (fun u hu => by simp at hu; subst hu; rfl) (by unfold maxLen; omega) (by omega) hB
  exact ⟨v', w', hr, h1, Grown.of h2 fun k _ e => e, h3⟩
theorem WL.appRw {ops : Array Oper} {rest : List Oper} {o : Oper} {a : Act} {w : World} {Q : Exit → Act → World → Prop} (hw : Region.wanted o (yielded ops a.tmps) = true) (s x : Operand)
    (ho : o.op = .call { callee := .builtin .append, args := #[s, x], argTypes := #[36, 36] }) (v : Value) (B n : Nat) (xs : List Value) (gx : Nat) (aa : Option Addr) (m c : Nat)
    (hs : a.eval s = v) (hx : a.eval x = .slice (some ⟨gx, 0, none⟩) 1 1) (hown : w.ownsRow B 39 1 v n xs) (hc : w.cell? ⟨gx, 0, none⟩ = some (.slice aa m c)) (hb : n + 1 ≤ 4398046511104) (hB : B ≤ w.heap.size)
    (h : ∀ v' w', w'.ownsRow B 39 1 v' (n + 1) (xs ++ [.slice aa m c]) → (Grown w w' fun k => v.ownBlock = some k) → (v'.ownBlock = v.ownBlock ∨ v'.ownBlock = some w.heap.size) → WL Tryd.prog ops Q rest (a.put o.dst v') w') : WL Tryd.prog ops Q (o :: rest) a w :=
  ⟨wpList_wanted hw fun K hK => by
    obtain ⟨v', w', hr, h1, h2, h3⟩ := run_appRw w o.type B v n xs hown gx aa m c hc hb hB
    unfold Oper.wp execOp
    simp only [ho, resolve, invoke, builtin, Sem.run_bind, Sem.run_pure, Result.andThen_ok, List.map_toArray, List.map_cons, List.map_nil, hs, hx, hr]
    exact hK _ _ (h v' w' h1 h2 h3).out⟩
end Go.Proofs.YteecdcocgflklaaDoor
namespace Go.Proofs.YteecdcocgflklaaDoor
open Go.RowKit

theorem run_app_cellsW (w : World) (ty : TypeId) (v : Value) (l : List Int) (hl0 : 0 < l.length) (hown : Own w v l) (a : Addr) (c : Nat) (m : List Int) (hnews : ∀ j u, (bv m)[j]? = some u → w.cell? (a.add j) = some u) (hb : l.length + m.length ≤ 200000000000000) :
    ∃ v' w', (Builtin.append_ #[39, 39] ty #[v, .slice (some a) m.length c]).run Tryd.prog w = .ok v' w' ∧ AppPost w v (l ++ m) v' w' := by
  obtain ⟨i, hi, hzz⟩ := Option.map_eq_some_iff.1 Tryd.info5
  simp only [Prod.mk.injEq] at hzz
  obtain ⟨hz, hsz, hby⟩ := hzz
  have h63 : l.length + m.length ≤ maxLen := by unfold maxLen; omega
  have hlm : (bv m).length = m.length * i.size := by rw [bv_len, hsz]; omega
  obtain ⟨v', w', hr, h1, h2, _⟩ := run_append_own_wide (P := Tryd.prog) w 0 39 ty 5 i (.int .u8 0) 1 1 Tryd.underlying39 hi hz hsz hby rfl (by omega) v l.length (bv l) hown a m.length c (bv m) (by rw [bv_len]; omega) hnews (bv_one m) h63 (by omega) (Nat.zero_le _)
  have hO : Own w' v' (l ++ m) := by unfold Own; rw [List.length_append, bv_app]; exact h1
  refine ⟨v', w', hr, hO, ?_⟩
  rcases hown.form with ⟨rfl, rfl⟩ | ⟨g, cap, cur, rfl, hg, hnc, hcm, hcs, htake⟩
  · simp at hl0
  · by_cases hroom : l.length + m.length ≤ cap
    · have hr2 := run_append_room (P := Tryd.prog) w 39 ty 5 i Tryd.underlying39 hi g l.length cap cur hg a m.length c (bv m) hlm hnews (bv_one m) hroom (by rw [hsz, bv_len, hcs]; omega)
      have e := hr.symm.trans hr2
      injection e with e1 e2
      subst e1
      exact .inl ⟨rfl, Grown.of h2 fun k _ e => e⟩
    · have holds : ∀ j u, (bv l)[j]? = some u → w.cell? ((⟨g, 0, none⟩ : Addr).add j) = some u := World.ownsRow.cells (g := g) hown rfl
      have hr2 := run_append_grow (P := Tryd.prog) w 39 ty 5 i (.int .u8 0) Tryd.underlying39 hi hz ⟨g, 0, none⟩ l.length cap (bv l) (by rw [bv_len, hsz]; omega) holds a m.length c (bv m) hlm hnews (by omega) (by omega) (by rw [hby]; exact growslice_fits_wide (by omega) (by omega))
      have e := hr.symm.trans hr2
      injection e with e1 e2
      subst e1 e2
      exact .inr ⟨rfl, ⟨rfl, rfl, rfl, by simp, fun k hk => Below.heap_alloc w.drew _ k hk⟩⟩
theorem run_app_rowW (w : World) (ty : TypeId) (v vx : Value) (l m : List Int) (hl0 : 0 < l.length) (hown : Own w v l) (hrow : RowAt w vx m) (hb : l.length + m.length ≤ 200000000000000) :
    ∃ v' w', (Builtin.append_ #[39, 39] ty #[v, vx]).run Tryd.prog w = .ok v' w' ∧ AppPost w v (l ++ m) v' w' := by
  rcases hrow with ⟨rfl, rfl⟩ | ⟨ad, c, rfl, rfl⟩ | ⟨b, off, cap, rfl, hcap, hc⟩
  · obtain ⟨i, hi, _⟩ := Option.map_eq_some_iff.1 Tryd.info5
    have hrun := run_append_owned_none (P := Tryd.prog) (w := w) 0 39 ty 5 i 1 Tryd.underlying39 hi v l.length (bv l) hown
    exact ⟨v, w, hrun, by simpa using hown, .inl ⟨rfl, Grown.refl _ _⟩⟩
  · exact run_app_cellsW w ty v l hl0 hown ad c [] (fun j u hu => by simp [bv] at hu) hb
  · refine run_app_cellsW w ty v l hl0 hown ⟨b, off, none⟩ cap m (fun j u hu => ?_) hb
    have hj : j < m.length := by have := (List.getElem?_eq_some_iff.1 hu).1; rwa [bv_len] at this
    rw [bv_get m j hj] at hu
    rw [Addr.add_mid, hc j hj]; exact hu
theorem wpList_appW {ops : Array Oper} {rest : List Oper} {o : Oper} {a : Act} {w : World} {Q : Exit → Act → World → Prop} (hgd : o.guard = none) (s x : Operand)
    (ho : o.op = .call { callee := .builtin .append, args := #[s, x], argTypes := #[39, 39] }) (v vx : Value) (l m : List Int)
    (hs : a.eval s = v) (hx : a.eval x = vx) (hl0 : 0 < l.length) (hown : Own w v l) (hrow : RowAt w vx m) (hb : l.length + m.length ≤ 200000000000000)
    (h : ∀ v' w', AppPost w v (l ++ m) v' w' → wpList Tryd.prog ops Q rest (a.put o.dst v') w') : wpList Tryd.prog ops Q (o :: rest) a w := by
  refine wpList_plain hgd fun K hK => ?_
  obtain ⟨v', w', hr, h2⟩ := run_app_rowW w o.type v vx l m hl0 hown hrow hb
  unfold Oper.wp execOp
  simp only [ho, resolve, invoke, builtin, Sem.run_bind, Sem.run_pure, Result.andThen_ok, List.map_toArray, List.map_cons, List.map_nil, hs, hx, hr]
  exact hK _ _ (h v' w' h2)
end Go.Proofs.YteecdcocgflklaaDoor
namespace Go.Proofs.YteecdcocgflklaaDoor
open Go.RowKit
set_option linter.unusedSimpArgs false
set_option linter.unusedVariables false
theorem Tryd.in48 (w : World) (vs : Array Value) : (callFunc 48 vs).run Tryd.prog w = .ok (.enter 48 vs) w := by kernel_rfl
theorem Tryd.in49 (w : World) (vs : Array Value) : (callFunc 49 vs).run Tryd.prog w = .ok (.enter 49 vs) w := by kernel_rfl
theorem Tryd.in46 (w : World) (vs : Array Value) : (callFunc 46 vs).run Tryd.prog w = .ok (.enter 46 vs) w := by kernel_rfl
theorem Tryd.in47 (w : World) (vs : Array Value) : (callFunc 47 vs).run Tryd.prog w = .ok (.enter 47 vs) w := by kernel_rfl
theorem WL.app {ops : Array Oper} {rest : List Oper} {o : Oper} {a : Act} {w : World} {Q : Exit → Act → World → Prop} (hw : Region.wanted o (yielded ops a.tmps) = true) (s x : Operand)
    (ho : o.op = .call { callee := .builtin .append, args := #[s, x], argTypes := #[39, 39] }) (v vx : Value) (l m : List Int)
    (hs : a.eval s = v) (hx : a.eval x = vx) (hown : Own w v l) (hrow : RowAt w vx m) (hb : l.length + m.length ≤ 140737488355328)
    (h : ∀ v' w', AppPost w v (l ++ m) v' w' → WL Tryd.prog ops Q rest (a.put o.dst v') w') : WL Tryd.prog ops Q (o :: rest) a w :=
  ⟨wpList_wanted hw fun K hK => by
    obtain ⟨v', w', hr, h2⟩ := run_app_row w o.type v vx l m hown hrow hb
    unfold Oper.wp execOp
    simp only [ho, resolve, invoke, builtin, Sem.run_bind, Sem.run_pure, Result.andThen_ok, List.map_toArray, List.map_cons, List.map_nil, hs, hx, hr]
    exact hK _ _ (h v' w' h2).out⟩
theorem bsE (w : World) : (Instr.buildSlice 39 0 #[]).run Tryd.prog w = .ok (.slice (some ⟨w.heap.size, 0, none⟩) 0 0) (w.alloc (.cells #[] 5)) := by kernel_rfl
structure Lk where
  v : Value
  R : List (Value × List Int)
def Lk.bs (k : Lk) : List (List Int) := k.R.map (·.2)
structure LkAt (w : World) (k : Lk) : Prop where
  own : w.ownsRow 0 39 1 k.v k.R.length (k.R.map (·.1))
  rows : ∀ p ∈ k.R, Own w p.1 p.2 ∧ p.2.length ≤ 2097194 ∧ Byts p.2
  few : k.R.length ≤ 1024
structure RmAt (w : World) (x g N : Nat) (K : List Lk) : Prop where
  bx : Blk w x 70 #[.int .i64 (N : Int), .slice (some ⟨g, 0, none⟩) 81 81]
  bg : Blk w g 85 (K.map (·.v)).toArray
  len : K.length = 81
  nb : 1 ≤ N ∧ N ≤ 8
  lk : ∀ k ∈ K, LkAt w k
  ne : ∀ (i j : Nat) (a b : Lk) (m : Nat), K[i]? = some a → K[j]? = some b → a.v.ownBlock = some m → b.v.ownBlock = some m → i = j
def RmW (g : Nat) (K : List Lk) (k : Nat) : Prop := k = g ∨ ∃ a ∈ K, a.v.ownBlock = some k
def RmS (x g : Nat) (K : List Lk) (k : Nat) : Prop := k = x ∨ RmW g K k ∨ ∃ a ∈ K, ∃ p ∈ a.R, p.1.ownBlock = some k
theorem LkAt.grown {w w' : World} {k : Lk} {S : Nat → Prop} (h : LkAt w k) (hg : Grown w w' S) (hs : ∀ m, S m → k.v.ownBlock ≠ some m ∧ ∀ p ∈ k.R, p.1.ownBlock ≠ some m) : LkAt w' k :=
  ⟨owns_grown h.own hg fun m hm e => (hs m e).1 hm, fun p hp => ⟨owns_grown (h.rows p hp).1 hg fun m hm e => (hs m e).2 p hp hm, (h.rows p hp).2⟩, h.few⟩
theorem RmAt.grown {w w' : World} {x g N : Nat} {K : List Lk} {S : Nat → Prop} (h : RmAt w x g N K) (hg : Grown w w' S) (hs : ∀ m, S m → ¬ RmS x g K m) : RmAt w' x g N K :=
  ⟨hg.blk h.bx fun e => hs _ e (.inl rfl), hg.blk h.bg fun e => hs _ e (.inr (.inl (.inl rfl))), h.len, h.nb, fun k hk => (h.lk k hk).grown hg fun m e => ⟨fun e2 => hs m e (.inr (.inl (.inr ⟨k, hk, e2⟩))), fun p hp e2 => hs m e (.inr (.inr ⟨k, hk, p, hp, e2⟩))⟩, h.ne⟩
theorem RmAt.below {w w' : World} {x g N : Nat} {K : List Lk} (h : RmAt w x g N K) (hb : Below w.heap.size w w') : RmAt w' x g N K := h.grown (Grown.below (S := fun _ => False) hb) fun _ e => e.elim
theorem RmAt.lt {w : World} {x g N : Nat} {K : List Lk} (h : RmAt w x g N K) : ∀ k, RmS x g K k → k < w.heap.size := fun k hk => by
  rcases hk with rfl | (rfl | ⟨a, ha, e⟩) | ⟨a, ha, p, hp, e⟩
  · exact h.bx.lt
  · exact h.bg.lt
  · exact (owns_lt (h.lk a ha).own k e).2
  · exact ((h.lk a ha).rows p hp).1.lt k e
theorem RmAt.set {w w' : World} {x g N i : Nat} {K : List Lk} {a b : Lk} (h : RmAt w x g N K) (hi : K[i]? = some a) (hg : Grown w w' (fun k => k = g ∨ a.v.ownBlock = some k)) (hb : Blk w' g 85 ((K.set i b).map (·.v)).toArray) (hl : LkAt w' b) (hn : ∀ m, b.v.ownBlock = some m → a.v.ownBlock = some m ∨ w.heap.size ≤ m) : RmAt w' x g N (K.set i b) := by
  have hil := (List.getElem?_eq_some_iff.mp hi).1
  have ham := List.mem_of_getElem? hi
  have hel : ∀ j c, j ≠ i → K[j]? = some c → LkAt w' c := fun j c hj hc => (h.lk c (List.mem_of_getElem? hc)).grown hg fun m e => by
    have hcl := h.lk c (List.mem_of_getElem? hc)
    refine ⟨fun e2 => ?_, fun p hp e2 => ?_⟩
    · rcases e with rfl | e
      · exact absurd ((owns_typ hcl.own e2).one h.bg.typ) (by decide)
      · exact hj (h.ne j i c a m hc hi e2 e)
    · rcases e with rfl | e
      · exact absurd ((owns_typ (hcl.rows p hp).1 e2).one h.bg.typ) (by decide)
      · exact absurd ((owns_typ (hcl.rows p hp).1 e2).one (owns_typ (h.lk a ham).own e)) (by decide)
  refine ⟨hg.blk h.bx fun e => ?_, hb, by rw [List.length_set]; exact h.len, h.nb, fun c hc => ?_, fun j l c d m hj hl' hc hd => ?_⟩
  · rcases e with e | e
    · exact absurd (Typ.one (e ▸ h.bx.typ) h.bg.typ) (by decide)
    · exact absurd ((owns_typ (h.lk a ham).own e).one h.bx.typ) (by decide)
  · obtain ⟨j, hj, rfl⟩ := List.getElem_of_mem hc
    rw [List.length_set] at hj
    by_cases e : j = i
    · subst e
      rw [List.getElem_set_self]
      exact hl
    · rw [List.getElem_set_ne (fun h => e h.symm)]
      exact hel j _ e (List.getElem?_eq_getElem hj)
  · have get : ∀ (y : Nat) (z : Lk), (K.set i b)[y]? = some z → (y = i ∧ z = b) ∨ (y ≠ i ∧ K[y]? = some z) := fun y z hz => by
      by_cases e : y = i
      · subst e
        rw [List.getElem?_set_self hil] at hz
        exact .inl ⟨rfl, (Option.some.inj hz).symm⟩
      · rw [List.getElem?_set_ne (fun h => e h.symm)] at hz
        exact .inr ⟨e, hz⟩
    have old : ∀ (y : Nat) (z : Lk), K[y]? = some z → z.v.ownBlock = some m → m < w.heap.size := fun y z hz hm => (owns_lt (h.lk z (List.mem_of_getElem? hz)).own m hm).2
    rcases get j c hj with ⟨rfl, rfl⟩ | ⟨e1, k1⟩
    · rcases get l d hl' with ⟨rfl, rfl⟩ | ⟨e2, k2⟩
      · rfl
      · rcases hn m hc with e | e
        · exact (h.ne l j d a m k2 hi hd e).symm
        · have := old l d k2 hd; omega
    · rcases get l d hl' with ⟨rfl, rfl⟩ | ⟨e2, k2⟩
      · rcases hn m hd with e | e
        · exact h.ne j l c a m k1 hi hc e
        · have := old j c k1 hc; omega
      · exact h.ne j l c d m k1 k2 hc hd
def thr (N : Nat) (f t : Int) : Bool := decide (1 ≤ f) && (decide (f ≤ (N : Int)) && (decide (1 ≤ t) && (decide (t ≤ (N : Int)) && decide (f ≠ t))))
def ix (f t : Int) : Nat := (9 * f + t).toNat
theorem thr_ix {N : Nat} {f t : Int} (hN : N ≤ 8) (h : thr N f t = true) : (1 ≤ f ∧ f ≤ 8 ∧ 1 ≤ t ∧ t ≤ 8) ∧ ((ix f t : Nat) : Int) = 9 * f + t ∧ ix f t < 81 := by
  simp [thr] at h
  unfold ix
  omega
set_option maxRecDepth 8000 in
theorem there_any (w : World) (x g N : Nat) (K : List Lk) (f t : Int) (h : RmAt w x g N K) : Calls Tryd.prog 48 #[.pointer (some ⟨x, 0, none⟩), .int .i64 f, .int .i64 t] w fun e w' => e = .returned (.bool (thr N f t)) ∧ w' = w := by
  have x0_ : w.cell? ⟨x, 0, none⟩ = some (.int .i64 (N : Int)) := h.bx.c 0 rfl
  clear h
  go_enter Tryd.func48, Tryd.ntmps48
  refine wp_seq_k fun K1 hK1 => ?_
  refine wp_region_list (WL.out ?_)
  refine WL.val (by kernel_rfl) (.bool false) (by go_simp) ?_
  simp only [Act.put, List.setIfInBounds_toArray, List.set_cons_zero, List.set_cons_succ]
  refine WL.nil ?_
  refine hK1 _ _ ?_
  refine wp_seq_k fun K2 hK2 => ?_
  refine wp_region_list (WL.out ?_)
  refine WL.val (by kernel_rfl) (.int .i64 f) (by go_simp) ?_
  simp only [Act.put, List.setIfInBounds_toArray, List.set_cons_zero, List.set_cons_succ]
  by_cases h1_1 : 1 ≤ f
  · skip
    refine WL.val (by kernel_rfl) (.bool true) (by go_simp) ?_
    simp only [Act.put, List.setIfInBounds_toArray, List.set_cons_zero, List.set_cons_succ]
    refine WL.val (by kernel_rfl) (.bool true) (by go_simp) ?_
    simp only [Act.put, List.setIfInBounds_toArray, List.set_cons_zero, List.set_cons_succ]
    refine WL.val (by kernel_rfl) (.int .i64 f) (by go_simp) ?_
    simp only [Act.put, List.setIfInBounds_toArray, List.set_cons_zero, List.set_cons_succ]
    refine WL.val (by kernel_rfl) (.pointer (some ⟨x, 0, none⟩)) (by go_simp) ?_
    simp only [Act.put, List.setIfInBounds_toArray, List.set_cons_zero, List.set_cons_succ]
    refine WL.val (by kernel_rfl) (.pointer (some ⟨x, 0, none⟩)) (by go_simp) ?_
    simp only [Act.put, List.setIfInBounds_toArray, List.set_cons_zero, List.set_cons_succ]
    refine WL.val (by kernel_rfl) (.pointer (some ⟨x, 0, none⟩)) (by go_simp) ?_
    simp only [Act.put, List.setIfInBounds_toArray, List.set_cons_zero, List.set_cons_succ]
    refine WL.val (by kernel_rfl) (.int .i64 (N : Int)) (by go_simp) ?_
    simp only [Act.put, List.setIfInBounds_toArray, List.set_cons_zero, List.set_cons_succ]
    by_cases h1_8 : f ≤ (N : Int)
    · skip
      refine WL.val (by kernel_rfl) (.bool true) (by go_simp) ?_
      simp only [Act.put, List.setIfInBounds_toArray, List.set_cons_zero, List.set_cons_succ]
      refine WL.val (by kernel_rfl) (.bool true) (by go_simp) ?_
      simp only [Act.put, List.setIfInBounds_toArray, List.set_cons_zero, List.set_cons_succ]
      refine WL.val (by kernel_rfl) (.bool true) (by go_simp) ?_
      simp only [Act.put, List.setIfInBounds_toArray, List.set_cons_zero, List.set_cons_succ]
      refine WL.val (by kernel_rfl) (.int .i64 t) (by go_simp) ?_
      simp only [Act.put, List.setIfInBounds_toArray, List.set_cons_zero, List.set_cons_succ]
      by_cases h1_12 : 1 ≤ t
      · skip
        refine WL.val (by kernel_rfl) (.bool true) (by go_simp) ?_
        simp only [Act.put, List.setIfInBounds_toArray, List.set_cons_zero, List.set_cons_succ]
        refine WL.val (by kernel_rfl) (.bool true) (by go_simp) ?_
        simp only [Act.put, List.setIfInBounds_toArray, List.set_cons_zero, List.set_cons_succ]
        refine WL.val (by kernel_rfl) (.bool true) (by go_simp) ?_
        simp only [Act.put, List.setIfInBounds_toArray, List.set_cons_zero, List.set_cons_succ]
        refine WL.val (by kernel_rfl) (.int .i64 t) (by go_simp) ?_
        simp only [Act.put, List.setIfInBounds_toArray, List.set_cons_zero, List.set_cons_succ]
        refine WL.val (by kernel_rfl) (.pointer (some ⟨x, 0, none⟩)) (by go_simp) ?_
        simp only [Act.put, List.setIfInBounds_toArray, List.set_cons_zero, List.set_cons_succ]
        refine WL.val (by kernel_rfl) (.pointer (some ⟨x, 0, none⟩)) (by go_simp) ?_
        simp only [Act.put, List.setIfInBounds_toArray, List.set_cons_zero, List.set_cons_succ]
        refine WL.val (by kernel_rfl) (.pointer (some ⟨x, 0, none⟩)) (by go_simp) ?_
        simp only [Act.put, List.setIfInBounds_toArray, List.set_cons_zero, List.set_cons_succ]
        refine WL.val (by kernel_rfl) (.int .i64 (N : Int)) (by go_simp) ?_
        simp only [Act.put, List.setIfInBounds_toArray, List.set_cons_zero, List.set_cons_succ]
        by_cases h1_20 : t ≤ (N : Int)
        · skip
          refine WL.val (by kernel_rfl) (.bool true) (by go_simp) ?_
          simp only [Act.put, List.setIfInBounds_toArray, List.set_cons_zero, List.set_cons_succ]
          refine WL.val (by kernel_rfl) (.bool true) (by go_simp) ?_
          simp only [Act.put, List.setIfInBounds_toArray, List.set_cons_zero, List.set_cons_succ]
          refine WL.val (by kernel_rfl) (.bool true) (by go_simp) ?_
          simp only [Act.put, List.setIfInBounds_toArray, List.set_cons_zero, List.set_cons_succ]
          refine WL.val (by kernel_rfl) (.int .i64 f) (by go_simp) ?_
          simp only [Act.put, List.setIfInBounds_toArray, List.set_cons_zero, List.set_cons_succ]
          refine WL.val (by kernel_rfl) (.int .i64 t) (by go_simp) ?_
          simp only [Act.put, List.setIfInBounds_toArray, List.set_cons_zero, List.set_cons_succ]
          by_cases h1_25 : f = t
          · skip
            refine WL.val (by kernel_rfl) (.bool false) (by go_simp) ?_
            simp only [Act.put, List.setIfInBounds_toArray, List.set_cons_zero, List.set_cons_succ]
            refine WL.val (by kernel_rfl) (.bool false) (by go_simp) ?_
            simp only [Act.put, List.setIfInBounds_toArray, List.set_cons_zero, List.set_cons_succ]
            refine WL.val (by kernel_rfl) (.bool false) (by go_simp) ?_
            simp only [Act.put, List.setIfInBounds_toArray, List.set_cons_zero, List.set_cons_succ]
            refine WL.nil ?_
            refine hK2 _ _ ?_
            refine wp_ret ?_
            go_ret
            refine ⟨?_, rfl⟩
            unfold thr
            simp_all
            try (intros; omega)
          · skip
            refine WL.val (by kernel_rfl) (.bool true) (by go_simp) ?_
            simp only [Act.put, List.setIfInBounds_toArray, List.set_cons_zero, List.set_cons_succ]
            refine WL.val (by kernel_rfl) (.bool true) (by go_simp) ?_
            simp only [Act.put, List.setIfInBounds_toArray, List.set_cons_zero, List.set_cons_succ]
            refine WL.val (by kernel_rfl) (.bool true) (by go_simp) ?_
            simp only [Act.put, List.setIfInBounds_toArray, List.set_cons_zero, List.set_cons_succ]
            refine WL.nil ?_
            refine hK2 _ _ ?_
            refine wp_ret ?_
            go_ret
            refine ⟨?_, rfl⟩
            unfold thr
            simp_all
            try (intros; omega)
        · skip
          refine WL.val (by kernel_rfl) (.bool false) (by go_simp) ?_
          simp only [Act.put, List.setIfInBounds_toArray, List.set_cons_zero, List.set_cons_succ]
          refine WL.val (by kernel_rfl) (.bool false) (by go_simp) ?_
          simp only [Act.put, List.setIfInBounds_toArray, List.set_cons_zero, List.set_cons_succ]
          refine WL.val (by kernel_rfl) (.bool false) (by go_simp) ?_
          simp only [Act.put, List.setIfInBounds_toArray, List.set_cons_zero, List.set_cons_succ]
          refine WL.skip (by kernel_rfl) ?_
          simp only [Act.put, List.setIfInBounds_toArray, List.set_cons_zero, List.set_cons_succ]
          refine WL.skip (by kernel_rfl) ?_
          simp only [Act.put, List.setIfInBounds_toArray, List.set_cons_zero, List.set_cons_succ]
          refine WL.skip (by kernel_rfl) ?_
          simp only [Act.put, List.setIfInBounds_toArray, List.set_cons_zero, List.set_cons_succ]
          refine WL.val (by kernel_rfl) (.bool false) (by go_simp) ?_
          simp only [Act.put, List.setIfInBounds_toArray, List.set_cons_zero, List.set_cons_succ]
          refine WL.val (by kernel_rfl) (.bool false) (by go_simp) ?_
          simp only [Act.put, List.setIfInBounds_toArray, List.set_cons_zero, List.set_cons_succ]
          refine WL.nil ?_
          refine hK2 _ _ ?_
          refine wp_ret ?_
          go_ret
          refine ⟨?_, rfl⟩
          unfold thr
          simp_all
          try (intros; omega)
      · skip
        refine WL.val (by kernel_rfl) (.bool false) (by go_simp) ?_
        simp only [Act.put, List.setIfInBounds_toArray, List.set_cons_zero, List.set_cons_succ]
        refine WL.val (by kernel_rfl) (.bool false) (by go_simp) ?_
        simp only [Act.put, List.setIfInBounds_toArray, List.set_cons_zero, List.set_cons_succ]
        refine WL.val (by kernel_rfl) (.bool false) (by go_simp) ?_
        simp only [Act.put, List.setIfInBounds_toArray, List.set_cons_zero, List.set_cons_succ]
        refine WL.skip (by kernel_rfl) ?_
        simp only [Act.put, List.setIfInBounds_toArray, List.set_cons_zero, List.set_cons_succ]
        refine WL.skip (by kernel_rfl) ?_
        simp only [Act.put, List.setIfInBounds_toArray, List.set_cons_zero, List.set_cons_succ]
        refine WL.skip (by kernel_rfl) ?_
        simp only [Act.put, List.setIfInBounds_toArray, List.set_cons_zero, List.set_cons_succ]
        refine WL.skip (by kernel_rfl) ?_
        simp only [Act.put, List.setIfInBounds_toArray, List.set_cons_zero, List.set_cons_succ]
        refine WL.skip (by kernel_rfl) ?_
        simp only [Act.put, List.setIfInBounds_toArray, List.set_cons_zero, List.set_cons_succ]
        refine WL.skip (by kernel_rfl) ?_
        simp only [Act.put, List.setIfInBounds_toArray, List.set_cons_zero, List.set_cons_succ]
        refine WL.val (by kernel_rfl) (.bool false) (by go_simp) ?_
        simp only [Act.put, List.setIfInBounds_toArray, List.set_cons_zero, List.set_cons_succ]
        refine WL.val (by kernel_rfl) (.bool false) (by go_simp) ?_
        simp only [Act.put, List.setIfInBounds_toArray, List.set_cons_zero, List.set_cons_succ]
        refine WL.skip (by kernel_rfl) ?_
        simp only [Act.put, List.setIfInBounds_toArray, List.set_cons_zero, List.set_cons_succ]
        refine WL.skip (by kernel_rfl) ?_
        simp only [Act.put, List.setIfInBounds_toArray, List.set_cons_zero, List.set_cons_succ]
        refine WL.skip (by kernel_rfl) ?_
        simp only [Act.put, List.setIfInBounds_toArray, List.set_cons_zero, List.set_cons_succ]
        refine WL.val (by kernel_rfl) (.bool false) (by go_simp) ?_
        simp only [Act.put, List.setIfInBounds_toArray, List.set_cons_zero, List.set_cons_succ]
        refine WL.val (by kernel_rfl) (.bool false) (by go_simp) ?_
        simp only [Act.put, List.setIfInBounds_toArray, List.set_cons_zero, List.set_cons_succ]
        refine WL.nil ?_
        refine hK2 _ _ ?_
        refine wp_ret ?_
        go_ret
        refine ⟨?_, rfl⟩
        unfold thr
        simp_all
        try (intros; omega)
    · skip
      refine WL.val (by kernel_rfl) (.bool false) (by go_simp) ?_
      simp only [Act.put, List.setIfInBounds_toArray, List.set_cons_zero, List.set_cons_succ]
      refine WL.val (by kernel_rfl) (.bool false) (by go_simp) ?_
      simp only [Act.put, List.setIfInBounds_toArray, List.set_cons_zero, List.set_cons_succ]
      refine WL.val (by kernel_rfl) (.bool false) (by go_simp) ?_
      simp only [Act.put, List.setIfInBounds_toArray, List.set_cons_zero, List.set_cons_succ]
      refine WL.skip (by kernel_rfl) ?_
      simp only [Act.put, List.setIfInBounds_toArray, List.set_cons_zero, List.set_cons_succ]
      refine WL.skip (by kernel_rfl) ?_
      simp only [Act.put, List.setIfInBounds_toArray, List.set_cons_zero, List.set_cons_succ]
      refine WL.val (by kernel_rfl) (.bool false) (by go_simp) ?_
      simp only [Act.put, List.setIfInBounds_toArray, List.set_cons_zero, List.set_cons_succ]
      refine WL.val (by kernel_rfl) (.bool false) (by go_simp) ?_
      simp only [Act.put, List.setIfInBounds_toArray, List.set_cons_zero, List.set_cons_succ]
      refine WL.skip (by kernel_rfl) ?_
      simp only [Act.put, List.setIfInBounds_toArray, List.set_cons_zero, List.set_cons_succ]
      refine WL.skip (by kernel_rfl) ?_
      simp only [Act.put, List.setIfInBounds_toArray, List.set_cons_zero, List.set_cons_succ]
      refine WL.skip (by kernel_rfl) ?_
      simp only [Act.put, List.setIfInBounds_toArray, List.set_cons_zero, List.set_cons_succ]
      refine WL.skip (by kernel_rfl) ?_
      simp only [Act.put, List.setIfInBounds_toArray, List.set_cons_zero, List.set_cons_succ]
      refine WL.skip (by kernel_rfl) ?_
      simp only [Act.put, List.setIfInBounds_toArray, List.set_cons_zero, List.set_cons_succ]
      refine WL.skip (by kernel_rfl) ?_
      simp only [Act.put, List.setIfInBounds_toArray, List.set_cons_zero, List.set_cons_succ]
      refine WL.val (by kernel_rfl) (.bool false) (by go_simp) ?_
      simp only [Act.put, List.setIfInBounds_toArray, List.set_cons_zero, List.set_cons_succ]
      refine WL.val (by kernel_rfl) (.bool false) (by go_simp) ?_
      simp only [Act.put, List.setIfInBounds_toArray, List.set_cons_zero, List.set_cons_succ]
      refine WL.skip (by kernel_rfl) ?_
      simp only [Act.put, List.setIfInBounds_toArray, List.set_cons_zero, List.set_cons_succ]
      refine WL.skip (by kernel_rfl) ?_
      simp only [Act.put, List.setIfInBounds_toArray, List.set_cons_zero, List.set_cons_succ]
      refine WL.skip (by kernel_rfl) ?_
      simp only [Act.put, List.setIfInBounds_toArray, List.set_cons_zero, List.set_cons_succ]
      refine WL.val (by kernel_rfl) (.bool false) (by go_simp) ?_
      simp only [Act.put, List.setIfInBounds_toArray, List.set_cons_zero, List.set_cons_succ]
      refine WL.val (by kernel_rfl) (.bool false) (by go_simp) ?_
      simp only [Act.put, List.setIfInBounds_toArray, List.set_cons_zero, List.set_cons_succ]
      refine WL.nil ?_
      refine hK2 _ _ ?_
      refine wp_ret ?_
      go_ret
      refine ⟨?_, rfl⟩
      unfold thr
      simp_all
      try (intros; omega)
  · skip
    refine WL.val (by kernel_rfl) (.bool false) (by go_simp) ?_
    simp only [Act.put, List.setIfInBounds_toArray, List.set_cons_zero, List.set_cons_succ]
    refine WL.val (by kernel_rfl) (.bool false) (by go_simp) ?_
    simp only [Act.put, List.setIfInBounds_toArray, List.set_cons_zero, List.set_cons_succ]
    refine WL.skip (by kernel_rfl) ?_
    simp only [Act.put, List.setIfInBounds_toArray, List.set_cons_zero, List.set_cons_succ]
    refine WL.skip (by kernel_rfl) ?_
    simp only [Act.put, List.setIfInBounds_toArray, List.set_cons_zero, List.set_cons_succ]
    refine WL.skip (by kernel_rfl) ?_
    simp only [Act.put, List.setIfInBounds_toArray, List.set_cons_zero, List.set_cons_succ]
    refine WL.skip (by kernel_rfl) ?_
    simp only [Act.put, List.setIfInBounds_toArray, List.set_cons_zero, List.set_cons_succ]
    refine WL.skip (by kernel_rfl) ?_
    simp only [Act.put, List.setIfInBounds_toArray, List.set_cons_zero, List.set_cons_succ]
    refine WL.skip (by kernel_rfl) ?_
    simp only [Act.put, List.setIfInBounds_toArray, List.set_cons_zero, List.set_cons_succ]
    refine WL.val (by kernel_rfl) (.bool false) (by go_simp) ?_
    simp only [Act.put, List.setIfInBounds_toArray, List.set_cons_zero, List.set_cons_succ]
    refine WL.val (by kernel_rfl) (.bool false) (by go_simp) ?_
    simp only [Act.put, List.setIfInBounds_toArray, List.set_cons_zero, List.set_cons_succ]
    refine WL.skip (by kernel_rfl) ?_
    simp only [Act.put, List.setIfInBounds_toArray, List.set_cons_zero, List.set_cons_succ]
    refine WL.skip (by kernel_rfl) ?_
    simp only [Act.put, List.setIfInBounds_toArray, List.set_cons_zero, List.set_cons_succ]
    refine WL.val (by kernel_rfl) (.bool false) (by go_simp) ?_
    simp only [Act.put, List.setIfInBounds_toArray, List.set_cons_zero, List.set_cons_succ]
    refine WL.val (by kernel_rfl) (.bool false) (by go_simp) ?_
    simp only [Act.put, List.setIfInBounds_toArray, List.set_cons_zero, List.set_cons_succ]
    refine WL.skip (by kernel_rfl) ?_
    simp only [Act.put, List.setIfInBounds_toArray, List.set_cons_zero, List.set_cons_succ]
    refine WL.skip (by kernel_rfl) ?_
    simp only [Act.put, List.setIfInBounds_toArray, List.set_cons_zero, List.set_cons_succ]
    refine WL.skip (by kernel_rfl) ?_
    simp only [Act.put, List.setIfInBounds_toArray, List.set_cons_zero, List.set_cons_succ]
    refine WL.skip (by kernel_rfl) ?_
    simp only [Act.put, List.setIfInBounds_toArray, List.set_cons_zero, List.set_cons_succ]
    refine WL.skip (by kernel_rfl) ?_
    simp only [Act.put, List.setIfInBounds_toArray, List.set_cons_zero, List.set_cons_succ]
    refine WL.skip (by kernel_rfl) ?_
    simp only [Act.put, List.setIfInBounds_toArray, List.set_cons_zero, List.set_cons_succ]
    refine WL.val (by kernel_rfl) (.bool false) (by go_simp) ?_
    simp only [Act.put, List.setIfInBounds_toArray, List.set_cons_zero, List.set_cons_succ]
    refine WL.val (by kernel_rfl) (.bool false) (by go_simp) ?_
    simp only [Act.put, List.setIfInBounds_toArray, List.set_cons_zero, List.set_cons_succ]
    refine WL.skip (by kernel_rfl) ?_
    simp only [Act.put, List.setIfInBounds_toArray, List.set_cons_zero, List.set_cons_succ]
    refine WL.skip (by kernel_rfl) ?_
    simp only [Act.put, List.setIfInBounds_toArray, List.set_cons_zero, List.set_cons_succ]
    refine WL.skip (by kernel_rfl) ?_
    simp only [Act.put, List.setIfInBounds_toArray, List.set_cons_zero, List.set_cons_succ]
    refine WL.val (by kernel_rfl) (.bool false) (by go_simp) ?_
    simp only [Act.put, List.setIfInBounds_toArray, List.set_cons_zero, List.set_cons_succ]
    refine WL.val (by kernel_rfl) (.bool false) (by go_simp) ?_
    simp only [Act.put, List.setIfInBounds_toArray, List.set_cons_zero, List.set_cons_succ]
    refine WL.nil ?_
    refine hK2 _ _ ?_
    refine wp_ret ?_
    go_ret
    refine ⟨?_, rfl⟩
    unfold thr
    simp_all
    try (intros; omega)
set_option maxRecDepth 8000 in
theorem row_any (w : World) (x g N i : Nat) (K : List Lk) (f t : Int) (h : RmAt w x g N K) (hf : 1 ≤ f ∧ f ≤ 8 ∧ 1 ≤ t ∧ t ≤ 8) (hi : (i : Int) = 9 * f + t) (hl : i < 81) : Calls Tryd.prog 49 #[.pointer (some ⟨x, 0, none⟩), .int .i64 f, .int .i64 t] w fun e w' => e = .returned (.pointer (some ⟨g, i, none⟩)) ∧ w' = w := by
  have x1_ : w.cell? ⟨x, 1, none⟩ = some (.slice (some ⟨g, 0, none⟩) 81 81) := h.bx.c 1 rfl
  have hw1 : IntKind.i64.wrap (9 * f) = 9 * f := by rw [IntKind.wrap_i64]; omega
  have hw2 : IntKind.i64.wrap (9 * f + t) = (i : Int) := by rw [IntKind.wrap_i64]; omega
  have hl' : (i : Int) < 81 := by omega
  clear h hi
  go_enter Tryd.func49, Tryd.ntmps49
  refine wp_seq_k fun K1 hK1 => ?_
  refine wp_region_list (WL.out ?_)
  refine WL.val (by kernel_rfl) (.pointer none) (by go_simp) ?_
  simp only [Act.put, List.setIfInBounds_toArray, List.set_cons_zero, List.set_cons_succ]
  refine WL.nil ?_
  refine hK1 _ _ ?_
  refine wp_seq_k fun K2 hK2 => ?_
  refine wp_region_list (WL.out ?_)
  refine WL.val (by kernel_rfl) (.pointer (some ⟨x, 0, none⟩)) (by go_simp) ?_
  simp only [Act.put, List.setIfInBounds_toArray, List.set_cons_zero, List.set_cons_succ]
  refine WL.val (by kernel_rfl) (.pointer (some ⟨x, 0, none⟩)) (by go_simp) ?_
  simp only [Act.put, List.setIfInBounds_toArray, List.set_cons_zero, List.set_cons_succ]
  refine WL.val (by kernel_rfl) (.pointer (some ⟨x, 1, none⟩)) (by go_simp) ?_
  simp only [Act.put, List.setIfInBounds_toArray, List.set_cons_zero, List.set_cons_succ]
  refine WL.val (by kernel_rfl) (.slice (some ⟨g, 0, none⟩) 81 81) (by go_simp) ?_
  simp only [Act.put, List.setIfInBounds_toArray, List.set_cons_zero, List.set_cons_succ]
  refine WL.val (by kernel_rfl) (.int .i64 f) (by go_simp) ?_
  simp only [Act.put, List.setIfInBounds_toArray, List.set_cons_zero, List.set_cons_succ]
  refine WL.val (by kernel_rfl) (.int .i64 (9 * f)) (by go_simp) ?_
  simp only [Act.put, List.setIfInBounds_toArray, List.set_cons_zero, List.set_cons_succ]
  refine WL.val (by kernel_rfl) (.int .i64 t) (by go_simp) ?_
  simp only [Act.put, List.setIfInBounds_toArray, List.set_cons_zero, List.set_cons_succ]
  refine WL.val (by kernel_rfl) (.int .i64 (i : Int)) (by go_simp) ?_
  simp only [Act.put, List.setIfInBounds_toArray, List.set_cons_zero, List.set_cons_succ]
  refine WL.val (by kernel_rfl) (.pointer (some ⟨g, i, none⟩)) (by go_simp) ?_
  simp only [Act.put, List.setIfInBounds_toArray, List.set_cons_zero, List.set_cons_succ]
  refine WL.val (by kernel_rfl) (.pointer (some ⟨g, i, none⟩)) (by go_simp) ?_
  simp only [Act.put, List.setIfInBounds_toArray, List.set_cons_zero, List.set_cons_succ]
  refine WL.nil ?_
  refine hK2 _ _ ?_
  refine wp_ret ?_
  go_ret
  exact ⟨rfl, rfl⟩
set_option maxRecDepth 8000 in
theorem cpy_any (w : World) (vb : Value) (b : List Int) (hb : RowAt w vb b) (hl : b.length ≤ 140737488355328) : Calls Tryd.prog 46 #[vb] w fun e w' => ∃ v, e = .returned v ∧ Own w' v b ∧ (∀ k, v.ownBlock = some k → w.heap.size ≤ k) ∧ Below w.heap.size w w' := by
  have HB := Keep.mk hb
  have HL := Keep.mk hl
  clear hb hl
  go_enter Tryd.func46, Tryd.ntmps46
  refine wp_seq_k fun K1 hK1 => ?_
  refine wp_region_list (WL.out ?_)
  refine WL.val (by kernel_rfl) (.slice none 0 0) (by go_simp) ?_
  simp only [Act.put, List.setIfInBounds_toArray, List.set_cons_zero, List.set_cons_succ]
  refine WL.nil ?_
  refine hK1 _ _ ?_
  refine wp_seq_k fun K2 hK2 => ?_
  refine wp_region_list (WL.out ?_)
  refine WL.bs (by kernel_rfl) 39 0 #[] rfl #[] (by simp) _ _ (bsE w) ?_
  have O1 := Keep.mk (own_done w [] (by simp))
  have b1 := Keep.mk (below_new w (.cells #[] 5))
  change Keep (Own (w.alloc (.cells #[] 5)) _ []) at O1
  have Y1 := Keep.mk (HB.out.below b1.out)
  generalize w.alloc (.cells #[] 5) = w1 at *
  obtain ⟨g, hg⟩ : ∃ z, Keep (z = w.heap.size) := ⟨_, ⟨rfl⟩⟩
  rw [← hg.out] at O1 ⊢
  simp only [Act.put, List.setIfInBounds_toArray, List.set_cons_zero, List.set_cons_succ]
  refine WL.val (by kernel_rfl) (vb) (by go_simp) ?_
  simp only [Act.put, List.setIfInBounds_toArray, List.set_cons_zero, List.set_cons_succ]
  refine WL.app (by kernel_rfl) (.tmp 3) (.tmp 4) rfl (.slice (some ⟨g, 0, none⟩) 0 0) vb [] b rfl rfl O1.out Y1.out (by simpa using HL.out) ?_
  intro v2 w2 hp
  have O2 : Keep (Own w2 v2 b) := ⟨by simpa using hp.1⟩
  have B2 : Keep (Below w.heap.size w w2) := ⟨b1.out.trans (hp.grown.to_below (fun k hk e => by simp [Value.ownBlock] at e; have := hg.out; omega) b1.out.size)⟩
  have F2 : Keep (∀ k, v2.ownBlock = some k → w.heap.size ≤ k) := ⟨fun k hk => by
    rcases hp.moved with e | ⟨m, e, h2⟩
    · rw [e] at hk; simp [Value.ownBlock] at hk; have := hg.out; omega
    · rw [e] at hk; injection hk with hk; subst hk; have := b1.out.size; omega⟩
  clear hp
  simp only [Act.put, List.setIfInBounds_toArray, List.set_cons_zero, List.set_cons_succ]
  refine WL.val (by kernel_rfl) (v2) (by go_simp) ?_
  simp only [Act.put, List.setIfInBounds_toArray, List.set_cons_zero, List.set_cons_succ]
  refine WL.nil ?_
  refine hK2 _ _ ?_
  refine wp_ret ?_
  go_ret
  exact ⟨v2, rfl, O2.out, F2.out, B2.out⟩
def rnd (n : Int) (m : Nat) : Nat := (n % (m : Int)).toNat
theorem rnd_lt (n : Int) {m : Nat} (h : 1 ≤ m) : rnd n m < m := by
  unfold rnd
  have h1 := Int.emod_nonneg n (show (m : Int) ≠ 0 by omega)
  have h2 := Int.emod_lt_of_pos n (show (0 : Int) < (m : Int) by omega)
  omega
theorem tm_is (n : Int) {m : Nat} (h : 1 ≤ m) : (¬ Int.tmod n (m : Int) < 0 → Int.tmod n (m : Int) = ((rnd n m : Nat) : Int)) ∧ (Int.tmod n (m : Int) < 0 → Int.tmod n (m : Int) + (m : Int) = ((rnd n m : Nat) : Int)) ∧ -(m : Int) < Int.tmod n (m : Int) ∧ Int.tmod n (m : Int) < (m : Int) := by
  have h1 := Int.emod_nonneg n (show (m : Int) ≠ 0 by omega)
  have h2 := Int.emod_lt_of_pos n (show (0 : Int) < (m : Int) by omega)
  have h3 := Int.tmod_eq_emod (a := n) (b := (m : Int))
  have h4 : ((m : Int).natAbs : Int) = (m : Int) := by simp
  unfold rnd
  by_cases hd : 0 ≤ n ∨ (m : Int) ∣ n
  · rw [if_pos hd] at h3
    omega
  · rw [if_neg hd, h4] at h3
    have h5 : n % (m : Int) ≠ 0 := fun e => hd (.inr (Int.dvd_of_emod_eq_zero e))
    omega
set_option maxRecDepth 8000 in
theorem round_any (w : World) (n : Int) (m : Nat) (hm : 1 ≤ m) (hm2 : m ≤ 4398046511104) : Calls Tryd.prog 47 #[.int .i64 n, .int .i64 (m : Int)] w fun e w' => e = .returned (.int .i64 ((rnd n m : Nat) : Int)) ∧ w' = w := by
  obtain ⟨h1, h2, h3, h4⟩ := tm_is n hm
  have hm0 : ¬ (m : Int) = 0 := by omega
  have hm9 : ¬ m = 0 := by omega
  have hm0' : ((m : Int) == 0) = false := by simpa using hm0
  obtain ⟨k, hk⟩ : ∃ z, Keep (Int.tmod n (m : Int) = z) := ⟨_, ⟨rfl⟩⟩
  rw [hk.out] at h1 h2 h3 h4
  have hk' := hk.out
  have hw0 : IntKind.i64.wrap k = k := by rw [IntKind.wrap_i64]; omega
  by_cases hc : k < 0
  · have hres := h2 hc
    have hw1 : IntKind.i64.wrap (k + (m : Int)) = ((rnd n m : Nat) : Int) := by rw [IntKind.wrap_i64]; omega
    clear h1 h2 h3 h4 hres
    go_enter Tryd.func47, Tryd.ntmps47
    refine wp_seq_k fun K1 hK1 => ?_
    refine wp_region_list (WL.out ?_)
    refine WL.val (by kernel_rfl) (.int .i64 0) (by go_simp) ?_
    simp only [Act.put, List.setIfInBounds_toArray, List.set_cons_zero, List.set_cons_succ]
    refine WL.nil ?_
    refine hK1 _ _ ?_
    refine wp_seq_k fun K2 hK2 => ?_
    refine wp_region_list (WL.out ?_)
    refine WL.val (by kernel_rfl) (.int .i64 n) (by go_simp) ?_
    simp only [Act.put, List.setIfInBounds_toArray, List.set_cons_zero, List.set_cons_succ]
    refine WL.val (by kernel_rfl) (.int .i64 (m : Int)) (by go_simp) ?_
    simp only [Act.put, List.setIfInBounds_toArray, List.set_cons_zero, List.set_cons_succ]
    refine WL.val (by kernel_rfl) (.int .i64 k) (by go_simp) ?_
    simp only [Act.put, List.setIfInBounds_toArray, List.set_cons_zero, List.set_cons_succ]
    refine WL.val (by kernel_rfl) (.int .i64 k) (by go_simp) ?_
    simp only [Act.put, List.setIfInBounds_toArray, List.set_cons_zero, List.set_cons_succ]
    refine WL.nil ?_
    refine hK2 _ _ ?_
    refine wp_seq_k fun K3 hK3 => ?_
    refine wp_seq_k fun K4 hK4 => ?_
    refine wp_region_list (WL.out ?_)
    refine WL.val (by kernel_rfl) (.int .i64 k) (by go_simp) ?_
    simp only [Act.put, List.setIfInBounds_toArray, List.set_cons_zero, List.set_cons_succ]
    refine WL.val (by kernel_rfl) (.bool true) (by go_simp) ?_
    simp only [Act.put, List.setIfInBounds_toArray, List.set_cons_zero, List.set_cons_succ]
    refine WL.nil ?_
    refine hK4 _ _ ?_
    refine wp_cond_true rfl ?_
    refine wp_region_list (WL.out ?_)
    refine WL.val (by kernel_rfl) (.int .i64 k) (by go_simp) ?_
    simp only [Act.put, List.setIfInBounds_toArray, List.set_cons_zero, List.set_cons_succ]
    refine WL.val (by kernel_rfl) (.int .i64 (m : Int)) (by go_simp) ?_
    simp only [Act.put, List.setIfInBounds_toArray, List.set_cons_zero, List.set_cons_succ]
    refine WL.val (by kernel_rfl) (.int .i64 ((rnd n m : Nat) : Int)) (by go_simp) ?_
    simp only [Act.put, List.setIfInBounds_toArray, List.set_cons_zero, List.set_cons_succ]
    refine WL.val (by kernel_rfl) (.int .i64 ((rnd n m : Nat) : Int)) (by go_simp) ?_
    simp only [Act.put, List.setIfInBounds_toArray, List.set_cons_zero, List.set_cons_succ]
    refine WL.nil ?_
    refine hK3 _ _ ?_
    refine wp_seq_k fun K5 hK5 => ?_
    refine wp_region_list (WL.out ?_)
    refine WL.val (by kernel_rfl) (.int .i64 ((rnd n m : Nat) : Int)) (by go_simp) ?_
    simp only [Act.put, List.setIfInBounds_toArray, List.set_cons_zero, List.set_cons_succ]
    refine WL.val (by kernel_rfl) (.int .i64 ((rnd n m : Nat) : Int)) (by go_simp) ?_
    simp only [Act.put, List.setIfInBounds_toArray, List.set_cons_zero, List.set_cons_succ]
    refine WL.nil ?_
    refine hK5 _ _ ?_
    refine wp_ret ?_
    go_ret
    exact ⟨rfl, rfl⟩
  · have hres := Keep.mk (h1 hc)
    clear h1 h2 h3 h4
    go_enter Tryd.func47, Tryd.ntmps47
    refine wp_seq_k fun K1 hK1 => ?_
    refine wp_region_list (WL.out ?_)
    refine WL.val (by kernel_rfl) (.int .i64 0) (by go_simp) ?_
    simp only [Act.put, List.setIfInBounds_toArray, List.set_cons_zero, List.set_cons_succ]
    refine WL.nil ?_
    refine hK1 _ _ ?_
    refine wp_seq_k fun K2 hK2 => ?_
    refine wp_region_list (WL.out ?_)
    refine WL.val (by kernel_rfl) (.int .i64 n) (by go_simp) ?_
    simp only [Act.put, List.setIfInBounds_toArray, List.set_cons_zero, List.set_cons_succ]
    refine WL.val (by kernel_rfl) (.int .i64 (m : Int)) (by go_simp) ?_
    simp only [Act.put, List.setIfInBounds_toArray, List.set_cons_zero, List.set_cons_succ]
    refine WL.val (by kernel_rfl) (.int .i64 k) (by go_simp) ?_
    simp only [Act.put, List.setIfInBounds_toArray, List.set_cons_zero, List.set_cons_succ]
    refine WL.val (by kernel_rfl) (.int .i64 k) (by go_simp) ?_
    simp only [Act.put, List.setIfInBounds_toArray, List.set_cons_zero, List.set_cons_succ]
    refine WL.nil ?_
    refine hK2 _ _ ?_
    refine wp_seq_k fun K3 hK3 => ?_
    refine wp_seq_k fun K4 hK4 => ?_
    refine wp_region_list (WL.out ?_)
    refine WL.val (by kernel_rfl) (.int .i64 k) (by go_simp) ?_
    simp only [Act.put, List.setIfInBounds_toArray, List.set_cons_zero, List.set_cons_succ]
    refine WL.val (by kernel_rfl) (.bool false) (by go_simp) ?_
    simp only [Act.put, List.setIfInBounds_toArray, List.set_cons_zero, List.set_cons_succ]
    refine WL.nil ?_
    refine hK4 _ _ ?_
    refine wp_cond_false rfl ?_
    refine wp_skip ?_
    refine hK3 _ _ ?_
    refine wp_seq_k fun K5 hK5 => ?_
    refine wp_region_list (WL.out ?_)
    refine WL.val (by kernel_rfl) (.int .i64 k) (by go_simp) ?_
    simp only [Act.put, List.setIfInBounds_toArray, List.set_cons_zero, List.set_cons_succ]
    refine WL.val (by kernel_rfl) (.int .i64 k) (by go_simp) ?_
    simp only [Act.put, List.setIfInBounds_toArray, List.set_cons_zero, List.set_cons_succ]
    refine WL.nil ?_
    refine hK5 _ _ ?_
    refine wp_ret ?_
    go_ret
    refine ⟨?_, rfl⟩
    rw [hres.out]
    rfl

end Go.Proofs.YteecdcocgflklaaDoor
