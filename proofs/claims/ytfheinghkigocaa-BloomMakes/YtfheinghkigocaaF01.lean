import Derived.Test.YtfheinghkigocaaChecked
import Derived.WalkKit
import Derived.WalkSpells
import Derived.WalkLawsBesides
import Derived.BigQuiet
import Derived.BigRegion
import Derived.Deep.WholeRow
import Derived.Deep.MidRow
import Derived.Deep.RegionWith
import Derived.Deep.DeepCutAuto
import Derived.Deep.RegionHeld3
import Derived.Deep.QuietTactic
import Derived.Laws.OwnMore
import Derived.Laws.BytesArg
import Derived.Lib.AppendStr
import Derived.Maps.AppendAt
import Derived.ChangeKeysEq
import Derived.ArgAppend
import Derived.Lib.ConvBytes
import Derived.Laws.CopyRow
namespace Go.Proofs.Ytfheinghkigocaa
open Go.RowKit

/-! ### Facts kept from the walk. -/
theorem hid_in {p : Prop} (h : p) : Hid p := h
/-- A fact kept from the walk, and from every look behind its name. -/
structure Keep (p : Prop) : Prop where
  out : p

/-! ### Worlds: a block that holds these cells. -/
/-- Block b of w holds the cells cs (of type T), none of them frozen. -/
def Blk (w : World) (b : Nat) (T : TypeId) (cs : Array Value) : Prop := w.heap[b]? = some (.cells cs T (0, 0))

theorem Blk.lt {w : World} {b : Nat} {T : TypeId} {cs : Array Value} (h : Blk w b T cs) : b < w.heap.size := (Array.getElem?_eq_some_iff.1 h).1
theorem Blk.cell {w : World} {b : Nat} {T : TypeId} {cs : Array Value} (h : Blk w b T cs) (j : Nat) : w.cell? ⟨b, j, none⟩ = cs[j]? := cell_of_row w b j cs T (0, 0) h
theorem Blk.frozen {w : World} {b : Nat} {T : TypeId} {cs : Array Value} (h : Blk w b T cs) (j : Nat) : w.frozen? ⟨b, j, none⟩ = false := by
  unfold Blk at h; simp [World.frozen?, h]
theorem Blk.new (w : World) (T : TypeId) (cs : Array Value) : Blk (w.alloc (.cells cs T)) w.heap.size T cs := heap_alloc_new w _
theorem Blk.alloc {w : World} {b : Nat} {T : TypeId} {cs : Array Value} (h : Blk w b T cs) (o : Obj) : Blk (w.alloc o) b T cs := by
  unfold Blk; rw [Below.heap_alloc w o b h.lt]; exact h
theorem Blk.drew {w : World} {b : Nat} {T : TypeId} {cs : Array Value} (h : Blk w b T cs) : Blk w.drew b T cs := h
theorem Blk.drewN {w : World} {b : Nat} {T : TypeId} {cs : Array Value} (h : Blk w b T cs) (n : Nat) : Blk (w.drewN n) b T cs := h
theorem Blk.below {w w' : World} {B b : Nat} {T : TypeId} {cs : Array Value} (h : Blk w b T cs) (hb : Below B w w') (hlt : b < B) : Blk w' b T cs := by
  unfold Blk; rw [hb.block b hlt]; exact h
theorem Blk.set {w : World} {b : Nat} {T : TypeId} {cs : Array Value} (h : Blk w b T cs) (j : Nat) (v : Value) : Blk (w.setCell ⟨b, j, none⟩ v) b T (cs.setIfInBounds j v) := by
  unfold Blk; rw [setCell_eq_setRow w b j cs T (0, 0) v h]; exact setRow_heap w b cs _ T (0, 0) h
theorem Blk.set_ne {w : World} {b b' j : Nat} {T : TypeId} {cs : Array Value} (h : Blk w b T cs) (hne : b ≠ b') (v : Value) : Blk (w.setCell ⟨b', j, none⟩ v) b T cs := by
  unfold Blk; rw [Below.heap_setCell w _ v b hne]; exact h
theorem Blk.setRow {w : World} {b : Nat} {T : TypeId} {cs : Array Value} (h : Blk w b T cs) (cs' : Array Value) : Blk (w.setRow b cs') b T cs' := setRow_heap w b cs cs' T (0, 0) h
theorem Blk.setRow_ne {w : World} {b b' : Nat} {T : TypeId} {cs : Array Value} (h : Blk w b T cs) (hne : b ≠ b') (cs' : Array Value) : Blk (w.setRow b' cs') b T cs := by
  unfold Blk; rw [setRow_other w b' b cs' hne]; exact h
theorem below_setRow {B : Nat} {a w : World} (h : Below B a w) {b : Nat} (hb : B ≤ b) (cs : Array Value) : Below B a (w.setRow b cs) :=
  h.trans ⟨rfl, rfl, rfl, by simp, fun k hk => setRow_other w b k cs (by omega)⟩
theorem below_new (w : World) (o : Obj) : Below w.heap.size w (w.alloc o) := (Below.refl _ _).alloc (Nat.le_refl _) o
theorem blk_type {w : World} {k : Nat} {T T' : TypeId} {cs cs' : Array Value} (h : Blk w k T cs) (h' : Blk w k T' cs') : T = T' := by
  unfold Blk at h h'; rw [h] at h'; simp at h'; exact h'.2
theorem blk_ne {w : World} {k k' : Nat} {T T' : TypeId} {cs cs' : Array Value} (h : Blk w k T cs) (h' : Blk w k' T' cs') (ht : T ≠ T') : k ≠ k' := by
  rintro rfl; exact ht (blk_type h h')
theorem cell_lt {w : World} {h j : Nat} {v : Value} (hc : w.cell? ⟨h, j, none⟩ = some v) : h < w.heap.size := by
  apply Nat.lt_of_not_le; intro hle
  simp [World.cell?, Array.getElem?_eq_none hle] at hc

abbrev ptr (g : Nat) : Value := .pointer (some ⟨g, 0, none⟩)

theorem grownBy_refl (w : World) (o : Option Nat) : w.grownBy w o := ⟨rfl, rfl, rfl, Nat.le_refl _, fun _ _ _ => rfl⟩
theorem grownBy_setCell (w : World) (g j : Nat) (v : Value) : w.grownBy (w.setCell ⟨g, j, none⟩ v) (some g) :=
  ⟨rfl, rfl, rfl, by simp [World.setCell], fun i _ hn => Below.heap_setCell w _ v i (fun e => hn (by rw [e]))⟩
theorem grownBy_setRow (w : World) (g : Nat) (cs : Array Value) : w.grownBy (w.setRow g cs) (some g) :=
  ⟨rfl, rfl, rfl, by simp, fun i _ hn => setRow_other w g i cs (fun e => hn (by rw [e]))⟩
theorem grownBy_below {w w' : World} (h : Below w.heap.size w w') (o : Option Nat) : w.grownBy w' o := ⟨h.os, h.tape, h.output, h.size, fun i hi _ => h.block i hi⟩

/-- w' is w with more behind it; of the old blocks only those that S names may have changed. -/
structure Grown (w w' : World) (S : Nat → Prop) : Prop where
  os : w'.os = w.os
  tape : w'.tape = w.tape
  output : w'.output = w.output
  size : w.heap.size ≤ w'.heap.size
  block : ∀ k, k < w.heap.size → ¬ S k → w'.heap[k]? = w.heap[k]?
theorem Grown.refl (w : World) (S : Nat → Prop) : Grown w w S := ⟨rfl, rfl, rfl, Nat.le_refl _, fun _ _ _ => rfl⟩
theorem Grown.trans {a b c : World} {S : Nat → Prop} (h : Grown a b S) (k : Grown b c S) : Grown a c S :=
  ⟨k.os.trans h.os, k.tape.trans h.tape, k.output.trans h.output, Nat.le_trans h.size k.size, fun i hi hs => (k.block i (Nat.lt_of_lt_of_le hi h.size) hs).trans (h.block i hi hs)⟩
/-- The second step may change, of the first world's blocks, only what S names. -/
theorem Grown.next {a b c : World} {S T : Nat → Prop} (h : Grown a b S) (k : Grown b c T) (hT : ∀ i, i < a.heap.size → T i → S i) : Grown a c S :=
  ⟨k.os.trans h.os, k.tape.trans h.tape, k.output.trans h.output, Nat.le_trans h.size k.size, fun i hi hs => (k.block i (Nat.lt_of_lt_of_le hi h.size) (fun ht => hs (hT i hi ht))).trans (h.block i hi hs)⟩
theorem Grown.mono {a b : World} {S T : Nat → Prop} (h : Grown a b S) (hT : ∀ i, i < a.heap.size → S i → T i) : Grown a b T := (Grown.refl a T).next h hT
theorem Grown.of {a b : World} {S : Nat → Prop} {o : Option Nat} (h : a.grownBy b o) (ho : ∀ k, k < a.heap.size → o = some k → S k) : Grown a b S :=
  ⟨h.os, h.tape, h.output, h.size, fun i hi hs => h.block i hi (fun e => hs (ho i hi e.symm))⟩
theorem Grown.below {a b : World} {S : Nat → Prop} (h : Below a.heap.size a b) : Grown a b S := ⟨h.os, h.tape, h.output, h.size, fun i hi _ => h.block i hi⟩
theorem Grown.alloc (w : World) (o : Obj) (S : Nat → Prop) : Grown w (w.alloc o) S := Grown.below (below_new w o)
theorem Grown.drew {a b : World} {S : Nat → Prop} (h : Grown a b S) : Grown a b.drew S := ⟨h.os, h.tape, h.output, h.size, h.block⟩
theorem Grown.drewN {a b : World} {S : Nat → Prop} (h : Grown a b S) (n : Nat) : Grown a (b.drewN n) S := ⟨h.os, h.tape, h.output, h.size, h.block⟩
theorem Grown.setCell (w : World) (g j : Nat) (v : Value) {S : Nat → Prop} (hS : g < w.heap.size → S g) : Grown w (w.setCell ⟨g, j, none⟩ v) S :=
  Grown.of (grownBy_setCell w g j v) fun k hk e => by injection e with e; subst e; exact hS hk
theorem Grown.setRow (w : World) (g : Nat) (cs : Array Value) {S : Nat → Prop} (hS : g < w.heap.size → S g) : Grown w (w.setRow g cs) S :=
  Grown.of (grownBy_setRow w g cs) fun k hk e => by injection e with e; subst e; exact hS hk
theorem Grown.blk {a b : World} {S : Nat → Prop} (h : Grown a b S) {k : Nat} {T : TypeId} {cs : Array Value} (hk : Blk a k T cs) (hs : ¬ S k) : Blk b k T cs := by
  unfold Blk; rw [h.block k hk.lt hs]; exact hk
theorem Grown.cell {a b : World} {S : Nat → Prop} (h : Grown a b S) {k j : Nat} {v : Value} (hk : a.cell? ⟨k, j, none⟩ = some v) (hs : ¬ S k) : b.cell? ⟨k, j, none⟩ = some v := by
  rw [World.cell?_of_block (h.block k (cell_lt hk) hs)]; exact hk
theorem Grown.to_below {a b : World} {S : Nat → Prop} (h : Grown a b S) {B : Nat} (hs : ∀ k, k < B → ¬ S k) (hB : B ≤ a.heap.size) : Below B a b :=
  ⟨h.os, h.tape, h.output, h.size, fun i hi => h.block i (by omega) (hs i hi)⟩

/-! ### Bytes as cells. -/
/-- Bytes as cells. -/
def bv (l : List Int) : List Value := l.map fun c => .int .u8 c
theorem bv_len (l : List Int) : (bv l).length = l.length := by simp [bv]
theorem bv_get (l : List Int) (i : Nat) (h : i < l.length) : (bv l)[i]? = some (.int .u8 (l.getD i 0)) := by
  simp [bv, h, List.getD]
theorem bv_app (a b : List Int) : bv (a ++ b) = bv a ++ bv b := by simp [bv]
theorem bv_one (l : List Int) : ∀ u ∈ bv l, u.oneCell' = true := fun u hu => by simp [bv] at hu; obtain ⟨_, _, rfl⟩ := hu; rfl
theorem bv_take (l : List Int) (n : Nat) : (bv l).take n = bv (l.take n) := by simp [bv, List.map_take]
/-- The slice v reads as the bytes l. -/
def RowAt (w : World) (v : Value) (l : List Int) : Prop :=
  (v = .slice none 0 0 ∧ l = []) ∨ (∃ a c, v = .slice (some a) 0 c ∧ l = []) ∨ ∃ h off cap, v = .slice (some ⟨h, off, none⟩) l.length cap ∧ l.length ≤ cap ∧ ∀ i, i < l.length → w.cell? ⟨h, off + i, none⟩ = some (.int .u8 (l.getD i 0))
theorem row_form {w : World} {v : Value} {l : List Int} (h : RowAt w v l) : ∃ a c, v = .slice a l.length c := by
  rcases h with ⟨rfl, rfl⟩ | ⟨a, c, rfl, rfl⟩ | ⟨b, off, cap, rfl, _⟩
  · exact ⟨_, _, rfl⟩
  · exact ⟨_, _, rfl⟩
  · exact ⟨_, _, rfl⟩
theorem RowAt.grown {w w' : World} {v : Value} {l : List Int} {S : Nat → Prop} (h : RowAt w v l) (hg : Grown w w' S) (hs : ∀ b, v.ownBlock = some b → b < w.heap.size → ¬ S b) : RowAt w' v l := by
  rcases h with h | h | ⟨b, off, cap, h1, h2, h3⟩
  · exact .inl h
  · exact .inr (.inl h)
  · exact .inr (.inr ⟨b, off, cap, h1, h2, fun i hi => hg.cell (h3 i hi) (hs b (by rw [h1]; rfl) (cell_lt (h3 i hi)))⟩)
theorem RowAt.below {w w' : World} {v : Value} {l : List Int} (h : RowAt w v l) (hb : Below w.heap.size w w') : RowAt w' v l :=
  h.grown (Grown.below (S := fun _ => False) hb) fun _ _ _ h => h

/-- The slice v owns the bytes l: they stand at the head of a block. -/
def Own (w : World) (v : Value) (l : List Int) : Prop := w.ownsRow 0 5 1 v l.length (bv l)
theorem own_nil (w : World) : Own w (.slice none 0 0) [] := ⟨rfl, .inl ⟨rfl, rfl⟩⟩
theorem Own.row {w : World} {v : Value} {l : List Int} (h : Own w v l) : RowAt w v l := by
  have h' := h
  obtain ⟨_, h2⟩ := h
  rcases h2 with ⟨rfl, h0⟩ | ⟨g, cap, cur, rfl, hg, hh, hc, _⟩
  · exact .inl ⟨rfl, List.eq_nil_of_length_eq_zero (by omega)⟩
  · refine .inr <| .inr ⟨g, 0, cap, rfl, by omega, fun i hi => ?_⟩
    rw [Nat.zero_add, World.ownsRow.cellAt h' i (by omega), bv_get l i hi]
theorem Own.lt {w : World} {v : Value} {l : List Int} (h : Own w v l) : ∀ k, v.ownBlock = some k → k < w.heap.size := fun k hk => (World.ownsRow.lt h k hk).2
theorem Own.grown {w w' : World} {v : Value} {l : List Int} {S : Nat → Prop} (h : Own w v l) (hg : Grown w w' S) (hs : ∀ k, v.ownBlock = some k → ¬ S k) : Own w' v l := by
  refine ⟨h.1, ?_⟩
  rcases h.2 with h1 | ⟨g, cap, cur, rfl, h2, h3, h4⟩
  · exact .inl h1
  · exact .inr ⟨g, cap, cur, rfl, h2, hg.blk h3 (hs g rfl), h4⟩
theorem Own.ne {w : World} {v : Value} {l : List Int} {p : Nat} {T : TypeId} {cs : Array Value} (h : Own w v l) (hp : Blk w p T cs) (hT : T ≠ 5) : v.ownBlock ≠ some p := by
  intro e
  rcases h.2 with ⟨rfl, _⟩ | ⟨g, cap, cur, rfl, _, h3, _⟩
  · simp [Value.ownBlock] at e
  · simp [Value.ownBlock] at e
    subst e
    exact hT (blk_type hp h3)
theorem Own.form {w : World} {v : Value} {l : List Int} (h : Own w v l) : (v = .slice none 0 0 ∧ l = []) ∨ ∃ g cap cur, v = .slice (some ⟨g, 0, none⟩) l.length cap ∧ Blk w g 5 cur ∧ l.length ≤ cap ∧ cap ≤ maxLen ∧ cur.size = cap ∧ cur.toList.take l.length = bv l := by
  rcases h.2 with ⟨rfl, h0⟩ | ⟨g, cap, cur, rfl, _, h3, h4, h5, h6, h7⟩
  · exact .inl ⟨rfl, List.eq_nil_of_length_eq_zero h0⟩
  · exact .inr ⟨g, cap, cur, rfl, h3, h4, h5, by omega, by simpa using h7⟩
theorem Own.mk {w : World} {g cap : Nat} {cur : Array Value} {l : List Int} (h3 : Blk w g 5 cur) (h4 : l.length ≤ cap) (h5 : cap ≤ maxLen) (h6 : cur.size = cap) (h7 : cur.toList.take l.length = bv l) : Own w (.slice (some ⟨g, 0, none⟩) l.length cap) l :=
  ⟨by rw [bv_len]; omega, .inr ⟨g, cap, cur, rfl, Nat.zero_le _, h3, h4, h5, by omega, by simpa using h7⟩⟩
/-- v' lies where v lay, or in a new block. -/
def Moved (w : World) (v v' : Value) : Prop := v'.ownBlock = v.ownBlock ∨ ∃ k, v'.ownBlock = some k ∧ w.heap.size ≤ k
theorem Moved.refl (w : World) (v : Value) : Moved w v v := .inl rfl
theorem Moved.trans {a b : World} {v v1 v2 : Value} (h : Moved a v v1) (hs : a.heap.size ≤ b.heap.size) (k : Moved b v1 v2) : Moved a v v2 := by
  rcases k with e | ⟨j, h1, h2⟩
  · rcases h with h | ⟨i, h1, h2⟩
    · exact .inl (e.trans h)
    · exact .inr ⟨i, e.trans h1, h2⟩
  · exact .inr ⟨j, h1, by omega⟩
/-- The block of v' among the old ones is that of v. -/
theorem Moved.old {a : World} {v v1 : Value} (h : Moved a v v1) {k : Nat} (hk : k < a.heap.size) (e : v1.ownBlock = some k) : v.ownBlock = some k := by
  rcases h with h | ⟨i, h1, h2⟩
  · rw [← h]; exact e
  · rw [h1] at e; injection e with e; omega

theorem Try.info5 : (Try.prog.info? 5).map (fun i => (i.zero, i.size, i.bytes)) = some (some (.int .u8 0), 1, 1) := by kernel_rfl
theorem row_one (w : World) (c : Int) : RowAt (w.alloc (.cells #[.int .u8 c] 5)) (.slice (some ⟨w.heap.size, 0, none⟩) 1 1) [c] := by
  refine .inr <| .inr ⟨w.heap.size, 0, 1, rfl, by simp, fun i hi => ?_⟩
  have e : i = 0 := by simp at hi; exact hi
  subst e
  rw [(Blk.new w 5 #[.int .u8 c]).cell]; rfl

/-- What append leaves: in the row's own block, or the row anew, the old one untouched. -/
def AppPost (w : World) (v : Value) (l : List Int) (v' : Value) (w' : World) : Prop :=
  Own w' v' l ∧ ((v'.ownBlock = v.ownBlock ∧ Grown w w' fun k => v.ownBlock = some k) ∨ (v'.ownBlock = some w.heap.size ∧ Below w.heap.size w w'))
theorem AppPost.moved {w w' : World} {v v' : Value} {l : List Int} (h : AppPost w v l v' w') : Moved w v v' := by
  rcases h.2 with h | h
  · exact .inl h.1
  · exact .inr ⟨_, h.1, Nat.le_refl _⟩
theorem AppPost.grown {w w' : World} {v v' : Value} {l : List Int} (h : AppPost w v l v' w') : Grown w w' fun k => v.ownBlock = some k := by
  rcases h.2 with h | h
  · exact h.2
  · exact Grown.below h.2

section
theorem run_app_cells (w : World) (ty : TypeId) (v : Value) (l : List Int) (hown : Own w v l) (a : Addr) (c : Nat) (m : List Int) (hnews : ∀ j u, (bv m)[j]? = some u → w.cell? (a.add j) = some u) (hb : l.length + m.length ≤ 140737488355328) :
    ∃ v' w', (Builtin.append_ #[35, 35] ty #[v, .slice (some a) m.length c]).run Try.prog w = .ok v' w' ∧ AppPost w v (l ++ m) v' w' := by
  obtain ⟨i, hi, hzz⟩ := Option.map_eq_some_iff.1 Try.info5
  simp only [Prod.mk.injEq] at hzz
  obtain ⟨hz, hsz, hby⟩ := hzz
  have h63 : l.length + m.length ≤ maxLen := by unfold maxLen; omega
  have hlm : (bv m).length = m.length * i.size := by rw [bv_len, hsz]; omega
  obtain ⟨v', w', hr, h1, h2, _, h3⟩ := run_append_own_at (P := Try.prog) w 0 35 ty 5 i (.int .u8 0) 1 1 Try.underlying35 hi hz hsz hby rfl (by omega) v l.length (bv l) hown a m.length c (bv m) (by rw [bv_len]; omega) hnews (bv_one m) h63 (by omega) (Nat.zero_le _)
  have hO : Own w' v' (l ++ m) := by unfold Own; rw [List.length_append, bv_app]; exact h1
  refine ⟨v', w', hr, hO, ?_⟩
  rcases hown.form with ⟨rfl, rfl⟩ | ⟨g, cap, cur, rfl, hg, hnc, hcm, hcs, htake⟩
  · rcases h3 with h3 | h3
    · exact .inl ⟨h3, Grown.of h2 fun k _ e => by simp [Value.ownBlock] at e⟩
    · exact .inr ⟨h3, h2.os, h2.tape, h2.output, h2.size, fun k hk => h2.block k hk (by simp [Value.ownBlock])⟩
  · by_cases hroom : l.length + m.length ≤ cap
    · have hr2 := run_append_room (P := Try.prog) w 35 ty 5 i Try.underlying35 hi g l.length cap cur hg a m.length c (bv m) hlm hnews (bv_one m) hroom (by rw [hsz, bv_len, hcs]; omega)
      have e := hr.symm.trans hr2
      injection e with e1 e2
      subst e1
      exact .inl ⟨rfl, Grown.of h2 fun k _ e => e⟩
    · have holds : ∀ j u, (bv l)[j]? = some u → w.cell? ((⟨g, 0, none⟩ : Addr).add j) = some u := World.ownsRow.cells (g := g) hown rfl
      have hr2 := run_append_grow (P := Try.prog) w 35 ty 5 i (.int .u8 0) Try.underlying35 hi hz ⟨g, 0, none⟩ l.length cap (bv l) (by rw [bv_len, hsz]; omega) holds a m.length c (bv m) hlm hnews (by omega) (by omega) (by rw [hby]; exact growslice_fits (by omega) (by omega))
      have e := hr.symm.trans hr2
      injection e with e1 e2
      subst e1 e2
      exact .inr ⟨rfl, ⟨rfl, rfl, rfl, by simp, fun k hk => Below.heap_alloc w.drew _ k hk⟩⟩
theorem run_app_row (w : World) (ty : TypeId) (v vx : Value) (l m : List Int) (hown : Own w v l) (hrow : RowAt w vx m) (hb : l.length + m.length ≤ 140737488355328) :
    ∃ v' w', (Builtin.append_ #[35, 35] ty #[v, vx]).run Try.prog w = .ok v' w' ∧ AppPost w v (l ++ m) v' w' := by
  rcases hrow with ⟨rfl, rfl⟩ | ⟨ad, c, rfl, rfl⟩ | ⟨b, off, cap, rfl, hcap, hc⟩
  · obtain ⟨i, hi, _⟩ := Option.map_eq_some_iff.1 Try.info5
    have hrun := run_append_owned_none (P := Try.prog) (w := w) 0 35 ty 5 i 1 Try.underlying35 hi v l.length (bv l) hown
    exact ⟨v, w, hrun, by simpa using hown, .inl ⟨rfl, Grown.refl _ _⟩⟩
  · exact run_app_cells w ty v l hown ad c [] (fun j u hu => by simp [bv] at hu) hb
  · refine run_app_cells w ty v l hown ⟨b, off, none⟩ cap m (fun j u hu => ?_) hb
    have hj : j < m.length := by have := (List.getElem?_eq_some_iff.1 hu).1; rwa [bv_len] at this
    rw [bv_get m j hj] at hu
    rw [Addr.add_mid, hc j hj]; exact hu
end
/-- A row of bytes behind bytes of the call's own. -/
theorem wpList_app {ops : Array Oper} {rest : List Oper} {o : Oper} {a : Act} {w : World} {Q : Exit → Act → World → Prop} (hgd : o.guard = none) (s x : Operand)
    (ho : o.op = .call { callee := .builtin .append, args := #[s, x], argTypes := #[35, 35] }) (v vx : Value) (l m : List Int)
    (hs : a.eval s = v) (hx : a.eval x = vx) (hown : Own w v l) (hrow : RowAt w vx m) (hb : l.length + m.length ≤ 140737488355328)
    (h : ∀ v' w', AppPost w v (l ++ m) v' w' → wpList Try.prog ops Q rest (a.put o.dst v') w') : wpList Try.prog ops Q (o :: rest) a w := by
  refine wpList_plain hgd fun K hK => ?_
  obtain ⟨v', w', hr, h2⟩ := run_app_row w o.type v vx l m hown hrow hb
  unfold Oper.wp execOp
  simp only [ho, resolve, invoke, builtin, Sem.run_bind, Sem.run_pure, Result.andThen_ok, List.map_toArray, List.map_cons, List.map_nil, hs, hx, hr]
  exact hK _ _ (h v' w' h2)
end Go.Proofs.Ytfheinghkigocaa
namespace Go.Proofs.Ytfheinghkigocaa
open Go.RowKit

/-! Num -/
def Byts (l : List Int) : Prop := ∀ c ∈ l, 0 ≤ c ∧ c < 256
theorem Byts.nil : Byts [] := fun _ h => by simp at h
theorem Byts.app {a b : List Int} (h : Byts a) (k : Byts b) : Byts (a ++ b) := fun c hc => by
  rcases List.mem_append.1 hc with h1 | h1
  · exact h c h1
  · exact k c h1
theorem Byts.one {c : Int} (h : 0 ≤ c ∧ c < 256) : Byts [c] := fun x hx => by simp at hx; subst hx; exact h
theorem Byts.take {a : List Int} (h : Byts a) (n : Nat) : Byts (a.take n) := fun c hc => h c (List.mem_of_mem_take hc)
theorem Byts.drop {a : List Int} (h : Byts a) (n : Nat) : Byts (a.drop n) := fun c hc => h c (List.mem_of_mem_drop hc)
theorem Byts.getD {a : List Int} (h : Byts a) (n : Nat) : 0 ≤ a.getD n 0 ∧ a.getD n 0 < 256 := by
  rw [List.getD_eq_getElem?_getD]
  by_cases hn : n < a.length
  · rw [List.getElem?_eq_getElem hn]; exact h _ (List.getElem_mem hn)
  · rw [List.getElem?_eq_none (by omega)]; decide
/-! Out -/
theorem Own.sl {w : World} {v : Value} {l : List Int} (h : Own w v l) : ∃ a n c, v = .slice a n c := by
  rcases h.form with ⟨rfl, _⟩ | ⟨g, cap, cur, rfl, _⟩
  · exact ⟨_, _, _, rfl⟩
  · exact ⟨_, _, _, rfl⟩
def lst (s : ByteArray) : List Int := s.data.toList.map fun b => (b.toNat : Int)
theorem lst_len (s : ByteArray) : (lst s).length = s.size := by simp [lst]
theorem lst_cells (s : ByteArray) : Lib.strCells s = bv (lst s) := by simp [Lib.strCells, bv, lst]
theorem lst_byts (s : ByteArray) : Byts (lst s) := fun c hc => by
  simp [lst] at hc
  obtain ⟨b, _, rfl⟩ := hc
  have := b.toNat_lt
  omega
theorem lst_nums {l : List Int} (h : Byts l) : lst (strOfNums l) = l := by
  unfold lst
  rw [strOfNums_data, List.map_map]
  conv => rhs; rw [← List.map_id l]
  apply List.map_congr_left
  intro c hc
  have := h c hc
  simp
  omega
theorem nums_lst (s : ByteArray) : strOfNums (lst s) = s := by
  apply ByteArray.ext
  apply Array.ext'
  show (strOfNums (lst s)).data.toList = _
  rw [strOfNums_data]
  unfold lst
  rw [List.map_map]
  conv => rhs; rw [← List.map_id s.data.toList]
  apply List.map_congr_left
  intro b _
  simp
theorem run_app_string (w : World) (ty : TypeId) (v : Value) (l : List Int) (hown : Own w v l) (s : ByteArray) (hb : l.length + s.size ≤ 140737488355328) :
    ∃ v' w', (Builtin.append_ #[35, 9] ty #[v, .string s]).run Try.prog w = .ok v' w' ∧ AppPost w v (l ++ lst s) v' w' := by
  obtain ⟨i, hi, hzz⟩ := Option.map_eq_some_iff.1 Try.info5
  simp only [Prod.mk.injEq] at hzz
  obtain ⟨hz, hsz, hby⟩ := hzz
  have h63 : l.length + s.size ≤ maxLen := by unfold maxLen; omega
  obtain ⟨v', w', hr, h1, h2, h3⟩ := Lib.run_append_own_string (P := Try.prog) w 0 35 9 ty 5 i Try.underlying35 Try.underlying9 hi hz hsz hby v l.length (bv l) hown s h63 hb (Nat.zero_le _)
  have hO : Own w' v' (l ++ lst s) := by unfold Own; rw [List.length_append, bv_app, lst_len, ← lst_cells]; exact h1
  refine ⟨v', w', hr, hO, ?_⟩
  rcases hown.form with ⟨rfl, rfl⟩ | ⟨g, cap, cur, rfl, hg, hnc, hcm, hcs, htake⟩
  · by_cases h0 : s.size = 0
    · have e := h3.2 ⟨rfl, h0⟩
      subst e
      exact .inl ⟨rfl, Grown.of h2 fun k _ e => e⟩
    · have hr2 := run_append_nil_string (P := Try.prog) w 35 9 ty 5 i (.int .u8 0) Try.underlying35 Try.underlying9 hi hz s (by omega) (by omega) (by rw [hby]; omega)
      have e := hr.symm.trans hr2
      injection e with e1 e2
      subst e1
      exact .inr ⟨rfl, h2.os, h2.tape, h2.output, h2.size, fun k hk => h2.block k hk (by simp [Value.ownBlock])⟩
  · by_cases hroom : l.length + s.size ≤ cap
    · have hr2 := Lib.run_append_room_string (P := Try.prog) w 35 9 ty 5 i Try.underlying35 Try.underlying9 hi hsz g l.length cap cur hg s hroom (by omega)
      have e := hr.symm.trans hr2
      injection e with e1 e2
      subst e1
      exact .inl ⟨rfl, Grown.of h2 fun k _ e => e⟩
    · have holds : ∀ j u, (bv l)[j]? = some u → w.cell? ((⟨g, 0, none⟩ : Addr).add j) = some u := World.ownsRow.cells (g := g) hown rfl
      have hr2 := Lib.run_append_grow_string (P := Try.prog) w 35 9 ty 5 i (.int .u8 0) Try.underlying35 Try.underlying9 hi hz ⟨g, 0, none⟩ l.length cap (bv l) (by rw [bv_len, hsz]; omega) holds s (by omega) (by omega) (by rw [hby]; exact growslice_fits (by omega) (by omega))
      have e := hr.symm.trans hr2
      injection e with e1 e2
      subst e1 e2
      exact .inr ⟨rfl, ⟨rfl, rfl, rfl, by simp, fun k hk => Below.heap_alloc w.drew _ k hk⟩⟩
theorem wpList_appS {ops : Array Oper} {rest : List Oper} {o : Oper} {a : Act} {w : World} {Q : Exit → Act → World → Prop} (hgd : o.guard = none) (s x : Operand)
    (ho : o.op = .call { callee := .builtin .append, args := #[s, x], argTypes := #[35, 9] }) (v : Value) (l : List Int) (t : ByteArray)
    (hs : a.eval s = v) (hx : a.eval x = .string t) (hown : Own w v l) (hb : l.length + t.size ≤ 140737488355328)
    (h : ∀ v' w', AppPost w v (l ++ lst t) v' w' → wpList Try.prog ops Q rest (a.put o.dst v') w') : wpList Try.prog ops Q (o :: rest) a w := by
  refine wpList_plain hgd fun K hK => ?_
  obtain ⟨v', w', hr, h2⟩ := run_app_string w o.type v l hown t hb
  unfold Oper.wp execOp
  simp only [ho, resolve, invoke, builtin, Sem.run_bind, Sem.run_pure, Result.andThen_ok, List.map_toArray, List.map_cons, List.map_nil, hs, hx, hr]
  exact hK _ _ (h v' w' h2)
/-! OutB -/
def bytesA (n : Nat) (c : Nat → Int) : Array Value := Array.ofFn (n := n) fun i => .int .u8 (c i.val)
def upd (c : Nat → Int) (t : Nat) (v : Int) : Nat → Int := fun i => if i = t then v else c i
theorem bytesA_size (n : Nat) (c : Nat → Int) : (bytesA n c).size = n := by simp [bytesA]
theorem bytesA_get (n : Nat) (c : Nat → Int) (j : Nat) (h : j < n) : (bytesA n c)[j]? = some (.int .u8 (c j)) := by simp [bytesA, h]
theorem bytesA_set (n : Nat) (c : Nat → Int) (j : Nat) (v : Int) : (bytesA n c).setIfInBounds j (.int .u8 v) = bytesA n (upd c j v) := by
  apply Array.ext_getElem?
  intro i
  rw [Array.getElem?_setIfInBounds]
  by_cases e : j = i
  · subst e
    by_cases hj : j < n <;> simp [bytesA, upd, hj]
  · by_cases hi : i < n <;> simp [bytesA, upd, hi, e, Ne.symm e]
theorem bytesA_one (n : Nat) (c : Nat → Int) : (bytesA n c).all (·.oneCell') = true := by
  rw [Array.all_eq_true_iff_forall_mem]; intro v hv; simp [bytesA] at hv; obtain ⟨i, rfl⟩ := hv; rfl
theorem bytesA_sizes (n : Nat) (c d : Nat → Int) : (bytesA n c).size = (bytesA n d).size := by rw [bytesA_size, bytesA_size]
theorem bytesA_congr {n : Nat} {c d : Nat → Int} (h : ∀ i, i < n → c i = d i) : bytesA n c = bytesA n d := by
  apply Array.ext_getElem?
  intro i
  by_cases hi : i < n
  · rw [bytesA_get _ _ _ hi, bytesA_get _ _ _ hi, h i hi]
  · rw [Array.getElem?_eq_none (by rw [bytesA_size]; omega), Array.getElem?_eq_none (by rw [bytesA_size]; omega)]
def hl (n : Nat) (c : Nat → Int) : List Int := (List.range n).map c
theorem hl_len (n : Nat) (c : Nat → Int) : (hl n c).length = n := by simp [hl]
theorem hl_get (n : Nat) (c : Nat → Int) (i : Nat) (h : i < n) : (hl n c).getD i 0 = c i := by simp [hl, List.getD_eq_getElem?_getD, h]
theorem hl_bytesA (n : Nat) (c : Nat → Int) : (bytesA n c).toList = bv (hl n c) := by
  apply List.ext_getElem?
  intro i
  rw [Array.getElem?_toList]
  by_cases h : i < n
  · rw [bytesA_get _ _ _ h, bv_get _ _ (by rw [hl_len]; exact h), hl_get _ _ _ h]
  · rw [Array.getElem?_eq_none (by rw [bytesA_size]; omega), List.getElem?_eq_none (by rw [bv_len, hl_len]; omega)]
theorem Try.size27 : (Try.prog.info? 27).map (·.size) = some 32 := by kernel_rfl
theorem Try.size27B (c : Nat → Int) : (Try.prog.info? 27).map (·.size) = some (bytesA 32 c).size := by rw [bytesA_size]; exact Try.size27
theorem run_box_agg {P : Program} (w : World) (t : TypeId) (cs : Array Value) : (Instr.box t (.agg cs)).run P w = .ok (.pointer (some ⟨w.heap.size, 0, none⟩)) (w.alloc (.cells cs t)) := rfl
theorem wpList_boxA {P : Program} {ops : Array Oper} {rest : List Oper} {o : Oper} {a : Act} {w : World} {Q : Exit → Act → World → Prop} (hg : o.guard = none) (t : TypeId) (x : Operand) (ho : o.op = .box t x)
    (cs : Array Value) (hx : a.eval x = .agg cs)
    (h : wpList P ops Q rest (a.put o.dst (.pointer (some ⟨w.heap.size, 0, none⟩))) (w.alloc (.cells cs t))) : wpList P ops Q (o :: rest) a w := by
  refine wpList_plain hg fun K hK => ?_
  unfold Oper.wp execOp
  simp only [ho, hx, Sem.run_bind, run_box_agg, Result.andThen_ok]
  exact hK _ _ h
theorem row_arr {w : World} {g : Nat} {T : TypeId} {n : Nat} {c : Nat → Int} (h : Blk w g T (bytesA n c)) : RowAt w (.slice (some ⟨g, 0, none⟩) n n) (hl n c) := by
  refine .inr (.inr ⟨g, 0, n, by rw [hl_len], by rw [hl_len]; exact Nat.le_refl _, fun i hi => ?_⟩)
  rw [hl_len] at hi
  rw [Nat.zero_add, h.cell, bytesA_get _ _ _ hi, hl_get _ _ _ hi]
theorem made_bytes (n : Nat) : madeCells #[.int .u8 0] n = bytesA n fun _ => 0 := by
  apply Array.ext_getElem?
  intro i
  by_cases h : i < n <;> simp [madeCells, bytesA, h, Nat.mod_one]
theorem run_makeB (l c : Nat) (hlc : l ≤ c) (hc : c ≤ 281474976710656) (w : World) : (Instr.makeSlice 35 (.int .i64 (l : Int)) (.int .i64 (c : Int))).run Try.prog w = .ok (.slice (some ⟨w.heap.size, 0, none⟩) l c) (w.alloc (.cells (bytesA c fun _ => 0) 5)) := by
  obtain ⟨i, hi, hzz⟩ := Option.map_eq_some_iff.1 Try.info5
  simp only [Prod.mk.injEq] at hzz
  obtain ⟨hz, hs, hb⟩ := hzz
  have hr := run_make (P := Try.prog) w 35 5 i (.int .u8 0) Try.underlying35 hi hz .i64 .i64 (l : Int) (c : Int) (by omega) (by omega) (by rw [hb]; omega) (by omega)
  simp only [Int.toNat_natCast, hs, Nat.mul_one, Value.cells] at hr
  rw [made_bytes] at hr
  exact hr
theorem wpList_makeB {ops : Array Oper} {rest : List Oper} {o : Oper} {a : Act} {w : World} {Q : Exit → Act → World → Prop} (hgd : o.guard = none) (x y : Operand) (ho : o.op = .makeSlice 35 x y) (l c : Nat) (hlc : l ≤ c) (hc : c ≤ 281474976710656)
    (hx : a.eval x = .int .i64 (l : Int)) (hy : a.eval y = .int .i64 (c : Int))
    (h : wpList Try.prog ops Q rest (a.put o.dst (.slice (some ⟨w.heap.size, 0, none⟩) l c)) (w.alloc (.cells (bytesA c fun _ => 0) 5))) : wpList Try.prog ops Q (o :: rest) a w := by
  refine wpList_plain hgd fun K hK => ?_
  have hrun := run_makeB l c hlc hc w
  unfold Oper.wp
  simp only [execOp, ho, hx, hy, Sem.run_bind, hrun, Result.andThen_ok]
  exact hK _ _ h
theorem run_copyB (w : World) (g cap : Nat) (v : Value) (m : List Int) (ty T : TypeId) (cur : Array Value) (hg : Blk w g T cur) (hs : cur.size = m.length) (hr : RowAt w v m) :
    (Builtin.copy_ #[35, 35] ty #[.slice (some ⟨g, 0, none⟩) m.length cap, v]).run Try.prog w = .ok (goInt m.length) (w.setRow g (bv m).toArray) := by
  have hst := run_storeCells_at Try.prog g 0 T (bv m) 0 cur w hg (by rw [bv_len]; omega) (bv_one m)
  have hcur : (cur.toList.take (0 + 0) ++ bv m ++ cur.toList.drop (0 + 0 + (bv m).length)).toArray = (bv m).toArray := by
    rw [bv_len, List.drop_of_length_le (by rw [Array.length_toList]; omega)]; simp
  rw [hcur] at hst
  obtain ⟨i, hi, hzz⟩ := Option.map_eq_some_iff.1 Try.info5
  simp only [Prod.mk.injEq] at hzz
  obtain ⟨_, hsz, _⟩ := hzz
  rcases hr with ⟨rfl, rfl⟩ | ⟨ad, c, rfl, rfl⟩ | ⟨b, off, cap2, rfl, _, hc⟩
  · simp only [bv, List.map_nil] at hst ⊢
    simp [Builtin.copy_, run_underlying Try.underlying35, Builtin.lenOf, Builtin.firstCells, sizeOf, typeInfo, hi, hst]
  · simp only [bv, List.map_nil] at hst ⊢
    simp [Builtin.copy_, run_underlying Try.underlying35, Builtin.lenOf, Builtin.firstCells, sizeOf, typeInfo, hi, loadCells, loadCellsFrom, hst]
  · have hl := run_loadCells_list (P := Try.prog) w ⟨b, off, none⟩ (bv m) (fun j v hv => by
      have hj : j < m.length := by have := (List.getElem?_eq_some_iff.1 hv).1; rwa [bv_len] at this
      rw [bv_get m j hj] at hv
      rw [Addr.add_mid, hc j hj]; exact hv)
    rw [bv_len] at hl
    simp [Builtin.copy_, run_underlying Try.underlying35, Builtin.lenOf, Builtin.firstCells, sizeOf, typeInfo, hi, hsz, hl, hst]
theorem wpList_copyB {ops : Array Oper} {rest : List Oper} {o : Oper} {a : Act} {w : World} {Q : Exit → Act → World → Prop} (hgd : o.guard = none) (d s : Operand)
    (ho : o.op = .call { callee := .builtin .copy, args := #[d, s], argTypes := #[35, 35] }) (g cap : Nat) (v : Value) (m : List Int) (T : TypeId) (cur : Array Value)
    (hd : a.eval d = .slice (some ⟨g, 0, none⟩) m.length cap) (hs : a.eval s = v) (hg : Blk w g T cur) (hsz : cur.size = m.length) (hr : RowAt w v m)
    (h : wpList Try.prog ops Q rest (a.put o.dst (goInt m.length)) (w.setRow g (bv m).toArray)) : wpList Try.prog ops Q (o :: rest) a w := by
  refine wpList_plain hgd fun K hK => ?_
  have hrun := run_copyB w g cap v m o.type T cur hg hsz hr
  unfold Oper.wp
  simp only [execOp, ho, resolve, invoke, builtin, List.map_toArray, List.map_cons, List.map_nil, hd, hs, Sem.run_bind, Sem.run_pure, hrun, Result.andThen_ok]
  exact hK _ _ h
theorem own_done (w : World) (l : List Int) (hb : l.length ≤ 140737488355328) : Own (w.alloc (.cells (bv l).toArray 5)) (.slice (some ⟨w.heap.size, 0, none⟩) l.length l.length) l :=
  Own.mk (Blk.new w 5 _) (Nat.le_refl _) (by unfold maxLen; omega) (by simp [bv_len]) (by simp [← bv_len])
/-! RefA -/
theorem Own.box {w : World} {v : Value} {l : List Int} (h : Own w v l) (o : Obj) : Own (w.alloc o) v l := h.grown (Grown.alloc w o fun _ => False) fun _ _ h => h
theorem AppPost.box {w w' : World} {v v' : Value} {l : List Int} {o : Obj} (h : AppPost (w.alloc o) v l v' w') : Own w' v' l ∧ Moved w v v' ∧ Grown w w' fun k => v.ownBlock = some k :=
  ⟨h.1, (Moved.refl w v).trans (Grown.alloc w o fun _ => False).size h.moved, (Grown.alloc w o _).next h.grown fun _ _ h => h⟩
/-! RefB -/
theorem Try.new27 (w : World) : (Instr.alloc 27 true (.tuple #[])).run Try.prog w = .ok (.pointer (some ⟨w.heap.size, 0, none⟩)) (w.alloc (.cells (bytesA 32 fun _ => 0) 27)) := by kernel_rfl
theorem wpList_bld {P : Program} {ops : Array Oper} {rest : List Oper} {o : Oper} {a : Act} {w : World} {Q : Exit → Act → World → Prop} (hg : o.guard = none) (t : TypeId) (parts : Array (Nat × Operand)) (ho : o.op = .build t parts)
    (cells : Array Value) (hf : P.built t (parts.map fun (i, x) => (i, a.eval x)).toList = some cells)
    (h : wpList P ops Q rest (a.put o.dst (.agg cells)) w) : wpList P ops Q (o :: rest) a w :=
  wpList_build hg t parts ho (by rw [hf]; rfl) (by rw [hf]; exact h)
theorem wpList_new {P : Program} {ops : Array Oper} {rest : List Oper} {o : Oper} {a : Act} {w : World} {Q : Exit → Act → World → Prop} (hg : o.guard = none) (t : TypeId) (ho : o.op = .alloc t)
    (cells : Array Value) (hf : ∀ w : World, (Instr.alloc t true (.tuple #[])).run P w = .ok (.pointer (some ⟨w.heap.size, 0, none⟩)) (w.alloc (.cells cells t)))
    (h : wpList P ops Q rest (a.put o.dst (.pointer (some ⟨w.heap.size, 0, none⟩))) (w.alloc (.cells cells t))) : wpList P ops Q (o :: rest) a w := by
  refine wpList_plain hg fun K hK => ?_
  unfold Oper.wp execOp
  simp only [ho, Sem.run_bind, hf w, Result.andThen_ok]
  exact hK _ _ h
/-! Wide -/
theorem conv_row (v : Value) (l : List Int) (w : World) (h : RowAt w v l) : (convert 35 9 v).run Try.prog w = .ok (.string (strOfNums l)) w := by
  rcases h with ⟨rfl, rfl⟩ | ⟨a, c, rfl, rfl⟩ | ⟨b, off, cap, rfl, _, hc⟩
  · rw [run_convert_bytes_nil (P := Try.prog) w 35 5 Try.underlying35 Try.underlying5 0 0 9 Try.underlying9]; rfl
  · rw [run_convert_bytes_string (P := Try.prog) w 35 9 5 _ 0 c Try.underlying35 Try.underlying5 Try.underlying9]
    simp [Conv.bytesToString, loadCells, loadCellsFrom, strOfNums]
    rfl
  · exact run_convert_bytes_arg (P := Try.prog) w 35 5 Try.underlying35 Try.underlying5 b off l.length cap l rfl hc 9 Try.underlying9
theorem grow_free {w : World} {v : Value} {B : Nat} (ho : ∃ k, v.ownBlock = some k ∧ B ≤ k) (hB : B ≤ w.heap.size) {w' : World} {v' : Value} {m : List Int} (hp : AppPost w v m v' w') : (∃ k, v'.ownBlock = some k ∧ B ≤ k) ∧ Below B w w' := by
  obtain ⟨k, hk, hBk⟩ := ho
  rcases hp.2 with ⟨h1, h2⟩ | ⟨h1, h2⟩
  · exact ⟨⟨k, by rw [h1, hk], hBk⟩, h2.to_below (fun i hi e => by rw [hk] at e; injection e with e; omega) hB⟩
  · exact ⟨⟨_, h1, hB⟩, h2.mono hB⟩
/-! Tail -/
def Typ (w : World) (k : Nat) (T : TypeId) : Prop := ∃ cs fz, w.heap[k]? = some (.cells cs T fz)
theorem Blk.typ {w : World} {k : Nat} {T : TypeId} {cs : Array Value} (h : Blk w k T cs) : Typ w k T := ⟨cs, _, h⟩
theorem Typ.lt {w : World} {k : Nat} {T : TypeId} (h : Typ w k T) : k < w.heap.size := by
  obtain ⟨cs, fz, h⟩ := h
  exact (Array.getElem?_eq_some_iff.1 h).1
theorem Typ.one {w : World} {k : Nat} {T T' : TypeId} (h : Typ w k T) (h' : Typ w k T') : T = T' := by
  obtain ⟨cs, fz, h⟩ := h
  obtain ⟨cs', fz', h'⟩ := h'
  rw [h] at h'; simp at h'; exact h'.2.1
theorem Typ.ne {w : World} {k k' : Nat} {T T' : TypeId} (h : Typ w k T) (h' : Typ w k' T') (ht : T ≠ T') : k ≠ k' := by
  rintro rfl; exact ht (h.one h')
theorem Grown.typ {a b : World} {S : Nat → Prop} (h : Grown a b S) {k : Nat} {T : TypeId} (hk : Typ a k T) (hs : ¬ S k) : Typ b k T := by
  have hlt := hk.lt
  obtain ⟨cs, fz, h1⟩ := hk
  exact ⟨cs, fz, by rw [h.block k hlt hs]; exact h1⟩
theorem Own.typ {w : World} {v : Value} {l : List Int} (h : Own w v l) {k : Nat} (hk : v.ownBlock = some k) : Typ w k 5 := by
  rcases h.2 with ⟨rfl, _⟩ | ⟨g, cap, cur, rfl, _, h3, _⟩
  · simp [Value.ownBlock] at hk
  · simp [Value.ownBlock] at hk
    subst hk
    exact ⟨cur, _, h3⟩
def OwnT (w : World) (v : Value) (l : List Int) : Prop :=
  (v = .slice none 0 0 ∧ l = []) ∨ ∃ g cap cur fz, v = .slice (some ⟨g, 0, none⟩) l.length cap ∧ w.heap[g]? = some (.cells cur 5 fz) ∧ (fz = (0, 0) ∨ cap ≤ fz.1) ∧ l.length ≤ cap ∧ cap ≤ maxLen ∧ cur.size = cap ∧ cur.toList.take l.length = bv l
theorem Own.tail {w : World} {v : Value} {l : List Int} (h : Own w v l) : OwnT w v l := by
  rcases h.form with h | ⟨g, cap, cur, rfl, hb, h3, h4, h5, h6⟩
  · exact .inl h
  · exact .inr ⟨g, cap, cur, _, rfl, hb, .inl rfl, h3, h4, h5, h6⟩
theorem ownT_nil (w : World) : OwnT w (.slice none 0 0) [] := .inl ⟨rfl, rfl⟩
theorem OwnT.typ {w : World} {v : Value} {l : List Int} (h : OwnT w v l) {k : Nat} (hk : v.ownBlock = some k) : Typ w k 5 := by
  rcases h with ⟨rfl, _⟩ | ⟨g, cap, cur, fz, rfl, h3, _⟩
  · simp [Value.ownBlock] at hk
  · simp [Value.ownBlock] at hk
    subst hk
    exact ⟨cur, _, h3⟩
theorem OwnT.lt {w : World} {v : Value} {l : List Int} (h : OwnT w v l) : ∀ k, v.ownBlock = some k → k < w.heap.size := fun _ hk => (h.typ hk).lt
theorem OwnT.ne {w : World} {v : Value} {l : List Int} {p : Nat} {T : TypeId} {cs : Array Value} (h : OwnT w v l) (hp : Blk w p T cs) (hT : T ≠ 5) : v.ownBlock ≠ some p := fun e => hT (hp.typ.one (h.typ e))
theorem OwnT.grown {w w' : World} {v : Value} {l : List Int} {S : Nat → Prop} (h : OwnT w v l) (hg : Grown w w' S) (hs : ∀ k, v.ownBlock = some k → ¬ S k) : OwnT w' v l := by
  rcases h with h1 | ⟨g, cap, cur, fz, rfl, h3, h4⟩
  · exact .inl h1
  · exact .inr ⟨g, cap, cur, fz, rfl, by rw [hg.block g (Array.getElem?_eq_some_iff.1 h3).1 (hs g rfl)]; exact h3, h4⟩
theorem OwnT.box {w : World} {v : Value} {l : List Int} (h : OwnT w v l) (o : Obj) : OwnT (w.alloc o) v l := h.grown (Grown.alloc w o fun _ => False) fun _ _ h => h
theorem take_get {cur : Array Value} {l : List Int} {n : Nat} (h : cur.toList.take n = bv l) (hl : l.length = n) (t : Nat) (ht : t < n) : cur[t]? = some (.int .u8 (l.getD t 0)) := by
  have h1 := bv_get l t (by omega)
  rw [← h, List.getElem?_take, if_pos ht] at h1
  simpa using h1
theorem OwnT.cells {w : World} {g n cap : Nat} {l : List Int} (h : OwnT w (.slice (some ⟨g, 0, none⟩) n cap) l) (t : Nat) (ht : t < l.length) : w.cell? ⟨g, t, none⟩ = some (.int .u8 (l.getD t 0)) ∧ w.frozen? ⟨g, t, none⟩ = false := by
  rcases h with ⟨e, _⟩ | ⟨g', cap', cur, fz, e, hb, hf, h3, h4, h5, h6⟩
  · cases e
  · injection e with e1 e2 e3
    injection e1 with e1
    injection e1 with e1
    subst e1 e2 e3
    refine ⟨by rw [cell_of_row w g t cur 5 fz hb]; exact take_get h6 rfl t ht, ?_⟩
    rcases hf with rfl | hf
    · simp [World.frozen?, hb]
    · simp only [World.frozen?, hb]
      simp
      omega
theorem OwnT.row {w : World} {v : Value} {l : List Int} (h : OwnT w v l) : RowAt w v l := by
  have h' := h
  rcases h with h1 | ⟨g, cap, cur, fz, rfl, hb, hf, h3, h4, h5, h6⟩
  · exact .inl h1
  · exact .inr (.inr ⟨g, 0, cap, rfl, h3, fun i hi => by rw [Nat.zero_add]; exact (h'.cells i hi).1⟩)
theorem OwnT.sl {w : World} {v : Value} {l : List Int} (h : OwnT w v l) : ∃ a n c, v = .slice a n c := by
  rcases h with ⟨rfl, _⟩ | ⟨g, cap, cur, fz, rfl, _⟩
  · exact ⟨_, _, _, rfl⟩
  · exact ⟨_, _, _, rfl⟩
theorem OwnT.addr {w : World} {va : Option Addr} {n vc : Nat} {l : List Int} (h : OwnT w (.slice va n vc) l) (h0 : 0 < l.length) : ∃ g, va = some ⟨g, 0, none⟩ := by
  rcases h with ⟨_, e⟩ | ⟨g, cap, cur, fz, e, _⟩
  · subst e; simp at h0
  · injection e with e1 _ _
    exact ⟨g, e1⟩
theorem bv_set (l : List Int) (t : Nat) (c : Int) : (bv l).set t (.int .u8 c) = bv (l.set t c) := by simp [bv, List.map_set]
theorem OwnT.set {w : World} {g n cap : Nat} {l : List Int} (h : OwnT w (.slice (some ⟨g, 0, none⟩) n cap) l) (t : Nat) (c : Int) : OwnT (w.setCell ⟨g, t, none⟩ (.int .u8 c)) (.slice (some ⟨g, 0, none⟩) n cap) (l.set t c) := by
  rcases h with ⟨e, _⟩ | ⟨g', cap', cur, fz, e, hb, hf, h3, h4, h5, h6⟩
  · cases e
  · injection e with e1 e2 e3
    injection e1 with e1
    injection e1 with e1
    subst e1 e2 e3
    refine .inr ⟨g, cap, cur.setIfInBounds t (.int .u8 c), fz, by rw [List.length_set], ?_, hf, by rw [List.length_set]; exact h3, h4, by simp [h5], ?_⟩
    · rw [setCell_eq_setRow w g t cur 5 fz _ hb]; exact setRow_heap w g cur _ 5 fz hb
    · rw [Array.toList_setIfInBounds, List.length_set, List.take_set, h6, bv_set]
theorem OwnT.plain {w : World} {va : Option Addr} {n vc : Nat} {l : List Int} (h : OwnT w (.slice va n vc) l) : (∀ a, va = some a → a.off = 0 ∧ a.spot = none) ∧ (va = none → n = 0 ∧ vc = 0) ∧ n ≤ vc ∧ n = l.length := by
  rcases h with ⟨e, e2⟩ | ⟨g, cap, cur, fz, e, hb, _, h3, _⟩
  · injection e with e1 e2 e3
    subst e1 e2 e3
    subst e2
    exact ⟨fun a ha => by simp at ha, fun _ => ⟨rfl, rfl⟩, by omega, rfl⟩
  · injection e with e1 e2 e3
    subst e1 e2 e3
    exact ⟨fun a ha => by simp at ha; subst ha; exact ⟨rfl, rfl⟩, fun h => by simp at h, h3, rfl⟩
def AppPostT (w : World) (v : Value) (l : List Int) (v' : Value) (w' : World) : Prop :=
  OwnT w' v' l ∧ ((v'.ownBlock = v.ownBlock ∧ Grown w w' fun k => v.ownBlock = some k) ∨ (v'.ownBlock = some w.heap.size ∧ Below w.heap.size w w'))
theorem AppPostT.grown {w w' : World} {v v' : Value} {l : List Int} (h : AppPostT w v l v' w') : Grown w w' fun k => v.ownBlock = some k := by
  rcases h.2 with h | h
  · exact h.2
  · exact Grown.below h.2
theorem AppPost.tail {w w' : World} {v v' : Value} {l : List Int} (h : AppPost w v l v' w') : AppPostT w v l v' w' := ⟨h.1.tail, h.2⟩
theorem take_set_next (L : List Value) (n : Nat) (x : Value) (h : n < L.length) : (L.set n x).take (n + 1) = L.take n ++ [x] := by
  rw [List.take_succ_eq_append_getElem (by rw [List.length_set]; exact h), List.getElem_set_self]
  congr 1
  rw [List.take_set]
  exact List.set_eq_of_length_le (by simp; omega)
theorem run_app_one (w : World) (ty : TypeId) (v : Value) (l : List Int) (hown : OwnT w v l) (g1 : Nat) (m : Int) (hc : w.cell? ⟨g1, 0, none⟩ = some (.int .u8 m)) (hb : l.length + 1 ≤ 140737488355328) :
    ∃ v' w', (Builtin.append_ #[35, 35] ty #[v, .slice (some ⟨g1, 0, none⟩) 1 1]).run Try.prog w = .ok v' w' ∧ AppPostT w v (l ++ [m]) v' w' := by
  obtain ⟨i, hi, hzz⟩ := Option.map_eq_some_iff.1 Try.info5
  simp only [Prod.mk.injEq] at hzz
  obtain ⟨hz, hsz, hby⟩ := hzz
  have hnews : ∀ j u, (bv [m])[j]? = some u → w.cell? ((⟨g1, 0, none⟩ : Addr).add j) = some u := fun j u hu => by
    cases j with
    | zero => simp [bv] at hu; subst hu; exact hc
    | succ j => simp [bv] at hu
  rcases hown with ⟨rfl, rfl⟩ | ⟨g, cap, cur, fz, rfl, hg, hf, hnc, hcm, hcs, htake⟩
  · obtain ⟨v', w', hr, hp⟩ := run_app_cells w ty (.slice none 0 0) [] (own_nil w) ⟨g1, 0, none⟩ 1 [m] hnews (by simp)
    exact ⟨v', w', hr, hp.tail⟩
  · by_cases hroom : l.length + 1 ≤ cap
    · have hcell : (w.cell? ⟨g, l.length, none⟩).isSome = true := by
        rw [cell_of_row w g l.length cur 5 fz hg, Array.getElem?_eq_getElem (by omega)]; rfl
      have hfr : w.frozen? ⟨g, l.length, none⟩ = false := by
        rcases hf with rfl | hf
        · simp [World.frozen?, hg]
        · simp only [World.frozen?, hg]
          simp
          omega
      have hr := run_append_room_cells (P := Try.prog) w 35 ty 5 i Try.underlying35 hi g 0 l.length cap ⟨g1, 0, none⟩ 1 1 (bv [m]) (by rw [bv_len, hsz]; rfl) hnews (bv_one _) hroom
        (fun j hj => by
          have e : j = 0 := by rw [bv_len] at hj; simpa using hj
          subst e; rw [hsz]; simpa using hcell)
        (fun j hj => by
          have e : j = 0 := by rw [bv_len] at hj; simpa using hj
          subst e; rw [hsz]; simpa using hfr)
      have e : w.setCells g (0 + l.length * i.size) (bv [m]) = w.setCell ⟨g, l.length, none⟩ (.int .u8 m) := by
        rw [hsz, Nat.mul_one, Nat.zero_add]; rfl
      rw [e] at hr
      refine ⟨_, _, hr, .inr ⟨g, cap, cur.setIfInBounds l.length (.int .u8 m), fz, by simp, ?_, hf, by simpa using hroom, hcm, by simp [hcs], ?_⟩, .inl ⟨rfl, Grown.setCell w g _ _ fun _ => rfl⟩⟩
      · rw [setCell_eq_setRow w g l.length cur 5 fz _ hg]; exact setRow_heap w g cur _ 5 fz hg
      · have hlt9 : l.length < cur.toList.length := by simp; omega
        rw [Array.toList_setIfInBounds, List.length_append, List.length_singleton, bv_app, ← htake, take_set_next cur.toList l.length (.int .u8 m) hlt9]
        rfl
    · have holds : ∀ j u, (bv l)[j]? = some u → w.cell? ((⟨g, 0, none⟩ : Addr).add j) = some u := fun j u hu => by
        have hj : j < l.length := by have := (List.getElem?_eq_some_iff.1 hu).1; rwa [bv_len] at this
        rw [bv_get l j hj] at hu
        rw [Addr.add_mid, Nat.zero_add, cell_of_row w g j cur 5 fz hg, take_get htake rfl j hj]; exact hu
      obtain ⟨v', w', hr, h1, h2⟩ := run_append_arg_grows (P := Try.prog) w 35 ty 5 i (.int .u8 0) 1 1 Try.underlying35 hi hz hsz hby rfl (by omega) ⟨g, 0, none⟩ l.length cap (bv l) (by rw [bv_len]; omega) holds ⟨g1, 0, none⟩ 1 1 (bv [m]) (by rw [bv_len]; rfl) hnews (by omega) (by unfold maxLen; omega) (by omega)
      have hr2 := run_append_grow (P := Try.prog) w 35 ty 5 i (.int .u8 0) Try.underlying35 hi hz ⟨g, 0, none⟩ l.length cap (bv l) (by rw [bv_len, hsz]; omega) holds ⟨g1, 0, none⟩ 1 1 (bv [m]) (by rw [bv_len, hsz]; rfl) hnews (by omega) (by omega) (by rw [hby]; exact growslice_fits (by omega) (by omega))
      have e := hr.symm.trans hr2
      injection e with e1 e2
      have hO : Own w' v' (l ++ [m]) := by
        refine ⟨by rw [bv_len]; omega, ?_⟩
        rcases h1.2 with ⟨_, h0⟩ | ⟨g', cap', cur', e', _, hb', h3', h4', h5', h6'⟩
        · omega
        · refine .inr ⟨g', cap', cur', by rw [List.length_append]; exact e', Nat.zero_le _, hb', by rw [List.length_append]; exact h3', h4', h5', ?_⟩
          rw [List.length_append, bv_app]; exact h6'
      refine ⟨v', w', hr, hO.tail, .inr ⟨by rw [e1]; rfl, h2.os, h2.tape, h2.output, h2.size, fun k hk => h2.block k hk (by simp)⟩⟩
theorem wpList_appT {ops : Array Oper} {rest : List Oper} {o : Oper} {a : Act} {w : World} {Q : Exit → Act → World → Prop} (hgd : o.guard = none) (s x : Operand)
    (ho : o.op = .call { callee := .builtin .append, args := #[s, x], argTypes := #[35, 35] }) (v : Value) (l : List Int) (g1 : Nat) (m : Int)
    (hs : a.eval s = v) (hx : a.eval x = .slice (some ⟨g1, 0, none⟩) 1 1) (hown : OwnT w v l) (hc : w.cell? ⟨g1, 0, none⟩ = some (.int .u8 m)) (hb : l.length + 1 ≤ 140737488355328)
    (h : ∀ v' w', AppPostT w v (l ++ [m]) v' w' → wpList Try.prog ops Q rest (a.put o.dst v') w') : wpList Try.prog ops Q (o :: rest) a w := by
  refine wpList_plain hgd fun K hK => ?_
  obtain ⟨v', w', hr, h2⟩ := run_app_one w o.type v l hown g1 m hc hb
  unfold Oper.wp execOp
  simp only [ho, resolve, invoke, builtin, Sem.run_bind, Sem.run_pure, Result.andThen_ok, List.map_toArray, List.map_cons, List.map_nil, hs, hx, hr]
  exact hK _ _ (h v' w' h2)
theorem cell_one (w : World) (x : Value) (t : TypeId) : (w.alloc (.cells #[x] t)).cell? ⟨w.heap.size, 0, none⟩ = some x := by rw [(Blk.new w t #[x]).cell]; rfl
theorem conv_bytes (w : World) (s : ByteArray) (hb : s.size ≤ 140737488355328) : ∃ v w', (convert 9 35 (.string s)).run Try.prog w = .ok v w' ∧ OwnT w' v (lst s) ∧ v.ownBlock = some w.heap.size ∧ Below w.heap.size w w' := by
  have hr := Lib.run_convert_string_bytes (P := Try.prog) w 9 35 5 s Try.underlying9 Try.underlying35 Try.underlying5
  refine ⟨_, _, hr, ?_, rfl, ⟨rfl, rfl, rfl, ?_, fun k hk => Lib.bytesWorld_at_old w 5 s k hk⟩⟩
  · have hge := grownCap_ge w s.size 0 5
    have hcs : (Lib.bytesCells w 5 s).size = grownCap w s.size 0 5 := by
      have : s.data.size = s.size := rfl
      simp [Lib.bytesCells]; omega
    refine .inr ⟨w.heap.size, grownCap w s.size 0 5, _, _, by rw [lst_len], Lib.bytesWorld_at_new w 5 s, .inr (by rw [hcs]; exact Nat.le_refl _), by rw [lst_len]; exact hge, grownCap_le_maxLen w _ _ _ (by unfold maxLen; omega), hcs, ?_⟩
    rw [lst_len, ← lst_cells]
    simp only [Lib.bytesCells, Array.toList_append, Lib.strCells]
    rw [List.take_append_of_le_length (by simp), List.take_of_length_le (by simp)]
    simp
  · rw [Lib.bytesWorld_size]; omega
/-! Book -/
theorem Try.info35 : (Try.prog.info? 35).map (fun i => (i.zero, i.size, i.bytes)) = some (some (.slice none 0 0), 1, 24) := by kernel_rfl
def OwnV (w : World) (v : Value) (xs : List Value) : Prop := w.ownsRow 0 35 1 v xs.length xs
theorem ownV_nil (w : World) : OwnV w (.slice none 0 0) [] := ⟨rfl, .inl ⟨rfl, rfl⟩⟩
theorem OwnV.lt {w : World} {v : Value} {xs : List Value} (h : OwnV w v xs) : ∀ k, v.ownBlock = some k → k < w.heap.size := fun k hk => (World.ownsRow.lt h k hk).2
theorem OwnV.grown {w w' : World} {v : Value} {xs : List Value} {S : Nat → Prop} (h : OwnV w v xs) (hg : Grown w w' S) (hs : ∀ k, v.ownBlock = some k → ¬ S k) : OwnV w' v xs := by
  refine ⟨h.1, ?_⟩
  rcases h.2 with h1 | ⟨g, cap, cur, rfl, h2, h3, h4⟩
  · exact .inl h1
  · exact .inr ⟨g, cap, cur, rfl, h2, hg.blk h3 (hs g rfl), h4⟩
theorem OwnV.ne {w : World} {v : Value} {xs : List Value} {p : Nat} {T : TypeId} {cs : Array Value} (h : OwnV w v xs) (hp : Blk w p T cs) (hT : T ≠ 35) : v.ownBlock ≠ some p := by
  intro e
  rcases h.2 with ⟨rfl, _⟩ | ⟨g, cap, cur, rfl, _, h3, _⟩
  · simp [Value.ownBlock] at e
  · simp [Value.ownBlock] at e
    subst e
    exact hT (blk_type hp h3)
theorem OwnV.sl {w : World} {v : Value} {xs : List Value} (h : OwnV w v xs) : ∃ a c, v = .slice a xs.length c := by
  rcases h.2 with ⟨rfl, h0⟩ | ⟨g, cap, cur, rfl, _⟩
  · exact ⟨none, 0, by rw [h0]⟩
  · exact ⟨_, _, rfl⟩
theorem OwnV.at {w : World} {v : Value} {xs : List Value} (h : OwnV w v xs) (i : Nat) (hi : i < xs.length) : ∃ g c, v = .slice (some ⟨g, 0, none⟩) xs.length c ∧ w.cell? ⟨g, i, none⟩ = xs[i]? := by
  rcases h.2 with ⟨rfl, h0⟩ | ⟨g, cap, cur, rfl, _⟩
  · omega
  · exact ⟨g, cap, rfl, World.ownsRow.cellAt h i (by omega)⟩
theorem wpList_appV {ops : Array Oper} {rest : List Oper} {o : Oper} {a : Act} {w : World} {Q : Exit → Act → World → Prop} (hgd : o.guard = none) (s x : Operand)
    (ho : o.op = .call { callee := .builtin .append, args := #[s, x], argTypes := #[39, 39] }) (v u : Value) (xs : List Value) (g : Nat) (hu : u.oneCell' = true)
    (hs : a.eval s = v) (hx : a.eval x = .slice (some ⟨g, 0, none⟩) 1 1) (hown : OwnV w v xs) (hc : w.cell? ⟨g, 0, none⟩ = some u) (hb : xs.length + 1 ≤ 4398046511104)
    (h : ∀ v' w', OwnV w' v' (xs ++ [u]) → Moved w v v' → (Grown w w' fun k => v.ownBlock = some k) → wpList Try.prog ops Q rest (a.put o.dst v') w') : wpList Try.prog ops Q (o :: rest) a w := by
  obtain ⟨i, hi, hzz⟩ := Option.map_eq_some_iff.1 Try.info35
  simp only [Prod.mk.injEq] at hzz
  obtain ⟨hz, hsz, hby⟩ := hzz
  refine wpList_append_own_at w hgd s x 39 ho 0 35 i (.slice none 0 0) 1 24 Try.underlying39 hi hz hsz hby rfl (by omega) v xs.length xs hs hown ⟨g, 0, none⟩ 1 1 [u] hx rfl
    (fun j y hy => by
      cases j with
      | zero => simp at hy; subst hy; exact hc
      | succ j => simp at hy)
    (fun y hy => by simp at hy; subst hy; exact hu) (by unfold maxLen; omega) (by omega) (Nat.zero_le _) ?_
  intro v' w' h1 h2 _ h4
  refine h v' w' ?_ ?_ (Grown.of h2 fun k _ e => e)
  · unfold OwnV; rw [List.length_append]; exact h1
  · rcases h4 with h4 | h4
    · exact .inl h4
    · exact .inr ⟨_, h4, Nat.le_refl _⟩
/-! BookB -/
def updN {α : Type} (f : Nat → α) (k : Nat) (x : α) : Nat → α := fun i => if i = k then x else f i
theorem updN_self {α : Type} (f : Nat → α) (k : Nat) (x : α) : updN f k x k = x := by simp [updN]
theorem updN_ne {α : Type} (f : Nat → α) {k i : Nat} (x : α) (h : i ≠ k) : updN f k x i = f i := by simp [updN, h]
theorem range_upd {α : Type} (f : Nat → α) (N : Nat) (x : α) : (List.range (N + 1)).map (updN f N x) = (List.range N).map f ++ [x] := by
  rw [List.range_succ, List.map_append]
  congr 1
  · apply List.map_congr_left
    intro i hi
    rw [updN_ne]
    have := List.mem_range.1 hi
    omega
  · simp [updN_self]
theorem OwnV.sl3 {w : World} {v : Value} {xs : List Value} (h : OwnV w v xs) : ∃ a n c, v = .slice a n c := by
  obtain ⟨a, c, e⟩ := h.sl
  exact ⟨a, _, c, e⟩
theorem OwnV.typ {w : World} {v : Value} {xs : List Value} (h : OwnV w v xs) {k : Nat} (hk : v.ownBlock = some k) : Typ w k 35 := by
  rcases h.2 with ⟨rfl, _⟩ | ⟨g, cap, cur, rfl, _, h3, _⟩
  · simp [Value.ownBlock] at hk
  · simp [Value.ownBlock] at hk
    subst hk
    exact ⟨cur, _, h3⟩
/-! InE -/
theorem results_cell_row2 {P : Program} {fn : Func} {p u : Tmp} {ty : TypeId} (h : fn.results = #[.cell p ty, .tmp u]) (tmps : Array Value) (w : World) (g : Nat) (t : TypeId) (cs : Array Value) (fr : Nat × Nat) (d : TypeDesc) (y : Value)
    (hp : tmps.getD p undef = .pointer (some ⟨g, 0, none⟩)) (hy : tmps.getD u undef = y) (hg : w.heap[g]? = some (.cells cs t fr))
    (hu : P.underlying ty = some d) (hd : (match d with | .struct _ | .array _ _ => true | _ => false) = true) (hi : (P.info? ty).map (·.size) = some cs.size) :
    (results fn tmps).run P w = .ok (.tuple #[.agg cs, y]) w := by
  rw [results_cell_tmp h, hp, hy]
  simp [asAddr, Result.andThen, run_loadVar_row w g t ty cs fr d hg hu hd hi]
theorem run_copyS (w : World) (g : Nat) (T ty : TypeId) (st : ByteArray) (n : Nat) (cur : Array Value) (hg : Blk w g T cur) (hs : cur.size = n) (hn : st.size = n ∨ st.size = 0) :
    (Builtin.copy_ #[35, 9] ty #[.slice (some ⟨g, 0, none⟩) n n, .string st]).run Try.prog w = .ok (goInt st.size) (w.setRow g ((bv (lst st)) ++ cur.toList.drop st.size).toArray) := by
  have hst := run_storeCells_at Try.prog g 0 T (bv (lst st)) 0 cur w hg (by rw [bv_len, lst_len]; omega) (bv_one _)
  have hcur : (cur.toList.take (0 + 0) ++ bv (lst st) ++ cur.toList.drop (0 + 0 + (bv (lst st)).length)).toArray = ((bv (lst st)) ++ cur.toList.drop st.size).toArray := by
    rw [bv_len, lst_len]; simp
  rw [hcur] at hst
  obtain ⟨i, hi, hzz⟩ := Option.map_eq_some_iff.1 Try.info5
  simp only [Prod.mk.injEq] at hzz
  obtain ⟨_, hsz, _⟩ := hzz
  have hf := Lib.run_firstCells_string (P := Try.prog) w 1 st
  rw [lst_cells] at hf
  have hmin : Nat.min st.size n = st.size := by rcases hn with h | h <;> simp [h]
  simp [Builtin.copy_, run_underlying Try.underlying35, Builtin.lenOf, sizeOf, typeInfo, hi, hsz, hmin, hf, hst]
/-! Back -/
theorem Try.isAgg5 (w : World) : (isAgg 5).run Try.prog w = .ok false w := by kernel_rfl
theorem Try.cells5 : Try.prog.cellsOf 5 = 1 := by kernel_rfl
theorem Try.size5 : (Try.prog.info? 5).map (·.size) = some 1 := by kernel_rfl
theorem run_part5 (c : Nat → Int) (i : Nat) (hi : i < 32) (w : World) : (part 5 (bytesA 32 c) i).run Try.prog w = .ok (.int .u8 (c i)) w := by
  unfold part
  rw [Sem.run_bind, Try.isAgg5]
  simp [Result.andThen, bytesA_get 32 c i hi]
theorem run_items (c : Nat → Int) (d : Nat) (w : World) : ∀ is : List Nat, (∀ i ∈ is, i < 32) → (Op.eqItems (d + 1) 5 1 (bytesA 32 c) (bytesA 32 c) is).run Try.prog w = .ok true w
  | [], _ => by simp [Op.eqItems]
  | i :: is, h => by
    have hi := h i (by simp)
    have ih := run_items c d w is (fun j hj => h j (by simp [hj]))
    simp only [Op.eqItems, Sem.run_bind, Nat.mul_one, run_part5 c i hi, Result.andThen_ok]
    rw [run_equalIn_int (P := Try.prog) (w := w) d 5 .u8 .u8 (c i) (c i) Try.underlying5]
    simp [Result.andThen_ok, ih]
theorem run_eql_arr (c : Nat → Int) (w : World) : (binOp .eql 27 (.agg (bytesA 32 c)) (.agg (bytesA 32 c))).run Try.prog w = .ok (.bool true) w := by
  obtain ⟨i, hi, _⟩ := Option.map_eq_some_iff.1 Try.size5
  rw [run_eql_struct, run_equalIn_array (P := Try.prog) w 9999 _ _ Try.underlying27 hi, Try.cells5, run_items c 9998 w _ (fun j hj => List.mem_range.1 hj)]
  rfl
theorem run_callF {P : Program} (a : Act) (o : Oper) (f : FuncId) (args : Array Operand) (ts : Array TypeId) (ho : o.op = .call { callee := .value (.func f), args := args, argTypes := ts })
    (hf : ∀ (w : World) (vs : Array Value), (callFunc f vs).run P w = .ok (.enter f vs) w) (w : World) :
    (execOp a.eval o).run P w = .ok (.enter f (args.map a.eval)) w := by
  unfold execOp
  simp only [ho]
  simp [resolve, Act.eval, go_sem]
  exact hf w _
theorem wp_callF {P : Program} {Q : Exit → Act → World → Prop} {o : Oper} {a : Act} {w : World} {K : Act → World → Prop} (f : FuncId) (args : Array Operand) (ts : Array TypeId) (ho : o.op = .call { callee := .value (.func f), args := args, argTypes := ts })
    (hf : ∀ (w : World) (vs : Array Value), (callFunc f vs).run P w = .ok (.enter f vs) w)
    (vs : Array Value) (hvs : args.map a.eval = vs)
    (R : Value → World → Prop) (hc : Calls P f vs w fun e w' => ∃ v, e = .returned v ∧ R v w')
    (h : ∀ v w', R v w' → K (a.put o.dst v) w') : o.wp P a w K Q := by
  unfold Oper.wp
  rw [run_callF a o f args ts ho hf w, Oper.upon_enter, hvs]
  refine hc.mono ?_
  rintro e w' ⟨v, rfl, hr⟩
  exact h v w' hr
theorem blk_range {w : World} {b : Nat} {T : TypeId} {cs : Array Value} (h : Blk w b T cs) : w.rangeAt b 0 cs.toList := fun j v hv => by
  rw [Nat.zero_add, h.cell]; simpa using hv
/-! One -/
theorem wp_val {P : Program} {Q : Exit → Act → World → Prop} {o : Oper} {a : Act} {w : World} {K : Act → World → Prop} (v : Value) (hrun : (execOp a.eval o).run P w = .ok (.value v) w) (h : K (a.put o.dst v) w) : o.wp P a w K Q := by
  unfold Oper.wp
  rw [hrun]
  exact h
theorem Try.elem36 : Try.prog.elem 35 = 5 := by kernel_rfl
theorem Try.sizeOf5 (w : World) : (sizeOf 5).run Try.prog w = .ok 1 w := by kernel_rfl
theorem yieldsIf_slice {P : Program} {ops : Array Oper} {S : World → Prop} {op : Oper} {a : Act} (hw : Region.wanted op (yielded ops a.tmps) = true) (t : TypeId) (x hi : Operand) (ho : op.op = .slice t x none (some hi) none)
    (vx vh vs : Value) (hx : a.eval x = vx) (hh : a.eval hi = vh) (hr : ∀ w : World, (Instr.sliceAt t vx none (some vh) none).run P w = .ok vs w) : YieldsIf P ops S op vs a :=
  .inl ⟨hw, fun w _ => by
    unfold execOp
    simp only [ho, hx, hh, Option.map_some, Option.map_none, Sem.run_bind, hr w, Result.andThen_ok, Sem.run_pure]⟩
theorem sl_run (base : Option Addr) (n cap a : Nat) (ha : a ≤ cap) (wx : World) : (Instr.sliceAt 35 (.slice base n cap) none (some (.int .i64 (a : Int))) none).run Try.prog wx = .ok (.slice base a cap) wx := by
  have hu : Try.prog.underlying 35 = some (.slice (Try.prog.elem 35)) := by rw [Try.elem36]; exact Try.underlying35
  have h1 := run_slice_h (P := Try.prog) (w := wx) 35 base n cap hu .i64 (a : Int) (by omega) (by omega)
  have h2 := run_sliceAt_slice (P := Try.prog) (w := wx) 35 (.slice base n cap) none (some (.int .i64 (a : Int))) none hu
  rw [Try.elem36] at h1
  have h3 : sliced base 0 (a : Int).toNat cap 1 = .slice base a cap := by
    have h4 : (if cap = 0 then base else base.map (·.add (0 * 1))) = base := by
      split
      · rfl
      · cases base <;> rfl
    unfold sliced
    rw [h4, Int.toNat_natCast, Nat.sub_zero, Nat.sub_zero]
  rw [h2, h1]
  refine (congrArg (fun z => Result.andThen z fun s w => Result.ok (sliced base 0 (a : Int).toNat cap s) w) (Try.sizeOf5 wx)).trans ?_
  show Result.ok (sliced base 0 (a : Int).toNat cap 1) wx = _
  rw [h3]
theorem sub_any (vb : Value) (lb : List Int) (w : World) (hr : RowAt w vb lb) (a : Nat) (ha : a ≤ lb.length) :
    ∃ vs, (∀ wx : World, (Instr.sliceAt 35 vb none (some (.int .i64 (a : Int))) none).run Try.prog wx = .ok vs wx) ∧ ∀ wx, RowAt wx vb lb → RowAt wx vs (lb.take a) := by
  rcases hr with ⟨rfl, rfl⟩ | ⟨ad, c, rfl, rfl⟩ | ⟨h, off, cap, rfl, hc, _⟩
  · obtain rfl : a = 0 := by simpa using ha
    exact ⟨_, sl_run none 0 0 0 (by omega), fun wx h => by simpa using h⟩
  · obtain rfl : a = 0 := by simpa using ha
    exact ⟨_, sl_run (some ad) 0 c 0 (by omega), fun wx h => by simpa using h⟩
  · refine ⟨_, sl_run (some ⟨h, off, none⟩) lb.length cap a (by omega), fun wx hx => ?_⟩
    rcases hx with ⟨e, _⟩ | ⟨ad, c, e, rfl⟩ | ⟨h', off', cap', e, _, h3⟩
    · cases e
    · obtain rfl : a = 0 := by simpa using ha
      exact .inr (.inl ⟨_, _, rfl, by simp⟩)
    · injection e with e1 e2 e3
      injection e1 with e1
      injection e1 with e1 e4
      subst e1 e3 e4
      have hl : (lb.take a).length = a := by rw [List.length_take]; omega
      refine .inr (.inr ⟨h, off, cap, by rw [hl], by omega, fun i hi => ?_⟩)
      rw [hl] at hi
      rw [h3 i (by omega)]
      simp [List.getD_eq_getElem?_getD, hi]
/-! RdA -/
theorem results_cell1_row {P : Program} {fn : Func} {p : Tmp} {ty : TypeId} (h : fn.results = #[.cell p ty]) (tmps : Array Value) (w : World) (g : Nat) (t : TypeId) (cs : Array Value) (fr : Nat × Nat) (d : TypeDesc)
    (hp : tmps.getD p undef = .pointer (some ⟨g, 0, none⟩)) (hg : w.heap[g]? = some (.cells cs t fr))
    (hu : P.underlying ty = some d) (hd : (match d with | .struct _ | .array _ _ => true | _ => false) = true) (hi : (P.info? ty).map (·.size) = some cs.size) :
    (results fn tmps).run P w = .ok (.agg cs) w := by
  have hr := run_loadVar_row (P := P) w g t ty cs fr d hg hu hd hi
  simp only [results, h]
  simp only [Array.getD_eq_getD_getElem?] at hp
  simp [asAddr, hp, hr]
theorem results_tmp_cell_row {P : Program} {fn : Func} {p u : Tmp} {ty : TypeId} (h : fn.results = #[.tmp u, .cell p ty]) (tmps : Array Value) (w : World) (g : Nat) (t : TypeId) (cs : Array Value) (fr : Nat × Nat) (d : TypeDesc) (y : Value)
    (hp : tmps.getD p undef = .pointer (some ⟨g, 0, none⟩)) (hy : tmps.getD u undef = y) (hg : w.heap[g]? = some (.cells cs t fr))
    (hu : P.underlying ty = some d) (hd : (match d with | .struct _ | .array _ _ => true | _ => false) = true) (hi : (P.info? ty).map (·.size) = some cs.size) :
    (results fn tmps).run P w = .ok (.tuple #[y, .agg cs]) w := by
  have hr := run_loadVar_row (P := P) w g t ty cs fr d hg hu hd hi
  simp only [results, h]
  simp only [Array.getD_eq_getD_getElem?] at hp hy
  simp [Result.andThen, asAddr, hp, hy, hr]
theorem results_cell_cell_row {P : Program} {fn : Func} {p p' : Tmp} {ty ty' : TypeId} (h : fn.results = #[.cell p ty, .cell p' ty']) (tmps : Array Value) (w : World) (g g' : Nat) (t t' : TypeId) (cs cs' : Array Value) (fr fr' : Nat × Nat) (d d' : TypeDesc)
    (hp : tmps.getD p undef = .pointer (some ⟨g, 0, none⟩)) (hp' : tmps.getD p' undef = .pointer (some ⟨g', 0, none⟩)) (hg : w.heap[g]? = some (.cells cs t fr)) (hg' : w.heap[g']? = some (.cells cs' t' fr'))
    (hu : P.underlying ty = some d) (hd : (match d with | .struct _ | .array _ _ => true | _ => false) = true) (hi : (P.info? ty).map (·.size) = some cs.size)
    (hu' : P.underlying ty' = some d') (hd' : (match d' with | .struct _ | .array _ _ => true | _ => false) = true) (hi' : (P.info? ty').map (·.size) = some cs'.size) :
    (results fn tmps).run P w = .ok (.tuple #[.agg cs, .agg cs']) w := by
  have hr := run_loadVar_row (P := P) w g t ty cs fr d hg hu hd hi
  have hr' := run_loadVar_row (P := P) w g' t' ty' cs' fr' d' hg' hu' hd' hi'
  simp only [results, h]
  simp only [Array.getD_eq_getD_getElem?] at hp hp'
  simp [Result.andThen, asAddr, hp, hp', hr, hr']
theorem below_two {B : Nat} {w w1 : World} (h : Below B w w1) {g : Nat} (hg : B ≤ g) (u v : Value) : Below B w ((w1.setCell ⟨g, 0, none⟩ u).setCell ⟨g, 1, none⟩ v) := (h.setCell hg _).setCell hg _
/-! RdC -/
theorem own_empty (w : World) (g : Nat) (h : Blk w g 5 #[]) : Own w (.slice (some ⟨g, 0, none⟩) 0 0) [] := Own.mk (l := []) h (Nat.le_refl _) (Nat.zero_le _) rfl (by simp [bv])
theorem wp_app {Q : Exit → Act → World → Prop} {o : Oper} {a : Act} {w : World} {K : Act → World → Prop} (s x : Operand)
    (ho : o.op = .call { callee := .builtin .append, args := #[s, x], argTypes := #[35, 35] }) (v vx : Value) (l m : List Int)
    (hs : a.eval s = v) (hx : a.eval x = vx) (hown : Own w v l) (hrow : RowAt w vx m) (hb : l.length + m.length ≤ 140737488355328)
    (h : ∀ v' w', AppPost w v (l ++ m) v' w' → K (a.put o.dst v') w') : o.wp Try.prog a w K Q := by
  obtain ⟨v', w', hr, h2⟩ := run_app_row w o.type v vx l m hown hrow hb
  unfold Oper.wp execOp
  simp only [ho, resolve, invoke, builtin, Sem.run_bind, Sem.run_pure, Result.andThen_ok, List.map_toArray, List.map_cons, List.map_nil, hs, hx, hr]
  exact h v' w' h2
theorem yieldsIf_slice2 {P : Program} {ops : Array Oper} {S : World → Prop} {op : Oper} {a : Act} (hw : Region.wanted op (yielded ops a.tmps) = true) (t : TypeId) (x lo hi : Operand) (ho : op.op = .slice t x (some lo) (some hi) none)
    (vx vl vh vs : Value) (hx : a.eval x = vx) (hl : a.eval lo = vl) (hh : a.eval hi = vh) (hr : ∀ w : World, (Instr.sliceAt t vx (some vl) (some vh) none).run P w = .ok vs w) : YieldsIf P ops S op vs a :=
  .inl ⟨hw, fun w _ => by
    unfold execOp
    simp only [ho, hx, hl, hh, Option.map_some, Option.map_none, Sem.run_bind, hr w, Result.andThen_ok, Sem.run_pure]⟩
theorem sl_run2 (base : Option Addr) (n cap a b : Nat) (hab : a ≤ b) (hb : b ≤ cap) (wx : World) : (Instr.sliceAt 35 (.slice base n cap) (some (.int .i64 (a : Int))) (some (.int .i64 (b : Int))) none).run Try.prog wx = .ok (sliced base a b cap 1) wx := by
  have hu : Try.prog.underlying 35 = some (.slice (Try.prog.elem 35)) := by rw [Try.elem36]; exact Try.underlying35
  have h1 := run_slice_lh (P := Try.prog) (w := wx) 35 base n cap hu .i64 .i64 (a : Int) (b : Int) (by omega) (by omega) (by omega)
  have h2 := run_sliceAt_slice (P := Try.prog) (w := wx) 35 (.slice base n cap) (some (.int .i64 (a : Int))) (some (.int .i64 (b : Int))) none hu
  rw [Try.elem36] at h1
  rw [h2, h1]
  refine (congrArg (fun z => Result.andThen z fun s w => Result.ok (sliced base (a : Int).toNat (b : Int).toNat cap s) w) (Try.sizeOf5 wx)).trans ?_
  show Result.ok (sliced base (a : Int).toNat (b : Int).toNat cap 1) wx = _
  rw [Int.toNat_natCast, Int.toNat_natCast]
theorem mid_any (vb : Value) (lb : List Int) (w : World) (hr : RowAt w vb lb) (a M : Nat) (ha : a + M ≤ lb.length) :
    ∃ vs, (∀ wx : World, (Instr.sliceAt 35 vb (some (.int .i64 (a : Int))) (some (.int .i64 ((a : Int) + (M : Int)))) none).run Try.prog wx = .ok vs wx) ∧ ∀ wx, RowAt wx vb lb → RowAt wx vs ((lb.drop a).take M) := by
  have e : ((a : Int) + (M : Int)) = ((a + M : Nat) : Int) := by omega
  rw [e]
  have hl : ((lb.drop a).take M).length = M := by rw [List.length_take, List.length_drop]; omega
  rcases hr with ⟨rfl, rfl⟩ | ⟨ad, c, rfl, rfl⟩ | ⟨h, off, cap, rfl, hc, _⟩
  · obtain rfl : a = 0 := by simp at ha; omega
    obtain rfl : M = 0 := by simp at ha; omega
    exact ⟨_, sl_run2 none 0 0 0 0 (by omega) (by omega), fun wx h => .inl ⟨rfl, by simp⟩⟩
  · obtain rfl : a = 0 := by simp at ha; omega
    obtain rfl : M = 0 := by simp at ha; omega
    refine ⟨_, sl_run2 (some ad) 0 c 0 0 (by omega) (by omega), fun wx h => .inr (.inl ?_)⟩
    unfold sliced
    split
    · exact ⟨_, _, rfl, by simp⟩
    · exact ⟨_, _, rfl, by simp⟩
  · refine ⟨_, sl_run2 (some ⟨h, off, none⟩) lb.length cap a (a + M) (by omega) (by omega), fun wx hx => ?_⟩
    unfold sliced
    by_cases hca : cap = a
    · obtain rfl : M = 0 := by omega
      rw [if_pos hca]
      exact .inr (.inl ⟨_, _, by rw [Nat.add_zero, Nat.sub_self], by simp⟩)
    · rw [if_neg hca]
      rcases hx with ⟨e, _⟩ | ⟨ad, c, e, h0⟩ | ⟨h', off', cap', e, _, h3⟩
      · cases e
      · injection e with e1 e2
        obtain rfl : M = 0 := by omega
        exact .inr (.inl ⟨_, _, by rw [Nat.add_zero, Nat.sub_self]; rfl, by simp⟩)
      · injection e with e1 e2 e3
        injection e1 with e1
        injection e1 with e1 e4
        subst e1 e3 e4
        refine .inr (.inr ⟨h, off + a, cap - a, ?_, by omega, fun i hi => ?_⟩)
        · rw [hl, show a + M - a = M by omega]
          show Value.slice (some (Addr.add ⟨h, off, none⟩ (a * 1))) M (cap - a) = _
          rw [Nat.mul_one]
          cases a <;> rfl
        · rw [hl] at hi
          rw [Nat.add_assoc, h3 (a + i) (by omega)]
          simp [List.getD_eq_getElem?_getD, hi]
theorem row_two {w : World} {g : Nat} {v : Value} {l : List Int} (h : RowAt w v l) (hg : v.ownBlock ≠ some g) (a b : Value) : RowAt ((w.setCell ⟨g, 0, none⟩ a).setCell ⟨g, 1, none⟩ b) v l :=
  (h.grown (Grown.setCell w g 0 a (S := fun k => k = g) fun _ => rfl) (fun k hk _ e => hg (by rw [hk, e]))).grown (Grown.setCell _ g 1 b (S := fun k => k = g) fun _ => rfl) (fun k hk _ e => hg (by rw [hk, e]))
end Go.Proofs.Ytfheinghkigocaa
namespace Go.Proofs.Ytfheinghkigocaa
open Go.RowKit

/-- Fewer bytes copied to the head of more, from a place on. -/
theorem run_copyG (w : World) (g o N cap : Nat) (v : Value) (m : List Int) (ty T : TypeId) (cur : Array Value) (hg : Blk w g T cur) (hN : m.length ≤ N) (hs : o + m.length ≤ cur.size) (hr : RowAt w v m) :
    (Builtin.copy_ #[35, 35] ty #[.slice (some ⟨g, o, none⟩) N cap, v]).run Try.prog w = .ok (goInt m.length) (w.setRow g (cur.toList.take o ++ bv m ++ cur.toList.drop (o + m.length)).toArray) := by
  have hst := run_storeCells_at Try.prog g o T (bv m) 0 cur w hg (by rw [bv_len]; omega) (bv_one m)
  rw [bv_len, Nat.add_zero] at hst
  have hmin : Nat.min m.length N = m.length := Nat.min_eq_left hN
  obtain ⟨i, hi, hzz⟩ := Option.map_eq_some_iff.1 Try.info5
  simp only [Prod.mk.injEq] at hzz
  obtain ⟨_, hsz, _⟩ := hzz
  rcases hr with ⟨rfl, rfl⟩ | ⟨ad, c, rfl, rfl⟩ | ⟨b, off, cap2, rfl, _, hc⟩
  · simp only [bv, List.map_nil, List.length_nil] at hst ⊢
    simp [Builtin.copy_, run_underlying Try.underlying35, Builtin.lenOf, Builtin.firstCells, sizeOf, typeInfo, hi, hst]
  · simp only [bv, List.map_nil, List.length_nil] at hst ⊢
    simp [Builtin.copy_, run_underlying Try.underlying35, Builtin.lenOf, Builtin.firstCells, sizeOf, typeInfo, hi, loadCells, loadCellsFrom, hst]
  · have hl := run_loadCells_list (P := Try.prog) w ⟨b, off, none⟩ (bv m) (fun j v hv => by
      have hj : j < m.length := by have := (List.getElem?_eq_some_iff.1 hv).1; rwa [bv_len] at this
      rw [bv_get m j hj] at hv
      rw [Addr.add_mid, hc j hj]; exact hv)
    rw [bv_len] at hl
    simp [Builtin.copy_, run_underlying Try.underlying35, Builtin.lenOf, Builtin.firstCells, sizeOf, typeInfo, hi, hsz, hmin, hl, hst]
theorem wpList_copyG {ops : Array Oper} {rest : List Oper} {op : Oper} {a : Act} {w : World} {Q : Exit → Act → World → Prop} (hgd : op.guard = none) (d s : Operand)
    (ho : op.op = .call { callee := .builtin .copy, args := #[d, s], argTypes := #[35, 35] }) (g o N cap : Nat) (v : Value) (m : List Int) (T : TypeId) (cur : Array Value)
    (hd : a.eval d = .slice (some ⟨g, o, none⟩) N cap) (hs : a.eval s = v) (hg : Blk w g T cur) (hN : m.length ≤ N) (hsz : o + m.length ≤ cur.size) (hr : RowAt w v m)
    (h : wpList Try.prog ops Q rest (a.put op.dst (goInt m.length)) (w.setRow g (cur.toList.take o ++ bv m ++ cur.toList.drop (o + m.length)).toArray)) : wpList Try.prog ops Q (op :: rest) a w := by
  refine wpList_plain hgd fun K hK => ?_
  have hrun := run_copyG w g o N cap v m op.type T cur hg hN hsz hr
  unfold Oper.wp
  simp only [execOp, ho, resolve, invoke, builtin, List.map_toArray, List.map_cons, List.map_nil, hd, hs, Sem.run_bind, Sem.run_pure, hrun, Result.andThen_ok]
  exact hK _ _ h
theorem Own.cells {w : World} {g n cap : Nat} {l : List Int} (h : Own w (.slice (some ⟨g, 0, none⟩) n cap) l) (t : Nat) (ht : t < l.length) : w.cell? ⟨g, t, none⟩ = some (.int .u8 (l.getD t 0)) ∧ w.frozen? ⟨g, t, none⟩ = false := h.tail.cells t ht
theorem Own.set {w : World} {g n cap : Nat} {l : List Int} (h : Own w (.slice (some ⟨g, 0, none⟩) n cap) l) (t : Nat) (c : Int) : Own (w.setCell ⟨g, t, none⟩ (.int .u8 c)) (.slice (some ⟨g, 0, none⟩) n cap) (l.set t c) := by
  rcases h.form with ⟨e, _⟩ | ⟨g', cap', cur, e, hb, h3, h4, h5, h6⟩
  · cases e
  · injection e with e1 e2 e3
    injection e1 with e1
    injection e1 with e1
    subst e1 e2 e3
    have hm := Own.mk (l := l.set t c) (hb.set t (.int .u8 c)) (by rw [List.length_set]; exact h3) h4 (by simp [h5]) (by rw [Array.toList_setIfInBounds, List.length_set, List.take_set, h6, bv_set])
    rw [List.length_set] at hm
    exact hm
end Go.Proofs.Ytfheinghkigocaa
namespace Go.Proofs.Ytfheinghkigocaa
open Go.RowKit

theorem wpList_wanted {P : Program} {ops : Array Oper} {rest : List Oper} {o : Oper} {a : Act} {w : World} {Q : Exit → Act → World → Prop} (hw : Region.wanted o (yielded ops a.tmps) = true)
    (h : ∀ K : Act → World → Prop, (∀ a w, wpList P ops Q rest a w → K a w) → o.wp P a w K Q) : wpList P ops Q (o :: rest) a w :=
  wpList_step fun K hK => by rw [if_pos hw]; exact h K hK
theorem wpList_load_midG {P : Program} {ops : Array Oper} {rest : List Oper} {op : Oper} {a : Act} {w : World} {Q : Exit → Act → World → Prop} (hw : Region.wanted op (yielded ops a.tmps) = true) (ty : TypeId) (x : Operand) (ho : op.op = .load ty x)
    (b o : Nat) (hx : a.eval x = .pointer (some ⟨b, o, none⟩)) (cs : List Value) (d : TypeDesc) (hc : w.rangeAt b o cs)
    (hu : P.underlying ty = some d) (hd : d.isRow = true) (hi : (P.info? ty).map (·.size) = some cs.length)
    (h : wpList P ops Q rest (a.put op.dst (.agg cs.toArray)) w) : wpList P ops Q (op :: rest) a w :=
  wpList_wanted hw fun _ hK => wp_load_mid ty x ho b o hx cs d hc hu hd hi (hK _ _ h)

theorem wp_bldG {P : Program} {o : Oper} {a : Act} {w : World} {K : Act → World → Prop} {Q : Exit → Act → World → Prop} (t : TypeId) (parts : Array (Nat × Operand)) (ho : o.op = .build t parts)
    (cells : Array Value) (hf : P.built t (parts.map fun (i, x) => (i, a.eval x)).toList = some cells) (h : K (a.put o.dst (.agg cells)) w) : o.wp P a w K Q :=
  wp_build t parts ho (by rw [hf]; rfl) (by rw [hf]; exact h)

/-- A list of operations yet to do, kept from every look behind its name. -/
structure WL (P : Program) (ops : Array Oper) (Q : Exit → Act → World → Prop) (l : List Oper) (a : Act) (w : World) : Prop where
  out : wpList P ops Q l a w
theorem WL.skip {P : Program} {ops : Array Oper} {rest : List Oper} {o : Oper} {a : Act} {w : World} {Q : Exit → Act → World → Prop} (hw : Region.wanted o (yielded ops a.tmps) = false)
    (h : WL P ops Q rest (a.put o.dst undef) w) : WL P ops Q (o :: rest) a w :=
  ⟨wpList_step fun K hK => by rw [if_neg (by rw [hw]; simp)]; exact hK _ _ h.out⟩
theorem WL.val {P : Program} {ops : Array Oper} {rest : List Oper} {o : Oper} {a : Act} {w : World} {Q : Exit → Act → World → Prop} (hw : Region.wanted o (yielded ops a.tmps) = true) (v : Value)
    (hrun : (execOp a.eval o).run P w = .ok (.value v) w) (h : WL P ops Q rest (a.put o.dst v) w) : WL P ops Q (o :: rest) a w :=
  ⟨wpList_wanted hw fun _ hK => wp_val v hrun (hK _ _ h.out)⟩
theorem WL.nil {P : Program} {ops : Array Oper} {a : Act} {w : World} {Q : Exit → Act → World → Prop} (h : Q .normal a w) : WL P ops Q [] a w := ⟨h⟩
theorem WL.mid {P : Program} {ops : Array Oper} {rest : List Oper} {op : Oper} {a : Act} {w : World} {Q : Exit → Act → World → Prop} (hw : Region.wanted op (yielded ops a.tmps) = true) (ty : TypeId) (x : Operand) (ho : op.op = .load ty x)
    (b o : Nat) (hx : a.eval x = .pointer (some ⟨b, o, none⟩)) (cs : List Value) (d : TypeDesc) (hc : w.rangeAt b o cs)
    (hu : P.underlying ty = some d) (hd : d.isRow = true) (hi : (P.info? ty).map (·.size) = some cs.length)
    (h : WL P ops Q rest (a.put op.dst (.agg cs.toArray)) w) : WL P ops Q (op :: rest) a w :=
  ⟨wpList_wanted hw fun _ hK => wp_load_mid ty x ho b o hx cs d hc hu hd hi (hK _ _ h.out)⟩
theorem WL.call {P : Program} {ops : Array Oper} {rest : List Oper} {o : Oper} {a : Act} {w : World} {Q : Exit → Act → World → Prop} (hw : Region.wanted o (yielded ops a.tmps) = true)
    (h : ∀ K : Act → World → Prop, (∀ a w, WL P ops Q rest a w → K a w) → o.wp P a w K Q) : WL P ops Q (o :: rest) a w :=
  ⟨wpList_wanted hw fun K hK => h K fun a w h => hK a w h.out⟩

section
variable {P : Program} {ops : Array Oper} {rest : List Oper} {o : Oper} {a : Act} {w : World} {Q : Exit → Act → World → Prop}
theorem WL.row (hw : Region.wanted o (yielded ops a.tmps) = true) (ty : TypeId) (x : Operand) (ho : o.op = .load ty x)
    (b : Nat) (hx : a.eval x = .pointer (some ⟨b, 0, none⟩)) (t : TypeId) (cs : Array Value) (d : TypeDesc) (hc : Blk w b t cs)
    (hu : P.underlying ty = some d) (hd : d.isRow = true) (hi : (P.info? ty).map (·.size) = some cs.size)
    (h : WL P ops Q rest (a.put o.dst (.agg cs)) w) : WL P ops Q (o :: rest) a w :=
  WL.mid hw ty x ho b 0 hx cs.toList d (blk_range hc) hu hd (by rw [Array.length_toList]; exact hi) (by rw [Array.toArray_toList]; exact h)
theorem WL.midA (hw : Region.wanted o (yielded ops a.tmps) = true) (ty : TypeId) (x : Operand) (ho : o.op = .load ty x)
    (b of : Nat) (hx : a.eval x = .pointer (some ⟨b, of, none⟩)) (cs : Array Value) (d : TypeDesc) (hc : w.rangeAt b of cs.toList)
    (hu : P.underlying ty = some d) (hd : d.isRow = true) (hi : (P.info? ty).map (·.size) = some cs.size)
    (h : WL P ops Q rest (a.put o.dst (.agg cs)) w) : WL P ops Q (o :: rest) a w :=
  WL.mid hw ty x ho b of hx cs.toList d hc hu hd (by rw [Array.length_toList]; exact hi) (by rw [Array.toArray_toList]; exact h)
theorem WL.new (hw : Region.wanted o (yielded ops a.tmps) = true) (t : TypeId) (ho : o.op = .alloc t) (cells : Array Value)
    (hf : ∀ w : World, (Instr.alloc t true (.tuple #[])).run P w = .ok (.pointer (some ⟨w.heap.size, 0, none⟩)) (w.alloc (.cells cells t)))
    (h : WL P ops Q rest (a.put o.dst (.pointer (some ⟨w.heap.size, 0, none⟩))) (w.alloc (.cells cells t))) : WL P ops Q (o :: rest) a w :=
  ⟨wpList_wanted hw fun K hK => by
    unfold Oper.wp execOp
    simp only [ho, Sem.run_bind, hf w, Result.andThen_ok]
    exact hK _ _ h.out⟩
theorem WL.box (hw : Region.wanted o (yielded ops a.tmps) = true) (t : TypeId) (x : Operand) (ho : o.op = .box t x) (cs : Array Value) (hx : a.eval x = .agg cs)
    (h : WL P ops Q rest (a.put o.dst (.pointer (some ⟨w.heap.size, 0, none⟩))) (w.alloc (.cells cs t))) : WL P ops Q (o :: rest) a w :=
  ⟨wpList_wanted hw fun K hK => by
    unfold Oper.wp execOp
    simp only [ho, hx, Sem.run_bind, run_box_agg, Result.andThen_ok]
    exact hK _ _ h.out⟩
theorem WL.storeR (hw : Region.wanted o (yielded ops a.tmps) = true) (ty : TypeId) (x y : Operand) (ho : o.op = .store ty x y)
    (g : Nat) (cells : Array Value) (hx : a.eval x = .pointer (some ⟨g, 0, none⟩)) (hy : a.eval y = .agg cells)
    (t : TypeId) (old : Array Value) (hg : Blk w g t old) (hi : (P.info? ty).map (·.size) = some cells.size) (hold : old.size = cells.size) (h1 : cells.all (·.oneCell') = true)
    (h : WL P ops Q rest (a.put o.dst undef) (w.setRow g cells)) : WL P ops Q (o :: rest) a w :=
  ⟨wpList_wanted hw fun _ hK => wp_store_row ty x y ho g cells hx hy t old hg hi hold h1 (hK _ _ h.out)⟩
theorem WL.cell (hw : Region.wanted o (yielded ops a.tmps) = true) (w' : World) (hrun : (execOp a.eval o).run P w = .ok .skip w')
    (h : WL P ops Q rest (a.put o.dst undef) w') : WL P ops Q (o :: rest) a w :=
  ⟨wpList_wanted hw fun _ hK => by unfold Oper.wp; rw [hrun, Oper.upon_skip]; exact hK _ _ h.out⟩
theorem WL.valW (hw : Region.wanted o (yielded ops a.tmps) = true) (v : Value) (w' : World) (hrun : (execOp a.eval o).run P w = .ok (.value v) w')
    (h : WL P ops Q rest (a.put o.dst v) w') : WL P ops Q (o :: rest) a w :=
  ⟨wpList_wanted hw fun _ hK => by unfold Oper.wp; rw [hrun, Oper.upon_value]; exact hK _ _ h.out⟩
theorem WL.bld (hw : Region.wanted o (yielded ops a.tmps) = true) (t : TypeId) (parts : Array (Nat × Operand)) (ho : o.op = .build t parts)
    (vs : List (Nat × Value)) (hv : (parts.map fun (i, x) => (i, a.eval x)).toList = vs) (cells : Array Value) (hf : P.built t vs = some cells)
    (h : WL P ops Q rest (a.put o.dst (.agg cells)) w) : WL P ops Q (o :: rest) a w :=
  ⟨wpList_wanted hw fun _ hK => wp_bldG t parts ho cells (by rw [hv]; exact hf) (hK _ _ h.out)⟩
theorem WL.bs (hw : Region.wanted o (yielded ops a.tmps) = true) (t : TypeId) (n : Nat) (parts : Array (Nat × Operand)) (ho : o.op = .buildSlice t n parts)
    (vs : Array (Nat × Value)) (hv : (parts.map fun (i, x) => (i, a.eval x)) = vs) (v : Value) (w' : World) (hrun : (Instr.buildSlice t n vs).run P w = .ok v w')
    (h : WL P ops Q rest (a.put o.dst v) w') : WL P ops Q (o :: rest) a w :=
  ⟨wpList_wanted hw fun K hK => by
    unfold Oper.wp execOp
    simp only [ho, hv, Sem.run_bind, hrun, Result.andThen_ok]
    exact hK _ _ h.out⟩
/-- A whole value into a part of a block. -/
theorem WL.part (hw : Region.wanted o (yielded ops a.tmps) = true) (ty : TypeId) (x y : Operand) (ho : o.op = .store ty x y)
    (g off : Nat) (cells : Array Value) (hx : a.eval x = .pointer (some ⟨g, off, none⟩)) (hy : a.eval y = .agg cells)
    (t : TypeId) (cur : Array Value) (hg : Blk w g t cur) (hi : (P.info? ty).map (·.size) = some cells.size) (hfit : off + cells.size ≤ cur.size) (h1 : cells.all (·.oneCell') = true)
    (new : Array Value) (hn : (cur.toList.take off ++ cells.toList ++ cur.toList.drop (off + cells.size)).toArray = new)
    (h : WL P ops Q rest (a.put o.dst undef) (w.setRow g new)) : WL P ops Q (o :: rest) a w := by
  subst hn
  refine ⟨wpList_wanted hw fun K hK => ?_⟩
  have hst := run_storeCells_at P g off t cells.toList 0 cur w hg (by simpa using hfit) (fun v hv => (Array.all_eq_true_iff_forall_mem.1 h1) v (by simpa using hv))
  have hrun : (storeVar ty ⟨g, off, none⟩ (.agg cells)).run P w = .ok () (w.setRow g (cur.toList.take off ++ cells.toList ++ cur.toList.drop (off + cells.size)).toArray) := by
    cases hq : P.info? ty with
    | none => simp [hq] at hi
    | some i =>
      have hs : cells.size = i.size := by simp [hq] at hi; omega
      simp only [Nat.add_zero, Array.length_toList] at hst
      simp [storeVar, sizeOf, typeInfo, hq, Value.cells, hs, hst]
  unfold Oper.wp execOp
  simp only [ho, hx, hy, Instr.storeAt, Instr.sureAddr, Sem.run_bind, Sem.run_pure, Result.andThen_ok, hrun]
  exact hK _ _ h.out
theorem run_callV (a : Act) (o : Oper) (f : FuncId) (x : Operand) (args : Array Operand) (ts : Array TypeId) (ho : o.op = .call { callee := .value x, args := args, argTypes := ts }) (hx : a.eval x = .func (.func f) #[] #[])
    (hf : ∀ (w : World) (vs : Array Value), (callFunc f vs).run P w = .ok (.enter f vs) w) (w : World) :
    (execOp a.eval o).run P w = .ok (.enter f (args.map a.eval)) w := by
  unfold execOp
  simp only [ho, resolve, hx]
  generalize Array.map a.eval args = vs
  simp [go_sem]
  exact hf w _
/-- A call, by its contract. -/
theorem WL.callF (hw : Region.wanted o (yielded ops a.tmps) = true) (f : FuncId) (args : Array Operand) (ts : Array TypeId) (ho : o.op = .call { callee := .value (.func f), args := args, argTypes := ts })
    (hf : ∀ (w : World) (vs : Array Value), (callFunc f vs).run P w = .ok (.enter f vs) w) (vs : Array Value) (hvs : args.map a.eval = vs)
    (hc : Calls P f vs w fun e w' => ∃ v, e = .returned v ∧ WL P ops Q rest (a.put o.dst v) w') : WL P ops Q (o :: rest) a w :=
  ⟨wpList_wanted hw fun K hK => by
    unfold Oper.wp
    rw [run_callF a o f args ts ho hf w, Oper.upon_enter, hvs]
    refine hc.mono ?_
    rintro e w' ⟨v, rfl, hr⟩
    exact hK _ _ hr.out⟩
theorem WL.callV (hw : Region.wanted o (yielded ops a.tmps) = true) (f : FuncId) (x : Operand) (args : Array Operand) (ts : Array TypeId) (ho : o.op = .call { callee := .value x, args := args, argTypes := ts }) (hx : a.eval x = .func (.func f) #[] #[])
    (hf : ∀ (w : World) (vs : Array Value), (callFunc f vs).run P w = .ok (.enter f vs) w) (vs : Array Value) (hvs : args.map a.eval = vs)
    (hc : Calls P f vs w fun e w' => ∃ v, e = .returned v ∧ WL P ops Q rest (a.put o.dst v) w') : WL P ops Q (o :: rest) a w :=
  ⟨wpList_wanted hw fun K hK => by
    unfold Oper.wp
    rw [run_callV a o f x args ts ho hx hf w, Oper.upon_enter, hvs]
    refine hc.mono ?_
    rintro e w' ⟨v, rfl, hr⟩
    exact hK _ _ hr.out⟩
end
theorem Blk.c {w : World} {b : Nat} {T : TypeId} {cs : Array Value} (h : Blk w b T cs) (j : Nat) {v : Value} (hv : cs[j]? = some v) : w.cell? ⟨b, j, none⟩ = some v := by rw [h.cell]; exact hv
theorem wpAnyH_weaken {P : Program} {md : Region.Mode} {ops : Array Oper} {Q : Exit → Act → World → Prop} {S S' : World → Prop} (h : ∀ w, S' w → S w) : ∀ (fuel : Nat) (listed : Array Bool) (a : Act) (w : World), wpAnyH P md ops Q S' fuel listed a w → wpAnyH P md ops Q S fuel listed a w
  | 0, _, _, _, h1 => h1
  | fuel + 1, _, _, _, h1 => ⟨h1.1, fun i hi => wpOp_mono (fun a' w' h2 => ⟨h w' h2.1, wpAnyH_weaken h fuel _ a' w' h2.2⟩) (h1.2 i hi)⟩
end Go.Proofs.Ytfheinghkigocaa
namespace Go.Proofs.Ytfheinghkigocaa
open Go.RowKit

/-! ### Worlds: a block that holds these cells. -/
/-! ### Words and bytes as cells. -/
def wordsA (n : Nat) (c : Nat → Int) : Array Value := Array.ofFn (n := n) fun i => .int .u32 (c i.val)
theorem wordsA_size (n : Nat) (c : Nat → Int) : (wordsA n c).size = n := by simp [wordsA]
theorem wordsA_get (n : Nat) (c : Nat → Int) (j : Nat) (h : j < n) : (wordsA n c)[j]? = some (.int .u32 (c j)) := by simp [wordsA, h]
theorem wordsA_set (n : Nat) (c : Nat → Int) (j : Nat) (v : Int) : (wordsA n c).setIfInBounds j (.int .u32 v) = wordsA n (upd c j v) := by
  apply Array.ext_getElem?
  intro i
  rw [Array.getElem?_setIfInBounds]
  by_cases e : j = i
  · subst e
    by_cases hj : j < n <;> simp [wordsA, upd, hj]
  · by_cases hi : i < n <;> simp [wordsA, upd, hi, e, Ne.symm e]
theorem wordsA_one (n : Nat) (c : Nat → Int) : (wordsA n c).all (·.oneCell') = true := by
  rw [Array.all_eq_true_iff_forall_mem]; intro v hv; simp [wordsA] at hv; obtain ⟨i, rfl⟩ := hv; rfl
theorem Try.size56 : (Try.prog.info? 56).map (·.size) = some 8 := by kernel_rfl
theorem Try.size58 : (Try.prog.info? 58).map (·.size) = some 64 := by kernel_rfl
theorem Try.size72 : (Try.prog.info? 72).map (·.size) = some 64 := by kernel_rfl
theorem Try.size56W (c : Nat → Int) : (Try.prog.info? 56).map (·.size) = some (wordsA 8 c).size := by rw [wordsA_size]; exact Try.size56
theorem Try.size58W (c : Nat → Int) : (Try.prog.info? 58).map (·.size) = some (wordsA 64 c).size := by rw [wordsA_size]; exact Try.size58
theorem Try.size72B (c : Nat → Int) : (Try.prog.info? 72).map (·.size) = some (bytesA 64 c).size := by rw [bytesA_size]; exact Try.size72
theorem wordsA_sizes (n : Nat) (c d : Nat → Int) : (wordsA n c).size = (wordsA n d).size := by rw [wordsA_size, wordsA_size]
/-! ### Single operations on whole arrays. -/
section
variable {P : Program}
end
theorem Try.new58 (w : World) : (Instr.alloc 58 true (.tuple #[])).run Try.prog w = .ok (.pointer (some ⟨w.heap.size, 0, none⟩)) (w.alloc (.cells (wordsA 64 fun _ => 0) 58)) := by kernel_rfl
theorem Try.new56 (w : World) : (Instr.alloc 56 true (.tuple #[])).run Try.prog w = .ok (.pointer (some ⟨w.heap.size, 0, none⟩)) (w.alloc (.cells (wordsA 8 fun _ => 0) 56)) := by kernel_rfl
end Go.Proofs.Ytfheinghkigocaa
namespace Go.Proofs.Ytfheinghkigocaa
open Go.RowKit

section
variable {P : Program} {ops : Array Oper} {Q : Exit → Act → World → Prop} {md : Region.Mode}

theorem getD_lt {l : Array Bool} {i : Nat} (h : l.getD i true = false) : ∃ hi : i < l.size, l[i] = false := by
  by_cases hi : i < l.size
  · exact ⟨hi, by simpa [Array.getD, hi] using h⟩
  · simp [Array.getD, hi] at h

/-- Whatever order a region draws: an invariant of what has been carried out serves. -/
theorem wpAny_inv (I : Array Bool → Act → World → Prop)
    (hs : ∀ l a w, I l a w → l.size = ops.size)
    (hstep : ∀ l a w i o, I l a w → l.getD i true = false → ops[i]? = some o → (∀ e ∈ o.after, Region.binds md e = true → l.getD e.on false = true) →
      o.guard = none ∧ o.wp P a w (I (l.setIfInBounds i true)) Q)
    (hback : ∀ i o, ops[i]? = some o → ∀ e ∈ o.after, Region.binds md e = true → e.on < i)
    (hdone : ∀ l a w, I l a w → (∀ i, i < ops.size → l.getD i false = true) → Q .normal a w) :
    ∀ fuel l a w, l.toList.countP (fun b => !b) ≤ fuel → I l a w → wpAny P md ops Q fuel l a w := by
  have hall : ∀ l a w, I l a w → Region.ready md ops l = [] → ∀ i, i < ops.size → l.getD i false = true := by
    intro l a w hI hr i
    induction i using Nat.strongRecOn with
    | ind i ih =>
      intro hi
      by_cases hc : l.getD i true = false
      · have : i ∈ Region.ready md ops l := mem_ready.2 ⟨hc, ops[i], Array.getElem?_eq_getElem hi, fun e he hb => ih _ (hback i _ (Array.getElem?_eq_getElem hi) e he hb) (Nat.lt_trans (hback i _ (Array.getElem?_eq_getElem hi) e he hb) hi)⟩
        rw [hr] at this; simp at this
      · have hl : i < l.size := by rw [hs l a w hI]; exact hi
        simpa [Array.getD, hl] using hc
  intro fuel
  induction fuel with
  | zero =>
    intro l a w hf hI
    have hnil : Region.ready md ops l = [] := by
      rw [List.eq_nil_iff_forall_not_mem]
      intro j hj
      obtain ⟨hj0, _⟩ := mem_ready.1 hj
      obtain ⟨hlt, hv⟩ := getD_lt hj0
      have : 0 < l.toList.countP (fun b => !b) := List.countP_pos_iff.2 ⟨l[j], by simp, by simp [hv]⟩
      omega
    exact ⟨hnil, hdone l a w hI (hall l a w hI hnil)⟩
  | succ fuel ih =>
    intro l a w hf hI
    refine ⟨fun hnil => hdone l a w hI (hall l a w hI hnil), fun i hi => ?_⟩
    obtain ⟨hj0, o, ho, he⟩ := mem_ready.1 hi
    obtain ⟨hlt, hv⟩ := getD_lt hj0
    obtain ⟨hg, hw⟩ := hstep l a w i o hI hj0 ho he
    unfold wpOp
    simp only [ho, Region.wanted, hg, if_true]
    refine .inl (Oper.wp_mono (fun a' w' h' => ih _ a' w' ?_ h') hw)
    have hc := List.countP_set (p := fun b => !b) (l := l.toList) (i := i) (a := true) (by simpa using hlt)
    have hp : 0 < l.toList.countP (fun b => !b) := List.countP_pos_iff.2 ⟨l[i], by simp, by simp [hv]⟩
    have e1 : l.toList[i]'(by simpa using hlt) = false := by simpa using hv
    rw [Array.toList_setIfInBounds, hc, e1]
    generalize List.countP (fun b => !b) l.toList = n at *
    simp
    omega

/-- A region that draws its order, by an invariant. -/
theorem wp_region_inv {id : Nat} {a : Act} {w : World} (hm : P.follows .mixedOrders = true) (I : Array Bool → Act → World → Prop)
    (hs : ∀ l a w, I l a w → l.size = ops.size)
    (hstep : ∀ l a w i o, I l a w → l.getD i true = false → ops[i]? = some o → (∀ e ∈ o.after, Region.binds .any e = true → l.getD e.on false = true) →
      o.guard = none ∧ o.wp P a w (I (l.setIfInBounds i true)) Q)
    (hback : ∀ i o, ops[i]? = some o → ∀ e ∈ o.after, Region.binds .any e = true → e.on < i)
    (hdone : ∀ l a w, I l a w → (∀ i, i < ops.size → l.getD i false = true) → Q .normal a w)
    (h0 : I (Array.replicate ops.size false) a w.drew) : (Code.region id ops true).wp P Q a w :=
  wp_region_any hm (wpAny_inv I hs hstep hback hdone _ _ _ _ (by simp [List.countP_replicate]) h0)

/-- A new variable at 'Oper.wp'. -/
theorem wp_new {o : Oper} {a : Act} {w : World} {K : Act → World → Prop} (t : TypeId) (ho : o.op = .alloc t)
    (cells : Array Value) (hf : ∀ w : World, (Instr.alloc t true (.tuple #[])).run P w = .ok (.pointer (some ⟨w.heap.size, 0, none⟩)) (w.alloc (.cells cells t)))
    (h : K (a.put o.dst (.pointer (some ⟨w.heap.size, 0, none⟩))) (w.alloc (.cells cells t))) : o.wp P a w K Q := by
  unfold Oper.wp execOp
  simp only [ho, Sem.run_bind, hf w, Result.andThen_ok]
  exact h

end
theorem Try.enter50 (w : World) (vs : Array Value) : (callFunc 50 vs).run Try.prog w = .ok (.enter 50 vs) w := by kernel_rfl
theorem Try.enter51 (w : World) (vs : Array Value) : (callFunc 51 vs).run Try.prog w = .ok (.enter 51 vs) w := by kernel_rfl
end Go.Proofs.Ytfheinghkigocaa
namespace Go.Proofs.Ytfheinghkigocaa
open Go.RowKit

section
variable {P : Program} {ops : Array Oper} {Q : Exit → Act → World → Prop}

/-- Every edge that binds leads back. -/
def backB (ops : Array Oper) : Bool := (List.range ops.size).all fun i => match ops[i]? with
  | some o => o.after.all fun e => !Region.binds .any e || decide (e.on < i)
  | none => true
theorem back_of (h : backB ops = true) : ∀ i o, ops[i]? = some o → ∀ e ∈ o.after, Region.binds .any e = true → e.on < i := by
  intro i o ho e he hb
  have hi : i < ops.size := (Array.getElem?_eq_some_iff.1 ho).1
  have h1 := List.all_eq_true.1 h i (List.mem_range.2 hi)
  simp only [ho] at h1
  have h2 := Array.all_eq_true_iff_forall_mem.1 h1 e he
  simpa [hb] using h2

/-- No two operations write one slot; each slot lies in the frame. -/
def dstsB (ops : Array Oper) (n : Nat) : Bool := (List.range ops.size).all fun i => match ops[i]? with
  | some o => (match o.dst with
    | some d => decide (d < n) && (List.range ops.size).all fun j => match ops[j]? with
      | some o' => (o'.dst != some d) || i == j
      | none => true
    | none => true)
  | none => true
theorem dsts_lt {n : Nat} (h : dstsB ops n = true) (i : Nat) (o : Oper) (d : Nat) (ho : ops[i]? = some o) (hd : o.dst = some d) : d < n := by
  have hi : i < ops.size := (Array.getElem?_eq_some_iff.1 ho).1
  have h1 := List.all_eq_true.1 h i (List.mem_range.2 hi)
  simp only [ho, hd, Bool.and_eq_true, decide_eq_true_eq] at h1
  exact h1.1
theorem dsts_inj {n : Nat} (h : dstsB ops n = true) (i j : Nat) (o o' : Oper) (d : Nat) (ho : ops[i]? = some o) (ho' : ops[j]? = some o') (hd : o.dst = some d) (hd' : o'.dst = some d) : i = j := by
  have hi : i < ops.size := (Array.getElem?_eq_some_iff.1 ho).1
  have hj : j < ops.size := (Array.getElem?_eq_some_iff.1 ho').1
  have h1 := List.all_eq_true.1 h i (List.mem_range.2 hi)
  simp only [ho, hd, Bool.and_eq_true, decide_eq_true_eq] at h1
  have h2 := List.all_eq_true.1 h1.2 j (List.mem_range.2 hj)
  simpa [ho', hd'] using h2

/-- The frame behind the first n operations, operation i having yielded V i. -/
def putsTo (ops : Array Oper) (V : Nat → Value) (a0 : Act) : Nat → Act
  | 0 => a0
  | n + 1 => match ops[n]? with
    | some o => (putsTo ops V a0 n).put o.dst (V n)
    | none => putsTo ops V a0 n

theorem putsTo_facts (V : Nat → Value) (a0 : Act) (hd : dstsB ops a0.tmps.size = true) (n : Nat) :
    (putsTo ops V a0 n).defers = a0.defers ∧ (putsTo ops V a0 n).tmps.size = a0.tmps.size ∧
    (∀ t : Nat, (∀ j o, j < n → ops[j]? = some o → o.dst ≠ some t) → (putsTo ops V a0 n).tmps[t]? = a0.tmps[t]?) ∧
    (∀ j o d, j < n → ops[j]? = some o → o.dst = some d → (putsTo ops V a0 n).tmps[d]? = some (V j)) := by
  induction n with
  | zero => exact ⟨rfl, rfl, fun _ _ => rfl, fun j _ _ h => absurd h (by omega)⟩
  | succ n ih =>
    obtain ⟨i1, i2, i3, i4⟩ := ih
    cases hn : ops[n]? with
    | none =>
      have e : putsTo ops V a0 (n + 1) = putsTo ops V a0 n := by simp only [putsTo, hn]
      rw [e]
      refine ⟨i1, i2, fun t ht => i3 t (fun j o hj ho => ht j o (by omega) ho), fun j o d hj ho hdd => ?_⟩
      have : j ≠ n := fun e => by subst e; rw [hn] at ho; cases ho
      exact i4 j o d (by omega) ho hdd
    | some o =>
      have e : putsTo ops V a0 (n + 1) = (putsTo ops V a0 n).put o.dst (V n) := by simp only [putsTo, hn]
      rw [e]
      cases hod : o.dst with
      | none =>
        have e2 : (putsTo ops V a0 n).put none (V n) = putsTo ops V a0 n := rfl
        rw [e2]
        refine ⟨i1, i2, fun t ht => i3 t (fun j o hj ho => ht j o (by omega) ho), fun j o' d hj ho hdd => ?_⟩
        have : j ≠ n := fun e => by subst e; rw [hn] at ho; cases ho; rw [hod] at hdd; cases hdd
        exact i4 j o' d (by omega) ho hdd
      | some dn =>
        have hlt : dn < a0.tmps.size := dsts_lt hd n o dn hn hod
        refine ⟨by simpa [Act.put] using i1, by simpa [Act.put] using i2, fun t ht => ?_, fun j o' d hj ho hdd => ?_⟩
        · have hne : dn ≠ t := fun e => ht n o (by omega) hn (by rw [hod, e])
          simp only [Act.put]
          rw [Array.getElem?_setIfInBounds_ne hne]
          exact i3 t (fun j o hj ho => ht j o (by omega) ho)
        · by_cases hjn : j = n
          · subst hjn
            rw [hn] at ho; cases ho
            rw [hod] at hdd; cases hdd
            simp [Act.put, i2, hlt]
          · have hne : dn ≠ d := fun e => hjn (dsts_inj hd j n o' o d ho hn hdd (by rw [hod, e]))
            simp only [Act.put]
            rw [Array.getElem?_setIfInBounds_ne hne]
            exact i4 j o' d (by omega) ho hdd

theorem act_ext {a b : Act} (h1 : a.tmps = b.tmps) (h2 : a.defers = b.defers) : a = b := by
  cases a; cases b; simp_all

theorem eval_of_get {a : Act} {t : Nat} {v : Value} (h : a.tmps[t]? = some v) : a.eval (.tmp t) = v := by
  simp [Act.eval, h]

/-- A REGION THAT DRAWS ITS ORDER, EACH OPERATION OF WHICH YIELDS THE SAME VALUE WHATEVER THE ORDER: operation i yields V i; W says what holds of the world when the listed ones have been carried out. -/
theorem wp_region_vals {id : Nat} {a0 : Act} {w : World} (hm : P.follows .mixedOrders = true) (V : Nat → Value) (W : Array Bool → World → Prop)
    (hd : dstsB ops a0.tmps.size = true) (hb : backB ops = true)
    (hstep : ∀ (l : Array Bool) (a : Act) (w : World) (i : Nat) (o : Oper),
      (∀ t : Nat, (∀ (j : Nat) (o' : Oper), ops[j]? = some o' → o'.dst ≠ some t) → a.eval (.tmp t) = a0.eval (.tmp t)) →
      (∀ (j : Nat) (o' : Oper) (d : Nat), ops[j]? = some o' → o'.dst = some d → l.getD j false = true → a.eval (.tmp d) = V j) →
      W l w → l.size = ops.size → l.getD i true = false → ops[i]? = some o → (∀ e ∈ o.after, Region.binds .any e = true → l.getD e.on false = true) →
      o.guard = none ∧ o.wp P a w (fun a' w' => a' = a.put o.dst (V i) ∧ W (l.setIfInBounds i true) w') Q)
    (hdone : ∀ l w, W l w → (∀ i, i < ops.size → l.getD i false = true) → Q .normal (putsTo ops V a0 ops.size) w)
    (h0 : W (Array.replicate ops.size false) w.drew) : (Code.region id ops true).wp P Q a0 w := by
  refine wp_region_inv hm (fun l a w => l.size = ops.size ∧ a.defers = a0.defers ∧ a.tmps.size = a0.tmps.size ∧
    (∀ t : Nat, (∀ (j : Nat) (o' : Oper), ops[j]? = some o' → o'.dst ≠ some t) → a.tmps[t]? = a0.tmps[t]?) ∧
    (∀ (j : Nat) (o' : Oper) (d : Nat), ops[j]? = some o' → o'.dst = some d → l.getD j false = true → a.tmps[d]? = some (V j)) ∧ W l w) ?_ ?_ (back_of hb) ?_ ?_
  · intro l a w h; exact h.1
  · rintro l a w i o ⟨h1, h2, h3, h4, h5, h6⟩ hi ho he
    obtain ⟨hg, hw⟩ := hstep l a w i o (fun t ht => by simp only [Act.eval, Array.getD_eq_getD_getElem?]; rw [h4 t ht]) (fun j o' d hj hdd hl => eval_of_get (h5 j o' d hj hdd hl)) h6 h1 hi ho he
    refine ⟨hg, Oper.wp_mono ?_ hw⟩
    rintro a' w' ⟨rfl, hW⟩
    refine ⟨by simpa using h1, ?_, ?_, ?_, ?_, hW⟩
    · cases hod : o.dst <;> simpa [Act.put] using h2
    · cases hod : o.dst <;> simpa [Act.put] using h3
    · intro t ht
      cases hod : o.dst with
      | none => exact h4 t ht
      | some dn =>
        have hne : dn ≠ t := fun e => ht i o ho (by rw [hod, e])
        simp only [Act.put]
        rw [Array.getElem?_setIfInBounds_ne hne]
        exact h4 t ht
    · intro j o' d hj hdd hl
      cases hod : o.dst with
      | none =>
        have hji : i ≠ j := fun e => by subst e; rw [ho] at hj; cases hj; rw [hod] at hdd; cases hdd
        rw [getD_set_ne false hji] at hl
        exact h5 j o' d hj hdd hl
      | some dn =>
        have hlt : dn < a0.tmps.size := dsts_lt hd i o dn ho hod
        by_cases hji : i = j
        · subst hji
          rw [ho] at hj; cases hj
          rw [hod] at hdd; cases hdd
          simp [Act.put, h3, hlt]
        · have hne : dn ≠ d := fun e => hji (dsts_inj hd i j o o' d ho hj (by rw [hod, e]) hdd)
          rw [getD_set_ne false hji] at hl
          simp only [Act.put]
          rw [Array.getElem?_setIfInBounds_ne hne]
          exact h5 j o' d hj hdd hl
  · rintro l a w ⟨h1, h2, h3, h4, h5, h6⟩ hall
    obtain ⟨p1, p2, p3, p4⟩ := putsTo_facts V a0 hd ops.size
    have e : a = putsTo ops V a0 ops.size := by
      refine act_ext (Array.ext_getElem? fun t => ?_) (h2.trans p1.symm)
      by_cases hx : ∃ (j : Nat) (o' : Oper), ops[j]? = some o' ∧ o'.dst = some t
      · obtain ⟨j, o', hj, hdd⟩ := hx
        have hlt : j < ops.size := (Array.getElem?_eq_some_iff.1 hj).1
        rw [h5 j o' t hj hdd (hall j hlt), p4 j o' t hlt hj hdd]
      · have hn : ∀ (j : Nat) (o' : Oper), ops[j]? = some o' → o'.dst ≠ some t := fun j o' hj hdd => hx ⟨j, o', hj, hdd⟩
        rw [h4 t hn, p3 t (fun j o' _ hj => hn j o' hj)]
    rw [e]
    exact hdone l w h6 hall
  · refine ⟨by simp, rfl, rfl, fun _ _ => rfl, fun j o' d _ _ hl => ?_, h0⟩
    simp [Array.getD] at hl

theorem wp_move {o : Oper} {a : Act} {w : World} {K : Act → World → Prop} (x : Operand) (ho : o.op = .move x) (v : Value) (hv : a.eval x = v) (h : K (a.put o.dst v) w) : o.wp P a w K Q :=
  wp_val v (by unfold execOp; simp only [ho, hv]; rfl) h
theorem wp_nilCheck {o : Oper} {a : Act} {w : World} {K : Act → World → Prop} (x : Operand) (ho : o.op = .nilCheck x) (b : Addr) (hv : a.eval x = .pointer (some b)) (h : K (a.put o.dst (.pointer (some b))) w) : o.wp P a w K Q :=
  wp_val _ (by unfold execOp; simp only [ho, hv]; rfl) h
theorem wp_fieldAddr {o : Oper} {a : Act} {w : World} {K : Act → World → Prop} (t : TypeId) (x : Operand) (k : Nat) (ho : o.op = .fieldAddr t x k) (v u : Value) (hv : a.eval x = v)
    (hf : ∀ w : World, (Instr.fieldAt t v k).run P w = .ok u w) (h : K (a.put o.dst u) w) : o.wp P a w K Q := by
  refine wp_val u ?_ h
  unfold execOp
  simp only [ho, hv, Sem.run_bind, hf w, Result.andThen_ok]
  rfl
/-- A whole value into a part of a block. -/
theorem wp_store_part {o : Oper} {a : Act} {w : World} {K : Act → World → Prop} (ty : TypeId) (x y : Operand) (ho : o.op = .store ty x y)
    (g off : Nat) (cells : Array Value) (hx : a.eval x = .pointer (some ⟨g, off, none⟩)) (hy : a.eval y = .agg cells)
    (t : TypeId) (cur : Array Value) (hg : w.heap[g]? = some (.cells cur t (0, 0))) (hi : (P.info? ty).map (·.size) = some cells.size) (hfit : off + cells.size ≤ cur.size)
    (h1 : cells.all (·.oneCell') = true)
    (h : K (a.put o.dst undef) (w.setRow g (cur.toList.take off ++ cells.toList ++ cur.toList.drop (off + cells.size)).toArray)) : o.wp P a w K Q := by
  have hst := run_storeCells_at P g off t cells.toList 0 cur w hg (by simpa using hfit) (fun v hv => (Array.all_eq_true_iff_forall_mem.1 h1) v (by simpa using hv))
  have hrun : (storeVar ty ⟨g, off, none⟩ (.agg cells)).run P w = .ok () (w.setRow g (cur.toList.take off ++ cells.toList ++ cur.toList.drop (off + cells.size)).toArray) := by
    cases hq : P.info? ty with
    | none => simp [hq] at hi
    | some i =>
      have hs : cells.size = i.size := by simp [hq] at hi; omega
      simp only [Nat.add_zero, Array.length_toList] at hst
      simp [storeVar, sizeOf, typeInfo, hq, Value.cells, hs, hst]
  unfold Oper.wp execOp
  simp only [ho, hx, hy, Instr.storeAt, Instr.sureAddr, Sem.run_bind, Sem.run_pure, Result.andThen_ok, hrun]
  exact h
end
end Go.Proofs.Ytfheinghkigocaa
namespace Go.Proofs.Ytfheinghkigocaa
open Go.RowKit

/-- A word turned to the right by n bits, as the walk spells it. -/
def rot (x n : Int) : Int := bits .or .u32 (x * 2 ^ (32 - n).toNat % 4294967296) (x / 2 ^ n.toNat)

theorem and31 (n : Int) (h1 : 1 ≤ n) (h2 : n ≤ 31) : bits .and .u64 (IntKind.u64.wrap (-n)) 31 = 32 - n := by
  obtain ⟨k, rfl⟩ := Int.eq_ofNat_of_zero_le (show 0 ≤ n by omega)
  have hk : k < 32 := by omega
  have hk1 : 1 ≤ k := by omega
  have : ∀ k : Fin 32, 1 ≤ k.val → bits .and .u64 (IntKind.u64.wrap (-((k.val : Nat) : Int))) 31 = 32 - ((k.val : Nat) : Int) := by decide +kernel
  exact this ⟨k, hk⟩ hk1

set_option maxRecDepth 8000 in
set_option maxHeartbeats 400000 in
theorem rotl_any (x n : Int) (w : World) (h1 : 1 ≤ n) (h2 : n ≤ 31) :
    Calls Try.prog 53 #[.int .u32 x, .int .i64 (-n)] w fun e w' => e = .returned (.int .u32 (rot x n)) ∧ w' = w := by
  have ha := and31 n h1 h2
  have hs : 32 - n ≤ 32 := by omega
  have hs0 : 0 ≤ 32 - n := by omega
  have hw : IntKind.u64.wrap (32 - (32 - n)) = n := by rw [IntKind.wrap_u64]; omega
  go_enter Try.func53, Try.ntmps53
  go_wp2
  go_ret
  exact ⟨rfl, rfl⟩

set_option maxRecDepth 8000 in
set_option maxHeartbeats 400000 in
theorem turn_any (x n : Int) (w : World) (h1 : 1 ≤ n) (h2 : n ≤ 31) :
    Calls Try.prog 52 #[.int .u32 x, .int .i64 n] w fun e w' => e = .returned (.int .u32 (rot x n)) ∧ w' = w := by
  go_enter Try.func52, Try.ntmps52
  go_wp2_with fail
  refine (rotl_any x n _ h1 h2).mono ?_
  rintro e w' ⟨rfl, rfl⟩
  go_wp2
  go_ret
  exact ⟨rfl, rfl⟩

def beginL : List Int := [0x6a09e667, 0xbb67ae85, 0x3c6ef372, 0xa54ff53a, 0x510e527f, 0x9b05688c, 0x1f83d9ab, 0x5be0cd19]
def beginF (i : Nat) : Int := beginL.getD i 0
def roundsL : List Int := [0x428a2f98, 0x71374491, 0xb5c0fbcf, 0xe9b5dba5, 0x3956c25b, 0x59f111f1, 0x923f82a4, 0xab1c5ed5, 0xd807aa98, 0x12835b01, 0x243185be, 0x550c7dc3, 0x72be5d74, 0x80deb1fe, 0x9bdc06a7, 0xc19bf174, 0xe49b69c1, 0xefbe4786, 0x0fc19dc6, 0x240ca1cc, 0x2de92c6f, 0x4a7484aa, 0x5cb0a9dc, 0x76f988da, 0x983e5152, 0xa831c66d, 0xb00327c8, 0xbf597fc7, 0xc6e00bf3, 0xd5a79147, 0x06ca6351, 0x14292967, 0x27b70a85, 0x2e1b2138, 0x4d2c6dfc, 0x53380d13, 0x650a7354, 0x766a0abb, 0x81c2c92e, 0x92722c85, 0xa2bfe8a1, 0xa81a664b, 0xc24b8b70, 0xc76c51a3, 0xd192e819, 0xd6990624, 0xf40e3585, 0x106aa070, 0x19a4c116, 0x1e376c08, 0x2748774c, 0x34b0bcb5, 0x391c0cb3, 0x4ed8aa4a, 0x5b9cca4f, 0x682e6ff3, 0x748f82ee, 0x78a5636f, 0x84c87814, 0x8cc70208, 0x90befffa, 0xa4506ceb, 0xbef9a3f7, 0xc67178f2]
def roundsF (i : Nat) : Int := roundsL.getD i 0

set_option maxRecDepth 10000 in
theorem begin_any (w : World) :
    Calls Try.prog 46 #[] w fun e w' => e = .returned (.agg (wordsA 8 beginF)) ∧ w' = w.alloc (.cells (wordsA 8 beginF) 56) := by
  go_enter Try.func46, Try.ntmps46
  go_step; go_step; go_step
  refine wpList_new rfl 56 rfl _ Try.new56 ?_
  go_step; go_step; go_step; go_step; go_step
  refine wpList_bld rfl 56 _ rfl (wordsA 8 beginF) (by kernel_rfl) ?_
  refine wpList_plain rfl fun _ hK => ?_
  refine wp_store_row 56 _ _ rfl w.heap.size (wordsA 8 beginF) rfl rfl 56 (wordsA 8 fun _ => 0) (Blk.new w 56 _) (by simpa [wordsA_size] using Try.size56) (by simp [wordsA_size]) (wordsA_one _ _) (hK _ _ ?_)
  rw [World.setRow_alloc_new]
  go_step; go_step; go_step; go_step
  exact bodyPost_ret (v := .agg (wordsA 8 beginF)) (results_cell_row Try.results46 _ _ w.heap.size 56 _ (0, 0) _ rfl (heap_alloc_new _ _) Try.underlying56 rfl (by simpa [wordsA_size] using Try.size56)) rfl ⟨rfl, rfl⟩

set_option maxRecDepth 10000 in
theorem beginr_any (w : World) :
    Calls Try.prog 36 #[] w fun e w' => e = .returned (.agg (wordsA 8 beginF)) ∧ w' = w.alloc (.cells (wordsA 8 beginF) 56) := by
  go_enter Try.func36, Try.ntmps36
  go_step; go_step; go_step
  refine wpList_new rfl 56 rfl _ Try.new56 ?_
  go_step; go_step; go_step; go_step; go_step
  refine wpList_bld rfl 56 _ rfl (wordsA 8 beginF) (by kernel_rfl) ?_
  refine wpList_plain rfl fun _ hK => ?_
  refine wp_store_row 56 _ _ rfl w.heap.size (wordsA 8 beginF) rfl rfl 56 (wordsA 8 fun _ => 0) (Blk.new w 56 _) (by simpa [wordsA_size] using Try.size56) (by simp [wordsA_size]) (wordsA_one _ _) (hK _ _ ?_)
  rw [World.setRow_alloc_new]
  go_step; go_step; go_step; go_step
  exact bodyPost_ret (v := .agg (wordsA 8 beginF)) (results_cell_row Try.results36 _ _ w.heap.size 56 _ (0, 0) _ rfl (heap_alloc_new _ _) Try.underlying56 rfl (by simpa [wordsA_size] using Try.size56)) rfl ⟨rfl, rfl⟩

set_option maxRecDepth 10000 in
theorem rounds_any (w : World) :
    Calls Try.prog 50 #[] w fun e w' => e = .returned (.agg (wordsA 64 roundsF)) ∧ w' = w.alloc (.cells (wordsA 64 roundsF) 58) := by
  go_enter Try.func50, Try.ntmps50
  go_step; go_step; go_step
  refine wpList_new rfl 58 rfl _ Try.new58 ?_
  go_step; go_step; go_step; go_step; go_step
  refine wpList_bld rfl 58 _ rfl (wordsA 64 roundsF) (by kernel_rfl) ?_
  refine wpList_plain rfl fun _ hK => ?_
  refine wp_store_row 58 _ _ rfl w.heap.size (wordsA 64 roundsF) rfl rfl 58 (wordsA 64 fun _ => 0) (Blk.new w 58 _) (by simpa [wordsA_size] using Try.size58) (by simp [wordsA_size]) (wordsA_one _ _) (hK _ _ ?_)
  rw [World.setRow_alloc_new]
  go_step; go_step; go_step; go_step
  exact bodyPost_ret (v := .agg (wordsA 64 roundsF)) (results_cell_row Try.results50 _ _ w.heap.size 58 _ (0, 0) _ rfl (heap_alloc_new _ _) Try.underlying58 rfl (by simpa [wordsA_size] using Try.size58)) rfl ⟨rfl, rfl⟩

set_option maxRecDepth 10000 in
theorem roundsr_any (w : World) :
    Calls Try.prog 37 #[] w fun e w' => e = .returned (.agg (wordsA 64 roundsF)) ∧ w' = w.alloc (.cells (wordsA 64 roundsF) 58) := by
  go_enter Try.func37, Try.ntmps37
  go_step; go_step; go_step
  refine wpList_new rfl 58 rfl _ Try.new58 ?_
  go_step; go_step; go_step; go_step; go_step
  refine wpList_bld rfl 58 _ rfl (wordsA 64 roundsF) (by kernel_rfl) ?_
  refine wpList_plain rfl fun _ hK => ?_
  refine wp_store_row 58 _ _ rfl w.heap.size (wordsA 64 roundsF) rfl rfl 58 (wordsA 64 fun _ => 0) (Blk.new w 58 _) (by simpa [wordsA_size] using Try.size58) (by simp [wordsA_size]) (wordsA_one _ _) (hK _ _ ?_)
  rw [World.setRow_alloc_new]
  go_step; go_step; go_step; go_step
  exact bodyPost_ret (v := .agg (wordsA 64 roundsF)) (results_cell_row Try.results37 _ _ w.heap.size 58 _ (0, 0) _ rfl (heap_alloc_new _ _) Try.underlying58 rfl (by simpa [wordsA_size] using Try.size58)) rfl ⟨rfl, rfl⟩
end Go.Proofs.Ytfheinghkigocaa
namespace Go.Proofs.Ytfheinghkigocaa
open Go.RowKit

/-- The word of a piece's bytes 4 t to 4 t + 3. -/
def be32 (b : Nat → Int) (t : Nat) : Int :=
  bits .or .u32 (bits .or .u32 (bits .or .u32 (b (4 * t) % 4294967296 * 16777216 % 4294967296) (b (4 * t + 1) % 4294967296 * 65536 % 4294967296)) (b (4 * t + 2) % 4294967296 * 256 % 4294967296)) (b (4 * t + 3) % 4294967296)
def sig0 (x : Int) : Int := bits .xor .u32 (bits .xor .u32 (rot x 7) (rot x 18)) (x / 8)
def sig1 (x : Int) : Int := bits .xor .u32 (bits .xor .u32 (rot x 17) (rot x 19)) (x / 1024)
def nextW (c : Nat → Int) (t : Nat) : Int := (((c (t - 16) + sig0 (c (t - 15))) % 4294967296 + c (t - 7)) % 4294967296 + sig1 (c (t - 2))) % 4294967296
def sched (b : Nat → Int) : Nat → (Nat → Int)
  | 0 => fun _ => 0
  | t + 1 => upd (sched b t) t (if t < 16 then be32 b t else nextW (sched b t) t)

set_option maxRecDepth 8000 in
set_option maxHeartbeats 2000000 in
theorem spread_any (b : Nat → Int) (w : World) :
    Calls Try.prog 51 #[.agg (bytesA 64 b)] w fun e w' => e = .returned (.agg (wordsA 64 (sched b 64))) ∧ Below w.heap.size w w' := by
  go_enter Try.func51, Try.ntmps51
  go_wp2_with (first | (refine wpList_boxA rfl 72 _ rfl (bytesA 64 b) rfl ?_) | (refine wpList_new rfl 58 rfl _ Try.new58 ?_))
  have hP := ((Blk.new w 72 (bytesA 64 b)).alloc (.cells (wordsA 64 fun _ => 0) 58)).alloc (.cells (wordsA 64 fun _ => 0) 58)
  have hR := (Blk.new (w.alloc (.cells (bytesA 64 b) 72)) 58 (wordsA 64 fun _ => 0)).alloc (.cells (wordsA 64 fun _ => 0) 58)
  have hW := (Blk.new ((w.alloc (.cells (bytesA 64 b) 72)).alloc (.cells (wordsA 64 fun _ => 0) 58)) 58 (wordsA 64 fun _ => 0))
  have hB : Below w.heap.size w (((w.alloc (.cells (bytesA 64 b) 72)).alloc (.cells (wordsA 64 fun _ => 0) 58)).alloc (.cells (wordsA 64 fun _ => 0) 58)) :=
    (((Below.refl _ _).alloc (Nat.le_refl _) _).alloc (by simp) _).alloc (by simp; omega) _
  simp only [World.size_alloc] at hR hW ⊢
  generalize (((w.alloc (.cells (bytesA 64 b) 72)).alloc (.cells (wordsA 64 fun _ => 0) 58)).alloc (.cells (wordsA 64 fun _ => 0) 58)) = w0 at *
  go_loopw [8] (fun i wr => ∃ t : Nat, t ≤ 16 ∧ i = .int .i64 t ∧ Blk wr w.heap.size 72 (bytesA 64 b) ∧ Blk wr (w.heap.size + 1) 58 (wordsA 64 fun _ => 0) ∧ Blk wr (w.heap.size + 1 + 1) 58 (wordsA 64 (sched b t)) ∧ Below w.heap.size w wr) (fun i _ => 16 - (intOf i).toNat)
  case atStart => exact ⟨0, by omega, rfl, hP, hR, hW, hB⟩
  case round =>
    clear hP hR hW hB
    obtain ⟨t, ht, rfl, hP, hR, hW, hB⟩ := hrel
    by_cases hlt : t < 16
    · have e0 : wr.cell? ⟨w.heap.size, 4 * t, none⟩ = some (.int .u8 (b (4 * t))) := by rw [hP.cell, bytesA_get _ _ _ (by omega)]
      have e1 : wr.cell? ⟨w.heap.size, 4 * t + 1, none⟩ = some (.int .u8 (b (4 * t + 1))) := by rw [hP.cell, bytesA_get _ _ _ (by omega)]
      have e2 : wr.cell? ⟨w.heap.size, 4 * t + 2, none⟩ = some (.int .u8 (b (4 * t + 2))) := by rw [hP.cell, bytesA_get _ _ _ (by omega)]
      have e3 : wr.cell? ⟨w.heap.size, 4 * t + 3, none⟩ = some (.int .u8 (b (4 * t + 3))) := by rw [hP.cell, bytesA_get _ _ _ (by omega)]
      have e4 : wr.cell? ⟨w.heap.size + 1 + 1, t, none⟩ = some (.int .u32 (sched b t t)) := by rw [hW.cell, wordsA_get _ _ _ (by omega)]
      have e5 : wr.frozen? ⟨w.heap.size + 1 + 1, t, none⟩ = false := hW.frozen t
      go_wp2
      go_region
      go_wp2
      go_roundw
      case rel => exact ⟨t + 1, by omega, by go_num, (hP.set_ne (by omega) _).drew, (hR.set_ne (by omega) _).drew, by
        have h := (hW.set t (.int .u32 (be32 b t))).drew
        rw [wordsA_set] at h
        simp only [sched, if_pos hlt]; exact h, (hB.setCell (by show w.heap.size ≤ w.heap.size + 1 + 1; omega) _).drew⟩
      case measure => simp [intOf]; omega
    · obtain rfl : t = 16 := by omega
      clear hlt ht
      go_wp2
      go_loopw [5] (fun i wr => ∃ t : Nat, 16 ≤ t ∧ t ≤ 64 ∧ i = .int .i64 t ∧ Blk wr (w.heap.size + 1) 58 (wordsA 64 fun _ => 0) ∧ Blk wr (w.heap.size + 1 + 1) 58 (wordsA 64 (sched b t)) ∧ Below w.heap.size w wr) (fun i _ => 64 - (intOf i).toNat)
      case atStart => exact ⟨16, by omega, by omega, rfl, hR, hW, hB⟩
      case round =>
        clear hP hR hW hB
        obtain ⟨t, ht0, ht, rfl, hR, hW, hB⟩ := hrel
        by_cases hlt : t < 64
        · have e16 : wr.cell? ⟨w.heap.size + 1 + 1, t - 16, none⟩ = some (.int .u32 (sched b t (t - 16))) := by rw [hW.cell, wordsA_get _ _ _ (by omega)]
          have e15 : wr.cell? ⟨w.heap.size + 1 + 1, t - 15, none⟩ = some (.int .u32 (sched b t (t - 15))) := by rw [hW.cell, wordsA_get _ _ _ (by omega)]
          have e7 : wr.cell? ⟨w.heap.size + 1 + 1, t - 7, none⟩ = some (.int .u32 (sched b t (t - 7))) := by rw [hW.cell, wordsA_get _ _ _ (by omega)]
          have e2 : wr.cell? ⟨w.heap.size + 1 + 1, t - 2, none⟩ = some (.int .u32 (sched b t (t - 2))) := by rw [hW.cell, wordsA_get _ _ _ (by omega)]
          have e0 : wr.cell? ⟨w.heap.size + 1 + 1, t, none⟩ = some (.int .u32 (sched b t t)) := by rw [hW.cell, wordsA_get _ _ _ (by omega)]
          have ef : wr.frozen? ⟨w.heap.size + 1 + 1, t, none⟩ = false := hW.frozen t
          have hlt' : (t : Int) < 64 := by omega
          have ht0' : (16 : Int) ≤ (t : Int) := by omega
          have w16 : IntKind.i64.wrap ((t : Int) - 16) = (t : Int) - 16 := by rw [IntKind.wrap_i64]; omega
          have w7 : IntKind.i64.wrap ((t : Int) - 7) = (t : Int) - 7 := by rw [IntKind.wrap_i64]; omega
          have n16 : ((t : Int) - 16).toNat = t - 16 := by omega
          have n7 : ((t : Int) - 7).toNat = t - 7 := by omega
          have g16 : 0 ≤ (t : Int) - 16 := by omega
          have g7 : 0 ≤ (t : Int) - 7 := by omega
          have l16 : (t : Int) - 16 < 64 := by omega
          have l7 : (t : Int) - 7 < 64 := by omega
          have h7 : (7 : Int) ≤ (t : Int) := by omega
          have k16 : ∀ v, (wr.setCell ⟨w.heap.size + 1 + 1, t, none⟩ v).cell? ⟨w.heap.size + 1 + 1, t - 16, none⟩ = some (.int .u32 (sched b t (t - 16))) := fun v => by rw [World.cell?_setCell_other _ _ _ _ (by intro e; injection e; omega)]; exact e16
          have k7 : ∀ v, (wr.setCell ⟨w.heap.size + 1 + 1, t, none⟩ v).cell? ⟨w.heap.size + 1 + 1, t - 7, none⟩ = some (.int .u32 (sched b t (t - 7))) := fun v => by rw [World.cell?_setCell_other _ _ _ _ (by intro e; injection e; omega)]; exact e7
          go_wp2
          go_region
          go_wp2
          go_region_held3 (fun w' => w'.cell? ⟨w.heap.size + 1 + 1, t - 16, none⟩ = some (.int .u32 (sched b t (t - 16))) ∧ w'.cell? ⟨w.heap.size + 1 + 1, t - 7, none⟩ = some (.int .u32 (sched b t (t - 7)))) (go_keep) (first | (go_at_call 52; refine (turn_any _ _ _ (by omega) (by omega)).mono ?_; rintro e w' ⟨rfl, rfl⟩))
          go_wp2
          go_roundw
          case rel =>
            go_tidy
            simp only [IntKind.wrap_u32']
            repeat apply Exists.intro
            refine ⟨?_, rfl⟩
            exact ⟨t + 1, by omega, by omega, by go_num, (hR.set_ne (by omega) _).drew.drew, by
              have h := (hW.set t (.int .u32 (nextW (sched b t) t))).drew.drew
              rw [wordsA_set] at h
              simp only [sched, if_neg (show ¬ t < 16 by omega)]; exact h, (hB.setCell (by show w.heap.size ≤ w.heap.size + 1 + 1; omega) _).drew.drew⟩
          case measure => simp [intOf]; omega
        · obtain rfl : t = 64 := by omega
          clear hlt ht ht0
          obtain ⟨c, hc⟩ : ∃ c, Hid (c = sched b 64) := ⟨_, rfl⟩
          rw [← hc.out] at hW
          go_wp2_with (refine wpList_load_row rfl 58 (.tmp 3) rfl (w.heap.size + 1 + 1) rfl 58 (wordsA 64 c) (0, 0) (.array 64 55) hW Try.underlying58 rfl (Try.size58W _) ?_; refine wpList_store_row rfl 58 (.tmp 2) (.tmp 84) rfl (w.heap.size + 1) (wordsA 64 c) rfl rfl 58 (wordsA 64 fun _ => 0) hR (Try.size58W _) (wordsA_sizes _ _ _) (wordsA_one _ _) ?_)
          exact bodyPost_ret (v := .agg (wordsA 64 c)) (results_cell_row Try.results51 _ _ (w.heap.size + 1) 58 _ (0, 0) _ rfl (hR.setRow _) Try.underlying58 rfl (Try.size58W _)) rfl ⟨by rw [hc.out], below_setRow hB (by omega) _⟩
end Go.Proofs.Ytfheinghkigocaa
namespace Go.Proofs.Ytfheinghkigocaa
open Go.RowKit

/-- What holds in the first statement of mix, whatever has been carried out of it. -/
structure MixJ (N : Nat) (w0 : World) (s b : Nat → Int) (w : World) (b0 b1 b2 b3 b4 b5 b6 : Bool) (v5 v6 v18 v19 v20 : Value) : Prop where
  below : Below N w0 w
  hN : N + 3 ≤ w.heap.size
  k0 : Blk w N 56 (wordsA 8 s)
  k1 : Blk w (N + 1) 72 (bytesA 64 b)
  k2 : Blk w (N + 1 + 1) 56 (wordsA 8 fun _ => 0)
  e18 : b0 = true → v18 = .agg (wordsA 64 roundsF)
  e19 : b1 = true → v19 = .agg (bytesA 64 b)
  e20 : b2 = true → v20 = .agg (wordsA 64 (sched b 64))
  e5 : b3 = true → ∃ g c, v5 = ptr g ∧ N + 3 ≤ g ∧ Blk w g 58 (wordsA 64 c) ∧ (b5 = true → c = roundsF)
  e6 : b4 = true → ∃ g c, v6 = ptr g ∧ N + 3 ≤ g ∧ Blk w g 58 (wordsA 64 c) ∧ (b6 = true → c = sched b 64)
  ne : b3 = true → b4 = true → v5 ≠ v6
  w5 : b5 = true → b3 = true
  w6 : b6 = true → b4 = true

theorem MixJ.later {N : Nat} {w0 : World} {s b : Nat → Int} {w w' : World} {b0 b1 b2 b3 b4 b5 b6 : Bool} {v5 v6 v18 v19 v20 : Value}
    (h : MixJ N w0 s b w b0 b1 b2 b3 b4 b5 b6 v5 v6 v18 v19 v20) (hb : Below w.heap.size w w') : MixJ N w0 s b w' b0 b1 b2 b3 b4 b5 b6 v5 v6 v18 v19 v20 where
  below := h.below.trans (hb.mono (by have := h.hN; omega))
  hN := Nat.le_trans h.hN hb.size
  k0 := h.k0.below hb h.k0.lt
  k1 := h.k1.below hb h.k1.lt
  k2 := h.k2.below hb h.k2.lt
  e18 := h.e18
  e19 := h.e19
  e20 := h.e20
  e5 h3 := by obtain ⟨g, c, h1, h2, h3, h4⟩ := h.e5 h3; exact ⟨g, c, h1, h2, h3.below hb h3.lt, h4⟩
  e6 h3 := by obtain ⟨g, c, h1, h2, h3, h4⟩ := h.e6 h3; exact ⟨g, c, h1, h2, h3.below hb h3.lt, h4⟩
  ne := h.ne
  w5 := h.w5
  w6 := h.w6

theorem MixJ.new3 {N : Nat} {w0 : World} {s b : Nat → Int} {w : World} {b0 b1 b2 b4 b5 b6 : Bool} {v5 v6 v18 v19 v20 : Value}
    (h : MixJ N w0 s b w b0 b1 b2 false b4 b5 b6 v5 v6 v18 v19 v20) :
    MixJ N w0 s b (w.alloc (.cells (wordsA 64 fun _ => 0) 58)) b0 b1 b2 true b4 b5 b6 (ptr w.heap.size) v6 v18 v19 v20 :=
  { h.later (below_new w _) with
    e5 := fun _ => ⟨w.heap.size, _, rfl, h.hN, Blk.new _ _ _, fun e => by have := h.w5 e; simp at this⟩
    w5 := fun _ => rfl
    ne := fun _ h4 => by
      obtain ⟨g, c, h1, h2, h3, h4⟩ := h.e6 h4
      have := h3.lt
      rw [h1]; intro e; simp at e; try omega }
theorem MixJ.new4 {N : Nat} {w0 : World} {s b : Nat → Int} {w : World} {b0 b1 b2 b3 b5 b6 : Bool} {v5 v6 v18 v19 v20 : Value}
    (h : MixJ N w0 s b w b0 b1 b2 b3 false b5 b6 v5 v6 v18 v19 v20) :
    MixJ N w0 s b (w.alloc (.cells (wordsA 64 fun _ => 0) 58)) b0 b1 b2 b3 true b5 b6 v5 (ptr w.heap.size) v18 v19 v20 :=
  { h.later (below_new w _) with
    e6 := fun _ => ⟨w.heap.size, _, rfl, h.hN, Blk.new _ _ _, fun e => by have := h.w6 e; simp at this⟩
    w6 := fun _ => rfl
    ne := fun h3 _ => by
      obtain ⟨g, c, h1, h2, h3, h4⟩ := h.e5 h3
      have := h3.lt
      rw [h1]; intro e; simp at e; try omega }
theorem MixJ.store5 {N : Nat} {w0 : World} {s b : Nat → Int} {w : World} {b0 b1 b2 b4 b5 b6 : Bool} {g : Nat} {c : Nat → Int} {v6 v18 v19 v20 : Value}
    (h : MixJ N w0 s b w b0 b1 b2 true b4 b5 b6 (ptr g) v6 v18 v19 v20) (hg : N + 3 ≤ g) (hb : Blk w g 58 (wordsA 64 c)) :
    MixJ N w0 s b (w.setRow g (wordsA 64 roundsF)) b0 b1 b2 true b4 true b6 (ptr g) v6 v18 v19 v20 :=
  { h with
    below := below_setRow h.below (by omega) _
    hN := by rw [setRow_size]; exact h.hN
    k0 := h.k0.setRow_ne (by omega) _
    k1 := h.k1.setRow_ne (by omega) _
    k2 := h.k2.setRow_ne (by omega) _
    e5 := fun _ => ⟨g, roundsF, rfl, hg, hb.setRow _, fun _ => rfl⟩
    w5 := fun _ => rfl
    e6 := fun h4 => by
      obtain ⟨g', c', h1, h2, h3, h5⟩ := h.e6 h4
      exact ⟨g', c', h1, h2, h3.setRow_ne (fun e => h.ne rfl h4 (by rw [h1, e])) _, h5⟩ }
theorem MixJ.store6 {N : Nat} {w0 : World} {s b : Nat → Int} {w : World} {b0 b1 b2 b3 b5 b6 : Bool} {g : Nat} {c : Nat → Int} {v5 v18 v19 v20 : Value}
    (h : MixJ N w0 s b w b0 b1 b2 b3 true b5 b6 v5 (ptr g) v18 v19 v20) (hg : N + 3 ≤ g) (hb : Blk w g 58 (wordsA 64 c)) :
    MixJ N w0 s b (w.setRow g (wordsA 64 (sched b 64))) b0 b1 b2 b3 true b5 true v5 (ptr g) v18 v19 v20 :=
  { h with
    below := below_setRow h.below (by omega) _
    hN := by rw [setRow_size]; exact h.hN
    k0 := h.k0.setRow_ne (by omega) _
    k1 := h.k1.setRow_ne (by omega) _
    k2 := h.k2.setRow_ne (by omega) _
    e6 := fun _ => ⟨g, sched b 64, rfl, hg, hb.setRow _, fun _ => rfl⟩
    w6 := fun _ => rfl
    e5 := fun h4 => by
      obtain ⟨g', c', h1, h2, h3, h5⟩ := h.e5 h4
      exact ⟨g', c', h1, h2, h3.setRow_ne (fun e => h.ne h4 rfl (by rw [h1, e])) _, h5⟩ }

/-- The frame of mix in that statement. -/
def fr5 (a0 : Act) (v5 v6 v18 v19 v20 : Value) : Act := ((((a0.put (some 5) v5).put (some 6) v6).put (some 18) v18).put (some 19) v19).put (some 20) v20

theorem put_none (a : Act) (v : Value) : a.put none v = a := rfl
theorem put_put (a : Act) (d : Nat) (v u : Value) : (a.put (some d) v).put (some d) u = a.put (some d) u := by
  simp [Act.put]
theorem put_swap (a : Act) (d e : Nat) (v u : Value) (h : d ≠ e) : (a.put (some d) v).put (some e) u = (a.put (some e) u).put (some d) v :=
  Act.put_comm a v u (fun x hx => by injection hx with hx; subst hx; simpa using Ne.symm h)
theorem eval_same (a : Act) (d : Nat) (v : Value) (h : d < a.tmps.size) : (a.put (some d) v).eval (.tmp d) = v := by
  simp [Act.put, Act.eval, Array.getD, h]
theorem eval_other (a : Act) (d j : Nat) (v : Value) (h : d ≠ j) : (a.put (some d) v).eval (.tmp j) = a.eval (.tmp j) :=
  Act.eval_put (fun x hx => by injection hx with hx; subst hx; simpa using Ne.symm h)
theorem size_put (a : Act) (d : Option Tmp) (v : Value) : (a.put d v).tmps.size = a.tmps.size := by cases d <;> simp [Act.put]

theorem fr5_p5 (a0 : Act) (v5 v6 v18 v19 v20 u : Value) : (fr5 a0 v5 v6 v18 v19 v20).put (some 5) u = fr5 a0 u v6 v18 v19 v20 := by
  unfold fr5
  rw [put_swap _ 20 5 _ _ (by decide), put_swap _ 19 5 _ _ (by decide), put_swap _ 18 5 _ _ (by decide), put_swap _ 6 5 _ _ (by decide), put_put]
theorem fr5_p6 (a0 : Act) (v5 v6 v18 v19 v20 u : Value) : (fr5 a0 v5 v6 v18 v19 v20).put (some 6) u = fr5 a0 v5 u v18 v19 v20 := by
  unfold fr5
  rw [put_swap _ 20 6 _ _ (by decide), put_swap _ 19 6 _ _ (by decide), put_swap _ 18 6 _ _ (by decide), put_put]
theorem fr5_p18 (a0 : Act) (v5 v6 v18 v19 v20 u : Value) : (fr5 a0 v5 v6 v18 v19 v20).put (some 18) u = fr5 a0 v5 v6 u v19 v20 := by
  unfold fr5
  rw [put_swap _ 20 18 _ _ (by decide), put_swap _ 19 18 _ _ (by decide), put_put]
theorem fr5_p19 (a0 : Act) (v5 v6 v18 v19 v20 u : Value) : (fr5 a0 v5 v6 v18 v19 v20).put (some 19) u = fr5 a0 v5 v6 v18 u v20 := by
  unfold fr5
  rw [put_swap _ 20 19 _ _ (by decide), put_put]
theorem fr5_p20 (a0 : Act) (v5 v6 v18 v19 v20 u : Value) : (fr5 a0 v5 v6 v18 v19 v20).put (some 20) u = fr5 a0 v5 v6 v18 v19 u := by
  unfold fr5
  rw [put_put]
theorem fr5_e3 (a0 : Act) (v5 v6 v18 v19 v20 : Value) : (fr5 a0 v5 v6 v18 v19 v20).eval (.tmp 3) = a0.eval (.tmp 3) := by
  unfold fr5
  rw [eval_other _ 20 3 _ (by decide), eval_other _ 19 3 _ (by decide), eval_other _ 18 3 _ (by decide), eval_other _ 6 3 _ (by decide), eval_other _ 5 3 _ (by decide)]
theorem fr5_e5 (a0 : Act) (v5 v6 v18 v19 v20 : Value) (h : 20 < a0.tmps.size) : (fr5 a0 v5 v6 v18 v19 v20).eval (.tmp 5) = v5 := by
  unfold fr5
  rw [eval_other _ 20 5 _ (by decide), eval_other _ 19 5 _ (by decide), eval_other _ 18 5 _ (by decide), eval_other _ 6 5 _ (by decide), eval_same _ _ _ (by omega)]
theorem fr5_e6 (a0 : Act) (v5 v6 v18 v19 v20 : Value) (h : 20 < a0.tmps.size) : (fr5 a0 v5 v6 v18 v19 v20).eval (.tmp 6) = v6 := by
  unfold fr5
  rw [eval_other _ 20 6 _ (by decide), eval_other _ 19 6 _ (by decide), eval_other _ 18 6 _ (by decide), eval_same _ _ _ (by rw [size_put]; omega)]
theorem fr5_e18 (a0 : Act) (v5 v6 v18 v19 v20 : Value) (h : 20 < a0.tmps.size) : (fr5 a0 v5 v6 v18 v19 v20).eval (.tmp 18) = v18 := by
  unfold fr5
  rw [eval_other _ 20 18 _ (by decide), eval_other _ 19 18 _ (by decide), eval_same _ _ _ (by rw [size_put, size_put]; omega)]
theorem fr5_e19 (a0 : Act) (v5 v6 v18 v19 v20 : Value) (h : 20 < a0.tmps.size) : (fr5 a0 v5 v6 v18 v19 v20).eval (.tmp 19) = v19 := by
  unfold fr5
  rw [eval_other _ 20 19 _ (by decide), eval_same _ _ _ (by rw [size_put, size_put, size_put]; omega)]
theorem fr5_e20 (a0 : Act) (v5 v6 v18 v19 v20 : Value) (h : 20 < a0.tmps.size) : (fr5 a0 v5 v6 v18 v19 v20).eval (.tmp 20) = v20 := by
  unfold fr5
  rw [eval_same _ _ _ (by rw [size_put, size_put, size_put, size_put]; omega)]

def mo0 (q : String) : Oper := { dst := some 18, op := Op.call { callee := Callee.value (Operand.func 50), args := #[], argTypes := #[] }, type := 58, pos := q, after := #[], guard := none }
def mo1 (q : String) : Oper := { dst := some 19, op := Op.load 72 (Operand.tmp 3), type := 72, pos := q, after := #[], guard := none }
def mo2 (q : String) : Oper := { dst := some 20, op := Op.call { callee := Callee.value (Operand.func 51), args := #[Operand.tmp 19], argTypes := #[72] }, type := 58, pos := q, after := #[{ on := 1, ground := Ground.data }, { on := 0, ground := Ground.chain }], guard := none }
def mo3 (q : String) : Oper := { dst := some 5, op := Op.alloc 58, type := 0, pos := q, after := #[], guard := none }
def mo4 (q : String) : Oper := { dst := some 6, op := Op.alloc 58, type := 0, pos := q, after := #[], guard := none }
def mo5 (q : String) : Oper := { dst := none, op := Op.store 58 (Operand.tmp 5) (Operand.tmp 18), type := 0, pos := q, after := #[{ on := 3, ground := Ground.data }, { on := 0, ground := Ground.data }, { on := 2, ground := Ground.chain }, { on := 0, ground := Ground.phase }, { on := 1, ground := Ground.textOnly Departure.lateStores }, { on := 2, ground := Ground.textOnly Departure.lateStoresUnsure }, { on := 3, ground := Ground.phase }, { on := 4, ground := Ground.phase }], guard := none }
def mo6 (q : String) : Oper := { dst := none, op := Op.store 58 (Operand.tmp 6) (Operand.tmp 20), type := 0, pos := q, after := #[{ on := 4, ground := Ground.data }, { on := 2, ground := Ground.data }, { on := 5, ground := Ground.chain }, { on := 0, ground := Ground.phase }, { on := 1, ground := Ground.phase }, { on := 2, ground := Ground.phase }, { on := 3, ground := Ground.phase }, { on := 4, ground := Ground.phase }, { on := 5, ground := Ground.phase }], guard := none }

/-- What holds of the frame, the world and what has been carried out. -/
def MixI (N : Nat) (w : World) (s b : Nat → Int) (a0 : Act) (l : Array Bool) (a : Act) (wc : World) : Prop :=
  ∃ b0 b1 b2 b3 b4 b5 b6 : Bool, l = #[b0, b1, b2, b3, b4, b5, b6] ∧ ∃ v5 v6 v18 v19 v20, a = fr5 a0 v5 v6 v18 v19 v20 ∧ MixJ N w s b wc b0 b1 b2 b3 b4 b5 b6 v5 v6 v18 v19 v20

section
variable {N : Nat} {w wc : World} {s b : Nat → Int} {a0 : Act} {b0 b1 b2 b3 b4 b5 b6 : Bool} {v5 v6 v18 v19 v20 : Value} {Q : Exit → Act → World → Prop}
theorem mix_s0 {o : Oper} (ho : o.op = .call { callee := .value (.func 50), args := #[], argTypes := #[] }) (hd : o.dst = some 18) (hJ : MixJ N w s b wc b0 b1 b2 b3 b4 b5 b6 v5 v6 v18 v19 v20) :
    o.wp Try.prog (fr5 a0 v5 v6 v18 v19 v20) wc (MixI N w s b a0 #[true, b1, b2, b3, b4, b5, b6]) Q :=
  wp_callF 50 #[] #[] ho Try.enter50 #[] (by simp) (fun v w' => v = .agg (wordsA 64 roundsF) ∧ w' = wc.alloc (.cells (wordsA 64 roundsF) 58))
    ((rounds_any wc).mono (by rintro e w' ⟨rfl, rfl⟩; exact ⟨_, rfl, rfl, rfl⟩))
    (by rintro v w' ⟨rfl, rfl⟩; rw [hd]; exact ⟨true, b1, b2, b3, b4, b5, b6, rfl, v5, v6, _, v19, v20, fr5_p18 _ _ _ _ _ _ _, { hJ.later (below_new wc _) with e18 := fun _ => rfl }⟩)
theorem mix_s1 {o : Oper} (ho : o.op = .load 72 (.tmp 3)) (hd : o.dst = some 19) (h3 : a0.eval (.tmp 3) = ptr (N + 1)) (hJ : MixJ N w s b wc b0 b1 b2 b3 b4 b5 b6 v5 v6 v18 v19 v20) :
    o.wp Try.prog (fr5 a0 v5 v6 v18 v19 v20) wc (MixI N w s b a0 #[b0, true, b2, b3, b4, b5, b6]) Q :=
  wp_load_row 72 (.tmp 3) ho (N + 1) (by rw [fr5_e3]; exact h3) 72 (bytesA 64 b) (0, 0) (.array 64 5) hJ.k1 Try.underlying72 rfl (Try.size72B _)
    (by rw [hd]; exact ⟨b0, true, b2, b3, b4, b5, b6, rfl, v5, v6, v18, _, v20, fr5_p19 _ _ _ _ _ _ _, { hJ with e19 := fun _ => rfl }⟩)
theorem mix_s2 {o : Oper} (ho : o.op = .call { callee := .value (.func 51), args := #[.tmp 19], argTypes := #[72] }) (hd : o.dst = some 20) (hsz : 20 < a0.tmps.size) (hJ : MixJ N w s b wc b0 true b2 b3 b4 b5 b6 v5 v6 v18 v19 v20) :
    o.wp Try.prog (fr5 a0 v5 v6 v18 v19 v20) wc (MixI N w s b a0 #[b0, true, true, b3, b4, b5, b6]) Q :=
  wp_callF 51 #[.tmp 19] #[72] ho Try.enter51 #[.agg (bytesA 64 b)] (by rw [hJ.e19 rfl]; simp only [List.map_toArray, List.map_cons, List.map_nil, fr5_e19 _ _ _ _ _ _ hsz])
    (fun v w' => v = .agg (wordsA 64 (sched b 64)) ∧ Below wc.heap.size wc w') ((spread_any b wc).mono (by rintro e w' ⟨rfl, hb⟩; exact ⟨_, rfl, rfl, hb⟩))
    (by rintro v w' ⟨rfl, hb⟩; rw [hd]; exact ⟨b0, true, true, b3, b4, b5, b6, rfl, v5, v6, v18, _, _, fr5_p20 _ _ _ _ _ _ _, { hJ.later hb with e20 := fun _ => rfl }⟩)
theorem mix_s3 {o : Oper} (ho : o.op = .alloc 58) (hd : o.dst = some 5) (hJ : MixJ N w s b wc b0 b1 b2 false b4 b5 b6 v5 v6 v18 v19 v20) :
    o.wp Try.prog (fr5 a0 v5 v6 v18 v19 v20) wc (MixI N w s b a0 #[b0, b1, b2, true, b4, b5, b6]) Q :=
  wp_new 58 ho _ Try.new58 (by rw [hd]; exact ⟨b0, b1, b2, true, b4, b5, b6, rfl, _, v6, v18, v19, v20, fr5_p5 _ _ _ _ _ _ _, hJ.new3⟩)
theorem mix_s4 {o : Oper} (ho : o.op = .alloc 58) (hd : o.dst = some 6) (hJ : MixJ N w s b wc b0 b1 b2 b3 false b5 b6 v5 v6 v18 v19 v20) :
    o.wp Try.prog (fr5 a0 v5 v6 v18 v19 v20) wc (MixI N w s b a0 #[b0, b1, b2, b3, true, b5, b6]) Q :=
  wp_new 58 ho _ Try.new58 (by rw [hd]; exact ⟨b0, b1, b2, b3, true, b5, b6, rfl, v5, _, v18, v19, v20, fr5_p6 _ _ _ _ _ _ _, hJ.new4⟩)
theorem mix_s5 {o : Oper} (ho : o.op = .store 58 (.tmp 5) (.tmp 18)) (hd : o.dst = none) (hsz : 20 < a0.tmps.size) (hJ : MixJ N w s b wc true b1 b2 true b4 b5 b6 v5 v6 v18 v19 v20) :
    o.wp Try.prog (fr5 a0 v5 v6 v18 v19 v20) wc (MixI N w s b a0 #[true, b1, b2, true, b4, true, b6]) Q := by
  obtain rfl := hJ.e18 rfl
  obtain ⟨g, c, rfl, hg, hb, _⟩ := hJ.e5 rfl
  exact wp_store_row 58 (.tmp 5) (.tmp 18) ho g (wordsA 64 roundsF) (fr5_e5 _ _ _ _ _ _ hsz) (fr5_e18 _ _ _ _ _ _ hsz) 58 (wordsA 64 c) hb (Try.size58W _) (wordsA_sizes _ _ _) (wordsA_one _ _)
    (by rw [hd]; exact ⟨true, b1, b2, true, b4, true, b6, rfl, ptr g, v6, .agg (wordsA 64 roundsF), v19, v20, put_none _ _, hJ.store5 hg hb⟩)
theorem mix_s6 {o : Oper} (ho : o.op = .store 58 (.tmp 6) (.tmp 20)) (hd : o.dst = none) (hsz : 20 < a0.tmps.size) (hJ : MixJ N w s b wc b0 b1 true b3 true b5 b6 v5 v6 v18 v19 v20) :
    o.wp Try.prog (fr5 a0 v5 v6 v18 v19 v20) wc (MixI N w s b a0 #[b0, b1, true, b3, true, b5, true]) Q := by
  obtain rfl := hJ.e20 rfl
  obtain ⟨g, c, rfl, hg, hb, _⟩ := hJ.e6 rfl
  exact wp_store_row 58 (.tmp 6) (.tmp 20) ho g (wordsA 64 (sched b 64)) (fr5_e6 _ _ _ _ _ _ hsz) (fr5_e20 _ _ _ _ _ _ hsz) 58 (wordsA 64 c) hb (Try.size58W _) (wordsA_sizes _ _ _) (wordsA_one _ _)
    (by rw [hd]; exact ⟨b0, b1, true, b3, true, b5, true, rfl, v5, ptr g, v18, v19, .agg (wordsA 64 (sched b 64)), put_none _ _, hJ.store6 hg hb⟩)
end

theorem mix_step (q : String) {N : Nat} {w : World} {s b : Nat → Int} {a0 : Act} {Q : Exit → Act → World → Prop} (hsz : 20 < a0.tmps.size) (h3 : a0.eval (.tmp 3) = ptr (N + 1))
    (l : Array Bool) (a : Act) (wc : World) (i : Nat) (o : Oper) (hI : MixI N w s b a0 l a wc) (hi : l.getD i true = false) (ho : (#[mo0 q, mo1 q, mo2 q, mo3 q, mo4 q, mo5 q, mo6 q] : Array Oper)[i]? = some o)
    (he : ∀ e ∈ o.after, Region.binds .any e = true → l.getD e.on false = true) :
    o.guard = none ∧ o.wp Try.prog a wc (MixI N w s b a0 (l.setIfInBounds i true)) Q := by
  obtain ⟨b0, b1, b2, b3, b4, b5, b6, rfl, v5, v6, v18, v19, v20, rfl, hJ⟩ := hI
  match i, hi, ho with
  | 0, hi, ho =>
    have e : mo0 q = o := Option.some.inj ho
    exact ⟨by rw [← e]; rfl, mix_s0 (by rw [← e]; rfl) (by rw [← e]; rfl) hJ⟩
  | 1, hi, ho =>
    have e : mo1 q = o := Option.some.inj ho
    exact ⟨by rw [← e]; rfl, mix_s1 (by rw [← e]; rfl) (by rw [← e]; rfl) h3 hJ⟩
  | 2, hi, ho =>
    have e : mo2 q = o := Option.some.inj ho
    obtain rfl : b1 = true := he ⟨1, .data⟩ (by rw [← e]; simp [mo2]) rfl
    exact ⟨by rw [← e]; rfl, mix_s2 (by rw [← e]; rfl) (by rw [← e]; rfl) hsz hJ⟩
  | 3, hi, ho =>
    have e : mo3 q = o := Option.some.inj ho
    obtain rfl : b3 = false := hi
    exact ⟨by rw [← e]; rfl, mix_s3 (by rw [← e]; rfl) (by rw [← e]; rfl) hJ⟩
  | 4, hi, ho =>
    have e : mo4 q = o := Option.some.inj ho
    obtain rfl : b4 = false := hi
    exact ⟨by rw [← e]; rfl, mix_s4 (by rw [← e]; rfl) (by rw [← e]; rfl) hJ⟩
  | 5, hi, ho =>
    have e : mo5 q = o := Option.some.inj ho
    obtain rfl : b0 = true := he ⟨0, .data⟩ (by rw [← e]; simp [mo5]) rfl
    obtain rfl : b3 = true := he ⟨3, .data⟩ (by rw [← e]; simp [mo5]) rfl
    exact ⟨by rw [← e]; rfl, mix_s5 (by rw [← e]; rfl) (by rw [← e]; rfl) hsz hJ⟩
  | 6, hi, ho =>
    have e : mo6 q = o := Option.some.inj ho
    obtain rfl : b2 = true := he ⟨2, .data⟩ (by rw [← e]; simp [mo6]) rfl
    obtain rfl : b4 = true := he ⟨4, .data⟩ (by rw [← e]; simp [mo6]) rfl
    exact ⟨by rw [← e]; rfl, mix_s6 (by rw [← e]; rfl) (by rw [← e]; rfl) hsz hJ⟩
  | n + 7, hi, ho => simp at ho

theorem mix_back (q : String) (i : Nat) (o : Oper) (ho : (#[mo0 q, mo1 q, mo2 q, mo3 q, mo4 q, mo5 q, mo6 q] : Array Oper)[i]? = some o) (e : Edge) (he : e ∈ o.after) (_ : Region.binds .any e = true) : e.on < i := by
  match i, ho with
  | 0, ho => obtain rfl : mo0 q = o := Option.some.inj ho; simp [mo0] at he
  | 1, ho => obtain rfl : mo1 q = o := Option.some.inj ho; simp [mo1] at he
  | 2, ho => obtain rfl : mo2 q = o := Option.some.inj ho; simp [mo2] at he; rcases he with rfl | rfl <;> decide
  | 3, ho => obtain rfl : mo3 q = o := Option.some.inj ho; simp [mo3] at he
  | 4, ho => obtain rfl : mo4 q = o := Option.some.inj ho; simp [mo4] at he
  | 5, ho => obtain rfl : mo5 q = o := Option.some.inj ho; simp [mo5] at he; rcases he with rfl | rfl | rfl | rfl | rfl | rfl | rfl | rfl <;> decide
  | 6, ho => obtain rfl : mo6 q = o := Option.some.inj ho; simp [mo6] at he; rcases he with rfl | rfl | rfl | rfl | rfl | rfl | rfl | rfl | rfl <;> decide
  | n + 7, ho => simp at ho

/-- The first statement of mix, in whatever order. -/
theorem mix_region1 (q : String) (N : Nat) (w w0 : World) (s b : Nat → Int) (a0 : Act) (hsz : 20 < a0.tmps.size) (h3 : a0.eval (.tmp 3) = ptr (N + 1))
    (hu : a0 = fr5 a0 undef undef undef undef undef) (hJ0 : MixJ N w s b w0.drew false false false false false false false undef undef undef undef undef)
    (Q : Exit → Act → World → Prop)
    (hQ : ∀ (g k : Nat) (v18 v19 v20 : Value) (wc : World), N + 3 ≤ g → N + 3 ≤ k → g ≠ k → Blk wc g 58 (wordsA 64 roundsF) → Blk wc k 58 (wordsA 64 (sched b 64)) →
      Blk wc N 56 (wordsA 8 s) → Blk wc (N + 1 + 1) 56 (wordsA 8 fun _ => 0) → Below N w wc → Q .normal (fr5 a0 (ptr g) (ptr k) v18 v19 v20) wc) :
    (Code.region 1 #[mo0 q, mo1 q, mo2 q, mo3 q, mo4 q, mo5 q, mo6 q] true).wp Try.prog Q a0 w0 := by
  refine wp_region_inv (by kernel_rfl) (MixI N w s b a0) ?_ (mix_step q hsz h3) (mix_back q) ?_ ?_
  · rintro _ _ _ ⟨b0, b1, b2, b3, b4, b5, b6, rfl, _⟩; rfl
  · rintro _ _ wc ⟨b0, b1, b2, b3, b4, b5, b6, rfl, v5, v6, v18, v19, v20, rfl, hJ⟩ hall
    have q3 : b3 = true := hall 3 (by simp)
    have q4 : b4 = true := hall 4 (by simp)
    have q5 : b5 = true := hall 5 (by simp)
    have q6 : b6 = true := hall 6 (by simp)
    obtain ⟨g, c, rfl, hg, hb, hc⟩ := hJ.e5 q3
    obtain ⟨k, d, rfl, hk, hd, hdd⟩ := hJ.e6 q4
    obtain rfl := hc q5
    obtain rfl := hdd q6
    exact hQ g k v18 v19 v20 wc hg hk (fun e => hJ.ne q3 q4 (by rw [e])) hb hd hJ.k0 hJ.k2 hJ.below
  · exact ⟨false, false, false, false, false, false, false, rfl, _, _, _, _, _, hu, hJ0⟩

end Go.Proofs.Ytfheinghkigocaa
namespace Go.Proofs.Ytfheinghkigocaa
open Go.RowKit

structure R8 where
  a : Int
  b : Int
  c : Int
  d : Int
  e : Int
  f : Int
  g : Int
  h : Int

def big1 (x : Int) : Int := bits .xor .u32 (bits .xor .u32 (rot x 6) (rot x 11)) (rot x 25)
def big0 (x : Int) : Int := bits .xor .u32 (bits .xor .u32 (rot x 2) (rot x 13)) (rot x 22)
def chF (e f g : Int) : Int := bits .xor .u32 (bits .and .u32 e f) (bits .and .u32 (bits .xor .u32 4294967295 e) g)
def majF (a b c : Int) : Int := bits .xor .u32 (bits .xor .u32 (bits .and .u32 a b) (bits .and .u32 a c)) (bits .and .u32 b c)
def uF (k w : Int) (r : R8) : Int := (r.h + big1 r.e + chF r.e r.f r.g + k + w) % 4294967296
def vF (r : R8) : Int := (big0 r.a + majF r.a r.b r.c) % 4294967296
def stepF (k w : Int) (r : R8) : R8 := ⟨(uF k w r + vF r) % 4294967296, r.a, r.b, r.c, (r.d + uF k w r) % 4294967296, r.e, r.f, r.g⟩
def runF (kk ww : Nat → Int) (r : R8) : Nat → R8
  | 0 => r
  | t + 1 => stepF (kk t) (ww t) (runF kk ww r t)
def r8 (s : Nat → Int) : R8 := ⟨s 0, s 1, s 2, s 3, s 4, s 5, s 6, s 7⟩
def outF (s : Nat → Int) (r : R8) (i : Nat) : Int :=
  [(s 0 + r.a) % 4294967296, (s 1 + r.b) % 4294967296, (s 2 + r.c) % 4294967296, (s 3 + r.d) % 4294967296, (s 4 + r.e) % 4294967296, (s 5 + r.f) % 4294967296, (s 6 + r.g) % 4294967296, (s 7 + r.h) % 4294967296].getD i 0
/-- What the words s become by a piece. -/
def mixF (s b : Nat → Int) : Nat → Int := outF s (runF roundsF (sched b 64) (r8 s) 64)
theorem u32_all : (if IntKind.u32.signed = true then -1 else IntKind.u32.max) = 4294967295 := by decide

theorem blk_drewN {w : World} {b : Nat} {T : TypeId} {cs : Array Value} (h : Blk w b T cs) (n : Nat) : Blk (w.drewN n) b T cs := by
  induction n with
  | zero => exact h
  | succ n ih => exact ih

set_option maxRecDepth 8000 in
set_option maxHeartbeats 1000000 in
theorem mix_any (s b : Nat → Int) (w : World) :
    Calls Try.prog 47 #[.agg (wordsA 8 s), .agg (bytesA 64 b)] w fun e w' => e = .returned (.agg (wordsA 8 (mixF s b))) ∧ Below w.heap.size w w' := by
  go_enter Try.func47, Try.ntmps47
  go_wp2_with (first | (refine wpList_boxA rfl 56 (.tmp 0) rfl (wordsA 8 s) rfl ?_; refine wpList_boxA rfl 72 (.tmp 1) rfl (bytesA 64 b) rfl ?_) | (refine wpList_new rfl 56 rfl _ Try.new56 ?_))
  have hB : Below w.heap.size w (((w.alloc (.cells (wordsA 8 s) 56)).alloc (.cells (bytesA 64 b) 72)).alloc (.cells (wordsA 8 fun _ => 0) 56)) :=
    (((Below.refl _ _).alloc (Nat.le_refl _) _).alloc (by simp) _).alloc (by simp; omega) _
  have hJ : MixJ w.heap.size w s b (((w.alloc (.cells (wordsA 8 s) 56)).alloc (.cells (bytesA 64 b) 72)).alloc (.cells (wordsA 8 fun _ => 0) 56)).drew false false false false false false false undef undef undef undef undef :=
    { below := hB.drew, hN := by simp [World.drew],
      k0 := (((Blk.new w 56 (wordsA 8 s)).alloc _).alloc _).drew
      k1 := by simpa using ((Blk.new (w.alloc (.cells (wordsA 8 s) 56)) 72 (bytesA 64 b)).alloc (.cells (wordsA 8 fun _ => 0) 56)).drew
      k2 := by simpa using (Blk.new ((w.alloc (.cells (wordsA 8 s) 56)).alloc (.cells (bytesA 64 b) 72)) 56 (wordsA 8 fun _ => 0)).drew
      e18 := fun h => by simp at h, e19 := fun h => by simp at h, e20 := fun h => by simp at h, e5 := fun h => by simp at h, e6 := fun h => by simp at h, ne := fun h => by simp at h, w5 := fun h => by simp at h, w6 := fun h => by simp at h }
  clear hB
  generalize (((w.alloc (.cells (wordsA 8 s) 56)).alloc (.cells (bytesA 64 b) 72)).alloc (.cells (wordsA 8 fun _ => 0) 56)) = w0 at *
  simp only [Act.put, List.setIfInBounds_toArray, List.set_cons_succ, List.set_cons_zero, World.size_alloc]
  refine mix_region1 _ w.heap.size w w0 s b _ (by simp) rfl rfl hJ _ ?_
  intro g k v18 v19 v20 wc hg hk hgk hG hK hS hR hB
  simp only [fr5, Act.put, List.setIfInBounds_toArray, List.set_cons_succ, List.set_cons_zero]
  clear hJ
  have s0 : wc.cell? ⟨w.heap.size, 0, none⟩ = some (.int .u32 (s 0)) := by rw [hS.cell, wordsA_get _ _ _ (by omega)]
  have s1 : wc.cell? ⟨w.heap.size, 1, none⟩ = some (.int .u32 (s 1)) := by rw [hS.cell, wordsA_get _ _ _ (by omega)]
  have s2 : wc.cell? ⟨w.heap.size, 2, none⟩ = some (.int .u32 (s 2)) := by rw [hS.cell, wordsA_get _ _ _ (by omega)]
  have s3 : wc.cell? ⟨w.heap.size, 3, none⟩ = some (.int .u32 (s 3)) := by rw [hS.cell, wordsA_get _ _ _ (by omega)]
  have s4 : wc.cell? ⟨w.heap.size, 4, none⟩ = some (.int .u32 (s 4)) := by rw [hS.cell, wordsA_get _ _ _ (by omega)]
  have s5 : wc.cell? ⟨w.heap.size, 5, none⟩ = some (.int .u32 (s 5)) := by rw [hS.cell, wordsA_get _ _ _ (by omega)]
  have s6 : wc.cell? ⟨w.heap.size, 6, none⟩ = some (.int .u32 (s 6)) := by rw [hS.cell, wordsA_get _ _ _ (by omega)]
  have s7 : wc.cell? ⟨w.heap.size, 7, none⟩ = some (.int .u32 (s 7)) := by rw [hS.cell, wordsA_get _ _ _ (by omega)]
  go_wp2
  go_quiet (fail)
  go_wp2
  clear s0 s1 s2 s3 s4 s5 s6 s7
  have hG0 := blk_drewN hG nq
  have hK0 := blk_drewN hK nq
  have hS0 := blk_drewN hS nq
  have hR0 := blk_drewN hR nq
  have hB0 : Below w.heap.size w (wc.drewN nq) := below_drewN hB nq
  go_loopw [7, 8, 9, 10, 11, 12, 13, 14, 37] (fun xa xb xc xd xe xf xg xh i wr => ∃ t : Nat, t ≤ 64 ∧ i = .int .i64 t ∧
      xa = .int .u32 (runF roundsF (sched b 64) (r8 s) t).a ∧ xb = .int .u32 (runF roundsF (sched b 64) (r8 s) t).b ∧ xc = .int .u32 (runF roundsF (sched b 64) (r8 s) t).c ∧ xd = .int .u32 (runF roundsF (sched b 64) (r8 s) t).d ∧
      xe = .int .u32 (runF roundsF (sched b 64) (r8 s) t).e ∧ xf = .int .u32 (runF roundsF (sched b 64) (r8 s) t).f ∧ xg = .int .u32 (runF roundsF (sched b 64) (r8 s) t).g ∧ xh = .int .u32 (runF roundsF (sched b 64) (r8 s) t).h ∧
      Blk wr g 58 (wordsA 64 roundsF) ∧ Blk wr k 58 (wordsA 64 (sched b 64)) ∧ Blk wr w.heap.size 56 (wordsA 8 s) ∧ Blk wr (w.heap.size + 1 + 1) 56 (wordsA 8 fun _ => 0) ∧ Below w.heap.size w wr) (fun _ _ _ _ _ _ _ _ i _ => 64 - (intOf i).toNat)
  case atStart => exact ⟨0, by omega, rfl, rfl, rfl, rfl, rfl, rfl, rfl, rfl, rfl, hG0, hK0, hS0, hR0, hB0⟩
  case round =>
    clear hG0 hK0 hS0 hR0 hB0 hG hK hS hR hB
    obtain ⟨t, ht, rfl, rfl, rfl, rfl, rfl, rfl, rfl, rfl, rfl, hG, hK, hS, hR, hB⟩ := hrel
    obtain ⟨r, hr⟩ : ∃ r, Hid (r = runF roundsF (sched b 64) (r8 s) t) := ⟨_, rfl⟩
    rw [← hr.out]
    obtain ⟨ra, rb, rc, rd, re, rf, rg, rh⟩ := r
    dsimp only
    by_cases hlt : t < 64
    · have eg : wr.cell? ⟨g, t, none⟩ = some (.int .u32 (roundsF t)) := by rw [hG.cell, wordsA_get _ _ _ (by omega)]
      have ek : wr.cell? ⟨k, t, none⟩ = some (.int .u32 (sched b 64 t)) := by rw [hK.cell, wordsA_get _ _ _ (by omega)]
      obtain ⟨kt, hkt⟩ : ∃ kt, Hid (kt = roundsF t) := ⟨_, rfl⟩
      obtain ⟨wt, hwt⟩ : ∃ wt, Hid (wt = sched b 64 t) := ⟨_, rfl⟩
      rw [← hkt.out] at eg
      rw [← hwt.out] at ek
      go_wp2
      go_quiet ((go_at_call 52; exact Calls.quiet_of_same (turn_any _ _ _ (by omega) (by omega))))
      go_wp2_with (go_at_call 52; refine (turn_any _ _ _ (by omega) (by omega)).mono ?_; rintro e w' ⟨rfl, rfl⟩)
      go_roundw
      case rel =>
        have hn : runF roundsF (sched b 64) (r8 s) (t + 1) = stepF kt wt ⟨ra, rb, rc, rd, re, rf, rg, rh⟩ := by rw [hkt.out, hwt.out, hr.out]; rfl
        simp only [u32_all]
        exact ⟨t + 1, by omega, by go_num, by rw [hn]; rfl, by rw [hn]; rfl, by rw [hn]; rfl, by rw [hn]; rfl, by rw [hn]; rfl, by rw [hn]; rfl, by rw [hn]; rfl, by rw [hn]; rfl, blk_drewN hG _, blk_drewN hK _, blk_drewN hS _, blk_drewN hR _, below_drewN hB _⟩
      case measure => simp [intOf]; omega
    · obtain rfl : t = 64 := by omega
      clear hlt ht
      have s0 : wr.cell? ⟨w.heap.size, 0, none⟩ = some (.int .u32 (s 0)) := by rw [hS.cell, wordsA_get _ _ _ (by omega)]
      have s1 : wr.cell? ⟨w.heap.size, 1, none⟩ = some (.int .u32 (s 1)) := by rw [hS.cell, wordsA_get _ _ _ (by omega)]
      have s2 : wr.cell? ⟨w.heap.size, 2, none⟩ = some (.int .u32 (s 2)) := by rw [hS.cell, wordsA_get _ _ _ (by omega)]
      have s3 : wr.cell? ⟨w.heap.size, 3, none⟩ = some (.int .u32 (s 3)) := by rw [hS.cell, wordsA_get _ _ _ (by omega)]
      have s4 : wr.cell? ⟨w.heap.size, 4, none⟩ = some (.int .u32 (s 4)) := by rw [hS.cell, wordsA_get _ _ _ (by omega)]
      have s5 : wr.cell? ⟨w.heap.size, 5, none⟩ = some (.int .u32 (s 5)) := by rw [hS.cell, wordsA_get _ _ _ (by omega)]
      have s6 : wr.cell? ⟨w.heap.size, 6, none⟩ = some (.int .u32 (s 6)) := by rw [hS.cell, wordsA_get _ _ _ (by omega)]
      have s7 : wr.cell? ⟨w.heap.size, 7, none⟩ = some (.int .u32 (s 7)) := by rw [hS.cell, wordsA_get _ _ _ (by omega)]
      have hfin : Hid (mixF s b = outF s ⟨ra, rb, rc, rd, re, rf, rg, rh⟩) := by show mixF s b = _; rw [hr.out]; rfl
      clear hr
      go_wp2_with (refine wpList_bld rfl 56 _ rfl (wordsA 8 (outF s ⟨ra, rb, rc, rd, re, rf, rg, rh⟩)) (by kernel_rfl) ?_; refine wpList_store_row rfl 56 (.tmp 4) (.tmp 132) rfl (w.heap.size + 1 + 1) (wordsA 8 (outF s ⟨ra, rb, rc, rd, re, rf, rg, rh⟩)) rfl rfl 56 (wordsA 8 fun _ => 0) hR (Try.size56W _) (wordsA_sizes _ _ _) (wordsA_one _ _) ?_)
      exact bodyPost_ret (v := .agg (wordsA 8 (outF s ⟨ra, rb, rc, rd, re, rf, rg, rh⟩))) (results_cell_row Try.results47 _ _ (w.heap.size + 1 + 1) 56 _ (0, 0) _ rfl (hR.setRow _) Try.underlying56 rfl (Try.size56W _)) rfl ⟨by rw [hfin.out], below_setRow hB (by omega) _⟩
end Go.Proofs.Ytfheinghkigocaa
