import Derived.Test.YtkcdoamohiaiaaaChecked
import Derived.WalkKit
import Derived.WalkSpells
import Derived.WalkLawsBesides
import Derived.BigQuiet
import Derived.BigRegion
import Derived.Deep.WholeRow
import Derived.Deep.MidRow
import Derived.Deep.RegionWith
import Derived.Deep.DeepCutAuto
import Derived.Deep.RegionHeld3
import Derived.Deep.QuietTactic
import Derived.Laws.OwnMore
import Derived.Laws.BytesArg
import Derived.Lib.AppendStr
import Derived.Maps.AppendAt
import Derived.ChangeKeysEq
namespace Go.Proofs.Ytkcdoamohiaiaaa
open Go.RowKit

theorem hid_in {p : Prop} (h : p) : Hid p := h
structure Keep (p : Prop) : Prop where
  out : p

def Blk (w : World) (b : Nat) (T : TypeId) (cs : Array Value) : Prop := w.heap[b]? = some (.cells cs T (0, 0))

theorem Blk.lt {w : World} {b : Nat} {T : TypeId} {cs : Array Value} (h : Blk w b T cs) : b < w.heap.size := (Array.getElem?_eq_some_iff.1 h).1
theorem Blk.cell {w : World} {b : Nat} {T : TypeId} {cs : Array Value} (h : Blk w b T cs) (j : Nat) : w.cell? ⟨b, j, none⟩ = cs[j]? := cell_of_row w b j cs T (0, 0) h
theorem Blk.frozen {w : World} {b : Nat} {T : TypeId} {cs : Array Value} (h : Blk w b T cs) (j : Nat) : w.frozen? ⟨b, j, none⟩ = false := by
  unfold Blk at h; simp [World.frozen?, h]
theorem Blk.new (w : World) (T : TypeId) (cs : Array Value) : Blk (w.alloc (.cells cs T)) w.heap.size T cs := heap_alloc_new w _
theorem Blk.alloc {w : World} {b : Nat} {T : TypeId} {cs : Array Value} (h : Blk w b T cs) (o : Obj) : Blk (w.alloc o) b T cs := by
  unfold Blk; rw [Below.heap_alloc w o b h.lt]; exact h
theorem Blk.drew {w : World} {b : Nat} {T : TypeId} {cs : Array Value} (h : Blk w b T cs) : Blk w.drew b T cs := h
theorem Blk.drewN {w : World} {b : Nat} {T : TypeId} {cs : Array Value} (h : Blk w b T cs) (n : Nat) : Blk (w.drewN n) b T cs := h
theorem Blk.below {w w' : World} {B b : Nat} {T : TypeId} {cs : Array Value} (h : Blk w b T cs) (hb : Below B w w') (hlt : b < B) : Blk w' b T cs := by
  unfold Blk; rw [hb.block b hlt]; exact h
theorem Blk.set {w : World} {b : Nat} {T : TypeId} {cs : Array Value} (h : Blk w b T cs) (j : Nat) (v : Value) : Blk (w.setCell ⟨b, j, none⟩ v) b T (cs.setIfInBounds j v) := by
  unfold Blk; rw [setCell_eq_setRow w b j cs T (0, 0) v h]; exact setRow_heap w b cs _ T (0, 0) h
theorem Blk.set_ne {w : World} {b b' j : Nat} {T : TypeId} {cs : Array Value} (h : Blk w b T cs) (hne : b ≠ b') (v : Value) : Blk (w.setCell ⟨b', j, none⟩ v) b T cs := by
  unfold Blk; rw [Below.heap_setCell w _ v b hne]; exact h
theorem Blk.setRow {w : World} {b : Nat} {T : TypeId} {cs : Array Value} (h : Blk w b T cs) (cs' : Array Value) : Blk (w.setRow b cs') b T cs' := setRow_heap w b cs cs' T (0, 0) h
theorem Blk.setRow_ne {w : World} {b b' : Nat} {T : TypeId} {cs : Array Value} (h : Blk w b T cs) (hne : b ≠ b') (cs' : Array Value) : Blk (w.setRow b' cs') b T cs := by
  unfold Blk; rw [setRow_other w b' b cs' hne]; exact h
theorem below_setRow {B : Nat} {a w : World} (h : Below B a w) {b : Nat} (hb : B ≤ b) (cs : Array Value) : Below B a (w.setRow b cs) :=
  h.trans ⟨rfl, rfl, rfl, by simp, fun k hk => setRow_other w b k cs (by omega)⟩
theorem below_new (w : World) (o : Obj) : Below w.heap.size w (w.alloc o) := (Below.refl _ _).alloc (Nat.le_refl _) o
theorem blk_type {w : World} {k : Nat} {T T' : TypeId} {cs cs' : Array Value} (h : Blk w k T cs) (h' : Blk w k T' cs') : T = T' := by
  unfold Blk at h h'; rw [h] at h'; simp at h'; exact h'.2
theorem blk_ne {w : World} {k k' : Nat} {T T' : TypeId} {cs cs' : Array Value} (h : Blk w k T cs) (h' : Blk w k' T' cs') (ht : T ≠ T') : k ≠ k' := by
  rintro rfl; exact ht (blk_type h h')
theorem cell_lt {w : World} {h j : Nat} {v : Value} (hc : w.cell? ⟨h, j, none⟩ = some v) : h < w.heap.size := by
  apply Nat.lt_of_not_le; intro hle
  simp [World.cell?, Array.getElem?_eq_none hle] at hc

abbrev ptr (g : Nat) : Value := .pointer (some ⟨g, 0, none⟩)

theorem grownBy_setCell (w : World) (g j : Nat) (v : Value) : w.grownBy (w.setCell ⟨g, j, none⟩ v) (some g) :=
  ⟨rfl, rfl, rfl, by simp [World.setCell], fun i _ hn => Below.heap_setCell w _ v i (fun e => hn (by rw [e]))⟩
theorem grownBy_setRow (w : World) (g : Nat) (cs : Array Value) : w.grownBy (w.setRow g cs) (some g) :=
  ⟨rfl, rfl, rfl, by simp, fun i _ hn => setRow_other w g i cs (fun e => hn (by rw [e]))⟩

structure Grown (w w' : World) (S : Nat → Prop) : Prop where
  os : w'.os = w.os
  tape : w'.tape = w.tape
  output : w'.output = w.output
  size : w.heap.size ≤ w'.heap.size
  block : ∀ k, k < w.heap.size → ¬ S k → w'.heap[k]? = w.heap[k]?
theorem Grown.refl (w : World) (S : Nat → Prop) : Grown w w S := ⟨rfl, rfl, rfl, Nat.le_refl _, fun _ _ _ => rfl⟩
theorem Grown.trans {a b c : World} {S : Nat → Prop} (h : Grown a b S) (k : Grown b c S) : Grown a c S :=
  ⟨k.os.trans h.os, k.tape.trans h.tape, k.output.trans h.output, Nat.le_trans h.size k.size, fun i hi hs => (k.block i (Nat.lt_of_lt_of_le hi h.size) hs).trans (h.block i hi hs)⟩
theorem Grown.next {a b c : World} {S T : Nat → Prop} (h : Grown a b S) (k : Grown b c T) (hT : ∀ i, i < a.heap.size → T i → S i) : Grown a c S :=
  ⟨k.os.trans h.os, k.tape.trans h.tape, k.output.trans h.output, Nat.le_trans h.size k.size, fun i hi hs => (k.block i (Nat.lt_of_lt_of_le hi h.size) (fun ht => hs (hT i hi ht))).trans (h.block i hi hs)⟩
theorem Grown.mono {a b : World} {S T : Nat → Prop} (h : Grown a b S) (hT : ∀ i, i < a.heap.size → S i → T i) : Grown a b T := (Grown.refl a T).next h hT
theorem Grown.of {a b : World} {S : Nat → Prop} {o : Option Nat} (h : a.grownBy b o) (ho : ∀ k, k < a.heap.size → o = some k → S k) : Grown a b S :=
  ⟨h.os, h.tape, h.output, h.size, fun i hi hs => h.block i hi (fun e => hs (ho i hi e.symm))⟩
theorem Grown.below {a b : World} {S : Nat → Prop} (h : Below a.heap.size a b) : Grown a b S := ⟨h.os, h.tape, h.output, h.size, fun i hi _ => h.block i hi⟩
theorem Grown.alloc (w : World) (o : Obj) (S : Nat → Prop) : Grown w (w.alloc o) S := Grown.below (below_new w o)
theorem Grown.drew {a b : World} {S : Nat → Prop} (h : Grown a b S) : Grown a b.drew S := ⟨h.os, h.tape, h.output, h.size, h.block⟩
theorem Grown.drewN {a b : World} {S : Nat → Prop} (h : Grown a b S) (n : Nat) : Grown a (b.drewN n) S := ⟨h.os, h.tape, h.output, h.size, h.block⟩
theorem Grown.setCell (w : World) (g j : Nat) (v : Value) {S : Nat → Prop} (hS : g < w.heap.size → S g) : Grown w (w.setCell ⟨g, j, none⟩ v) S :=
  Grown.of (grownBy_setCell w g j v) fun k hk e => by injection e with e; subst e; exact hS hk
theorem Grown.setRow (w : World) (g : Nat) (cs : Array Value) {S : Nat → Prop} (hS : g < w.heap.size → S g) : Grown w (w.setRow g cs) S :=
  Grown.of (grownBy_setRow w g cs) fun k hk e => by injection e with e; subst e; exact hS hk
theorem Grown.blk {a b : World} {S : Nat → Prop} (h : Grown a b S) {k : Nat} {T : TypeId} {cs : Array Value} (hk : Blk a k T cs) (hs : ¬ S k) : Blk b k T cs := by
  unfold Blk; rw [h.block k hk.lt hs]; exact hk
theorem Grown.cell {a b : World} {S : Nat → Prop} (h : Grown a b S) {k j : Nat} {v : Value} (hk : a.cell? ⟨k, j, none⟩ = some v) (hs : ¬ S k) : b.cell? ⟨k, j, none⟩ = some v := by
  rw [World.cell?_of_block (h.block k (cell_lt hk) hs)]; exact hk
theorem Grown.to_below {a b : World} {S : Nat → Prop} (h : Grown a b S) {B : Nat} (hs : ∀ k, k < B → ¬ S k) (hB : B ≤ a.heap.size) : Below B a b :=
  ⟨h.os, h.tape, h.output, h.size, fun i hi => h.block i (by omega) (hs i hi)⟩

def bv (l : List Int) : List Value := l.map fun c => .int .u8 c
theorem bv_len (l : List Int) : (bv l).length = l.length := by simp [bv]
theorem bv_get (l : List Int) (i : Nat) (h : i < l.length) : (bv l)[i]? = some (.int .u8 (l.getD i 0)) := by
  simp [bv, h, List.getD]
theorem bv_app (a b : List Int) : bv (a ++ b) = bv a ++ bv b := by simp [bv]
theorem bv_one (l : List Int) : ∀ u ∈ bv l, u.oneCell' = true := fun u hu => by simp [bv] at hu; obtain ⟨_, _, rfl⟩ := hu; rfl
def RowAt (w : World) (v : Value) (l : List Int) : Prop :=
  (v = .slice none 0 0 ∧ l = []) ∨ (∃ a c, v = .slice (some a) 0 c ∧ l = []) ∨ ∃ h off cap, v = .slice (some ⟨h, off, none⟩) l.length cap ∧ l.length ≤ cap ∧ ∀ i, i < l.length → w.cell? ⟨h, off + i, none⟩ = some (.int .u8 (l.getD i 0))
theorem row_form {w : World} {v : Value} {l : List Int} (h : RowAt w v l) : ∃ a c, v = .slice a l.length c := by
  rcases h with ⟨rfl, rfl⟩ | ⟨a, c, rfl, rfl⟩ | ⟨b, off, cap, rfl, _⟩
  · exact ⟨_, _, rfl⟩
  · exact ⟨_, _, rfl⟩
  · exact ⟨_, _, rfl⟩
theorem RowAt.grown {w w' : World} {v : Value} {l : List Int} {S : Nat → Prop} (h : RowAt w v l) (hg : Grown w w' S) (hs : ∀ b, v.ownBlock = some b → b < w.heap.size → ¬ S b) : RowAt w' v l := by
  rcases h with h | h | ⟨b, off, cap, h1, h2, h3⟩
  · exact .inl h
  · exact .inr (.inl h)
  · exact .inr (.inr ⟨b, off, cap, h1, h2, fun i hi => hg.cell (h3 i hi) (hs b (by rw [h1]; rfl) (cell_lt (h3 i hi)))⟩)
theorem RowAt.below {w w' : World} {v : Value} {l : List Int} (h : RowAt w v l) (hb : Below w.heap.size w w') : RowAt w' v l :=
  h.grown (Grown.below (S := fun _ => False) hb) fun _ _ _ h => h

def Own (w : World) (v : Value) (l : List Int) : Prop := w.ownsRow 0 5 1 v l.length (bv l)
theorem own_nil (w : World) : Own w (.slice none 0 0) [] := ⟨rfl, .inl ⟨rfl, rfl⟩⟩
theorem Own.row {w : World} {v : Value} {l : List Int} (h : Own w v l) : RowAt w v l := by
  have h' := h
  obtain ⟨_, h2⟩ := h
  rcases h2 with ⟨rfl, h0⟩ | ⟨g, cap, cur, rfl, hg, hh, hc, _⟩
  · exact .inl ⟨rfl, List.eq_nil_of_length_eq_zero (by omega)⟩
  · refine .inr <| .inr ⟨g, 0, cap, rfl, by omega, fun i hi => ?_⟩
    rw [Nat.zero_add, World.ownsRow.cellAt h' i (by omega), bv_get l i hi]
theorem Own.lt {w : World} {v : Value} {l : List Int} (h : Own w v l) : ∀ k, v.ownBlock = some k → k < w.heap.size := fun k hk => (World.ownsRow.lt h k hk).2
theorem Own.grown {w w' : World} {v : Value} {l : List Int} {S : Nat → Prop} (h : Own w v l) (hg : Grown w w' S) (hs : ∀ k, v.ownBlock = some k → ¬ S k) : Own w' v l := by
  refine ⟨h.1, ?_⟩
  rcases h.2 with h1 | ⟨g, cap, cur, rfl, h2, h3, h4⟩
  · exact .inl h1
  · exact .inr ⟨g, cap, cur, rfl, h2, hg.blk h3 (hs g rfl), h4⟩
theorem Own.ne {w : World} {v : Value} {l : List Int} {p : Nat} {T : TypeId} {cs : Array Value} (h : Own w v l) (hp : Blk w p T cs) (hT : T ≠ 5) : v.ownBlock ≠ some p := by
  intro e
  rcases h.2 with ⟨rfl, _⟩ | ⟨g, cap, cur, rfl, _, h3, _⟩
  · simp [Value.ownBlock] at e
  · simp [Value.ownBlock] at e
    subst e
    exact hT (blk_type hp h3)
theorem Own.form {w : World} {v : Value} {l : List Int} (h : Own w v l) : (v = .slice none 0 0 ∧ l = []) ∨ ∃ g cap cur, v = .slice (some ⟨g, 0, none⟩) l.length cap ∧ Blk w g 5 cur ∧ l.length ≤ cap ∧ cap ≤ maxLen ∧ cur.size = cap ∧ cur.toList.take l.length = bv l := by
  rcases h.2 with ⟨rfl, h0⟩ | ⟨g, cap, cur, rfl, _, h3, h4, h5, h6, h7⟩
  · exact .inl ⟨rfl, List.eq_nil_of_length_eq_zero h0⟩
  · exact .inr ⟨g, cap, cur, rfl, h3, h4, h5, by omega, by simpa using h7⟩
theorem Own.mk {w : World} {g cap : Nat} {cur : Array Value} {l : List Int} (h3 : Blk w g 5 cur) (h4 : l.length ≤ cap) (h5 : cap ≤ maxLen) (h6 : cur.size = cap) (h7 : cur.toList.take l.length = bv l) : Own w (.slice (some ⟨g, 0, none⟩) l.length cap) l :=
  ⟨by rw [bv_len]; omega, .inr ⟨g, cap, cur, rfl, Nat.zero_le _, h3, h4, h5, by omega, by simpa using h7⟩⟩
def Moved (w : World) (v v' : Value) : Prop := v'.ownBlock = v.ownBlock ∨ ∃ k, v'.ownBlock = some k ∧ w.heap.size ≤ k
theorem Moved.refl (w : World) (v : Value) : Moved w v v := .inl rfl
theorem Moved.trans {a b : World} {v v1 v2 : Value} (h : Moved a v v1) (hs : a.heap.size ≤ b.heap.size) (k : Moved b v1 v2) : Moved a v v2 := by
  rcases k with e | ⟨j, h1, h2⟩
  · rcases h with h | ⟨i, h1, h2⟩
    · exact .inl (e.trans h)
    · exact .inr ⟨i, e.trans h1, h2⟩
  · exact .inr ⟨j, h1, by omega⟩
theorem Moved.old {a : World} {v v1 : Value} (h : Moved a v v1) {k : Nat} (hk : k < a.heap.size) (e : v1.ownBlock = some k) : v.ownBlock = some k := by
  rcases h with h | ⟨i, h1, h2⟩
  · rw [← h]; exact e
  · rw [h1] at e; injection e with e; omega

theorem Try.info5 : (Try.prog.info? 5).map (fun i => (i.zero, i.size, i.bytes)) = some (some (.int .u8 0), 1, 1) := by kernel_rfl
theorem row_one (w : World) (c : Int) : RowAt (w.alloc (.cells #[.int .u8 c] 5)) (.slice (some ⟨w.heap.size, 0, none⟩) 1 1) [c] := by
  refine .inr <| .inr ⟨w.heap.size, 0, 1, rfl, by simp, fun i hi => ?_⟩
  have e : i = 0 := by simp at hi; exact hi
  subst e
  rw [(Blk.new w 5 #[.int .u8 c]).cell]; rfl

def AppPost (w : World) (v : Value) (l : List Int) (v' : Value) (w' : World) : Prop :=
  Own w' v' l ∧ ((v'.ownBlock = v.ownBlock ∧ Grown w w' fun k => v.ownBlock = some k) ∨ (v'.ownBlock = some w.heap.size ∧ Below w.heap.size w w'))
theorem AppPost.moved {w w' : World} {v v' : Value} {l : List Int} (h : AppPost w v l v' w') : Moved w v v' := by
  rcases h.2 with h | h
  · exact .inl h.1
  · exact .inr ⟨_, h.1, Nat.le_refl _⟩
theorem AppPost.grown {w w' : World} {v v' : Value} {l : List Int} (h : AppPost w v l v' w') : Grown w w' fun k => v.ownBlock = some k := by
  rcases h.2 with h | h
  · exact h.2
  · exact Grown.below h.2

section
theorem run_app_cells (w : World) (ty : TypeId) (v : Value) (l : List Int) (hown : Own w v l) (a : Addr) (c : Nat) (m : List Int) (hnews : ∀ j u, (bv m)[j]? = some u → w.cell? (a.add j) = some u) (hb : l.length + m.length ≤ 140737488355328) :
    ∃ v' w', (Builtin.append_ #[30, 30] ty #[v, .slice (some a) m.length c]).run Try.prog w = .ok v' w' ∧ AppPost w v (l ++ m) v' w' := by
  obtain ⟨i, hi, hzz⟩ := Option.map_eq_some_iff.1 Try.info5
  simp only [Prod.mk.injEq] at hzz
  obtain ⟨hz, hsz, hby⟩ := hzz
  have h63 : l.length + m.length ≤ maxLen := by unfold maxLen; omega
  have hlm : (bv m).length = m.length * i.size := by rw [bv_len, hsz]; omega
  obtain ⟨v', w', hr, h1, h2, _, h3⟩ := run_append_own_at (P := Try.prog) w 0 30 ty 5 i (.int .u8 0) 1 1 Try.underlying30 hi hz hsz hby rfl (by omega) v l.length (bv l) hown a m.length c (bv m) (by rw [bv_len]; omega) hnews (bv_one m) h63 (by omega) (Nat.zero_le _)
  have hO : Own w' v' (l ++ m) := by unfold Own; rw [List.length_append, bv_app]; exact h1
  refine ⟨v', w', hr, hO, ?_⟩
  rcases hown.form with ⟨rfl, rfl⟩ | ⟨g, cap, cur, rfl, hg, hnc, hcm, hcs, htake⟩
  · rcases h3 with h3 | h3
    · exact .inl ⟨h3, Grown.of h2 fun k _ e => by simp [Value.ownBlock] at e⟩
    · exact .inr ⟨h3, h2.os, h2.tape, h2.output, h2.size, fun k hk => h2.block k hk (by simp [Value.ownBlock])⟩
  · by_cases hroom : l.length + m.length ≤ cap
    · have hr2 := run_append_room (P := Try.prog) w 30 ty 5 i Try.underlying30 hi g l.length cap cur hg a m.length c (bv m) hlm hnews (bv_one m) hroom (by rw [hsz, bv_len, hcs]; omega)
      have e := hr.symm.trans hr2
      injection e with e1 e2
      subst e1
      exact .inl ⟨rfl, Grown.of h2 fun k _ e => e⟩
    · have holds : ∀ j u, (bv l)[j]? = some u → w.cell? ((⟨g, 0, none⟩ : Addr).add j) = some u := World.ownsRow.cells (g := g) hown rfl
      have hr2 := run_append_grow (P := Try.prog) w 30 ty 5 i (.int .u8 0) Try.underlying30 hi hz ⟨g, 0, none⟩ l.length cap (bv l) (by rw [bv_len, hsz]; omega) holds a m.length c (bv m) hlm hnews (by omega) (by omega) (by rw [hby]; exact growslice_fits (by omega) (by omega))
      have e := hr.symm.trans hr2
      injection e with e1 e2
      subst e1 e2
      exact .inr ⟨rfl, ⟨rfl, rfl, rfl, by simp, fun k hk => Below.heap_alloc w.drew _ k hk⟩⟩
theorem run_app_row (w : World) (ty : TypeId) (v vx : Value) (l m : List Int) (hown : Own w v l) (hrow : RowAt w vx m) (hb : l.length + m.length ≤ 140737488355328) :
    ∃ v' w', (Builtin.append_ #[30, 30] ty #[v, vx]).run Try.prog w = .ok v' w' ∧ AppPost w v (l ++ m) v' w' := by
  rcases hrow with ⟨rfl, rfl⟩ | ⟨ad, c, rfl, rfl⟩ | ⟨b, off, cap, rfl, hcap, hc⟩
  · obtain ⟨i, hi, _⟩ := Option.map_eq_some_iff.1 Try.info5
    have hrun := run_append_owned_none (P := Try.prog) (w := w) 0 30 ty 5 i 1 Try.underlying30 hi v l.length (bv l) hown
    exact ⟨v, w, hrun, by simpa using hown, .inl ⟨rfl, Grown.refl _ _⟩⟩
  · exact run_app_cells w ty v l hown ad c [] (fun j u hu => by simp [bv] at hu) hb
  · refine run_app_cells w ty v l hown ⟨b, off, none⟩ cap m (fun j u hu => ?_) hb
    have hj : j < m.length := by have := (List.getElem?_eq_some_iff.1 hu).1; rwa [bv_len] at this
    rw [bv_get m j hj] at hu
    rw [Addr.add_mid, hc j hj]; exact hu
end
theorem wpList_app {ops : Array Oper} {rest : List Oper} {o : Oper} {a : Act} {w : World} {Q : Exit → Act → World → Prop} (hgd : o.guard = none) (s x : Operand)
    (ho : o.op = .call { callee := .builtin .append, args := #[s, x], argTypes := #[30, 30] }) (v vx : Value) (l m : List Int)
    (hs : a.eval s = v) (hx : a.eval x = vx) (hown : Own w v l) (hrow : RowAt w vx m) (hb : l.length + m.length ≤ 140737488355328)
    (h : ∀ v' w', AppPost w v (l ++ m) v' w' → wpList Try.prog ops Q rest (a.put o.dst v') w') : wpList Try.prog ops Q (o :: rest) a w := by
  refine wpList_plain hgd fun K hK => ?_
  obtain ⟨v', w', hr, h2⟩ := run_app_row w o.type v vx l m hown hrow hb
  unfold Oper.wp execOp
  simp only [ho, resolve, invoke, builtin, Sem.run_bind, Sem.run_pure, Result.andThen_ok, List.map_toArray, List.map_cons, List.map_nil, hs, hx, hr]
  exact hK _ _ (h v' w' h2)
def numF : Nat → Nat → List Int
  | 0, x => [(x : Int)]
  | f + 1, x => if x < 128 then [(x : Int)] else ((x % 128 + 128 : Nat) : Int) :: numF f (x / 128)
def numL (x : Nat) : List Int := numF 9 x

theorem numF_more (f : Nat) : ∀ x, x < 128 ^ (f + 1) → numF (f + 1) x = numF f x := by
  induction f with
  | zero => intro x hx; simp only [numF]; rw [if_pos (by simpa using hx)]
  | succ f ih =>
    intro x hx
    by_cases h : x < 128
    · simp only [numF, if_pos h]
    · have h2 : x / 128 < 128 ^ (f + 1) := by rw [Nat.div_lt_iff_lt_mul (by omega)]; rw [Nat.pow_succ] at hx; exact hx
      rw [show numF (f + 1 + 1) x = ((x % 128 + 128 : Nat) : Int) :: numF (f + 1) (x / 128) by rw [numF, if_neg h]]
      rw [show numF (f + 1) x = ((x % 128 + 128 : Nat) : Int) :: numF f (x / 128) by rw [numF, if_neg h], ih _ h2]
theorem two64 : (2 : Nat) ^ 64 = 18446744073709551616 := by decide
theorem numL_small (x : Nat) (h : x < 128) : numL x = [(x : Int)] := by unfold numL; rw [numF, if_pos h]
theorem numL_step (x : Nat) (h : 128 ≤ x) (hx : x < 18446744073709551616) : numL x = ((x % 128 + 128 : Nat) : Int) :: numL (x / 128) := by
  unfold numL
  rw [numF, if_neg (by omega), numF_more 8 (x / 128) (by
    have : (128 : Nat) ^ (8 + 1) = 9223372036854775808 := by decide
    rw [this]; omega)]
theorem numF_ne (f x : Nat) : numF f x ≠ [] := by
  cases f with
  | zero => simp [numF]
  | succ f => rw [numF]; split <;> simp
theorem numF_pos (f x : Nat) : 0 < (numF f x).length := by
  have := numF_ne f x
  exact List.length_pos_iff.2 this
theorem numF_len (f : Nat) : ∀ x, (numF f x).length ≤ f + 1 := by
  induction f with
  | zero => intro x; simp [numF]
  | succ f ih =>
    intro x
    rw [numF]
    split
    · simp
    · have := ih (x / 128); simp; omega
theorem numL_len (x : Nat) : (numL x).length ≤ 10 := numF_len 9 x

def Byts (l : List Int) : Prop := ∀ c ∈ l, 0 ≤ c ∧ c < 256
theorem Byts.nil : Byts [] := fun _ h => by simp at h
theorem Byts.one {c : Int} (h : 0 ≤ c ∧ c < 256) : Byts [c] := fun x hx => by simp at hx; subst hx; exact h
theorem Byts.take {a : List Int} (h : Byts a) (n : Nat) : Byts (a.take n) := fun c hc => h c (List.mem_of_mem_take hc)
theorem Byts.drop {a : List Int} (h : Byts a) (n : Nat) : Byts (a.drop n) := fun c hc => h c (List.mem_of_mem_drop hc)
theorem Byts.getD {a : List Int} (h : Byts a) (n : Nat) : 0 ≤ a.getD n 0 ∧ a.getD n 0 < 256 := by
  rw [List.getD_eq_getElem?_getD]
  by_cases hn : n < a.length
  · rw [List.getElem?_eq_getElem hn]; exact h _ (List.getElem_mem hn)
  · rw [List.getElem?_eq_none (by omega)]; decide

def fstG : List Int → Nat → Int → Int × Int × Int
  | [], _, _ => (0, 0, 20)
  | c :: D, i, x => if i = 9 ∧ 1 < c then (0, 0, 22) else if c = 0 ∧ 0 < i then (0, 0, 21) else if c < 128 then (x + c % 128 * 2 ^ (7 * i), (i : Int) + 1, 0) else fstG D (i + 1) (x + c % 128 * 2 ^ (7 * i))
def fstM (D : List Int) (most : Int) : Int × Int × Int := if (fstG D 0 0).2.2 = 0 ∧ most < (fstG D 0 0).1 then (0, 0, 22) else fstG D 0 0

theorem pow7 (i : Nat) : (0 : Int) < 2 ^ (7 * i) := Int.pow_pos (by decide)

theorem fstG_inv (D : List Int) : ∀ (i : Nat) (y z k : Int), Byts D → i ≤ 9 → fstG D i y = (z, k, 0) →
    ∃ x : Nat, z = y + x * 2 ^ (7 * i) ∧ (x : Int) * 2 ^ (7 * i) < 18446744073709551616 ∧ (0 < i → 0 < x) ∧ k = (i : Int) + (numF (9 - i) x).length ∧ ∃ rest, D = numF (9 - i) x ++ rest := by
  induction D with
  | nil => intro i y z k _ _ h; simp [fstG] at h
  | cons c D ih =>
    intro i y z k hB hi h
    have hc := hB c (by simp)
    have hD : Byts D := fun x hx => hB x (by simp [hx])
    simp only [fstG] at h
    by_cases h1 : i = 9 ∧ 1 < c
    · rw [if_pos h1] at h; simp at h
    · rw [if_neg h1] at h
      by_cases h2 : c = 0 ∧ 0 < i
      · rw [if_pos h2] at h; simp at h
      · rw [if_neg h2] at h
        have hpp := pow7 i
        by_cases h3 : c < 128
        · rw [if_pos h3] at h
          simp only [Prod.mk.injEq] at h
          obtain ⟨rfl, rfl, _⟩ := h
          refine ⟨c.toNat, ?_, ?_, fun _ => by omega, ?_, D, ?_⟩
          · rw [show c % 128 = c by omega, Int.toNat_of_nonneg hc.1]
          · rw [Int.toNat_of_nonneg hc.1]
            by_cases h9 : i = 9
            · subst h9
              have : (2 : Int) ^ (7 * 9) = 9223372036854775808 := by decide
              rw [this]; omega
            · have hle : (2 : Int) ^ (7 * i) ≤ 2 ^ (7 * 8) := by
                have := Nat.pow_le_pow_right (n := 2) (by decide) (show 7 * i ≤ 7 * 8 by omega)
                exact_mod_cast this
              have h56 : (2 : Int) ^ (7 * 8) = 72057594037927936 := by decide
              have : c * 2 ^ (7 * i) ≤ 127 * 2 ^ (7 * i) := Int.mul_le_mul_of_nonneg_right (by omega) (by omega)
              omega
          · cases h9 : 9 - i with
            | zero => simp [numF]
            | succ f => rw [numF, if_pos (by omega)]; simp
          · cases h9 : 9 - i with
            | zero => simp [numF, Int.toNat_of_nonneg hc.1]
            | succ f => rw [numF, if_pos (by omega)]; simp [Int.toNat_of_nonneg hc.1]
        · rw [if_neg h3] at h
          obtain ⟨x, hz, hx, hx0, hk, rest, hr⟩ := ih (i + 1) _ z k hD (by omega) h
          have hp : (2 : Int) ^ (7 * (i + 1)) = 128 * 2 ^ (7 * i) := by
            rw [show 7 * (i + 1) = 7 * i + 7 by omega, Int.pow_add, Int.mul_comm]; rfl
          have hx1 := hx0 (by omega)
          have hc2 : c % 128 = c - 128 := by omega
          have e9 : 9 - i = (9 - (i + 1)) + 1 := by omega
          have hnum : numF (9 - i) ((c - 128).toNat + 128 * x) = c :: numF (9 - (i + 1)) x := by
            rw [e9, numF, if_neg (by omega), show ((c - 128).toNat + 128 * x) / 128 = x by omega, show ((c - 128).toNat + 128 * x) % 128 = (c - 128).toNat by omega]
            congr 1
            omega
          have hval : (((c - 128).toNat + 128 * x : Nat) : Int) * 2 ^ (7 * i) = (c - 128) * 2 ^ (7 * i) + x * 2 ^ (7 * (i + 1)) := by
            rw [hp, ← Int.mul_assoc, ← Int.add_mul]
            congr 1
            omega
          refine ⟨(c - 128).toNat + 128 * x, ?_, ?_, fun _ => by omega, ?_, rest, ?_⟩
          · rw [hval, hz, hc2]; omega
          · rw [hval]
            have a1 : (c - 128) * 2 ^ (7 * i) ≤ 127 * 2 ^ (7 * i) := Int.mul_le_mul_of_nonneg_right (by omega) (by omega)
            rw [hp] at hx
            by_cases h8 : i ≤ 8
            · -- the sum of what is below and of a multiple of the place
              have hq : (18446744073709551616 : Int) = 2 ^ (64 - 7 * (i + 1)) * (128 * 2 ^ (7 * i)) := by
                rw [← hp, ← Int.pow_add, show 64 - 7 * (i + 1) + 7 * (i + 1) = 64 by omega]; rfl
              rw [hq] at hx ⊢
              have hxl : (x : Int) < 2 ^ (64 - 7 * (i + 1)) := Int.lt_of_mul_lt_mul_right hx (by omega)
              have h2 : ((x : Int) + 1) * (128 * 2 ^ (7 * i)) ≤ 2 ^ (64 - 7 * (i + 1)) * (128 * 2 ^ (7 * i)) := Int.mul_le_mul_of_nonneg_right (by omega) (by omega)
              rw [hp]
              have h3 : ((x : Int) + 1) * (128 * 2 ^ (7 * i)) = x * (128 * 2 ^ (7 * i)) + 128 * 2 ^ (7 * i) := by rw [Int.add_mul, Int.one_mul]
              omega
            · omega
          · rw [hnum, hk]; simp; omega
          · rw [hnum, hr]; rfl
theorem fstG_form (D : List Int) (z k : Int) (hB : Byts D) (h : fstG D 0 0 = (z, k, 0)) :
    ∃ x : Nat, z = x ∧ x < 18446744073709551616 ∧ k = ((numL x).length : Int) ∧ ∃ rest, D = numL x ++ rest := by
  obtain ⟨x, h1, h2, _, h4, rest, h5⟩ := fstG_inv D 0 0 z k hB (by omega) h
  refine ⟨x, by simpa using h1, ?_, by simpa [numL] using h4, rest, by simpa [numL] using h5⟩
  simp at h2; omega
structure OutAt (w : World) (p : Nat) (v : Value) (l : List Int) : Prop where
  blk : Blk w p 73 #[v]
  own : Own w v l
def OF (p : Nat) (v : Value) : Nat → Prop := fun k => k = p ∨ v.ownBlock = some k
def OutPost (p : Nat) (v : Value) (l : List Int) (w : World) (e : Ending) (w' : World) : Prop :=
  e = .returned (.tuple #[]) ∧ ∃ v', OutAt w' p v' l ∧ Moved w v v' ∧ Grown w w' (OF p v)
theorem OutAt.grown {w w' : World} {p : Nat} {v : Value} {l : List Int} {S : Nat → Prop} (h : OutAt w p v l) (hg : Grown w w' S) (hs : ∀ k, OF p v k → ¬ S k) : OutAt w' p v l :=
  ⟨hg.blk h.blk (hs p (.inl rfl)), h.own.grown hg fun k hk => hs k (.inr hk)⟩
theorem OutAt.lt {w : World} {p : Nat} {v : Value} {l : List Int} (h : OutAt w p v l) {k : Nat} (hk : OF p v k) : k < w.heap.size := by
  rcases hk with rfl | hk
  · exact h.blk.lt
  · exact h.own.lt k hk
theorem OutPost.trans {p : Nat} {v v1 : Value} {l : List Int} {w w1 w2 : World} {e : Ending} (hm : Moved w v v1) (hg : Grown w w1 (OF p v)) (h : OutPost p v1 l w1 e w2) : OutPost p v l w e w2 := by
  obtain ⟨he, v2, h1, h2, h3⟩ := h
  refine ⟨he, v2, h1, hm.trans hg.size h2, hg.next h3 ?_⟩
  rintro i hi (rfl | h)
  · exact .inl rfl
  · exact .inr (hm.old hi h)

theorem OutAt.stored {w w1 : World} {p : Nat} {v v' : Value} {l m : List Int} (h : OutAt w p v l) (ha : AppPost w v m v' w1) : OutPost p v m w (.returned (.tuple #[])) (w1.setCell ⟨p, 0, none⟩ v') := by
  have hne := h.own.ne h.blk (by decide)
  have hp1 : Blk w1 p 73 #[v] := ha.grown.blk h.blk hne
  have hne1 : v'.ownBlock ≠ some p := ha.1.ne hp1 (by decide)
  refine ⟨rfl, v', ⟨hp1.set 0 v', ha.1.grown (Grown.setCell w1 p 0 v' (S := fun k => k = p) fun _ => rfl) fun k hk e => hne1 (by rw [hk, e])⟩, ha.moved, ?_⟩
  exact (ha.grown.mono fun i _ h => Or.inr h).next (Grown.setCell w1 p 0 v' (S := fun k => k = p) fun _ => rfl) fun i _ e => .inl e

theorem Own.sl {w : World} {v : Value} {l : List Int} (h : Own w v l) : ∃ a n c, v = .slice a n c := by
  rcases h.form with ⟨rfl, _⟩ | ⟨g, cap, cur, rfl, _⟩
  · exact ⟨_, _, _, rfl⟩
  · exact ⟨_, _, _, rfl⟩
theorem OutAt.box {w : World} {p : Nat} {v : Value} {l : List Int} (h : OutAt w p v l) (o : Obj) : OutAt (w.alloc o) p v l := h.grown (Grown.alloc w o fun _ => False) fun _ _ h => h
theorem OutPost.box {p : Nat} {v : Value} {l : List Int} {w w2 : World} {e : Ending} {o : Obj} (h : OutPost p v l (w.alloc o) e w2) : OutPost p v l w e w2 :=
  h.trans (Moved.refl _ _) (Grown.alloc w o _)

set_option maxRecDepth 8000 in
set_option maxHeartbeats 400000 in
theorem obyte_any (p : Nat) (v : Value) (l : List Int) (c : Int) (w : World) (h : OutAt w p v l) (hb : (l ++ [c]).length ≤ 140737488355328) :
    Calls Try.prog 20 #[ptr p, .int .u8 c] w (OutPost p v (l ++ [c]) w) := by
  have hO1 := h.box (.cells #[.int .u8 c] 5)
  have HO : Keep (OutAt (w.alloc (.cells #[.int .u8 c] 5)) p v l) := ⟨hO1⟩
  have c0 : w.cell? ⟨p, 0, none⟩ = some v := by rw [h.blk.cell]; rfl
  have HB : Keep (l.length + [c].length ≤ 140737488355328) := ⟨by simpa using hb⟩
  clear h hO1 hb
  go_enter Try.func20, Try.ntmps20
  go_wp2_with (first | (at_builtin; refine wpList_app rfl (.tmp 8) (.tmp 10) rfl v (.slice (some ⟨w.heap.size, 0, none⟩) 1 1) l [c] rfl rfl HO.out.own (row_one w c) HB.out ?_; intro v' w' hp; refine Hid.out ?_))
  refine hid_in ?_
  obtain ⟨a1, n1, k1, rfl⟩ := hp.1.sl
  have HP : Keep (AppPost (w.alloc (.cells #[.int .u8 c] 5)) v (l ++ [c]) (.slice a1 n1 k1) w') := ⟨hp⟩
  have hp1 : Blk w' p 73 #[v] := hp.grown.blk HO.out.blk (HO.out.own.ne HO.out.blk (by decide))
  have c1 : w'.cell? ⟨p, 0, none⟩ = some v := by rw [hp1.cell]; rfl
  have f1 : w'.frozen? ⟨p, 0, none⟩ = false := hp1.frozen 0
  clear hp hp1 c0
  go_wp2
  go_end0
  exact (HO.out.stored HP.out).box
set_option maxRecDepth 8000 in
set_option maxHeartbeats 400000 in
theorem oraw_any (p : Nat) (v vx : Value) (l m : List Int) (w : World) (h : OutAt w p v l) (hx : RowAt w vx m) (hb : (l ++ m).length ≤ 140737488355328) :
    Calls Try.prog 79 #[ptr p, vx] w (OutPost p v (l ++ m) w) := by
  have HO : Keep (OutAt w p v l) := ⟨h⟩
  have HX : Keep (RowAt w vx m) := ⟨hx⟩
  have c0 : w.cell? ⟨p, 0, none⟩ = some v := by rw [h.blk.cell]; rfl
  have HB : Keep (l.length + m.length ≤ 140737488355328) := ⟨by simpa using hb⟩
  clear h hx hb
  go_enter Try.func79, Try.ntmps79
  go_wp2_with (first | (at_builtin; refine wpList_app rfl (.tmp 8) (.tmp 9) rfl v vx l m rfl rfl HO.out.own HX.out HB.out ?_; intro v' w' hp; refine Hid.out ?_))
  refine hid_in ?_
  obtain ⟨a1, n1, k1, rfl⟩ := hp.1.sl
  have HP : Keep (AppPost w v (l ++ m) (.slice a1 n1 k1) w') := ⟨hp⟩
  have hp1 : Blk w' p 73 #[v] := hp.grown.blk HO.out.blk (HO.out.own.ne HO.out.blk (by decide))
  have c1 : w'.cell? ⟨p, 0, none⟩ = some v := by rw [hp1.cell]; rfl
  have f1 : w'.frozen? ⟨p, 0, none⟩ = false := hp1.frozen 0
  clear hp hp1 c0
  go_wp2
  go_end0
  exact HO.out.stored HP.out

set_option maxRecDepth 8000 in
set_option maxHeartbeats 1000000 in
theorem onum_any (p : Nat) (v : Value) (l : List Int) (x : Nat) (w : World) (h : OutAt w p v l) (hx : x < 18446744073709551616) (hb : (l ++ numL x).length ≤ 140737488355328) :
    Calls Try.prog 67 #[ptr p, .int .u64 (x : Int)] w (OutPost p v (l ++ numL x) w) := by
  have HO : Keep (OutAt w p v l) := ⟨h⟩
  have HB : Keep ((l ++ numL x).length ≤ 140737488355328) := ⟨hb⟩
  have HX : Keep (x < 18446744073709551616) := ⟨hx⟩
  clear h hx hb
  go_enter Try.func67, Try.ntmps67
  go_wp2
  go_loopw [1] (fun i wr => ∃ (y : Nat) (v1 : Value) (l1 : List Int), i = .int .u64 (y : Int) ∧ Keep (y < 18446744073709551616) ∧ OutAt wr p v1 l1 ∧ Keep (l1 ++ numL y = l ++ numL x) ∧ Moved w v v1 ∧ Grown w wr (OF p v)) (fun i _ => (intOf i).toNat)
  case atStart => exact ⟨x, v, l, rfl, HX, HO.out, ⟨rfl⟩, Moved.refl _ _, Grown.refl _ _⟩
  case round =>
    obtain ⟨y, v1, l1, rfl, hy, hO1, hl1, hm1, hg1⟩ := hrel
    by_cases h128 : 128 ≤ y
    · have h128' : (128 : Int) ≤ (y : Int) := by omega
      have hs := numL_step y h128 hy.out
      have HS : Keep (numL y = ((y % 128 + 128 : Nat) : Int) :: numL (y / 128)) := ⟨hs⟩
      have hlen : Keep ((l1 ++ [(y : Int) % 128 + 128]).length ≤ 140737488355328) := ⟨by
        have e := congrArg List.length hl1.out
        have := HB.out
        rw [HS.out] at e
        simp only [List.length_append, List.length_cons, List.length_nil] at e this ⊢
        omega⟩
      clear hs
      go_wp2_with fail
      refine (obyte_any p v1 l1 _ wr hO1 hlen.out).mono ?_
      rintro e w2 ⟨rfl, v2, hO2, hm2, hg2⟩
      obtain ⟨z, hz⟩ : ∃ z, Keep (y / 128 = z) := ⟨_, ⟨rfl⟩⟩
      have hz1 : (y : Int) / 128 = (z : Int) := by have := hz.out; omega
      clear hO1
      go_wp2
      go_roundw
      case rel =>
        refine ⟨z, v2, l1 ++ [(y : Int) % 128 + 128], rfl, ⟨by have := hy.out; have := hz.out; omega⟩, hO2, ⟨?_⟩, hm1.trans hg1.size hm2, hg1.next hg2 ?_⟩
        · rw [← hl1.out, HS.out, hz.out, List.append_assoc]
          simp
        · rintro i hi (rfl | h)
          · exact .inl rfl
          · exact .inr (hm1.old hi h)
      case measure => simp only [intOf]; have := hz.out; omega
    · have h128' : ¬ (128 : Int) ≤ (y : Int) := by omega
      have hs := numL_small y (by omega)
      have HL : Keep (l1 ++ [(y : Int)] = l ++ numL x) := ⟨by rw [← hl1.out, hs]⟩
      have hlen : Keep ((l1 ++ [(y : Int)]).length ≤ 140737488355328) := ⟨by rw [HL.out]; exact HB.out⟩
      clear hs
      go_wp2_with fail
      refine (obyte_any p v1 l1 _ wr hO1 hlen.out).mono ?_
      intro e w2 hpost
      rw [HL.out] at hpost
      have hpost2 := hpost.trans hm1 hg1
      obtain ⟨rfl, hrest⟩ := hpost2
      have HR : Keep (∃ v', OutAt w2 p v' (l ++ numL x) ∧ Moved w v v' ∧ Grown w w2 (OF p v)) := ⟨hrest⟩
      clear hrest hpost hO1
      go_wp2
      go_end0
      exact ⟨rfl, HR.out⟩


def bform (m : List Int) : List Int := numL m.length ++ m
theorem wrap64_len (n : Nat) (h : n ≤ 140737488355328) : IntKind.u64.wrap (n : Int) = n := by rw [IntKind.wrap_u64]; omega

set_option maxRecDepth 8000 in
set_option maxHeartbeats 1000000 in
theorem olayB_any (p : Nat) (v vx : Value) (l m : List Int) (w : World) (h : OutAt w p v l) (hx : RowAt w vx m) (hsep : ∀ k, vx.ownBlock = some k → ¬ OF p v k) (hb : l.length + (bform m).length ≤ 140737488355328) :
    Calls Try.prog 75 #[ptr p, vx] w (OutPost p v (l ++ bform m) w) := by
  have HO : Keep (OutAt w p v l) := ⟨h⟩
  have HX : Keep (RowAt w vx m) := ⟨hx⟩
  have HS : Keep (∀ k, vx.ownBlock = some k → ¬ OF p v k) := ⟨hsep⟩
  have HB : Keep (l.length + (numL m.length).length + m.length ≤ 140737488355328) := ⟨by simpa [bform, Nat.add_assoc] using hb⟩
  obtain ⟨xa, xc, rfl⟩ := row_form hx
  have hw := wrap64_len m.length (by have := HB.out; omega)
  clear h hx hb hsep
  go_enter Try.func75, Try.ntmps75
  go_wp2_with fail
  refine (onum_any p v l m.length w HO.out (by have := HB.out; omega) (by have := HB.out; simp only [List.length_append]; omega)).mono ?_
  rintro e w1 ⟨rfl, v1, hO1, hm1, hg1⟩
  have HX1 : Keep (RowAt w1 (.slice xa m.length xc) m) := ⟨HX.out.grown hg1 fun b hb _ => HS.out b hb⟩
  have HO1 : Keep (OutAt w1 p v1 (l ++ numL m.length)) := ⟨hO1⟩
  have c0 : w1.cell? ⟨p, 0, none⟩ = some v1 := by rw [hO1.blk.cell]; rfl
  have HB1 : Keep ((l ++ numL m.length).length + m.length ≤ 140737488355328) := ⟨by simpa using HB.out⟩
  clear hO1
  go_wp2_with (first | (at_builtin; refine wpList_app rfl (.tmp 13) (.tmp 14) rfl v1 _ (l ++ numL m.length) m rfl rfl HO1.out.own HX1.out HB1.out ?_; intro v' w' hp; refine Hid.out ?_))
  refine hid_in ?_
  obtain ⟨a1, n1, k1, rfl⟩ := hp.1.sl
  have HP : Keep (AppPost w1 v1 (l ++ bform m) (.slice a1 n1 k1) w') := ⟨by rw [List.append_assoc] at hp; exact hp⟩
  have hp1 : Blk w' p 73 #[v1] := hp.grown.blk HO1.out.blk (HO1.out.own.ne HO1.out.blk (by decide))
  have c1 : w'.cell? ⟨p, 0, none⟩ = some v1 := by rw [hp1.cell]; rfl
  have f1 : w'.frozen? ⟨p, 0, none⟩ = false := hp1.frozen 0
  clear hp hp1 c0
  go_wp2
  go_end0
  exact (HO1.out.stored HP.out).trans hm1 hg1

set_option maxRecDepth 8000 in
set_option maxHeartbeats 400000 in
theorem obytes_any (p : Nat) (v vx : Value) (l m : List Int) (w : World) (h : OutAt w p v l) (hx : RowAt w vx m) (hsep : ∀ k, vx.ownBlock = some k → ¬ OF p v k) (hb : l.length + (bform m).length ≤ 140737488355328) :
    Calls Try.prog 52 #[ptr p, vx] w (OutPost p v (l ++ bform m) w) := by
  have HC := Keep.mk (olayB_any p v vx l m w h hx hsep hb)
  clear h hx hsep hb
  go_enter Try.func52, Try.ntmps52
  go_wp2_with fail
  refine HC.out.mono ?_
  rintro e w1 ⟨rfl, hrest⟩
  have HR := Keep.mk hrest
  clear hrest
  go_wp2
  go_end0
  exact ⟨rfl, HR.out⟩

def lst (s : ByteArray) : List Int := s.data.toList.map fun b => (b.toNat : Int)
theorem lst_len (s : ByteArray) : (lst s).length = s.size := by simp [lst]
theorem lst_cells (s : ByteArray) : Lib.strCells s = bv (lst s) := by simp [Lib.strCells, bv, lst]
theorem lst_byts (s : ByteArray) : Byts (lst s) := fun c hc => by
  simp [lst] at hc
  obtain ⟨b, _, rfl⟩ := hc
  have := b.toNat_lt
  omega
theorem lst_nums {l : List Int} (h : Byts l) : lst (strOfNums l) = l := by
  unfold lst
  rw [strOfNums_data, List.map_map]
  conv => rhs; rw [← List.map_id l]
  apply List.map_congr_left
  intro c hc
  have := h c hc
  simp
  omega
theorem nums_lst (s : ByteArray) : strOfNums (lst s) = s := by
  apply ByteArray.ext
  apply Array.ext'
  show (strOfNums (lst s)).data.toList = _
  rw [strOfNums_data]
  unfold lst
  rw [List.map_map]
  conv => rhs; rw [← List.map_id s.data.toList]
  apply List.map_congr_left
  intro b _
  simp


set_option maxRecDepth 8000 in
set_option maxHeartbeats 400000 in
theorem newOut_any (w : World) : Calls Try.prog 19 #[] w fun e w' => e = .returned (ptr w.heap.size) ∧ w' = w.alloc (.cells #[.slice none 0 0] 73) := by
  go_enter Try.func19, Try.ntmps19
  go_wp2
  go_ret
  exact ⟨rfl, rfl⟩
def bytesA (n : Nat) (c : Nat → Int) : Array Value := Array.ofFn (n := n) fun i => .int .u8 (c i.val)
theorem bytesA_size (n : Nat) (c : Nat → Int) : (bytesA n c).size = n := by simp [bytesA]
theorem bytesA_get (n : Nat) (c : Nat → Int) (j : Nat) (h : j < n) : (bytesA n c)[j]? = some (.int .u8 (c j)) := by simp [bytesA, h]
theorem bytesA_one (n : Nat) (c : Nat → Int) : (bytesA n c).all (·.oneCell') = true := by
  rw [Array.all_eq_true_iff_forall_mem]; intro v hv; simp [bytesA] at hv; obtain ⟨i, rfl⟩ := hv; rfl
theorem bytesA_sizes (n : Nat) (c d : Nat → Int) : (bytesA n c).size = (bytesA n d).size := by rw [bytesA_size, bytesA_size]
theorem bytesA_congr {n : Nat} {c d : Nat → Int} (h : ∀ i, i < n → c i = d i) : bytesA n c = bytesA n d := by
  apply Array.ext_getElem?
  intro i
  by_cases hi : i < n
  · rw [bytesA_get _ _ _ hi, bytesA_get _ _ _ hi, h i hi]
  · rw [Array.getElem?_eq_none (by rw [bytesA_size]; omega), Array.getElem?_eq_none (by rw [bytesA_size]; omega)]
def hl (n : Nat) (c : Nat → Int) : List Int := (List.range n).map c
theorem hl_len (n : Nat) (c : Nat → Int) : (hl n c).length = n := by simp [hl]
theorem hl_get (n : Nat) (c : Nat → Int) (i : Nat) (h : i < n) : (hl n c).getD i 0 = c i := by simp [hl, List.getD_eq_getElem?_getD, h]

theorem Try.size70 : (Try.prog.info? 70).map (·.size) = some 32 := by kernel_rfl
theorem Try.size70B (c : Nat → Int) : (Try.prog.info? 70).map (·.size) = some (bytesA 32 c).size := by rw [bytesA_size]; exact Try.size70
theorem run_box_agg {P : Program} (w : World) (t : TypeId) (cs : Array Value) : (Instr.box t (.agg cs)).run P w = .ok (.pointer (some ⟨w.heap.size, 0, none⟩)) (w.alloc (.cells cs t)) := rfl
theorem wpList_boxA {P : Program} {ops : Array Oper} {rest : List Oper} {o : Oper} {a : Act} {w : World} {Q : Exit → Act → World → Prop} (hg : o.guard = none) (t : TypeId) (x : Operand) (ho : o.op = .box t x)
    (cs : Array Value) (hx : a.eval x = .agg cs)
    (h : wpList P ops Q rest (a.put o.dst (.pointer (some ⟨w.heap.size, 0, none⟩))) (w.alloc (.cells cs t))) : wpList P ops Q (o :: rest) a w := by
  refine wpList_plain hg fun K hK => ?_
  unfold Oper.wp execOp
  simp only [ho, hx, Sem.run_bind, run_box_agg, Result.andThen_ok]
  exact hK _ _ h
theorem row_arr {w : World} {g : Nat} {T : TypeId} {n : Nat} {c : Nat → Int} (h : Blk w g T (bytesA n c)) : RowAt w (.slice (some ⟨g, 0, none⟩) n n) (hl n c) := by
  refine .inr (.inr ⟨g, 0, n, by rw [hl_len], by rw [hl_len]; exact Nat.le_refl _, fun i hi => ?_⟩)
  rw [hl_len] at hi
  rw [Nat.zero_add, h.cell, bytesA_get _ _ _ hi, hl_get _ _ _ hi]

set_option maxRecDepth 8000 in
set_option maxHeartbeats 400000 in
theorem ohash_any (p : Nat) (v : Value) (l : List Int) (c : Nat → Int) (w : World) (h : OutAt w p v l) (hb : l.length + 32 ≤ 140737488355328) :
    Calls Try.prog 68 #[ptr p, .agg (bytesA 32 c)] w (OutPost p v (l ++ hl 32 c) w) := by
  have HO : Keep (OutAt (w.alloc (.cells (bytesA 32 c) 70)) p v l) := ⟨h.box _⟩
  have HR : Keep (RowAt (w.alloc (.cells (bytesA 32 c) 70)) (.slice (some ⟨w.heap.size, 0, none⟩) 32 32) (hl 32 c)) := ⟨row_arr (Blk.new w 70 (bytesA 32 c))⟩
  clear h
  go_enter Try.func68, Try.ntmps68
  go_wp2_with (first | (refine wpList_boxA rfl 70 (.tmp 1) rfl (bytesA 32 c) rfl ?_; refine Hid.out ?_))
  refine hid_in ?_
  go_wp2_with fail
  refine (oraw_any p v _ l (hl 32 c) _ HO.out HR.out (by rw [List.length_append, hl_len]; exact hb)).mono ?_
  intro e w1 hpost
  have hpost2 := hpost.box
  obtain ⟨rfl, hrest⟩ := hpost2
  have HP := Keep.mk hrest
  clear hpost hrest
  go_wp2
  go_end0
  exact ⟨rfl, HP.out⟩

theorem made_bytes (n : Nat) : madeCells #[.int .u8 0] n = bytesA n fun _ => 0 := by
  apply Array.ext_getElem?
  intro i
  by_cases h : i < n <;> simp [madeCells, bytesA, h, Nat.mod_one]
theorem run_makeB (l c : Nat) (hlc : l ≤ c) (hc : c ≤ 281474976710656) (w : World) : (Instr.makeSlice 30 (.int .i64 (l : Int)) (.int .i64 (c : Int))).run Try.prog w = .ok (.slice (some ⟨w.heap.size, 0, none⟩) l c) (w.alloc (.cells (bytesA c fun _ => 0) 5)) := by
  obtain ⟨i, hi, hzz⟩ := Option.map_eq_some_iff.1 Try.info5
  simp only [Prod.mk.injEq] at hzz
  obtain ⟨hz, hs, hb⟩ := hzz
  have hr := run_make (P := Try.prog) w 30 5 i (.int .u8 0) Try.underlying30 hi hz .i64 .i64 (l : Int) (c : Int) (by omega) (by omega) (by rw [hb]; omega) (by omega)
  simp only [Int.toNat_natCast, hs, Nat.mul_one, Value.cells] at hr
  rw [made_bytes] at hr
  exact hr
theorem wpList_makeB {ops : Array Oper} {rest : List Oper} {o : Oper} {a : Act} {w : World} {Q : Exit → Act → World → Prop} (hgd : o.guard = none) (x y : Operand) (ho : o.op = .makeSlice 30 x y) (l c : Nat) (hlc : l ≤ c) (hc : c ≤ 281474976710656)
    (hx : a.eval x = .int .i64 (l : Int)) (hy : a.eval y = .int .i64 (c : Int))
    (h : wpList Try.prog ops Q rest (a.put o.dst (.slice (some ⟨w.heap.size, 0, none⟩) l c)) (w.alloc (.cells (bytesA c fun _ => 0) 5))) : wpList Try.prog ops Q (o :: rest) a w := by
  refine wpList_plain hgd fun K hK => ?_
  have hrun := run_makeB l c hlc hc w
  unfold Oper.wp
  simp only [execOp, ho, hx, hy, Sem.run_bind, hrun, Result.andThen_ok]
  exact hK _ _ h
theorem run_copyB (w : World) (g cap : Nat) (v : Value) (m : List Int) (ty T : TypeId) (cur : Array Value) (hg : Blk w g T cur) (hs : cur.size = m.length) (hr : RowAt w v m) :
    (Builtin.copy_ #[30, 30] ty #[.slice (some ⟨g, 0, none⟩) m.length cap, v]).run Try.prog w = .ok (goInt m.length) (w.setRow g (bv m).toArray) := by
  have hst := run_storeCells_at Try.prog g 0 T (bv m) 0 cur w hg (by rw [bv_len]; omega) (bv_one m)
  have hcur : (cur.toList.take (0 + 0) ++ bv m ++ cur.toList.drop (0 + 0 + (bv m).length)).toArray = (bv m).toArray := by
    rw [bv_len, List.drop_of_length_le (by rw [Array.length_toList]; omega)]; simp
  rw [hcur] at hst
  obtain ⟨i, hi, hzz⟩ := Option.map_eq_some_iff.1 Try.info5
  simp only [Prod.mk.injEq] at hzz
  obtain ⟨_, hsz, _⟩ := hzz
  rcases hr with ⟨rfl, rfl⟩ | ⟨ad, c, rfl, rfl⟩ | ⟨b, off, cap2, rfl, _, hc⟩
  · simp only [bv, List.map_nil] at hst ⊢
    simp [Builtin.copy_, run_underlying Try.underlying30, Builtin.lenOf, Builtin.firstCells, sizeOf, typeInfo, hi, hst]
  · simp only [bv, List.map_nil] at hst ⊢
    simp [Builtin.copy_, run_underlying Try.underlying30, Builtin.lenOf, Builtin.firstCells, sizeOf, typeInfo, hi, loadCells, loadCellsFrom, hst]
  · have hl := run_loadCells_list (P := Try.prog) w ⟨b, off, none⟩ (bv m) (fun j v hv => by
      have hj : j < m.length := by have := (List.getElem?_eq_some_iff.1 hv).1; rwa [bv_len] at this
      rw [bv_get m j hj] at hv
      rw [Addr.add_mid, hc j hj]; exact hv)
    rw [bv_len] at hl
    simp [Builtin.copy_, run_underlying Try.underlying30, Builtin.lenOf, Builtin.firstCells, sizeOf, typeInfo, hi, hsz, hl, hst]

set_option maxRecDepth 8000 in
set_option maxHeartbeats 400000 in
theorem odone_any (p : Nat) (v : Value) (l : List Int) (w : World) (h : OutAt w p v l) (hb : l.length ≤ 140737488355328) :
    Calls Try.prog 21 #[ptr p] w fun e w' => e = .returned (.slice (some ⟨w.heap.size, 0, none⟩) l.length l.length) ∧ w' = w.alloc (.cells (bv l).toArray 5) := by
  have HO : Keep (OutAt (w.alloc (.cells (bytesA l.length fun _ => 0) 5)) p v l) := ⟨h.box _⟩
  have HB : Keep (l.length ≤ 281474976710656) := ⟨by omega⟩
  obtain ⟨a, c, rfl⟩ := row_form h.own.row
  have c0 : w.cell? ⟨p, 0, none⟩ = some (.slice a l.length c) := by rw [h.blk.cell]; rfl
  clear h hb
  go_enter Try.func21, Try.ntmps21
  go_wp2_with (first | (refine wpList_makeB rfl (.tmp 8) (.tmp 8) rfl l.length l.length (Nat.le_refl _) HB.out rfl rfl ?_; refine Hid.out ?_))
  refine hid_in ?_
  have hg := Keep.mk (Blk.new w 5 (bytesA l.length fun _ => 0))
  obtain ⟨w1, hw1⟩ : ∃ w1, Keep (w1 = w.alloc (.cells (bytesA l.length fun _ => 0) 5)) := ⟨_, ⟨rfl⟩⟩
  rw [← hw1.out] at hg HO ⊢
  have c1 : w1.cell? ⟨p, 0, none⟩ = some (.slice a l.length c) := by rw [HO.out.blk.cell]; rfl
  clear c0
  have hcp := run_copyB w1 w.heap.size l.length (.slice a l.length c) l 3 5 (bytesA l.length fun _ => 0) hg.out (bytesA_size _ _) HO.out.own.row
  go_wp2
  go_ret
  refine ⟨rfl, ?_⟩
  rw [hw1.out]
  exact World.setRow_alloc_new _ _ _ _
end Go.Proofs.Ytkcdoamohiaiaaa
