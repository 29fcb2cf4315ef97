import Derived.Test.YtkcdoamohiaiaaaChecked
import Derived.WalkKit
import Derived.WalkSpells
import Derived.WalkLawsBesides
import Derived.BigQuiet
import Derived.BigRegion
import Derived.Deep.WholeRow
import Derived.Deep.MidRow
import Derived.Deep.RegionWith
import Derived.Deep.DeepCutAuto
import Derived.Deep.RegionHeld3
namespace Go.Proofs.Ytkcdoamohiaiaaa.Sh
open Go.RowKit

def Blk (w : World) (b : Nat) (T : TypeId) (cs : Array Value) : Prop := w.heap[b]? = some (.cells cs T (0, 0))

theorem Blk.lt {w : World} {b : Nat} {T : TypeId} {cs : Array Value} (h : Blk w b T cs) : b < w.heap.size := (Array.getElem?_eq_some_iff.1 h).1
theorem Blk.cell {w : World} {b : Nat} {T : TypeId} {cs : Array Value} (h : Blk w b T cs) (j : Nat) : w.cell? ⟨b, j, none⟩ = cs[j]? := cell_of_row w b j cs T (0, 0) h
theorem Blk.frozen {w : World} {b : Nat} {T : TypeId} {cs : Array Value} (h : Blk w b T cs) (j : Nat) : w.frozen? ⟨b, j, none⟩ = false := by
  unfold Blk at h; simp [World.frozen?, h]
theorem Blk.new (w : World) (T : TypeId) (cs : Array Value) : Blk (w.alloc (.cells cs T)) w.heap.size T cs := heap_alloc_new w _
theorem Blk.alloc {w : World} {b : Nat} {T : TypeId} {cs : Array Value} (h : Blk w b T cs) (o : Obj) : Blk (w.alloc o) b T cs := by
  unfold Blk; rw [Below.heap_alloc w o b h.lt]; exact h
theorem Blk.drew {w : World} {b : Nat} {T : TypeId} {cs : Array Value} (h : Blk w b T cs) : Blk w.drew b T cs := h
theorem Blk.below {w w' : World} {B b : Nat} {T : TypeId} {cs : Array Value} (h : Blk w b T cs) (hb : Below B w w') (hlt : b < B) : Blk w' b T cs := by
  unfold Blk; rw [hb.block b hlt]; exact h
theorem Blk.set {w : World} {b : Nat} {T : TypeId} {cs : Array Value} (h : Blk w b T cs) (j : Nat) (v : Value) : Blk (w.setCell ⟨b, j, none⟩ v) b T (cs.setIfInBounds j v) := by
  unfold Blk; rw [setCell_eq_setRow w b j cs T (0, 0) v h]; exact setRow_heap w b cs _ T (0, 0) h
theorem Blk.set_ne {w : World} {b b' j : Nat} {T : TypeId} {cs : Array Value} (h : Blk w b T cs) (hne : b ≠ b') (v : Value) : Blk (w.setCell ⟨b', j, none⟩ v) b T cs := by
  unfold Blk; rw [Below.heap_setCell w _ v b hne]; exact h
theorem Blk.setRow {w : World} {b : Nat} {T : TypeId} {cs : Array Value} (h : Blk w b T cs) (cs' : Array Value) : Blk (w.setRow b cs') b T cs' := setRow_heap w b cs cs' T (0, 0) h
theorem Blk.setRow_ne {w : World} {b b' : Nat} {T : TypeId} {cs : Array Value} (h : Blk w b T cs) (hne : b ≠ b') (cs' : Array Value) : Blk (w.setRow b' cs') b T cs := by
  unfold Blk; rw [setRow_other w b' b cs' hne]; exact h
theorem below_setRow {B : Nat} {a w : World} (h : Below B a w) {b : Nat} (hb : B ≤ b) (cs : Array Value) : Below B a (w.setRow b cs) :=
  h.trans ⟨rfl, rfl, rfl, by simp, fun k hk => setRow_other w b k cs (by omega)⟩

def bytesA (n : Nat) (c : Nat → Int) : Array Value := Array.ofFn (n := n) fun i => .int .u8 (c i.val)

theorem bytesA_size (n : Nat) (c : Nat → Int) : (bytesA n c).size = n := by simp [bytesA]
theorem bytesA_get (n : Nat) (c : Nat → Int) (j : Nat) (h : j < n) : (bytesA n c)[j]? = some (.int .u8 (c j)) := by simp [bytesA, h]
theorem bytesA_one (n : Nat) (c : Nat → Int) : (bytesA n c).all (·.oneCell') = true := by
  rw [Array.all_eq_true_iff_forall_mem]; intro v hv; simp [bytesA] at hv; obtain ⟨i, rfl⟩ := hv; rfl

theorem Try.size70 : (Try.prog.info? 70).map (·.size) = some 32 := by kernel_rfl

theorem Try.size70B (c : Nat → Int) : (Try.prog.info? 70).map (·.size) = some (bytesA 32 c).size := by rw [bytesA_size]; exact Try.size70
theorem bytesA_sizes (n : Nat) (c d : Nat → Int) : (bytesA n c).size = (bytesA n d).size := by rw [bytesA_size, bytesA_size]

section
variable {P : Program}
theorem wpList_bld {ops : Array Oper} {rest : List Oper} {o : Oper} {a : Act} {w : World} {Q : Exit → Act → World → Prop} (hg : o.guard = none) (t : TypeId) (parts : Array (Nat × Operand)) (ho : o.op = .build t parts)
    (cells : Array Value) (hf : P.built t (parts.map fun (i, x) => (i, a.eval x)).toList = some cells)
    (h : wpList P ops Q rest (a.put o.dst (.agg cells)) w) : wpList P ops Q (o :: rest) a w :=
  wpList_build hg t parts ho (by rw [hf]; rfl) (by rw [hf]; exact h)
theorem wpList_new {ops : Array Oper} {rest : List Oper} {o : Oper} {a : Act} {w : World} {Q : Exit → Act → World → Prop} (hg : o.guard = none) (t : TypeId) (ho : o.op = .alloc t)
    (cells : Array Value) (hf : ∀ w : World, (Instr.alloc t true (.tuple #[])).run P w = .ok (.pointer (some ⟨w.heap.size, 0, none⟩)) (w.alloc (.cells cells t)))
    (h : wpList P ops Q rest (a.put o.dst (.pointer (some ⟨w.heap.size, 0, none⟩))) (w.alloc (.cells cells t))) : wpList P ops Q (o :: rest) a w := by
  refine wpList_plain hg fun K hK => ?_
  unfold Oper.wp execOp
  simp only [ho, Sem.run_bind, hf w, Result.andThen_ok]
  exact hK _ _ h
end
theorem Try.new70 (w : World) : (Instr.alloc 70 true (.tuple #[])).run Try.prog w = .ok (.pointer (some ⟨w.heap.size, 0, none⟩)) (w.alloc (.cells (bytesA 32 fun _ => 0) 70)) := by kernel_rfl
end Go.Proofs.Ytkcdoamohiaiaaa.Sh
namespace Go.Proofs.Ytkcdoamohiaiaaa.Sh

abbrev Hs := Vector UInt8 32

namespace Hs
def f (h : Hs) (i : Nat) : Int := ((h.toArray.getD i 0).toNat : Int)
theorem f_get (h : Hs) (i : Nat) (hi : i < 32) : h.f i = ((h[i]'hi).toNat : Int) := by
  unfold f
  rw [Array.getD_eq_getD_getElem?, Array.getElem?_eq_getElem (by rw [h.size_toArray]; exact hi)]
  rfl
theorem ext' {a b : Hs} (h : ∀ i, i < 32 → a.f i = b.f i) : a = b := by
  apply Vector.ext
  intro i hi
  have h1 := h i hi
  rw [f_get a i hi, f_get b i hi] at h1
  exact UInt8.toNat_inj.1 (by omega)
end Hs

def cmpG (a b : Nat → Int) : Nat → Nat → Int
  | 0, _ => 0
  | n + 1, i => if a i < b i then -1 else if b i < a i then 1 else cmpG a b n (i + 1)

theorem cmpG_neg (a b : Nat → Int) : ∀ n i, cmpG a b n i < 0 ↔ ∃ j, i ≤ j ∧ j < i + n ∧ (∀ k, i ≤ k → k < j → a k = b k) ∧ a j < b j
  | 0, i => by simp [cmpG]; omega
  | n + 1, i => by
    unfold cmpG
    by_cases h1 : a i < b i
    · simp only [h1, if_true]
      exact ⟨fun _ => ⟨i, by omega, by omega, fun k _ _ => by omega, h1⟩, fun _ => by omega⟩
    · by_cases h2 : b i < a i
      · simp only [h1, h2, if_false, if_true]
        refine ⟨fun h => by omega, ?_⟩
        rintro ⟨j, hj, _, he, hl⟩
        rcases Nat.lt_or_eq_of_le hj with h | h
        · have := he i (by omega) h; omega
        · subst h; omega
      · simp only [h1, h2, if_false]
        rw [cmpG_neg a b n (i + 1)]
        constructor
        · rintro ⟨j, hj, hn, he, hl⟩
          refine ⟨j, by omega, by omega, fun k hk hkj => ?_, hl⟩
          rcases Nat.lt_or_eq_of_le hk with h | h
          · exact he k (by omega) hkj
          · subst h; omega
        · rintro ⟨j, hj, hn, he, hl⟩
          rcases Nat.lt_or_eq_of_le hj with h | h
          · exact ⟨j, by omega, by omega, fun k hk hkj => he k (by omega) hkj, hl⟩
          · subst h; omega
theorem cmpG_swap (a b : Nat → Int) : ∀ n i, cmpG b a n i = - cmpG a b n i
  | 0, i => rfl
  | n + 1, i => by
    unfold cmpG
    by_cases h1 : a i < b i
    · have : ¬ b i < a i := by omega
      simp [h1, this]
    · by_cases h2 : b i < a i
      · simp [h1, h2]
      · simp [h1, h2, cmpG_swap a b n (i + 1)]
theorem cmpG_zero (a b : Nat → Int) : ∀ n i, cmpG a b n i = 0 ↔ ∀ k, i ≤ k → k < i + n → a k = b k
  | 0, i => by simp [cmpG]; omega
  | n + 1, i => by
    unfold cmpG
    by_cases h1 : a i < b i
    · simp only [h1, if_true]
      exact ⟨fun h => by omega, fun h => by have := h i (by omega) (by omega); omega⟩
    · by_cases h2 : b i < a i
      · simp only [h1, h2, if_false, if_true]
        exact ⟨fun h => by omega, fun h => by have := h i (by omega) (by omega); omega⟩
      · simp only [h1, h2, if_false]
        rw [cmpG_zero a b n (i + 1)]
        constructor
        · intro h k hk hn
          rcases Nat.lt_or_eq_of_le hk with h' | h'
          · exact h k (by omega) (by omega)
          · subst h'; omega
        · intro h k hk hn
          exact h k (by omega) (by omega)

def cf (x y : Hs) : Int := cmpG x.f y.f 32 0
def Lt (x y : Hs) : Prop := cf x y < 0
theorem cf_swap (x y : Hs) : cf y x = - cf x y := cmpG_swap _ _ _ _
theorem cf_zero (x y : Hs) : cf x y = 0 ↔ x = y := by
  unfold cf
  rw [cmpG_zero]
  constructor
  · intro h; exact Hs.ext' fun i hi => h i (by omega) (by omega)
  · rintro rfl; intros; rfl
theorem Lt.trans {x y z : Hs} (h1 : Lt x y) (h2 : Lt y z) : Lt x z := by
  unfold Lt cf at *
  rw [cmpG_neg] at *
  obtain ⟨i, _, hi, hie, hil⟩ := h1
  obtain ⟨j, _, hj, hje, hjl⟩ := h2
  rcases Nat.lt_trichotomy i j with h | h | h
  · exact ⟨i, by omega, hi, fun k hk hki => (hie k hk hki).trans (hje k hk (by omega)), by rw [← hje i (by omega) h]; exact hil⟩
  · subst h; exact ⟨i, by omega, hi, fun k hk hki => (hie k hk hki).trans (hje k hk hki), by omega⟩
  · exact ⟨j, by omega, hj, fun k hk hkj => (hie k hk (by omega)).trans (hje k hk hkj), by rw [hie j (by omega) h]; exact hjl⟩
theorem Lt.irrefl (x : Hs) : ¬ Lt x x := by
  have := (cf_zero x x).2 rfl
  unfold Lt; omega
theorem Lt.ne {x y : Hs} (h : Lt x y) : x ≠ y := fun e => Lt.irrefl x (e ▸ h)



end Go.Proofs.Ytkcdoamohiaiaaa.Sh
