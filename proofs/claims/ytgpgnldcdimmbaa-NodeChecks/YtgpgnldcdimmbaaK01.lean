import Derived.Test.YtgpgnldcdimmbaaChecked
import Derived.WalkKit
import Derived.WalkSpells
import Derived.WalkLawsBesides
import Derived.BigQuiet
import Derived.BigRegion
import Derived.Deep.WholeRow
import Derived.Deep.MidRow
import Derived.Deep.RegionWith
import Derived.Deep.DeepCutAuto
import Derived.Deep.RegionHeld3
namespace Go.Proofs.Ytgpgnldcdimmbaa.Sh
open Go.RowKit

def Blk (w : World) (b : Nat) (T : TypeId) (cs : Array Value) : Prop := w.heap[b]? = some (.cells cs T (0, 0))

theorem Blk.lt {w : World} {b : Nat} {T : TypeId} {cs : Array Value} (h : Blk w b T cs) : b < w.heap.size := (Array.getElem?_eq_some_iff.1 h).1
theorem Blk.cell {w : World} {b : Nat} {T : TypeId} {cs : Array Value} (h : Blk w b T cs) (j : Nat) : w.cell? ⟨b, j, none⟩ = cs[j]? := cell_of_row w b j cs T (0, 0) h
theorem Blk.frozen {w : World} {b : Nat} {T : TypeId} {cs : Array Value} (h : Blk w b T cs) (j : Nat) : w.frozen? ⟨b, j, none⟩ = false := by
  unfold Blk at h; simp [World.frozen?, h]
theorem Blk.new (w : World) (T : TypeId) (cs : Array Value) : Blk (w.alloc (.cells cs T)) w.heap.size T cs := heap_alloc_new w _
theorem Blk.alloc {w : World} {b : Nat} {T : TypeId} {cs : Array Value} (h : Blk w b T cs) (o : Obj) : Blk (w.alloc o) b T cs := by
  unfold Blk; rw [Below.heap_alloc w o b h.lt]; exact h
theorem Blk.drew {w : World} {b : Nat} {T : TypeId} {cs : Array Value} (h : Blk w b T cs) : Blk w.drew b T cs := h
theorem Blk.below {w w' : World} {B b : Nat} {T : TypeId} {cs : Array Value} (h : Blk w b T cs) (hb : Below B w w') (hlt : b < B) : Blk w' b T cs := by
  unfold Blk; rw [hb.block b hlt]; exact h
theorem Blk.set {w : World} {b : Nat} {T : TypeId} {cs : Array Value} (h : Blk w b T cs) (j : Nat) (v : Value) : Blk (w.setCell ⟨b, j, none⟩ v) b T (cs.setIfInBounds j v) := by
  unfold Blk; rw [setCell_eq_setRow w b j cs T (0, 0) v h]; exact setRow_heap w b cs _ T (0, 0) h
theorem Blk.set_ne {w : World} {b b' j : Nat} {T : TypeId} {cs : Array Value} (h : Blk w b T cs) (hne : b ≠ b') (v : Value) : Blk (w.setCell ⟨b', j, none⟩ v) b T cs := by
  unfold Blk; rw [Below.heap_setCell w _ v b hne]; exact h
theorem Blk.setRow {w : World} {b : Nat} {T : TypeId} {cs : Array Value} (h : Blk w b T cs) (cs' : Array Value) : Blk (w.setRow b cs') b T cs' := setRow_heap w b cs cs' T (0, 0) h
theorem Blk.setRow_ne {w : World} {b b' : Nat} {T : TypeId} {cs : Array Value} (h : Blk w b T cs) (hne : b ≠ b') (cs' : Array Value) : Blk (w.setRow b' cs') b T cs := by
  unfold Blk; rw [setRow_other w b' b cs' hne]; exact h
theorem below_setRow {B : Nat} {a w : World} (h : Below B a w) {b : Nat} (hb : B ≤ b) (cs : Array Value) : Below B a (w.setRow b cs) :=
  h.trans ⟨rfl, rfl, rfl, by simp, fun k hk => setRow_other w b k cs (by omega)⟩

def wordsA (n : Nat) (c : Nat → Int) : Array Value := Array.ofFn (n := n) fun i => .int .u32 (c i.val)
def bytesA (n : Nat) (c : Nat → Int) : Array Value := Array.ofFn (n := n) fun i => .int .u8 (c i.val)
def upd (c : Nat → Int) (t : Nat) (v : Int) : Nat → Int := fun i => if i = t then v else c i

theorem wordsA_size (n : Nat) (c : Nat → Int) : (wordsA n c).size = n := by simp [wordsA]
theorem bytesA_size (n : Nat) (c : Nat → Int) : (bytesA n c).size = n := by simp [bytesA]
theorem wordsA_get (n : Nat) (c : Nat → Int) (j : Nat) (h : j < n) : (wordsA n c)[j]? = some (.int .u32 (c j)) := by simp [wordsA, h]
theorem bytesA_get (n : Nat) (c : Nat → Int) (j : Nat) (h : j < n) : (bytesA n c)[j]? = some (.int .u8 (c j)) := by simp [bytesA, h]
theorem wordsA_set (n : Nat) (c : Nat → Int) (j : Nat) (v : Int) : (wordsA n c).setIfInBounds j (.int .u32 v) = wordsA n (upd c j v) := by
  apply Array.ext_getElem?
  intro i
  rw [Array.getElem?_setIfInBounds]
  by_cases e : j = i
  · subst e
    by_cases hj : j < n <;> simp [wordsA, upd, hj]
  · by_cases hi : i < n <;> simp [wordsA, upd, hi, e, Ne.symm e]
theorem bytesA_set (n : Nat) (c : Nat → Int) (j : Nat) (v : Int) : (bytesA n c).setIfInBounds j (.int .u8 v) = bytesA n (upd c j v) := by
  apply Array.ext_getElem?
  intro i
  rw [Array.getElem?_setIfInBounds]
  by_cases e : j = i
  · subst e
    by_cases hj : j < n <;> simp [bytesA, upd, hj]
  · by_cases hi : i < n <;> simp [bytesA, upd, hi, e, Ne.symm e]
theorem wordsA_one (n : Nat) (c : Nat → Int) : (wordsA n c).all (·.oneCell') = true := by
  rw [Array.all_eq_true_iff_forall_mem]; intro v hv; simp [wordsA] at hv; obtain ⟨i, rfl⟩ := hv; rfl
theorem bytesA_one (n : Nat) (c : Nat → Int) : (bytesA n c).all (·.oneCell') = true := by
  rw [Array.all_eq_true_iff_forall_mem]; intro v hv; simp [bytesA] at hv; obtain ⟨i, rfl⟩ := hv; rfl

theorem Try.size150 : (Try.prog.info? 150).map (·.size) = some 8 := by kernel_rfl
theorem Try.size167 : (Try.prog.info? 167).map (·.size) = some 64 := by kernel_rfl
theorem Try.size152 : (Try.prog.info? 152).map (·.size) = some 64 := by kernel_rfl
theorem Try.size40 : (Try.prog.info? 40).map (·.size) = some 32 := by kernel_rfl

theorem Try.size150W (c : Nat → Int) : (Try.prog.info? 150).map (·.size) = some (wordsA 8 c).size := by rw [wordsA_size]; exact Try.size150
theorem Try.size167W (c : Nat → Int) : (Try.prog.info? 167).map (·.size) = some (wordsA 64 c).size := by rw [wordsA_size]; exact Try.size167
theorem Try.size152B (c : Nat → Int) : (Try.prog.info? 152).map (·.size) = some (bytesA 64 c).size := by rw [bytesA_size]; exact Try.size152
theorem Try.size40B (c : Nat → Int) : (Try.prog.info? 40).map (·.size) = some (bytesA 32 c).size := by rw [bytesA_size]; exact Try.size40
theorem wordsA_sizes (n : Nat) (c d : Nat → Int) : (wordsA n c).size = (wordsA n d).size := by rw [wordsA_size, wordsA_size]
theorem bytesA_sizes (n : Nat) (c d : Nat → Int) : (bytesA n c).size = (bytesA n d).size := by rw [bytesA_size, bytesA_size]

section
variable {P : Program}
theorem wpList_bld {ops : Array Oper} {rest : List Oper} {o : Oper} {a : Act} {w : World} {Q : Exit → Act → World → Prop} (hg : o.guard = none) (t : TypeId) (parts : Array (Nat × Operand)) (ho : o.op = .build t parts)
    (cells : Array Value) (hf : P.built t (parts.map fun (i, x) => (i, a.eval x)).toList = some cells)
    (h : wpList P ops Q rest (a.put o.dst (.agg cells)) w) : wpList P ops Q (o :: rest) a w :=
  wpList_build hg t parts ho (by rw [hf]; rfl) (by rw [hf]; exact h)
theorem wpList_new {ops : Array Oper} {rest : List Oper} {o : Oper} {a : Act} {w : World} {Q : Exit → Act → World → Prop} (hg : o.guard = none) (t : TypeId) (ho : o.op = .alloc t)
    (cells : Array Value) (hf : ∀ w : World, (Instr.alloc t true (.tuple #[])).run P w = .ok (.pointer (some ⟨w.heap.size, 0, none⟩)) (w.alloc (.cells cells t)))
    (h : wpList P ops Q rest (a.put o.dst (.pointer (some ⟨w.heap.size, 0, none⟩))) (w.alloc (.cells cells t))) : wpList P ops Q (o :: rest) a w := by
  refine wpList_plain hg fun K hK => ?_
  unfold Oper.wp execOp
  simp only [ho, Sem.run_bind, hf w, Result.andThen_ok]
  exact hK _ _ h
end
theorem Try.new167 (w : World) : (Instr.alloc 167 true (.tuple #[])).run Try.prog w = .ok (.pointer (some ⟨w.heap.size, 0, none⟩)) (w.alloc (.cells (wordsA 64 fun _ => 0) 167)) := by kernel_rfl
theorem Try.new150 (w : World) : (Instr.alloc 150 true (.tuple #[])).run Try.prog w = .ok (.pointer (some ⟨w.heap.size, 0, none⟩)) (w.alloc (.cells (wordsA 8 fun _ => 0) 150)) := by kernel_rfl
theorem Try.new40 (w : World) : (Instr.alloc 40 true (.tuple #[])).run Try.prog w = .ok (.pointer (some ⟨w.heap.size, 0, none⟩)) (w.alloc (.cells (bytesA 32 fun _ => 0) 40)) := by kernel_rfl
end Go.Proofs.Ytgpgnldcdimmbaa.Sh
namespace Go.Proofs.Ytgpgnldcdimmbaa.Sh

abbrev Hs := Vector UInt8 32

namespace Hs
def f (h : Hs) (i : Nat) : Int := ((h.toArray.getD i 0).toNat : Int)
theorem bnd (h : Hs) (i : Nat) (_ : i < 32) : 0 ≤ h.f i ∧ h.f i < 256 := by
  unfold f
  have := (h.toArray.getD i 0).toNat_lt
  omega
theorem f_get (h : Hs) (i : Nat) (hi : i < 32) : h.f i = ((h[i]'hi).toNat : Int) := by
  unfold f
  rw [Array.getD_eq_getD_getElem?, Array.getElem?_eq_getElem (by rw [h.size_toArray]; exact hi)]
  rfl
theorem ext' {a b : Hs} (h : ∀ i, i < 32 → a.f i = b.f i) : a = b := by
  apply Vector.ext
  intro i hi
  have h1 := h i hi
  rw [f_get a i hi, f_get b i hi] at h1
  exact UInt8.toNat_inj.1 (by omega)
def mk' (c : Nat → Int) (_ : ∀ i, i < 32 → 0 ≤ c i ∧ c i < 256) : Hs := Vector.ofFn fun i : Fin 32 => UInt8.ofNat (c i.val).toNat
theorem mk'_f (c : Nat → Int) (hc : ∀ i, i < 32 → 0 ≤ c i ∧ c i < 256) (i : Nat) (hi : i < 32) : (mk' c hc).f i = c i := by
  rw [f_get _ i hi]
  unfold mk'
  rw [Vector.getElem_ofFn, UInt8.toNat_ofNat']
  have := hc i hi
  show (((c i).toNat % 2 ^ 8 : Nat) : Int) = c i
  omega
theorem default_f (i : Nat) (hi : i < 32) : (default : Hs).f i = 0 := by
  rw [f_get _ i hi]
  have : (default : Hs)[i]'hi = 0 := by
    have : ∀ k : Fin 32, (default : Hs)[k.val]'k.isLt = 0 := by decide +kernel
    exact this ⟨i, hi⟩
  rw [this]; rfl
end Hs

def cmpG (a b : Nat → Int) : Nat → Nat → Int
  | 0, _ => 0
  | n + 1, i => if a i < b i then -1 else if b i < a i then 1 else cmpG a b n (i + 1)

theorem cmpG_neg (a b : Nat → Int) : ∀ n i, cmpG a b n i < 0 ↔ ∃ j, i ≤ j ∧ j < i + n ∧ (∀ k, i ≤ k → k < j → a k = b k) ∧ a j < b j
  | 0, i => by simp [cmpG]; omega
  | n + 1, i => by
    unfold cmpG
    by_cases h1 : a i < b i
    · simp only [h1, if_true]
      exact ⟨fun _ => ⟨i, by omega, by omega, fun k _ _ => by omega, h1⟩, fun _ => by omega⟩
    · by_cases h2 : b i < a i
      · simp only [h1, h2, if_false, if_true]
        refine ⟨fun h => by omega, ?_⟩
        rintro ⟨j, hj, _, he, hl⟩
        rcases Nat.lt_or_eq_of_le hj with h | h
        · have := he i (by omega) h; omega
        · subst h; omega
      · simp only [h1, h2, if_false]
        rw [cmpG_neg a b n (i + 1)]
        constructor
        · rintro ⟨j, hj, hn, he, hl⟩
          refine ⟨j, by omega, by omega, fun k hk hkj => ?_, hl⟩
          rcases Nat.lt_or_eq_of_le hk with h | h
          · exact he k (by omega) hkj
          · subst h; omega
        · rintro ⟨j, hj, hn, he, hl⟩
          rcases Nat.lt_or_eq_of_le hj with h | h
          · exact ⟨j, by omega, by omega, fun k hk hkj => he k (by omega) hkj, hl⟩
          · subst h; omega
theorem cmpG_swap (a b : Nat → Int) : ∀ n i, cmpG b a n i = - cmpG a b n i
  | 0, i => rfl
  | n + 1, i => by
    unfold cmpG
    by_cases h1 : a i < b i
    · have : ¬ b i < a i := by omega
      simp [h1, this]
    · by_cases h2 : b i < a i
      · simp [h1, h2]
      · simp [h1, h2, cmpG_swap a b n (i + 1)]
theorem cmpG_zero (a b : Nat → Int) : ∀ n i, cmpG a b n i = 0 ↔ ∀ k, i ≤ k → k < i + n → a k = b k
  | 0, i => by simp [cmpG]; omega
  | n + 1, i => by
    unfold cmpG
    by_cases h1 : a i < b i
    · simp only [h1, if_true]
      exact ⟨fun h => by omega, fun h => by have := h i (by omega) (by omega); omega⟩
    · by_cases h2 : b i < a i
      · simp only [h1, h2, if_false, if_true]
        exact ⟨fun h => by omega, fun h => by have := h i (by omega) (by omega); omega⟩
      · simp only [h1, h2, if_false]
        rw [cmpG_zero a b n (i + 1)]
        constructor
        · intro h k hk hn
          rcases Nat.lt_or_eq_of_le hk with h' | h'
          · exact h k (by omega) (by omega)
          · subst h'; omega
        · intro h k hk hn
          exact h k (by omega) (by omega)
theorem cmpG_eq_skip (a b : Nat → Int) : ∀ i n, (∀ k, k < i → a k = b k) → i ≤ n → cmpG a b n 0 = cmpG a b (n - i) i := by
  intro i
  induction i with
  | zero => intro n _ _; rfl
  | succ i ih =>
    intro n h hn
    rw [ih n (fun k hk => h k (by omega)) (by omega)]
    obtain ⟨m, hm⟩ : ∃ m, n - i = m + 1 := ⟨n - i - 1, by omega⟩
    rw [hm, show n - (i + 1) = m by omega]
    have := h i (by omega)
    rw [cmpG, if_neg (by omega), if_neg (by omega)]
theorem cmpG_at (a b : Nat → Int) (i n : Nat) (h : ∀ k, k < i → a k = b k) (hi : i < n) (hne : a i ≠ b i) : cmpG a b n 0 = if a i < b i then -1 else 1 := by
  rw [cmpG_eq_skip a b i n h (by omega)]
  obtain ⟨m, hm⟩ : ∃ m, n - i = m + 1 := ⟨n - i - 1, by omega⟩
  rw [hm, cmpG]
  by_cases h1 : a i < b i
  · rw [if_pos h1, if_pos h1]
  · rw [if_neg h1, if_neg h1, if_pos (by omega)]

def cf (x y : Hs) : Int := cmpG x.f y.f 32 0
def Lt (x y : Hs) : Prop := cf x y < 0
theorem cf_swap (x y : Hs) : cf y x = - cf x y := cmpG_swap _ _ _ _
theorem cf_zero (x y : Hs) : cf x y = 0 ↔ x = y := by
  unfold cf
  rw [cmpG_zero]
  constructor
  · intro h; exact Hs.ext' fun i hi => h i (by omega) (by omega)
  · rintro rfl; intros; rfl
theorem Lt.trans {x y z : Hs} (h1 : Lt x y) (h2 : Lt y z) : Lt x z := by
  unfold Lt cf at *
  rw [cmpG_neg] at *
  obtain ⟨i, _, hi, hie, hil⟩ := h1
  obtain ⟨j, _, hj, hje, hjl⟩ := h2
  rcases Nat.lt_trichotomy i j with h | h | h
  · exact ⟨i, by omega, hi, fun k hk hki => (hie k hk hki).trans (hje k hk (by omega)), by rw [← hje i (by omega) h]; exact hil⟩
  · subst h; exact ⟨i, by omega, hi, fun k hk hki => (hie k hk hki).trans (hje k hk hki), by omega⟩
  · exact ⟨j, by omega, hj, fun k hk hkj => (hie k hk (by omega)).trans (hje k hk hkj), by rw [hie j (by omega) h]; exact hjl⟩
theorem Lt.irrefl (x : Hs) : ¬ Lt x x := by
  have := (cf_zero x x).2 rfl
  unfold Lt; omega
theorem Lt.tri (x y : Hs) : Lt x y ∨ x = y ∨ Lt y x := by
  have h1 := cf_swap x y
  have h2 := cf_zero x y
  unfold Lt
  by_cases h : cf x y = 0
  · exact .inr (.inl (h2.1 h))
  · rcases Int.lt_or_gt_of_ne h with h | h
    · exact .inl h
    · exact .inr (.inr (by omega))
theorem Lt.ne {x y : Hs} (h : Lt x y) : x ≠ y := fun e => Lt.irrefl x (e ▸ h)
theorem Lt.asymm {x y : Hs} (h : Lt x y) : ¬ Lt y x := fun e => Lt.irrefl x (h.trans e)
theorem cf_pos (x y : Hs) : 0 < cf x y ↔ Lt y x := by unfold Lt; rw [cf_swap x y]; omega

theorem rising_unique : ∀ (a b : List Hs), a.Pairwise Lt → b.Pairwise Lt → (∀ x, x ∈ a ↔ x ∈ b) → a = b
  | [], [], _, _, _ => rfl
  | [], y :: b, _, _, h => by have := (h y).2 (by simp); simp at this
  | x :: a, [], _, _, h => by have := (h x).1 (by simp); simp at this
  | x :: a, y :: b, h1, h2, h => by
    rw [List.pairwise_cons] at h1 h2
    have e : x = y := by
      have hx := (h x).1 (by simp)
      have hy := (h y).2 (by simp)
      rcases List.mem_cons.1 hx with rfl | hx
      · rfl
      · rcases List.mem_cons.1 hy with rfl | hy
        · rfl
        · exact absurd (h1.1 y hy) (h2.1 x hx).asymm
    subst e
    rw [rising_unique a b h1.2 h2.2 fun z => ?_]
    constructor
    · intro hz
      rcases List.mem_cons.1 ((h z).1 (by simp [hz])) with rfl | h'
      · exact absurd (h1.1 _ hz) (Lt.irrefl _)
      · exact h'
    · intro hz
      rcases List.mem_cons.1 ((h z).2 (by simp [hz])) with rfl | h'
      · exact absurd (h2.1 _ hz) (Lt.irrefl _)
      · exact h'

def once : List Hs → List Hs
  | [] => []
  | [x] => [x]
  | x :: y :: r => if x = y then once (y :: r) else x :: once (y :: r)
theorem once_mem : ∀ (l : List Hs) (z : Hs), z ∈ once l ↔ z ∈ l
  | [], z => by simp [once]
  | [x], z => by simp [once]
  | x :: y :: r, z => by
    have ih := once_mem (y :: r) z
    unfold once
    by_cases h : x = y
    · subst h; rw [if_pos rfl, ih]; simp
    · rw [if_neg h]; simp only [List.mem_cons] at ih ⊢; rw [ih]
theorem once_rising : ∀ (l : List Hs), l.Pairwise (fun x y => ¬ Lt y x) → (once l).Pairwise Lt
  | [], _ => by simp [once]
  | [x], _ => by simp [once]
  | x :: y :: r, h => by
    rw [List.pairwise_cons] at h
    have ih := once_rising (y :: r) h.2
    unfold once
    by_cases e : x = y
    · rw [if_pos e]; exact ih
    · rw [if_neg e, List.pairwise_cons]
      refine ⟨fun z hz => ?_, ih⟩
      rw [once_mem] at hz
      rcases List.mem_cons.1 hz with rfl | hz'
      · rcases Lt.tri x z with h1 | h1 | h1
        · exact h1
        · exact absurd h1 e
        · exact absurd h1 (h.1 z (by simp))
      · have h2 := (List.pairwise_cons.1 h.2).1 z hz'
        have h3 := h.1 y (by simp)
        have hxy : Lt x y := by
          rcases Lt.tri x y with h1 | h1 | h1
          · exact h1
          · exact absurd h1 e
          · exact absurd h1 h3
        rcases Lt.tri y z with h1 | h1 | h1
        · exact hxy.trans h1
        · subst h1; exact hxy
        · exact absurd h1 h2

def mrg : List Hs → List Hs → List Hs
  | [], b => b
  | x :: a, [] => x :: a
  | x :: a, y :: b => if cf x y < 0 then x :: mrg a (y :: b) else if cf x y = 0 then x :: mrg a b else y :: mrg (x :: a) b
  termination_by a b => a.length + b.length
theorem mrg_nil (a : List Hs) : mrg a [] = a := by cases a <;> simp [mrg]
theorem mrg_mem (a b : List Hs) (z : Hs) : z ∈ mrg a b ↔ z ∈ a ∨ z ∈ b := by
  fun_induction mrg a b with
  | case1 b => simp
  | case2 x a => simp
  | case3 x a y b h ih => simp only [List.mem_cons, ih]; simp only [or_assoc]
  | case4 x a y b h1 h2 ih =>
    have := (cf_zero x y).1 h2
    subst this
    simp only [List.mem_cons, ih]
    constructor
    · rintro (h | h | h)
      · exact .inl (.inl h)
      · exact .inl (.inr h)
      · exact .inr (.inr h)
    · rintro ((h | h) | (h | h))
      · exact .inl h
      · exact .inr (.inl h)
      · exact .inl h
      · exact .inr (.inr h)
  | case5 x a y b h1 h2 ih =>
    simp only [List.mem_cons, ih]
    constructor
    · rintro (h | (h | h) | h)
      · exact .inr (.inl h)
      · exact .inl (.inl h)
      · exact .inl (.inr h)
      · exact .inr (.inr h)
    · rintro ((h | h) | (h | h))
      · exact .inr (.inl (.inl h))
      · exact .inr (.inl (.inr h))
      · exact .inl h
      · exact .inr (.inr h)
theorem mrg_rising (a b : List Hs) (ha : a.Pairwise Lt) (hb : b.Pairwise Lt) : (mrg a b).Pairwise Lt := by
  fun_induction mrg a b with
  | case1 b => exact hb
  | case2 x a => exact ha
  | case3 x a y b h ih =>
    rw [List.pairwise_cons] at ha ⊢
    refine ⟨fun z hz => ?_, ih ha.2 hb⟩
    rw [mrg_mem] at hz
    rcases hz with hz | hz
    · exact ha.1 z hz
    · rcases List.mem_cons.1 hz with rfl | hz
      · exact h
      · exact Lt.trans h ((List.pairwise_cons.1 hb).1 z hz)
  | case4 x a y b h1 h2 ih =>
    have := (cf_zero x y).1 h2
    subst this
    rw [List.pairwise_cons] at ha hb ⊢
    refine ⟨fun z hz => ?_, ih ha.2 hb.2⟩
    rw [mrg_mem] at hz
    rcases hz with hz | hz
    · exact ha.1 z hz
    · exact hb.1 z hz
  | case5 x a y b h1 h2 ih =>
    have hyx : Lt y x := (cf_pos x y).1 (by omega)
    rw [List.pairwise_cons] at hb ⊢
    refine ⟨fun z hz => ?_, ih ha hb.2⟩
    rw [mrg_mem] at hz
    rcases hz with hz | hz
    · rcases List.mem_cons.1 hz with rfl | hz
      · exact hyx
      · exact hyx.trans ((List.pairwise_cons.1 ha).1 z hz)
    · exact hb.1 z hz
theorem mrg_length (a b : List Hs) : (mrg a b).length ≤ a.length + b.length := by
  fun_induction mrg a b with
  | case1 b => simp
  | case2 x a => simp
  | case3 x a y b h ih => simp only [List.length_cons] at ih ⊢; omega
  | case4 x a y b h1 h2 ih => simp only [List.length_cons] at ih ⊢; omega
  | case5 x a y b h1 h2 ih => simp only [List.length_cons] at ih ⊢; omega
end Go.Proofs.Ytgpgnldcdimmbaa.Sh
