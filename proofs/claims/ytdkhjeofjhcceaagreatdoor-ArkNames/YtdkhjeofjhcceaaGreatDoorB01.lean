import Derived.Test.YtdkhjeofjhcceaaGreatDoorChecked
import Derived.WalkKit
import Derived.WalkSpells
import Derived.WalkLawsBesides
import Derived.BigQuiet
import Derived.BigRegion
import Derived.Deep.WholeRow
import Derived.Deep.MidRow
import Derived.Deep.RegionWith
import Derived.Deep.DeepCutAuto
import Derived.Deep.RegionHeld3
import Derived.Laws.CopyRow
import Derived.Laws.CopyOwn
namespace Go.Proofs.YtdkhjeofjhcceaaGreatDoor.Nd.Sh
open Go.RowKit

def Blk (w : World) (b : Nat) (T : TypeId) (cs : Array Value) : Prop := w.heap[b]? = some (.cells cs T (0, 0))

theorem Blk.lt {w : World} {b : Nat} {T : TypeId} {cs : Array Value} (h : Blk w b T cs) : b < w.heap.size := (Array.getElem?_eq_some_iff.1 h).1
theorem Blk.cell {w : World} {b : Nat} {T : TypeId} {cs : Array Value} (h : Blk w b T cs) (j : Nat) : w.cell? ⟨b, j, none⟩ = cs[j]? := cell_of_row w b j cs T (0, 0) h
theorem Blk.frozen {w : World} {b : Nat} {T : TypeId} {cs : Array Value} (h : Blk w b T cs) (j : Nat) : w.frozen? ⟨b, j, none⟩ = false := by
  unfold Blk at h; simp [World.frozen?, h]
theorem Blk.new (w : World) (T : TypeId) (cs : Array Value) : Blk (w.alloc (.cells cs T)) w.heap.size T cs := heap_alloc_new w _
theorem Blk.alloc {w : World} {b : Nat} {T : TypeId} {cs : Array Value} (h : Blk w b T cs) (o : Obj) : Blk (w.alloc o) b T cs := by
  unfold Blk; rw [Below.heap_alloc w o b h.lt]; exact h
theorem Blk.drew {w : World} {b : Nat} {T : TypeId} {cs : Array Value} (h : Blk w b T cs) : Blk w.drew b T cs := h
theorem Blk.below {w w' : World} {B b : Nat} {T : TypeId} {cs : Array Value} (h : Blk w b T cs) (hb : Below B w w') (hlt : b < B) : Blk w' b T cs := by
  unfold Blk; rw [hb.block b hlt]; exact h
theorem Blk.set {w : World} {b : Nat} {T : TypeId} {cs : Array Value} (h : Blk w b T cs) (j : Nat) (v : Value) : Blk (w.setCell ⟨b, j, none⟩ v) b T (cs.setIfInBounds j v) := by
  unfold Blk; rw [setCell_eq_setRow w b j cs T (0, 0) v h]; exact setRow_heap w b cs _ T (0, 0) h
theorem Blk.set_ne {w : World} {b b' j : Nat} {T : TypeId} {cs : Array Value} (h : Blk w b T cs) (hne : b ≠ b') (v : Value) : Blk (w.setCell ⟨b', j, none⟩ v) b T cs := by
  unfold Blk; rw [Below.heap_setCell w _ v b hne]; exact h
theorem Blk.setRow {w : World} {b : Nat} {T : TypeId} {cs : Array Value} (h : Blk w b T cs) (cs' : Array Value) : Blk (w.setRow b cs') b T cs' := setRow_heap w b cs cs' T (0, 0) h
theorem Blk.setRow_ne {w : World} {b b' : Nat} {T : TypeId} {cs : Array Value} (h : Blk w b T cs) (hne : b ≠ b') (cs' : Array Value) : Blk (w.setRow b' cs') b T cs := by
  unfold Blk; rw [setRow_other w b' b cs' hne]; exact h
theorem below_setRow {B : Nat} {a w : World} (h : Below B a w) {b : Nat} (hb : B ≤ b) (cs : Array Value) : Below B a (w.setRow b cs) :=
  h.trans ⟨rfl, rfl, rfl, by simp, fun k hk => setRow_other w b k cs (by omega)⟩

def wordsA (n : Nat) (c : Nat → Int) : Array Value := Array.ofFn (n := n) fun i => .int .u32 (c i.val)
def bytesA (n : Nat) (c : Nat → Int) : Array Value := Array.ofFn (n := n) fun i => .int .u8 (c i.val)
def upd (c : Nat → Int) (t : Nat) (v : Int) : Nat → Int := fun i => if i = t then v else c i

theorem wordsA_size (n : Nat) (c : Nat → Int) : (wordsA n c).size = n := by simp [wordsA]
theorem bytesA_size (n : Nat) (c : Nat → Int) : (bytesA n c).size = n := by simp [bytesA]
theorem wordsA_get (n : Nat) (c : Nat → Int) (j : Nat) (h : j < n) : (wordsA n c)[j]? = some (.int .u32 (c j)) := by simp [wordsA, h]
theorem bytesA_get (n : Nat) (c : Nat → Int) (j : Nat) (h : j < n) : (bytesA n c)[j]? = some (.int .u8 (c j)) := by simp [bytesA, h]
theorem wordsA_set (n : Nat) (c : Nat → Int) (j : Nat) (v : Int) : (wordsA n c).setIfInBounds j (.int .u32 v) = wordsA n (upd c j v) := by
  apply Array.ext_getElem?
  intro i
  rw [Array.getElem?_setIfInBounds]
  by_cases e : j = i
  · subst e
    by_cases hj : j < n <;> simp [wordsA, upd, hj]
  · by_cases hi : i < n <;> simp [wordsA, upd, hi, e, Ne.symm e]
theorem bytesA_set (n : Nat) (c : Nat → Int) (j : Nat) (v : Int) : (bytesA n c).setIfInBounds j (.int .u8 v) = bytesA n (upd c j v) := by
  apply Array.ext_getElem?
  intro i
  rw [Array.getElem?_setIfInBounds]
  by_cases e : j = i
  · subst e
    by_cases hj : j < n <;> simp [bytesA, upd, hj]
  · by_cases hi : i < n <;> simp [bytesA, upd, hi, e, Ne.symm e]
theorem wordsA_one (n : Nat) (c : Nat → Int) : (wordsA n c).all (·.oneCell') = true := by
  rw [Array.all_eq_true_iff_forall_mem]; intro v hv; simp [wordsA] at hv; obtain ⟨i, rfl⟩ := hv; rfl
theorem bytesA_one (n : Nat) (c : Nat → Int) : (bytesA n c).all (·.oneCell') = true := by
  rw [Array.all_eq_true_iff_forall_mem]; intro v hv; simp [bytesA] at hv; obtain ⟨i, rfl⟩ := hv; rfl

theorem Tryz.size163 : (Tryz.prog.info? 163).map (·.size) = some 8 := by kernel_rfl
theorem Tryz.size195 : (Tryz.prog.info? 195).map (·.size) = some 64 := by kernel_rfl
theorem Tryz.size165 : (Tryz.prog.info? 165).map (·.size) = some 64 := by kernel_rfl
theorem Tryz.size50 : (Tryz.prog.info? 50).map (·.size) = some 32 := by kernel_rfl

theorem Tryz.size163W (c : Nat → Int) : (Tryz.prog.info? 163).map (·.size) = some (wordsA 8 c).size := by rw [wordsA_size]; exact Tryz.size163
theorem Tryz.size195W (c : Nat → Int) : (Tryz.prog.info? 195).map (·.size) = some (wordsA 64 c).size := by rw [wordsA_size]; exact Tryz.size195
theorem Tryz.size165B (c : Nat → Int) : (Tryz.prog.info? 165).map (·.size) = some (bytesA 64 c).size := by rw [bytesA_size]; exact Tryz.size165
theorem Tryz.size50B (c : Nat → Int) : (Tryz.prog.info? 50).map (·.size) = some (bytesA 32 c).size := by rw [bytesA_size]; exact Tryz.size50
theorem wordsA_sizes (n : Nat) (c d : Nat → Int) : (wordsA n c).size = (wordsA n d).size := by rw [wordsA_size, wordsA_size]
theorem bytesA_sizes (n : Nat) (c d : Nat → Int) : (bytesA n c).size = (bytesA n d).size := by rw [bytesA_size, bytesA_size]

section
variable {P : Program}
theorem wpList_bld {ops : Array Oper} {rest : List Oper} {o : Oper} {a : Act} {w : World} {Q : Exit → Act → World → Prop} (hg : o.guard = none) (t : TypeId) (parts : Array (Nat × Operand)) (ho : o.op = .build t parts)
    (cells : Array Value) (hf : P.built t (parts.map fun (i, x) => (i, a.eval x)).toList = some cells)
    (h : wpList P ops Q rest (a.put o.dst (.agg cells)) w) : wpList P ops Q (o :: rest) a w :=
  wpList_build hg t parts ho (by rw [hf]; rfl) (by rw [hf]; exact h)
theorem wpList_new {ops : Array Oper} {rest : List Oper} {o : Oper} {a : Act} {w : World} {Q : Exit → Act → World → Prop} (hg : o.guard = none) (t : TypeId) (ho : o.op = .alloc t)
    (cells : Array Value) (hf : ∀ w : World, (Instr.alloc t true (.tuple #[])).run P w = .ok (.pointer (some ⟨w.heap.size, 0, none⟩)) (w.alloc (.cells cells t)))
    (h : wpList P ops Q rest (a.put o.dst (.pointer (some ⟨w.heap.size, 0, none⟩))) (w.alloc (.cells cells t))) : wpList P ops Q (o :: rest) a w := by
  refine wpList_plain hg fun K hK => ?_
  unfold Oper.wp execOp
  simp only [ho, Sem.run_bind, hf w, Result.andThen_ok]
  exact hK _ _ h
end
theorem Tryz.new195 (w : World) : (Instr.alloc 195 true (.tuple #[])).run Tryz.prog w = .ok (.pointer (some ⟨w.heap.size, 0, none⟩)) (w.alloc (.cells (wordsA 64 fun _ => 0) 195)) := by kernel_rfl
theorem Tryz.new163 (w : World) : (Instr.alloc 163 true (.tuple #[])).run Tryz.prog w = .ok (.pointer (some ⟨w.heap.size, 0, none⟩)) (w.alloc (.cells (wordsA 8 fun _ => 0) 163)) := by kernel_rfl
theorem Tryz.new50 (w : World) : (Instr.alloc 50 true (.tuple #[])).run Tryz.prog w = .ok (.pointer (some ⟨w.heap.size, 0, none⟩)) (w.alloc (.cells (bytesA 32 fun _ => 0) 50)) := by kernel_rfl
end Go.Proofs.YtdkhjeofjhcceaaGreatDoor.Nd.Sh
namespace Go.Proofs.YtdkhjeofjhcceaaGreatDoor.Nd.Sh

abbrev Hs := Vector UInt8 32

namespace Hs
def f (h : Hs) (i : Nat) : Int := ((h.toArray.getD i 0).toNat : Int)
theorem f_get (h : Hs) (i : Nat) (hi : i < 32) : h.f i = ((h[i]'hi).toNat : Int) := by
  unfold f
  rw [Array.getD_eq_getD_getElem?, Array.getElem?_eq_getElem (by rw [h.size_toArray]; exact hi)]
  rfl
theorem ext' {a b : Hs} (h : ∀ i, i < 32 → a.f i = b.f i) : a = b := by
  apply Vector.ext
  intro i hi
  have h1 := h i hi
  rw [f_get a i hi, f_get b i hi] at h1
  exact UInt8.toNat_inj.1 (by omega)
end Hs

def cmpG (a b : Nat → Int) : Nat → Nat → Int
  | 0, _ => 0
  | n + 1, i => if a i < b i then -1 else if b i < a i then 1 else cmpG a b n (i + 1)

theorem cmpG_neg (a b : Nat → Int) : ∀ n i, cmpG a b n i < 0 ↔ ∃ j, i ≤ j ∧ j < i + n ∧ (∀ k, i ≤ k → k < j → a k = b k) ∧ a j < b j
  | 0, i => by simp [cmpG]; omega
  | n + 1, i => by
    unfold cmpG
    by_cases h1 : a i < b i
    · simp only [h1, if_true]
      exact ⟨fun _ => ⟨i, by omega, by omega, fun k _ _ => by omega, h1⟩, fun _ => by omega⟩
    · by_cases h2 : b i < a i
      · simp only [h1, h2, if_false, if_true]
        refine ⟨fun h => by omega, ?_⟩
        rintro ⟨j, hj, _, he, hl⟩
        rcases Nat.lt_or_eq_of_le hj with h | h
        · have := he i (by omega) h; omega
        · subst h; omega
      · simp only [h1, h2, if_false]
        rw [cmpG_neg a b n (i + 1)]
        constructor
        · rintro ⟨j, hj, hn, he, hl⟩
          refine ⟨j, by omega, by omega, fun k hk hkj => ?_, hl⟩
          rcases Nat.lt_or_eq_of_le hk with h | h
          · exact he k (by omega) hkj
          · subst h; omega
        · rintro ⟨j, hj, hn, he, hl⟩
          rcases Nat.lt_or_eq_of_le hj with h | h
          · exact ⟨j, by omega, by omega, fun k hk hkj => he k (by omega) hkj, hl⟩
          · subst h; omega
theorem cmpG_zero (a b : Nat → Int) : ∀ n i, cmpG a b n i = 0 ↔ ∀ k, i ≤ k → k < i + n → a k = b k
  | 0, i => by simp [cmpG]; omega
  | n + 1, i => by
    unfold cmpG
    by_cases h1 : a i < b i
    · simp only [h1, if_true]
      exact ⟨fun h => by omega, fun h => by have := h i (by omega) (by omega); omega⟩
    · by_cases h2 : b i < a i
      · simp only [h1, h2, if_false, if_true]
        exact ⟨fun h => by omega, fun h => by have := h i (by omega) (by omega); omega⟩
      · simp only [h1, h2, if_false]
        rw [cmpG_zero a b n (i + 1)]
        constructor
        · intro h k hk hn
          rcases Nat.lt_or_eq_of_le hk with h' | h'
          · exact h k (by omega) (by omega)
          · subst h'; omega
        · intro h k hk hn
          exact h k (by omega) (by omega)
theorem cmpG_eq_skip (a b : Nat → Int) : ∀ i n, (∀ k, k < i → a k = b k) → i ≤ n → cmpG a b n 0 = cmpG a b (n - i) i := by
  intro i
  induction i with
  | zero => intro n _ _; rfl
  | succ i ih =>
    intro n h hn
    rw [ih n (fun k hk => h k (by omega)) (by omega)]
    obtain ⟨m, hm⟩ : ∃ m, n - i = m + 1 := ⟨n - i - 1, by omega⟩
    rw [hm, show n - (i + 1) = m by omega]
    have := h i (by omega)
    rw [cmpG, if_neg (by omega), if_neg (by omega)]
theorem cmpG_at (a b : Nat → Int) (i n : Nat) (h : ∀ k, k < i → a k = b k) (hi : i < n) (hne : a i ≠ b i) : cmpG a b n 0 = if a i < b i then -1 else 1 := by
  rw [cmpG_eq_skip a b i n h (by omega)]
  obtain ⟨m, hm⟩ : ∃ m, n - i = m + 1 := ⟨n - i - 1, by omega⟩
  rw [hm, cmpG]
  by_cases h1 : a i < b i
  · rw [if_pos h1, if_pos h1]
  · rw [if_neg h1, if_neg h1, if_pos (by omega)]

def cf (x y : Hs) : Int := cmpG x.f y.f 32 0
def Lt (x y : Hs) : Prop := cf x y < 0
theorem cf_zero (x y : Hs) : cf x y = 0 ↔ x = y := by
  unfold cf
  rw [cmpG_zero]
  constructor
  · intro h; exact Hs.ext' fun i hi => h i (by omega) (by omega)
  · rintro rfl; intros; rfl
theorem Lt.trans {x y z : Hs} (h1 : Lt x y) (h2 : Lt y z) : Lt x z := by
  unfold Lt cf at *
  rw [cmpG_neg] at *
  obtain ⟨i, _, hi, hie, hil⟩ := h1
  obtain ⟨j, _, hj, hje, hjl⟩ := h2
  rcases Nat.lt_trichotomy i j with h | h | h
  · exact ⟨i, by omega, hi, fun k hk hki => (hie k hk hki).trans (hje k hk (by omega)), by rw [← hje i (by omega) h]; exact hil⟩
  · subst h; exact ⟨i, by omega, hi, fun k hk hki => (hie k hk hki).trans (hje k hk hki), by omega⟩
  · exact ⟨j, by omega, hj, fun k hk hkj => (hie k hk (by omega)).trans (hje k hk hkj), by rw [hie j (by omega) h]; exact hjl⟩
theorem Lt.irrefl (x : Hs) : ¬ Lt x x := by
  have := (cf_zero x x).2 rfl
  unfold Lt; omega
theorem Lt.ne {x y : Hs} (h : Lt x y) : x ≠ y := fun e => Lt.irrefl x (e ▸ h)


def once : List Hs → List Hs
  | [] => []
  | [x] => [x]
  | x :: y :: r => if x = y then once (y :: r) else x :: once (y :: r)

end Go.Proofs.YtdkhjeofjhcceaaGreatDoor.Nd.Sh
namespace Go.Proofs.YtdkhjeofjhcceaaGreatDoor.Nd.Sh
open Go.RowKit

section
variable {P : Program} {ops : Array Oper} {Q : Exit → Act → World → Prop} {md : Region.Mode}

theorem getD_lt {l : Array Bool} {i : Nat} (h : l.getD i true = false) : ∃ hi : i < l.size, l[i] = false := by
  by_cases hi : i < l.size
  · exact ⟨hi, by simpa [Array.getD, hi] using h⟩
  · simp [Array.getD, hi] at h

theorem wpAny_inv (I : Array Bool → Act → World → Prop)
    (hs : ∀ l a w, I l a w → l.size = ops.size)
    (hstep : ∀ l a w i o, I l a w → l.getD i true = false → ops[i]? = some o → (∀ e ∈ o.after, Region.binds md e = true → l.getD e.on false = true) →
      o.guard = none ∧ o.wp P a w (I (l.setIfInBounds i true)) Q)
    (hback : ∀ i o, ops[i]? = some o → ∀ e ∈ o.after, Region.binds md e = true → e.on < i)
    (hdone : ∀ l a w, I l a w → (∀ i, i < ops.size → l.getD i false = true) → Q .normal a w) :
    ∀ fuel l a w, l.toList.countP (fun b => !b) ≤ fuel → I l a w → wpAny P md ops Q fuel l a w := by
  have hall : ∀ l a w, I l a w → Region.ready md ops l = [] → ∀ i, i < ops.size → l.getD i false = true := by
    intro l a w hI hr i
    induction i using Nat.strongRecOn with
    | ind i ih =>
      intro hi
      by_cases hc : l.getD i true = false
      · have : i ∈ Region.ready md ops l := mem_ready.2 ⟨hc, ops[i], Array.getElem?_eq_getElem hi, fun e he hb => ih _ (hback i _ (Array.getElem?_eq_getElem hi) e he hb) (Nat.lt_trans (hback i _ (Array.getElem?_eq_getElem hi) e he hb) hi)⟩
        rw [hr] at this; simp at this
      · have hl : i < l.size := by rw [hs l a w hI]; exact hi
        simpa [Array.getD, hl] using hc
  intro fuel
  induction fuel with
  | zero =>
    intro l a w hf hI
    have hnil : Region.ready md ops l = [] := by
      rw [List.eq_nil_iff_forall_not_mem]
      intro j hj
      obtain ⟨hj0, _⟩ := mem_ready.1 hj
      obtain ⟨hlt, hv⟩ := getD_lt hj0
      have : 0 < l.toList.countP (fun b => !b) := List.countP_pos_iff.2 ⟨l[j], by simp, by simp [hv]⟩
      omega
    exact ⟨hnil, hdone l a w hI (hall l a w hI hnil)⟩
  | succ fuel ih =>
    intro l a w hf hI
    refine ⟨fun hnil => hdone l a w hI (hall l a w hI hnil), fun i hi => ?_⟩
    obtain ⟨hj0, o, ho, he⟩ := mem_ready.1 hi
    obtain ⟨hlt, hv⟩ := getD_lt hj0
    obtain ⟨hg, hw⟩ := hstep l a w i o hI hj0 ho he
    unfold wpOp
    simp only [ho, Region.wanted, hg, if_true]
    refine .inl (Oper.wp_mono (fun a' w' h' => ih _ a' w' ?_ h') hw)
    have hc := List.countP_set (p := fun b => !b) (l := l.toList) (i := i) (a := true) (by simpa using hlt)
    have hp : 0 < l.toList.countP (fun b => !b) := List.countP_pos_iff.2 ⟨l[i], by simp, by simp [hv]⟩
    have e1 : l.toList[i]'(by simpa using hlt) = false := by simpa using hv
    rw [Array.toList_setIfInBounds, hc, e1]
    generalize List.countP (fun b => !b) l.toList = n at *
    simp
    omega

theorem wp_region_inv {id : Nat} {a : Act} {w : World} (hm : P.follows .mixedOrders = true) (I : Array Bool → Act → World → Prop)
    (hs : ∀ l a w, I l a w → l.size = ops.size)
    (hstep : ∀ l a w i o, I l a w → l.getD i true = false → ops[i]? = some o → (∀ e ∈ o.after, Region.binds .any e = true → l.getD e.on false = true) →
      o.guard = none ∧ o.wp P a w (I (l.setIfInBounds i true)) Q)
    (hback : ∀ i o, ops[i]? = some o → ∀ e ∈ o.after, Region.binds .any e = true → e.on < i)
    (hdone : ∀ l a w, I l a w → (∀ i, i < ops.size → l.getD i false = true) → Q .normal a w)
    (h0 : I (Array.replicate ops.size false) a w.drew) : (Code.region id ops true).wp P Q a w :=
  wp_region_any hm (wpAny_inv I hs hstep hback hdone _ _ _ _ (by simp [List.countP_replicate]) h0)

theorem wp_new {o : Oper} {a : Act} {w : World} {K : Act → World → Prop} (t : TypeId) (ho : o.op = .alloc t)
    (cells : Array Value) (hf : ∀ w : World, (Instr.alloc t true (.tuple #[])).run P w = .ok (.pointer (some ⟨w.heap.size, 0, none⟩)) (w.alloc (.cells cells t)))
    (h : K (a.put o.dst (.pointer (some ⟨w.heap.size, 0, none⟩))) (w.alloc (.cells cells t))) : o.wp P a w K Q := by
  unfold Oper.wp execOp
  simp only [ho, Sem.run_bind, hf w, Result.andThen_ok]
  exact h

theorem run_callF (a : Act) (o : Oper) (f : FuncId) (args : Array Operand) (ts : Array TypeId) (ho : o.op = .call { callee := .value (.func f), args := args, argTypes := ts })
    (hf : ∀ (w : World) (vs : Array Value), (callFunc f vs).run P w = .ok (.enter f vs) w) (w : World) :
    (execOp a.eval o).run P w = .ok (.enter f (args.map a.eval)) w := by
  unfold execOp
  simp only [ho]
  simp [resolve, Act.eval, go_sem]
  exact hf w _

theorem wp_callF {o : Oper} {a : Act} {w : World} {K : Act → World → Prop} (f : FuncId) (args : Array Operand) (ts : Array TypeId) (ho : o.op = .call { callee := .value (.func f), args := args, argTypes := ts })
    (hf : ∀ (w : World) (vs : Array Value), (callFunc f vs).run P w = .ok (.enter f vs) w)
    (vs : Array Value) (hvs : args.map a.eval = vs)
    (R : Value → World → Prop) (hc : Calls P f vs w fun e w' => ∃ v, e = .returned v ∧ R v w')
    (h : ∀ v w', R v w' → K (a.put o.dst v) w') : o.wp P a w K Q := by
  unfold Oper.wp
  rw [run_callF a o f args ts ho hf w, Oper.upon_enter, hvs]
  refine hc.mono ?_
  rintro e w' ⟨v, rfl, hr⟩
  exact h v w' hr
end
theorem Tryz.enter118 (w : World) (vs : Array Value) : (callFunc 118 vs).run Tryz.prog w = .ok (.enter 118 vs) w := by kernel_rfl
theorem Tryz.enter119 (w : World) (vs : Array Value) : (callFunc 119 vs).run Tryz.prog w = .ok (.enter 119 vs) w := by kernel_rfl
end Go.Proofs.YtdkhjeofjhcceaaGreatDoor.Nd.Sh
namespace Go.Proofs.YtdkhjeofjhcceaaGreatDoor.Nd.Sh
open Go.RowKit

section
variable {P : Program} {ops : Array Oper} {Q : Exit → Act → World → Prop}

def backB (ops : Array Oper) : Bool := (List.range ops.size).all fun i => match ops[i]? with
  | some o => o.after.all fun e => !Region.binds .any e || decide (e.on < i)
  | none => true
theorem back_of (h : backB ops = true) : ∀ i o, ops[i]? = some o → ∀ e ∈ o.after, Region.binds .any e = true → e.on < i := by
  intro i o ho e he hb
  have hi : i < ops.size := (Array.getElem?_eq_some_iff.1 ho).1
  have h1 := List.all_eq_true.1 h i (List.mem_range.2 hi)
  simp only [ho] at h1
  have h2 := Array.all_eq_true_iff_forall_mem.1 h1 e he
  simpa [hb] using h2

def dstsB (ops : Array Oper) (n : Nat) : Bool := (List.range ops.size).all fun i => match ops[i]? with
  | some o => (match o.dst with
    | some d => decide (d < n) && (List.range ops.size).all fun j => match ops[j]? with
      | some o' => (o'.dst != some d) || i == j
      | none => true
    | none => true)
  | none => true
theorem dsts_lt {n : Nat} (h : dstsB ops n = true) (i : Nat) (o : Oper) (d : Nat) (ho : ops[i]? = some o) (hd : o.dst = some d) : d < n := by
  have hi : i < ops.size := (Array.getElem?_eq_some_iff.1 ho).1
  have h1 := List.all_eq_true.1 h i (List.mem_range.2 hi)
  simp only [ho, hd, Bool.and_eq_true, decide_eq_true_eq] at h1
  exact h1.1
theorem dsts_inj {n : Nat} (h : dstsB ops n = true) (i j : Nat) (o o' : Oper) (d : Nat) (ho : ops[i]? = some o) (ho' : ops[j]? = some o') (hd : o.dst = some d) (hd' : o'.dst = some d) : i = j := by
  have hi : i < ops.size := (Array.getElem?_eq_some_iff.1 ho).1
  have hj : j < ops.size := (Array.getElem?_eq_some_iff.1 ho').1
  have h1 := List.all_eq_true.1 h i (List.mem_range.2 hi)
  simp only [ho, hd, Bool.and_eq_true, decide_eq_true_eq] at h1
  have h2 := List.all_eq_true.1 h1.2 j (List.mem_range.2 hj)
  simpa [ho', hd'] using h2

def putsTo (ops : Array Oper) (V : Nat → Value) (a0 : Act) : Nat → Act
  | 0 => a0
  | n + 1 => match ops[n]? with
    | some o => (putsTo ops V a0 n).put o.dst (V n)
    | none => putsTo ops V a0 n

theorem putsTo_facts (V : Nat → Value) (a0 : Act) (hd : dstsB ops a0.tmps.size = true) (n : Nat) :
    (putsTo ops V a0 n).defers = a0.defers ∧ (putsTo ops V a0 n).tmps.size = a0.tmps.size ∧
    (∀ t : Nat, (∀ j o, j < n → ops[j]? = some o → o.dst ≠ some t) → (putsTo ops V a0 n).tmps[t]? = a0.tmps[t]?) ∧
    (∀ j o d, j < n → ops[j]? = some o → o.dst = some d → (putsTo ops V a0 n).tmps[d]? = some (V j)) := by
  induction n with
  | zero => exact ⟨rfl, rfl, fun _ _ => rfl, fun j _ _ h => absurd h (by omega)⟩
  | succ n ih =>
    obtain ⟨i1, i2, i3, i4⟩ := ih
    cases hn : ops[n]? with
    | none =>
      have e : putsTo ops V a0 (n + 1) = putsTo ops V a0 n := by simp only [putsTo, hn]
      rw [e]
      refine ⟨i1, i2, fun t ht => i3 t (fun j o hj ho => ht j o (by omega) ho), fun j o d hj ho hdd => ?_⟩
      have : j ≠ n := fun e => by subst e; rw [hn] at ho; cases ho
      exact i4 j o d (by omega) ho hdd
    | some o =>
      have e : putsTo ops V a0 (n + 1) = (putsTo ops V a0 n).put o.dst (V n) := by simp only [putsTo, hn]
      rw [e]
      cases hod : o.dst with
      | none =>
        have e2 : (putsTo ops V a0 n).put none (V n) = putsTo ops V a0 n := rfl
        rw [e2]
        refine ⟨i1, i2, fun t ht => i3 t (fun j o hj ho => ht j o (by omega) ho), fun j o' d hj ho hdd => ?_⟩
        have : j ≠ n := fun e => by subst e; rw [hn] at ho; cases ho; rw [hod] at hdd; cases hdd
        exact i4 j o' d (by omega) ho hdd
      | some dn =>
        have hlt : dn < a0.tmps.size := dsts_lt hd n o dn hn hod
        refine ⟨by simpa [Act.put] using i1, by simpa [Act.put] using i2, fun t ht => ?_, fun j o' d hj ho hdd => ?_⟩
        · have hne : dn ≠ t := fun e => ht n o (by omega) hn (by rw [hod, e])
          simp only [Act.put]
          rw [Array.getElem?_setIfInBounds_ne hne]
          exact i3 t (fun j o hj ho => ht j o (by omega) ho)
        · by_cases hjn : j = n
          · subst hjn
            rw [hn] at ho; cases ho
            rw [hod] at hdd; cases hdd
            simp [Act.put, i2, hlt]
          · have hne : dn ≠ d := fun e => hjn (dsts_inj hd j n o' o d ho hn hdd (by rw [hod, e]))
            simp only [Act.put]
            rw [Array.getElem?_setIfInBounds_ne hne]
            exact i4 j o' d (by omega) ho hdd

theorem act_ext {a b : Act} (h1 : a.tmps = b.tmps) (h2 : a.defers = b.defers) : a = b := by
  cases a; cases b; simp_all

theorem eval_of_get {a : Act} {t : Nat} {v : Value} (h : a.tmps[t]? = some v) : a.eval (.tmp t) = v := by
  simp [Act.eval, h]

theorem wp_region_vals {id : Nat} {a0 : Act} {w : World} (hm : P.follows .mixedOrders = true) (V : Nat → Value) (W : Array Bool → World → Prop)
    (hd : dstsB ops a0.tmps.size = true) (hb : backB ops = true)
    (hstep : ∀ (l : Array Bool) (a : Act) (w : World) (i : Nat) (o : Oper),
      (∀ t : Nat, (∀ (j : Nat) (o' : Oper), ops[j]? = some o' → o'.dst ≠ some t) → a.eval (.tmp t) = a0.eval (.tmp t)) →
      (∀ (j : Nat) (o' : Oper) (d : Nat), ops[j]? = some o' → o'.dst = some d → l.getD j false = true → a.eval (.tmp d) = V j) →
      W l w → l.size = ops.size → l.getD i true = false → ops[i]? = some o → (∀ e ∈ o.after, Region.binds .any e = true → l.getD e.on false = true) →
      o.guard = none ∧ o.wp P a w (fun a' w' => a' = a.put o.dst (V i) ∧ W (l.setIfInBounds i true) w') Q)
    (hdone : ∀ l w, W l w → (∀ i, i < ops.size → l.getD i false = true) → Q .normal (putsTo ops V a0 ops.size) w)
    (h0 : W (Array.replicate ops.size false) w.drew) : (Code.region id ops true).wp P Q a0 w := by
  refine wp_region_inv hm (fun l a w => l.size = ops.size ∧ a.defers = a0.defers ∧ a.tmps.size = a0.tmps.size ∧
    (∀ t : Nat, (∀ (j : Nat) (o' : Oper), ops[j]? = some o' → o'.dst ≠ some t) → a.tmps[t]? = a0.tmps[t]?) ∧
    (∀ (j : Nat) (o' : Oper) (d : Nat), ops[j]? = some o' → o'.dst = some d → l.getD j false = true → a.tmps[d]? = some (V j)) ∧ W l w) ?_ ?_ (back_of hb) ?_ ?_
  · intro l a w h; exact h.1
  · rintro l a w i o ⟨h1, h2, h3, h4, h5, h6⟩ hi ho he
    obtain ⟨hg, hw⟩ := hstep l a w i o (fun t ht => by simp only [Act.eval, Array.getD_eq_getD_getElem?]; rw [h4 t ht]) (fun j o' d hj hdd hl => eval_of_get (h5 j o' d hj hdd hl)) h6 h1 hi ho he
    refine ⟨hg, Oper.wp_mono ?_ hw⟩
    rintro a' w' ⟨rfl, hW⟩
    refine ⟨by simpa using h1, ?_, ?_, ?_, ?_, hW⟩
    · cases hod : o.dst <;> simpa [Act.put] using h2
    · cases hod : o.dst <;> simpa [Act.put] using h3
    · intro t ht
      cases hod : o.dst with
      | none => exact h4 t ht
      | some dn =>
        have hne : dn ≠ t := fun e => ht i o ho (by rw [hod, e])
        simp only [Act.put]
        rw [Array.getElem?_setIfInBounds_ne hne]
        exact h4 t ht
    · intro j o' d hj hdd hl
      cases hod : o.dst with
      | none =>
        have hji : i ≠ j := fun e => by subst e; rw [ho] at hj; cases hj; rw [hod] at hdd; cases hdd
        rw [getD_set_ne false hji] at hl
        exact h5 j o' d hj hdd hl
      | some dn =>
        have hlt : dn < a0.tmps.size := dsts_lt hd i o dn ho hod
        by_cases hji : i = j
        · subst hji
          rw [ho] at hj; cases hj
          rw [hod] at hdd; cases hdd
          simp [Act.put, h3, hlt]
        · have hne : dn ≠ d := fun e => hji (dsts_inj hd i j o o' d ho hj (by rw [hod, e]) hdd)
          rw [getD_set_ne false hji] at hl
          simp only [Act.put]
          rw [Array.getElem?_setIfInBounds_ne hne]
          exact h5 j o' d hj hdd hl
  · rintro l a w ⟨h1, h2, h3, h4, h5, h6⟩ hall
    obtain ⟨p1, p2, p3, p4⟩ := putsTo_facts V a0 hd ops.size
    have e : a = putsTo ops V a0 ops.size := by
      refine act_ext (Array.ext_getElem? fun t => ?_) (h2.trans p1.symm)
      by_cases hx : ∃ (j : Nat) (o' : Oper), ops[j]? = some o' ∧ o'.dst = some t
      · obtain ⟨j, o', hj, hdd⟩ := hx
        have hlt : j < ops.size := (Array.getElem?_eq_some_iff.1 hj).1
        rw [h5 j o' t hj hdd (hall j hlt), p4 j o' t hlt hj hdd]
      · have hn : ∀ (j : Nat) (o' : Oper), ops[j]? = some o' → o'.dst ≠ some t := fun j o' hj hdd => hx ⟨j, o', hj, hdd⟩
        rw [h4 t hn, p3 t (fun j o' _ hj => hn j o' hj)]
    rw [e]
    exact hdone l w h6 hall
  · refine ⟨by simp, rfl, rfl, fun _ _ => rfl, fun j o' d _ _ hl => ?_, h0⟩
    simp [Array.getD] at hl

theorem wp_val {o : Oper} {a : Act} {w : World} {K : Act → World → Prop} (v : Value) (hrun : (execOp a.eval o).run P w = .ok (.value v) w) (h : K (a.put o.dst v) w) : o.wp P a w K Q := by
  unfold Oper.wp; rw [hrun, Oper.upon_value]; exact h
theorem wp_move {o : Oper} {a : Act} {w : World} {K : Act → World → Prop} (x : Operand) (ho : o.op = .move x) (v : Value) (hv : a.eval x = v) (h : K (a.put o.dst v) w) : o.wp P a w K Q :=
  wp_val v (by unfold execOp; simp only [ho, hv]; rfl) h
theorem wp_nilCheck {o : Oper} {a : Act} {w : World} {K : Act → World → Prop} (x : Operand) (ho : o.op = .nilCheck x) (b : Addr) (hv : a.eval x = .pointer (some b)) (h : K (a.put o.dst (.pointer (some b))) w) : o.wp P a w K Q :=
  wp_val _ (by unfold execOp; simp only [ho, hv]; rfl) h
theorem wp_fieldAddr {o : Oper} {a : Act} {w : World} {K : Act → World → Prop} (t : TypeId) (x : Operand) (k : Nat) (ho : o.op = .fieldAddr t x k) (v u : Value) (hv : a.eval x = v)
    (hf : ∀ w : World, (Instr.fieldAt t v k).run P w = .ok u w) (h : K (a.put o.dst u) w) : o.wp P a w K Q := by
  refine wp_val u ?_ h
  unfold execOp
  simp only [ho, hv, Sem.run_bind, hf w, Result.andThen_ok]
  rfl
theorem wp_store_part {o : Oper} {a : Act} {w : World} {K : Act → World → Prop} (ty : TypeId) (x y : Operand) (ho : o.op = .store ty x y)
    (g off : Nat) (cells : Array Value) (hx : a.eval x = .pointer (some ⟨g, off, none⟩)) (hy : a.eval y = .agg cells)
    (t : TypeId) (cur : Array Value) (hg : w.heap[g]? = some (.cells cur t (0, 0))) (hi : (P.info? ty).map (·.size) = some cells.size) (hfit : off + cells.size ≤ cur.size)
    (h1 : cells.all (·.oneCell') = true)
    (h : K (a.put o.dst undef) (w.setRow g (cur.toList.take off ++ cells.toList ++ cur.toList.drop (off + cells.size)).toArray)) : o.wp P a w K Q := by
  have hst := run_storeCells_at P g off t cells.toList 0 cur w hg (by simpa using hfit) (fun v hv => (Array.all_eq_true_iff_forall_mem.1 h1) v (by simpa using hv))
  have hrun : (storeVar ty ⟨g, off, none⟩ (.agg cells)).run P w = .ok () (w.setRow g (cur.toList.take off ++ cells.toList ++ cur.toList.drop (off + cells.size)).toArray) := by
    cases hq : P.info? ty with
    | none => simp [hq] at hi
    | some i =>
      have hs : cells.size = i.size := by simp [hq] at hi; omega
      simp only [Nat.add_zero, Array.length_toList] at hst
      simp [storeVar, sizeOf, typeInfo, hq, Value.cells, hs, hst]
  unfold Oper.wp execOp
  simp only [ho, hx, hy, Instr.storeAt, Instr.sureAddr, Sem.run_bind, Sem.run_pure, Result.andThen_ok, hrun]
  exact h
end
end Go.Proofs.YtdkhjeofjhcceaaGreatDoor.Nd.Sh
namespace Go.Proofs.YtdkhjeofjhcceaaGreatDoor.Nd.Sh
open Go.RowKit

def rot (x n : Int) : Int := bits .or .u32 (x * 2 ^ (32 - n).toNat % 4294967296) (x / 2 ^ n.toNat)

theorem and31 (n : Int) (h1 : 1 ≤ n) (h2 : n ≤ 31) : bits .and .u64 (IntKind.u64.wrap (-n)) 31 = 32 - n := by
  obtain ⟨k, rfl⟩ := Int.eq_ofNat_of_zero_le (show 0 ≤ n by omega)
  have hk : k < 32 := by omega
  have hk1 : 1 ≤ k := by omega
  have : ∀ k : Fin 32, 1 ≤ k.val → bits .and .u64 (IntKind.u64.wrap (-((k.val : Nat) : Int))) 31 = 32 - ((k.val : Nat) : Int) := by decide +kernel
  exact this ⟨k, hk⟩ hk1

set_option maxRecDepth 8000 in
set_option maxHeartbeats 400000 in
theorem rotl_any (x n : Int) (w : World) (h1 : 1 ≤ n) (h2 : n ≤ 31) :
    Calls Tryz.prog 132 #[.int .u32 x, .int .i64 (-n)] w fun e w' => e = .returned (.int .u32 (rot x n)) ∧ w' = w := by
  have ha := and31 n h1 h2
  have hs : 32 - n ≤ 32 := by omega
  have hs0 : 0 ≤ 32 - n := by omega
  have hw : IntKind.u64.wrap (32 - (32 - n)) = n := by rw [IntKind.wrap_u64]; omega
  go_enter Tryz.func132, Tryz.ntmps132
  go_wp2
  go_ret
  exact ⟨rfl, rfl⟩

set_option maxRecDepth 8000 in
set_option maxHeartbeats 400000 in
theorem turn_any (x n : Int) (w : World) (h1 : 1 ≤ n) (h2 : n ≤ 31) :
    Calls Tryz.prog 120 #[.int .u32 x, .int .i64 n] w fun e w' => e = .returned (.int .u32 (rot x n)) ∧ w' = w := by
  go_enter Tryz.func120, Tryz.ntmps120
  go_wp2_with fail
  refine (rotl_any x n _ h1 h2).mono ?_
  rintro e w' ⟨rfl, rfl⟩
  go_wp2
  go_ret
  exact ⟨rfl, rfl⟩

def beginL : List Int := [0x6a09e667, 0xbb67ae85, 0x3c6ef372, 0xa54ff53a, 0x510e527f, 0x9b05688c, 0x1f83d9ab, 0x5be0cd19]
def beginF (i : Nat) : Int := beginL.getD i 0
def roundsL : List Int := [0x428a2f98, 0x71374491, 0xb5c0fbcf, 0xe9b5dba5, 0x3956c25b, 0x59f111f1, 0x923f82a4, 0xab1c5ed5, 0xd807aa98, 0x12835b01, 0x243185be, 0x550c7dc3, 0x72be5d74, 0x80deb1fe, 0x9bdc06a7, 0xc19bf174, 0xe49b69c1, 0xefbe4786, 0x0fc19dc6, 0x240ca1cc, 0x2de92c6f, 0x4a7484aa, 0x5cb0a9dc, 0x76f988da, 0x983e5152, 0xa831c66d, 0xb00327c8, 0xbf597fc7, 0xc6e00bf3, 0xd5a79147, 0x06ca6351, 0x14292967, 0x27b70a85, 0x2e1b2138, 0x4d2c6dfc, 0x53380d13, 0x650a7354, 0x766a0abb, 0x81c2c92e, 0x92722c85, 0xa2bfe8a1, 0xa81a664b, 0xc24b8b70, 0xc76c51a3, 0xd192e819, 0xd6990624, 0xf40e3585, 0x106aa070, 0x19a4c116, 0x1e376c08, 0x2748774c, 0x34b0bcb5, 0x391c0cb3, 0x4ed8aa4a, 0x5b9cca4f, 0x682e6ff3, 0x748f82ee, 0x78a5636f, 0x84c87814, 0x8cc70208, 0x90befffa, 0xa4506ceb, 0xbef9a3f7, 0xc67178f2]
def roundsF (i : Nat) : Int := roundsL.getD i 0

set_option maxRecDepth 10000 in
theorem begin_any (w : World) :
    Calls Tryz.prog 97 #[] w fun e w' => e = .returned (.agg (wordsA 8 beginF)) ∧ w' = w.alloc (.cells (wordsA 8 beginF) 163) := by
  go_enter Tryz.func97, Tryz.ntmps97
  go_step; go_step; go_step
  refine wpList_new rfl 163 rfl _ Tryz.new163 ?_
  go_step; go_step; go_step; go_step; go_step
  refine wpList_bld rfl 163 _ rfl (wordsA 8 beginF) (by kernel_rfl) ?_
  refine wpList_plain rfl fun _ hK => ?_
  refine wp_store_row 163 _ _ rfl w.heap.size (wordsA 8 beginF) rfl rfl 163 (wordsA 8 fun _ => 0) (Blk.new w 163 _) (by simpa [wordsA_size] using Tryz.size163) (by simp [wordsA_size]) (wordsA_one _ _) (hK _ _ ?_)
  rw [World.setRow_alloc_new]
  go_step; go_step; go_step; go_step
  exact bodyPost_ret (v := .agg (wordsA 8 beginF)) (results_cell_row Tryz.results97 _ _ w.heap.size 163 _ (0, 0) _ rfl (heap_alloc_new _ _) Tryz.underlying163 rfl (by simpa [wordsA_size] using Tryz.size163)) rfl ⟨rfl, rfl⟩

set_option maxRecDepth 10000 in
theorem rounds_any (w : World) :
    Calls Tryz.prog 118 #[] w fun e w' => e = .returned (.agg (wordsA 64 roundsF)) ∧ w' = w.alloc (.cells (wordsA 64 roundsF) 195) := by
  go_enter Tryz.func118, Tryz.ntmps118
  go_step; go_step; go_step
  refine wpList_new rfl 195 rfl _ Tryz.new195 ?_
  go_step; go_step; go_step; go_step; go_step
  refine wpList_bld rfl 195 _ rfl (wordsA 64 roundsF) (by kernel_rfl) ?_
  refine wpList_plain rfl fun _ hK => ?_
  refine wp_store_row 195 _ _ rfl w.heap.size (wordsA 64 roundsF) rfl rfl 195 (wordsA 64 fun _ => 0) (Blk.new w 195 _) (by simpa [wordsA_size] using Tryz.size195) (by simp [wordsA_size]) (wordsA_one _ _) (hK _ _ ?_)
  rw [World.setRow_alloc_new]
  go_step; go_step; go_step; go_step
  exact bodyPost_ret (v := .agg (wordsA 64 roundsF)) (results_cell_row Tryz.results118 _ _ w.heap.size 195 _ (0, 0) _ rfl (heap_alloc_new _ _) Tryz.underlying195 rfl (by simpa [wordsA_size] using Tryz.size195)) rfl ⟨rfl, rfl⟩

end Go.Proofs.YtdkhjeofjhcceaaGreatDoor.Nd.Sh
namespace Go.Proofs.YtdkhjeofjhcceaaGreatDoor.Nd.Sh
open Go.RowKit

theorem run_box_agg {P : Program} (w : World) (t : TypeId) (cs : Array Value) : (Instr.box t (.agg cs)).run P w = .ok (.pointer (some ⟨w.heap.size, 0, none⟩)) (w.alloc (.cells cs t)) := rfl

theorem wpList_boxA {P : Program} {ops : Array Oper} {rest : List Oper} {o : Oper} {a : Act} {w : World} {Q : Exit → Act → World → Prop} (hg : o.guard = none) (t : TypeId) (x : Operand) (ho : o.op = .box t x)
    (cs : Array Value) (hx : a.eval x = .agg cs)
    (h : wpList P ops Q rest (a.put o.dst (.pointer (some ⟨w.heap.size, 0, none⟩))) (w.alloc (.cells cs t))) : wpList P ops Q (o :: rest) a w := by
  refine wpList_plain hg fun K hK => ?_
  unfold Oper.wp execOp
  simp only [ho, hx, Sem.run_bind, run_box_agg, Result.andThen_ok]
  exact hK _ _ h

def be32 (b : Nat → Int) (t : Nat) : Int :=
  bits .or .u32 (bits .or .u32 (bits .or .u32 (b (4 * t) % 4294967296 * 16777216 % 4294967296) (b (4 * t + 1) % 4294967296 * 65536 % 4294967296)) (b (4 * t + 2) % 4294967296 * 256 % 4294967296)) (b (4 * t + 3) % 4294967296)
def sig0 (x : Int) : Int := bits .xor .u32 (bits .xor .u32 (rot x 7) (rot x 18)) (x / 8)
def sig1 (x : Int) : Int := bits .xor .u32 (bits .xor .u32 (rot x 17) (rot x 19)) (x / 1024)
def nextW (c : Nat → Int) (t : Nat) : Int := (((c (t - 16) + sig0 (c (t - 15))) % 4294967296 + c (t - 7)) % 4294967296 + sig1 (c (t - 2))) % 4294967296
def sched (b : Nat → Int) : Nat → (Nat → Int)
  | 0 => fun _ => 0
  | t + 1 => upd (sched b t) t (if t < 16 then be32 b t else nextW (sched b t) t)

set_option maxRecDepth 8000 in
set_option maxHeartbeats 2000000 in
theorem spread_any (b : Nat → Int) (w : World) :
    Calls Tryz.prog 119 #[.agg (bytesA 64 b)] w fun e w' => e = .returned (.agg (wordsA 64 (sched b 64))) ∧ Below w.heap.size w w' := by
  go_enter Tryz.func119, Tryz.ntmps119
  go_wp2_with (first | (refine wpList_boxA rfl 165 _ rfl (bytesA 64 b) rfl ?_) | (refine wpList_new rfl 195 rfl _ Tryz.new195 ?_))
  have hP := ((Blk.new w 165 (bytesA 64 b)).alloc (.cells (wordsA 64 fun _ => 0) 195)).alloc (.cells (wordsA 64 fun _ => 0) 195)
  have hR := (Blk.new (w.alloc (.cells (bytesA 64 b) 165)) 195 (wordsA 64 fun _ => 0)).alloc (.cells (wordsA 64 fun _ => 0) 195)
  have hW := (Blk.new ((w.alloc (.cells (bytesA 64 b) 165)).alloc (.cells (wordsA 64 fun _ => 0) 195)) 195 (wordsA 64 fun _ => 0))
  have hB : Below w.heap.size w (((w.alloc (.cells (bytesA 64 b) 165)).alloc (.cells (wordsA 64 fun _ => 0) 195)).alloc (.cells (wordsA 64 fun _ => 0) 195)) :=
    (((Below.refl _ _).alloc (Nat.le_refl _) _).alloc (by simp) _).alloc (by simp; omega) _
  simp only [World.size_alloc] at hR hW ⊢
  generalize (((w.alloc (.cells (bytesA 64 b) 165)).alloc (.cells (wordsA 64 fun _ => 0) 195)).alloc (.cells (wordsA 64 fun _ => 0) 195)) = w0 at *
  go_loopw [8] (fun i wr => ∃ t : Nat, t ≤ 16 ∧ i = .int .i64 t ∧ Blk wr w.heap.size 165 (bytesA 64 b) ∧ Blk wr (w.heap.size + 1) 195 (wordsA 64 fun _ => 0) ∧ Blk wr (w.heap.size + 1 + 1) 195 (wordsA 64 (sched b t)) ∧ Below w.heap.size w wr) (fun i _ => 16 - (intOf i).toNat)
  case atStart => exact ⟨0, by omega, rfl, hP, hR, hW, hB⟩
  case round =>
    clear hP hR hW hB
    obtain ⟨t, ht, rfl, hP, hR, hW, hB⟩ := hrel
    by_cases hlt : t < 16
    · have e0 : wr.cell? ⟨w.heap.size, 4 * t, none⟩ = some (.int .u8 (b (4 * t))) := by rw [hP.cell, bytesA_get _ _ _ (by omega)]
      have e1 : wr.cell? ⟨w.heap.size, 4 * t + 1, none⟩ = some (.int .u8 (b (4 * t + 1))) := by rw [hP.cell, bytesA_get _ _ _ (by omega)]
      have e2 : wr.cell? ⟨w.heap.size, 4 * t + 2, none⟩ = some (.int .u8 (b (4 * t + 2))) := by rw [hP.cell, bytesA_get _ _ _ (by omega)]
      have e3 : wr.cell? ⟨w.heap.size, 4 * t + 3, none⟩ = some (.int .u8 (b (4 * t + 3))) := by rw [hP.cell, bytesA_get _ _ _ (by omega)]
      have e4 : wr.cell? ⟨w.heap.size + 1 + 1, t, none⟩ = some (.int .u32 (sched b t t)) := by rw [hW.cell, wordsA_get _ _ _ (by omega)]
      have e5 : wr.frozen? ⟨w.heap.size + 1 + 1, t, none⟩ = false := hW.frozen t
      go_wp2
      go_region
      go_wp2
      go_roundw
      case rel => exact ⟨t + 1, by omega, by go_num, (hP.set_ne (by omega) _).drew, (hR.set_ne (by omega) _).drew, by
        have h := (hW.set t (.int .u32 (be32 b t))).drew
        rw [wordsA_set] at h
        simp only [sched, if_pos hlt]; exact h, (hB.setCell (by show w.heap.size ≤ w.heap.size + 1 + 1; omega) _).drew⟩
      case measure => simp [intOf]; omega
    · obtain rfl : t = 16 := by omega
      clear hlt ht
      go_wp2
      go_loopw [5] (fun i wr => ∃ t : Nat, 16 ≤ t ∧ t ≤ 64 ∧ i = .int .i64 t ∧ Blk wr (w.heap.size + 1) 195 (wordsA 64 fun _ => 0) ∧ Blk wr (w.heap.size + 1 + 1) 195 (wordsA 64 (sched b t)) ∧ Below w.heap.size w wr) (fun i _ => 64 - (intOf i).toNat)
      case atStart => exact ⟨16, by omega, by omega, rfl, hR, hW, hB⟩
      case round =>
        clear hP hR hW hB
        obtain ⟨t, ht0, ht, rfl, hR, hW, hB⟩ := hrel
        by_cases hlt : t < 64
        · have e16 : wr.cell? ⟨w.heap.size + 1 + 1, t - 16, none⟩ = some (.int .u32 (sched b t (t - 16))) := by rw [hW.cell, wordsA_get _ _ _ (by omega)]
          have e15 : wr.cell? ⟨w.heap.size + 1 + 1, t - 15, none⟩ = some (.int .u32 (sched b t (t - 15))) := by rw [hW.cell, wordsA_get _ _ _ (by omega)]
          have e7 : wr.cell? ⟨w.heap.size + 1 + 1, t - 7, none⟩ = some (.int .u32 (sched b t (t - 7))) := by rw [hW.cell, wordsA_get _ _ _ (by omega)]
          have e2 : wr.cell? ⟨w.heap.size + 1 + 1, t - 2, none⟩ = some (.int .u32 (sched b t (t - 2))) := by rw [hW.cell, wordsA_get _ _ _ (by omega)]
          have e0 : wr.cell? ⟨w.heap.size + 1 + 1, t, none⟩ = some (.int .u32 (sched b t t)) := by rw [hW.cell, wordsA_get _ _ _ (by omega)]
          have ef : wr.frozen? ⟨w.heap.size + 1 + 1, t, none⟩ = false := hW.frozen t
          have hlt' : (t : Int) < 64 := by omega
          have ht0' : (16 : Int) ≤ (t : Int) := by omega
          have w16 : IntKind.i64.wrap ((t : Int) - 16) = (t : Int) - 16 := by rw [IntKind.wrap_i64]; omega
          have w7 : IntKind.i64.wrap ((t : Int) - 7) = (t : Int) - 7 := by rw [IntKind.wrap_i64]; omega
          have n16 : ((t : Int) - 16).toNat = t - 16 := by omega
          have n7 : ((t : Int) - 7).toNat = t - 7 := by omega
          have g16 : 0 ≤ (t : Int) - 16 := by omega
          have g7 : 0 ≤ (t : Int) - 7 := by omega
          have l16 : (t : Int) - 16 < 64 := by omega
          have l7 : (t : Int) - 7 < 64 := by omega
          have h7 : (7 : Int) ≤ (t : Int) := by omega
          have k16 : ∀ v, (wr.setCell ⟨w.heap.size + 1 + 1, t, none⟩ v).cell? ⟨w.heap.size + 1 + 1, t - 16, none⟩ = some (.int .u32 (sched b t (t - 16))) := fun v => by rw [World.cell?_setCell_other _ _ _ _ (by intro e; injection e; omega)]; exact e16
          have k7 : ∀ v, (wr.setCell ⟨w.heap.size + 1 + 1, t, none⟩ v).cell? ⟨w.heap.size + 1 + 1, t - 7, none⟩ = some (.int .u32 (sched b t (t - 7))) := fun v => by rw [World.cell?_setCell_other _ _ _ _ (by intro e; injection e; omega)]; exact e7
          go_wp2
          go_region
          go_wp2
          go_region_held3 (fun w' => w'.cell? ⟨w.heap.size + 1 + 1, t - 16, none⟩ = some (.int .u32 (sched b t (t - 16))) ∧ w'.cell? ⟨w.heap.size + 1 + 1, t - 7, none⟩ = some (.int .u32 (sched b t (t - 7)))) (go_keep) (first | (go_at_call 120; refine (turn_any _ _ _ (by omega) (by omega)).mono ?_; rintro e w' ⟨rfl, rfl⟩))
          go_wp2
          go_roundw
          case rel =>
            go_tidy
            simp only [IntKind.wrap_u32']
            repeat apply Exists.intro
            refine ⟨?_, rfl⟩
            exact ⟨t + 1, by omega, by omega, by go_num, (hR.set_ne (by omega) _).drew.drew, by
              have h := (hW.set t (.int .u32 (nextW (sched b t) t))).drew.drew
              rw [wordsA_set] at h
              simp only [sched, if_neg (show ¬ t < 16 by omega)]; exact h, (hB.setCell (by show w.heap.size ≤ w.heap.size + 1 + 1; omega) _).drew.drew⟩
          case measure => simp [intOf]; omega
        · obtain rfl : t = 64 := by omega
          clear hlt ht ht0
          obtain ⟨c, hc⟩ : ∃ c, Hid (c = sched b 64) := ⟨_, rfl⟩
          rw [← hc.out] at hW
          go_wp2_with (refine wpList_load_row rfl 195 (.tmp 3) rfl (w.heap.size + 1 + 1) rfl 195 (wordsA 64 c) (0, 0) (.array 64 162) hW Tryz.underlying195 rfl (Tryz.size195W _) ?_; refine wpList_store_row rfl 195 (.tmp 2) (.tmp 84) rfl (w.heap.size + 1) (wordsA 64 c) rfl rfl 195 (wordsA 64 fun _ => 0) hR (Tryz.size195W _) (wordsA_sizes _ _ _) (wordsA_one _ _) ?_)
          exact bodyPost_ret (v := .agg (wordsA 64 c)) (results_cell_row Tryz.results119 _ _ (w.heap.size + 1) 195 _ (0, 0) _ rfl (hR.setRow _) Tryz.underlying195 rfl (Tryz.size195W _)) rfl ⟨by rw [hc.out], below_setRow hB (by omega) _⟩
end Go.Proofs.YtdkhjeofjhcceaaGreatDoor.Nd.Sh
namespace Go.Proofs.YtdkhjeofjhcceaaGreatDoor.Nd.Sh
open Go.RowKit

abbrev ptr (g : Nat) : Value := .pointer (some ⟨g, 0, none⟩)

structure MixJ (N : Nat) (w0 : World) (s b : Nat → Int) (w : World) (b0 b1 b2 b3 b4 b5 b6 : Bool) (v5 v6 v18 v19 v20 : Value) : Prop where
  below : Below N w0 w
  hN : N + 3 ≤ w.heap.size
  k0 : Blk w N 163 (wordsA 8 s)
  k1 : Blk w (N + 1) 165 (bytesA 64 b)
  k2 : Blk w (N + 1 + 1) 163 (wordsA 8 fun _ => 0)
  e18 : b0 = true → v18 = .agg (wordsA 64 roundsF)
  e19 : b1 = true → v19 = .agg (bytesA 64 b)
  e20 : b2 = true → v20 = .agg (wordsA 64 (sched b 64))
  e5 : b3 = true → ∃ g c, v5 = ptr g ∧ N + 3 ≤ g ∧ Blk w g 195 (wordsA 64 c) ∧ (b5 = true → c = roundsF)
  e6 : b4 = true → ∃ g c, v6 = ptr g ∧ N + 3 ≤ g ∧ Blk w g 195 (wordsA 64 c) ∧ (b6 = true → c = sched b 64)
  ne : b3 = true → b4 = true → v5 ≠ v6
  w5 : b5 = true → b3 = true
  w6 : b6 = true → b4 = true

theorem MixJ.later {N : Nat} {w0 : World} {s b : Nat → Int} {w w' : World} {b0 b1 b2 b3 b4 b5 b6 : Bool} {v5 v6 v18 v19 v20 : Value}
    (h : MixJ N w0 s b w b0 b1 b2 b3 b4 b5 b6 v5 v6 v18 v19 v20) (hb : Below w.heap.size w w') : MixJ N w0 s b w' b0 b1 b2 b3 b4 b5 b6 v5 v6 v18 v19 v20 where
  below := h.below.trans (hb.mono (by have := h.hN; omega))
  hN := Nat.le_trans h.hN hb.size
  k0 := h.k0.below hb h.k0.lt
  k1 := h.k1.below hb h.k1.lt
  k2 := h.k2.below hb h.k2.lt
  e18 := h.e18
  e19 := h.e19
  e20 := h.e20
  e5 h3 := by obtain ⟨g, c, h1, h2, h3, h4⟩ := h.e5 h3; exact ⟨g, c, h1, h2, h3.below hb h3.lt, h4⟩
  e6 h3 := by obtain ⟨g, c, h1, h2, h3, h4⟩ := h.e6 h3; exact ⟨g, c, h1, h2, h3.below hb h3.lt, h4⟩
  ne := h.ne
  w5 := h.w5
  w6 := h.w6

theorem below_new (w : World) (o : Obj) : Below w.heap.size w (w.alloc o) := (Below.refl _ _).alloc (Nat.le_refl _) o

theorem MixJ.new3 {N : Nat} {w0 : World} {s b : Nat → Int} {w : World} {b0 b1 b2 b4 b5 b6 : Bool} {v5 v6 v18 v19 v20 : Value}
    (h : MixJ N w0 s b w b0 b1 b2 false b4 b5 b6 v5 v6 v18 v19 v20) :
    MixJ N w0 s b (w.alloc (.cells (wordsA 64 fun _ => 0) 195)) b0 b1 b2 true b4 b5 b6 (ptr w.heap.size) v6 v18 v19 v20 :=
  { h.later (below_new w _) with
    e5 := fun _ => ⟨w.heap.size, _, rfl, h.hN, Blk.new _ _ _, fun e => by have := h.w5 e; simp at this⟩
    w5 := fun _ => rfl
    ne := fun _ h4 => by
      obtain ⟨g, c, h1, h2, h3, h4⟩ := h.e6 h4
      have := h3.lt
      rw [h1]; intro e; simp at e; try omega }
theorem MixJ.new4 {N : Nat} {w0 : World} {s b : Nat → Int} {w : World} {b0 b1 b2 b3 b5 b6 : Bool} {v5 v6 v18 v19 v20 : Value}
    (h : MixJ N w0 s b w b0 b1 b2 b3 false b5 b6 v5 v6 v18 v19 v20) :
    MixJ N w0 s b (w.alloc (.cells (wordsA 64 fun _ => 0) 195)) b0 b1 b2 b3 true b5 b6 v5 (ptr w.heap.size) v18 v19 v20 :=
  { h.later (below_new w _) with
    e6 := fun _ => ⟨w.heap.size, _, rfl, h.hN, Blk.new _ _ _, fun e => by have := h.w6 e; simp at this⟩
    w6 := fun _ => rfl
    ne := fun h3 _ => by
      obtain ⟨g, c, h1, h2, h3, h4⟩ := h.e5 h3
      have := h3.lt
      rw [h1]; intro e; simp at e; try omega }
theorem MixJ.store5 {N : Nat} {w0 : World} {s b : Nat → Int} {w : World} {b0 b1 b2 b4 b5 b6 : Bool} {g : Nat} {c : Nat → Int} {v6 v18 v19 v20 : Value}
    (h : MixJ N w0 s b w b0 b1 b2 true b4 b5 b6 (ptr g) v6 v18 v19 v20) (hg : N + 3 ≤ g) (hb : Blk w g 195 (wordsA 64 c)) :
    MixJ N w0 s b (w.setRow g (wordsA 64 roundsF)) b0 b1 b2 true b4 true b6 (ptr g) v6 v18 v19 v20 :=
  { h with
    below := below_setRow h.below (by omega) _
    hN := by rw [setRow_size]; exact h.hN
    k0 := h.k0.setRow_ne (by omega) _
    k1 := h.k1.setRow_ne (by omega) _
    k2 := h.k2.setRow_ne (by omega) _
    e5 := fun _ => ⟨g, roundsF, rfl, hg, hb.setRow _, fun _ => rfl⟩
    w5 := fun _ => rfl
    e6 := fun h4 => by
      obtain ⟨g', c', h1, h2, h3, h5⟩ := h.e6 h4
      exact ⟨g', c', h1, h2, h3.setRow_ne (fun e => h.ne rfl h4 (by rw [h1, e])) _, h5⟩ }
theorem MixJ.store6 {N : Nat} {w0 : World} {s b : Nat → Int} {w : World} {b0 b1 b2 b3 b5 b6 : Bool} {g : Nat} {c : Nat → Int} {v5 v18 v19 v20 : Value}
    (h : MixJ N w0 s b w b0 b1 b2 b3 true b5 b6 v5 (ptr g) v18 v19 v20) (hg : N + 3 ≤ g) (hb : Blk w g 195 (wordsA 64 c)) :
    MixJ N w0 s b (w.setRow g (wordsA 64 (sched b 64))) b0 b1 b2 b3 true b5 true v5 (ptr g) v18 v19 v20 :=
  { h with
    below := below_setRow h.below (by omega) _
    hN := by rw [setRow_size]; exact h.hN
    k0 := h.k0.setRow_ne (by omega) _
    k1 := h.k1.setRow_ne (by omega) _
    k2 := h.k2.setRow_ne (by omega) _
    e6 := fun _ => ⟨g, sched b 64, rfl, hg, hb.setRow _, fun _ => rfl⟩
    w6 := fun _ => rfl
    e5 := fun h4 => by
      obtain ⟨g', c', h1, h2, h3, h5⟩ := h.e5 h4
      exact ⟨g', c', h1, h2, h3.setRow_ne (fun e => h.ne h4 rfl (by rw [h1, e])) _, h5⟩ }

def fr5 (a0 : Act) (v5 v6 v18 v19 v20 : Value) : Act := ((((a0.put (some 5) v5).put (some 6) v6).put (some 18) v18).put (some 19) v19).put (some 20) v20

theorem put_none (a : Act) (v : Value) : a.put none v = a := rfl
theorem put_put (a : Act) (d : Nat) (v u : Value) : (a.put (some d) v).put (some d) u = a.put (some d) u := by
  simp [Act.put]
theorem put_swap (a : Act) (d e : Nat) (v u : Value) (h : d ≠ e) : (a.put (some d) v).put (some e) u = (a.put (some e) u).put (some d) v :=
  Act.put_comm a v u (fun x hx => by injection hx with hx; subst hx; simpa using Ne.symm h)
theorem eval_same (a : Act) (d : Nat) (v : Value) (h : d < a.tmps.size) : (a.put (some d) v).eval (.tmp d) = v := by
  simp [Act.put, Act.eval, Array.getD, h]
theorem eval_other (a : Act) (d j : Nat) (v : Value) (h : d ≠ j) : (a.put (some d) v).eval (.tmp j) = a.eval (.tmp j) :=
  Act.eval_put (fun x hx => by injection hx with hx; subst hx; simpa using Ne.symm h)
theorem size_put (a : Act) (d : Option Tmp) (v : Value) : (a.put d v).tmps.size = a.tmps.size := by cases d <;> simp [Act.put]

theorem fr5_p5 (a0 : Act) (v5 v6 v18 v19 v20 u : Value) : (fr5 a0 v5 v6 v18 v19 v20).put (some 5) u = fr5 a0 u v6 v18 v19 v20 := by
  unfold fr5
  rw [put_swap _ 20 5 _ _ (by decide), put_swap _ 19 5 _ _ (by decide), put_swap _ 18 5 _ _ (by decide), put_swap _ 6 5 _ _ (by decide), put_put]
theorem fr5_p6 (a0 : Act) (v5 v6 v18 v19 v20 u : Value) : (fr5 a0 v5 v6 v18 v19 v20).put (some 6) u = fr5 a0 v5 u v18 v19 v20 := by
  unfold fr5
  rw [put_swap _ 20 6 _ _ (by decide), put_swap _ 19 6 _ _ (by decide), put_swap _ 18 6 _ _ (by decide), put_put]
theorem fr5_p18 (a0 : Act) (v5 v6 v18 v19 v20 u : Value) : (fr5 a0 v5 v6 v18 v19 v20).put (some 18) u = fr5 a0 v5 v6 u v19 v20 := by
  unfold fr5
  rw [put_swap _ 20 18 _ _ (by decide), put_swap _ 19 18 _ _ (by decide), put_put]
theorem fr5_p19 (a0 : Act) (v5 v6 v18 v19 v20 u : Value) : (fr5 a0 v5 v6 v18 v19 v20).put (some 19) u = fr5 a0 v5 v6 v18 u v20 := by
  unfold fr5
  rw [put_swap _ 20 19 _ _ (by decide), put_put]
theorem fr5_p20 (a0 : Act) (v5 v6 v18 v19 v20 u : Value) : (fr5 a0 v5 v6 v18 v19 v20).put (some 20) u = fr5 a0 v5 v6 v18 v19 u := by
  unfold fr5
  rw [put_put]
theorem fr5_e3 (a0 : Act) (v5 v6 v18 v19 v20 : Value) : (fr5 a0 v5 v6 v18 v19 v20).eval (.tmp 3) = a0.eval (.tmp 3) := by
  unfold fr5
  rw [eval_other _ 20 3 _ (by decide), eval_other _ 19 3 _ (by decide), eval_other _ 18 3 _ (by decide), eval_other _ 6 3 _ (by decide), eval_other _ 5 3 _ (by decide)]
theorem fr5_e5 (a0 : Act) (v5 v6 v18 v19 v20 : Value) (h : 20 < a0.tmps.size) : (fr5 a0 v5 v6 v18 v19 v20).eval (.tmp 5) = v5 := by
  unfold fr5
  rw [eval_other _ 20 5 _ (by decide), eval_other _ 19 5 _ (by decide), eval_other _ 18 5 _ (by decide), eval_other _ 6 5 _ (by decide), eval_same _ _ _ (by omega)]
theorem fr5_e6 (a0 : Act) (v5 v6 v18 v19 v20 : Value) (h : 20 < a0.tmps.size) : (fr5 a0 v5 v6 v18 v19 v20).eval (.tmp 6) = v6 := by
  unfold fr5
  rw [eval_other _ 20 6 _ (by decide), eval_other _ 19 6 _ (by decide), eval_other _ 18 6 _ (by decide), eval_same _ _ _ (by rw [size_put]; omega)]
theorem fr5_e18 (a0 : Act) (v5 v6 v18 v19 v20 : Value) (h : 20 < a0.tmps.size) : (fr5 a0 v5 v6 v18 v19 v20).eval (.tmp 18) = v18 := by
  unfold fr5
  rw [eval_other _ 20 18 _ (by decide), eval_other _ 19 18 _ (by decide), eval_same _ _ _ (by rw [size_put, size_put]; omega)]
theorem fr5_e19 (a0 : Act) (v5 v6 v18 v19 v20 : Value) (h : 20 < a0.tmps.size) : (fr5 a0 v5 v6 v18 v19 v20).eval (.tmp 19) = v19 := by
  unfold fr5
  rw [eval_other _ 20 19 _ (by decide), eval_same _ _ _ (by rw [size_put, size_put, size_put]; omega)]
theorem fr5_e20 (a0 : Act) (v5 v6 v18 v19 v20 : Value) (h : 20 < a0.tmps.size) : (fr5 a0 v5 v6 v18 v19 v20).eval (.tmp 20) = v20 := by
  unfold fr5
  rw [eval_same _ _ _ (by rw [size_put, size_put, size_put, size_put]; omega)]

def mo0 (q : String) : Oper := { dst := some 18, op := Op.call { callee := Callee.value (Operand.func 118), args := #[], argTypes := #[] }, type := 195, pos := q, after := #[], guard := none }
def mo1 (q : String) : Oper := { dst := some 19, op := Op.load 165 (Operand.tmp 3), type := 165, pos := q, after := #[], guard := none }
def mo2 (q : String) : Oper := { dst := some 20, op := Op.call { callee := Callee.value (Operand.func 119), args := #[Operand.tmp 19], argTypes := #[165] }, type := 195, pos := q, after := #[{ on := 1, ground := Ground.data }, { on := 0, ground := Ground.chain }], guard := none }
def mo3 (q : String) : Oper := { dst := some 5, op := Op.alloc 195, type := 0, pos := q, after := #[], guard := none }
def mo4 (q : String) : Oper := { dst := some 6, op := Op.alloc 195, type := 0, pos := q, after := #[], guard := none }
def mo5 (q : String) : Oper := { dst := none, op := Op.store 195 (Operand.tmp 5) (Operand.tmp 18), type := 0, pos := q, after := #[{ on := 3, ground := Ground.data }, { on := 0, ground := Ground.data }, { on := 2, ground := Ground.chain }, { on := 0, ground := Ground.phase }, { on := 1, ground := Ground.textOnly Departure.lateStores }, { on := 2, ground := Ground.textOnly Departure.lateStoresUnsure }, { on := 3, ground := Ground.phase }, { on := 4, ground := Ground.phase }], guard := none }
def mo6 (q : String) : Oper := { dst := none, op := Op.store 195 (Operand.tmp 6) (Operand.tmp 20), type := 0, pos := q, after := #[{ on := 4, ground := Ground.data }, { on := 2, ground := Ground.data }, { on := 5, ground := Ground.chain }, { on := 0, ground := Ground.phase }, { on := 1, ground := Ground.phase }, { on := 2, ground := Ground.phase }, { on := 3, ground := Ground.phase }, { on := 4, ground := Ground.phase }, { on := 5, ground := Ground.phase }], guard := none }

def MixI (N : Nat) (w : World) (s b : Nat → Int) (a0 : Act) (l : Array Bool) (a : Act) (wc : World) : Prop :=
  ∃ b0 b1 b2 b3 b4 b5 b6 : Bool, l = #[b0, b1, b2, b3, b4, b5, b6] ∧ ∃ v5 v6 v18 v19 v20, a = fr5 a0 v5 v6 v18 v19 v20 ∧ MixJ N w s b wc b0 b1 b2 b3 b4 b5 b6 v5 v6 v18 v19 v20

section
variable {N : Nat} {w wc : World} {s b : Nat → Int} {a0 : Act} {b0 b1 b2 b3 b4 b5 b6 : Bool} {v5 v6 v18 v19 v20 : Value} {Q : Exit → Act → World → Prop}
theorem mix_s0 {o : Oper} (ho : o.op = .call { callee := .value (.func 118), args := #[], argTypes := #[] }) (hd : o.dst = some 18) (hJ : MixJ N w s b wc b0 b1 b2 b3 b4 b5 b6 v5 v6 v18 v19 v20) :
    o.wp Tryz.prog (fr5 a0 v5 v6 v18 v19 v20) wc (MixI N w s b a0 #[true, b1, b2, b3, b4, b5, b6]) Q :=
  wp_callF 118 #[] #[] ho Tryz.enter118 #[] (by simp) (fun v w' => v = .agg (wordsA 64 roundsF) ∧ w' = wc.alloc (.cells (wordsA 64 roundsF) 195))
    ((rounds_any wc).mono (by rintro e w' ⟨rfl, rfl⟩; exact ⟨_, rfl, rfl, rfl⟩))
    (by rintro v w' ⟨rfl, rfl⟩; rw [hd]; exact ⟨true, b1, b2, b3, b4, b5, b6, rfl, v5, v6, _, v19, v20, fr5_p18 _ _ _ _ _ _ _, { hJ.later (below_new wc _) with e18 := fun _ => rfl }⟩)
theorem mix_s1 {o : Oper} (ho : o.op = .load 165 (.tmp 3)) (hd : o.dst = some 19) (h3 : a0.eval (.tmp 3) = ptr (N + 1)) (hJ : MixJ N w s b wc b0 b1 b2 b3 b4 b5 b6 v5 v6 v18 v19 v20) :
    o.wp Tryz.prog (fr5 a0 v5 v6 v18 v19 v20) wc (MixI N w s b a0 #[b0, true, b2, b3, b4, b5, b6]) Q :=
  wp_load_row 165 (.tmp 3) ho (N + 1) (by rw [fr5_e3]; exact h3) 165 (bytesA 64 b) (0, 0) (.array 64 5) hJ.k1 Tryz.underlying165 rfl (Tryz.size165B _)
    (by rw [hd]; exact ⟨b0, true, b2, b3, b4, b5, b6, rfl, v5, v6, v18, _, v20, fr5_p19 _ _ _ _ _ _ _, { hJ with e19 := fun _ => rfl }⟩)
theorem mix_s2 {o : Oper} (ho : o.op = .call { callee := .value (.func 119), args := #[.tmp 19], argTypes := #[165] }) (hd : o.dst = some 20) (hsz : 20 < a0.tmps.size) (hJ : MixJ N w s b wc b0 true b2 b3 b4 b5 b6 v5 v6 v18 v19 v20) :
    o.wp Tryz.prog (fr5 a0 v5 v6 v18 v19 v20) wc (MixI N w s b a0 #[b0, true, true, b3, b4, b5, b6]) Q :=
  wp_callF 119 #[.tmp 19] #[165] ho Tryz.enter119 #[.agg (bytesA 64 b)] (by rw [hJ.e19 rfl]; simp only [List.map_toArray, List.map_cons, List.map_nil, fr5_e19 _ _ _ _ _ _ hsz])
    (fun v w' => v = .agg (wordsA 64 (sched b 64)) ∧ Below wc.heap.size wc w') ((spread_any b wc).mono (by rintro e w' ⟨rfl, hb⟩; exact ⟨_, rfl, rfl, hb⟩))
    (by rintro v w' ⟨rfl, hb⟩; rw [hd]; exact ⟨b0, true, true, b3, b4, b5, b6, rfl, v5, v6, v18, _, _, fr5_p20 _ _ _ _ _ _ _, { hJ.later hb with e20 := fun _ => rfl }⟩)
theorem mix_s3 {o : Oper} (ho : o.op = .alloc 195) (hd : o.dst = some 5) (hJ : MixJ N w s b wc b0 b1 b2 false b4 b5 b6 v5 v6 v18 v19 v20) :
    o.wp Tryz.prog (fr5 a0 v5 v6 v18 v19 v20) wc (MixI N w s b a0 #[b0, b1, b2, true, b4, b5, b6]) Q :=
  wp_new 195 ho _ Tryz.new195 (by rw [hd]; exact ⟨b0, b1, b2, true, b4, b5, b6, rfl, _, v6, v18, v19, v20, fr5_p5 _ _ _ _ _ _ _, hJ.new3⟩)
theorem mix_s4 {o : Oper} (ho : o.op = .alloc 195) (hd : o.dst = some 6) (hJ : MixJ N w s b wc b0 b1 b2 b3 false b5 b6 v5 v6 v18 v19 v20) :
    o.wp Tryz.prog (fr5 a0 v5 v6 v18 v19 v20) wc (MixI N w s b a0 #[b0, b1, b2, b3, true, b5, b6]) Q :=
  wp_new 195 ho _ Tryz.new195 (by rw [hd]; exact ⟨b0, b1, b2, b3, true, b5, b6, rfl, v5, _, v18, v19, v20, fr5_p6 _ _ _ _ _ _ _, hJ.new4⟩)
theorem mix_s5 {o : Oper} (ho : o.op = .store 195 (.tmp 5) (.tmp 18)) (hd : o.dst = none) (hsz : 20 < a0.tmps.size) (hJ : MixJ N w s b wc true b1 b2 true b4 b5 b6 v5 v6 v18 v19 v20) :
    o.wp Tryz.prog (fr5 a0 v5 v6 v18 v19 v20) wc (MixI N w s b a0 #[true, b1, b2, true, b4, true, b6]) Q := by
  obtain rfl := hJ.e18 rfl
  obtain ⟨g, c, rfl, hg, hb, _⟩ := hJ.e5 rfl
  exact wp_store_row 195 (.tmp 5) (.tmp 18) ho g (wordsA 64 roundsF) (fr5_e5 _ _ _ _ _ _ hsz) (fr5_e18 _ _ _ _ _ _ hsz) 195 (wordsA 64 c) hb (Tryz.size195W _) (wordsA_sizes _ _ _) (wordsA_one _ _)
    (by rw [hd]; exact ⟨true, b1, b2, true, b4, true, b6, rfl, ptr g, v6, .agg (wordsA 64 roundsF), v19, v20, put_none _ _, hJ.store5 hg hb⟩)
theorem mix_s6 {o : Oper} (ho : o.op = .store 195 (.tmp 6) (.tmp 20)) (hd : o.dst = none) (hsz : 20 < a0.tmps.size) (hJ : MixJ N w s b wc b0 b1 true b3 true b5 b6 v5 v6 v18 v19 v20) :
    o.wp Tryz.prog (fr5 a0 v5 v6 v18 v19 v20) wc (MixI N w s b a0 #[b0, b1, true, b3, true, b5, true]) Q := by
  obtain rfl := hJ.e20 rfl
  obtain ⟨g, c, rfl, hg, hb, _⟩ := hJ.e6 rfl
  exact wp_store_row 195 (.tmp 6) (.tmp 20) ho g (wordsA 64 (sched b 64)) (fr5_e6 _ _ _ _ _ _ hsz) (fr5_e20 _ _ _ _ _ _ hsz) 195 (wordsA 64 c) hb (Tryz.size195W _) (wordsA_sizes _ _ _) (wordsA_one _ _)
    (by rw [hd]; exact ⟨b0, b1, true, b3, true, b5, true, rfl, v5, ptr g, v18, v19, .agg (wordsA 64 (sched b 64)), put_none _ _, hJ.store6 hg hb⟩)
end

theorem mix_step (q : String) {N : Nat} {w : World} {s b : Nat → Int} {a0 : Act} {Q : Exit → Act → World → Prop} (hsz : 20 < a0.tmps.size) (h3 : a0.eval (.tmp 3) = ptr (N + 1))
    (l : Array Bool) (a : Act) (wc : World) (i : Nat) (o : Oper) (hI : MixI N w s b a0 l a wc) (hi : l.getD i true = false) (ho : (#[mo0 q, mo1 q, mo2 q, mo3 q, mo4 q, mo5 q, mo6 q] : Array Oper)[i]? = some o)
    (he : ∀ e ∈ o.after, Region.binds .any e = true → l.getD e.on false = true) :
    o.guard = none ∧ o.wp Tryz.prog a wc (MixI N w s b a0 (l.setIfInBounds i true)) Q := by
  obtain ⟨b0, b1, b2, b3, b4, b5, b6, rfl, v5, v6, v18, v19, v20, rfl, hJ⟩ := hI
  match i, hi, ho with
  | 0, hi, ho =>
    have e : mo0 q = o := Option.some.inj ho
    exact ⟨by rw [← e]; rfl, mix_s0 (by rw [← e]; rfl) (by rw [← e]; rfl) hJ⟩
  | 1, hi, ho =>
    have e : mo1 q = o := Option.some.inj ho
    exact ⟨by rw [← e]; rfl, mix_s1 (by rw [← e]; rfl) (by rw [← e]; rfl) h3 hJ⟩
  | 2, hi, ho =>
    have e : mo2 q = o := Option.some.inj ho
    obtain rfl : b1 = true := he ⟨1, .data⟩ (by rw [← e]; simp [mo2]) rfl
    exact ⟨by rw [← e]; rfl, mix_s2 (by rw [← e]; rfl) (by rw [← e]; rfl) hsz hJ⟩
  | 3, hi, ho =>
    have e : mo3 q = o := Option.some.inj ho
    obtain rfl : b3 = false := hi
    exact ⟨by rw [← e]; rfl, mix_s3 (by rw [← e]; rfl) (by rw [← e]; rfl) hJ⟩
  | 4, hi, ho =>
    have e : mo4 q = o := Option.some.inj ho
    obtain rfl : b4 = false := hi
    exact ⟨by rw [← e]; rfl, mix_s4 (by rw [← e]; rfl) (by rw [← e]; rfl) hJ⟩
  | 5, hi, ho =>
    have e : mo5 q = o := Option.some.inj ho
    obtain rfl : b0 = true := he ⟨0, .data⟩ (by rw [← e]; simp [mo5]) rfl
    obtain rfl : b3 = true := he ⟨3, .data⟩ (by rw [← e]; simp [mo5]) rfl
    exact ⟨by rw [← e]; rfl, mix_s5 (by rw [← e]; rfl) (by rw [← e]; rfl) hsz hJ⟩
  | 6, hi, ho =>
    have e : mo6 q = o := Option.some.inj ho
    obtain rfl : b2 = true := he ⟨2, .data⟩ (by rw [← e]; simp [mo6]) rfl
    obtain rfl : b4 = true := he ⟨4, .data⟩ (by rw [← e]; simp [mo6]) rfl
    exact ⟨by rw [← e]; rfl, mix_s6 (by rw [← e]; rfl) (by rw [← e]; rfl) hsz hJ⟩
  | n + 7, hi, ho => simp at ho

theorem mix_back (q : String) (i : Nat) (o : Oper) (ho : (#[mo0 q, mo1 q, mo2 q, mo3 q, mo4 q, mo5 q, mo6 q] : Array Oper)[i]? = some o) (e : Edge) (he : e ∈ o.after) (_ : Region.binds .any e = true) : e.on < i := by
  match i, ho with
  | 0, ho => obtain rfl : mo0 q = o := Option.some.inj ho; simp [mo0] at he
  | 1, ho => obtain rfl : mo1 q = o := Option.some.inj ho; simp [mo1] at he
  | 2, ho => obtain rfl : mo2 q = o := Option.some.inj ho; simp [mo2] at he; rcases he with rfl | rfl <;> decide
  | 3, ho => obtain rfl : mo3 q = o := Option.some.inj ho; simp [mo3] at he
  | 4, ho => obtain rfl : mo4 q = o := Option.some.inj ho; simp [mo4] at he
  | 5, ho => obtain rfl : mo5 q = o := Option.some.inj ho; simp [mo5] at he; rcases he with rfl | rfl | rfl | rfl | rfl | rfl | rfl | rfl <;> decide
  | 6, ho => obtain rfl : mo6 q = o := Option.some.inj ho; simp [mo6] at he; rcases he with rfl | rfl | rfl | rfl | rfl | rfl | rfl | rfl | rfl <;> decide
  | n + 7, ho => simp at ho

theorem mix_region1 (q : String) (N : Nat) (w w0 : World) (s b : Nat → Int) (a0 : Act) (hsz : 20 < a0.tmps.size) (h3 : a0.eval (.tmp 3) = ptr (N + 1))
    (hu : a0 = fr5 a0 undef undef undef undef undef) (hJ0 : MixJ N w s b w0.drew false false false false false false false undef undef undef undef undef)
    (Q : Exit → Act → World → Prop)
    (hQ : ∀ (g k : Nat) (v18 v19 v20 : Value) (wc : World), N + 3 ≤ g → N + 3 ≤ k → g ≠ k → Blk wc g 195 (wordsA 64 roundsF) → Blk wc k 195 (wordsA 64 (sched b 64)) →
      Blk wc N 163 (wordsA 8 s) → Blk wc (N + 1 + 1) 163 (wordsA 8 fun _ => 0) → Below N w wc → Q .normal (fr5 a0 (ptr g) (ptr k) v18 v19 v20) wc) :
    (Code.region 1 #[mo0 q, mo1 q, mo2 q, mo3 q, mo4 q, mo5 q, mo6 q] true).wp Tryz.prog Q a0 w0 := by
  refine wp_region_inv (by kernel_rfl) (MixI N w s b a0) ?_ (mix_step q hsz h3) (mix_back q) ?_ ?_
  · rintro _ _ _ ⟨b0, b1, b2, b3, b4, b5, b6, rfl, _⟩; rfl
  · rintro _ _ wc ⟨b0, b1, b2, b3, b4, b5, b6, rfl, v5, v6, v18, v19, v20, rfl, hJ⟩ hall
    have q3 : b3 = true := hall 3 (by simp)
    have q4 : b4 = true := hall 4 (by simp)
    have q5 : b5 = true := hall 5 (by simp)
    have q6 : b6 = true := hall 6 (by simp)
    obtain ⟨g, c, rfl, hg, hb, hc⟩ := hJ.e5 q3
    obtain ⟨k, d, rfl, hk, hd, hdd⟩ := hJ.e6 q4
    obtain rfl := hc q5
    obtain rfl := hdd q6
    exact hQ g k v18 v19 v20 wc hg hk (fun e => hJ.ne q3 q4 (by rw [e])) hb hd hJ.k0 hJ.k2 hJ.below
  · exact ⟨false, false, false, false, false, false, false, rfl, _, _, _, _, _, hu, hJ0⟩

end Go.Proofs.YtdkhjeofjhcceaaGreatDoor.Nd.Sh
namespace Go.Proofs.YtdkhjeofjhcceaaGreatDoor.Nd.Sh
open Go.RowKit

structure R8 where
  a : Int
  b : Int
  c : Int
  d : Int
  e : Int
  f : Int
  g : Int
  h : Int

def big1 (x : Int) : Int := bits .xor .u32 (bits .xor .u32 (rot x 6) (rot x 11)) (rot x 25)
def big0 (x : Int) : Int := bits .xor .u32 (bits .xor .u32 (rot x 2) (rot x 13)) (rot x 22)
def chF (e f g : Int) : Int := bits .xor .u32 (bits .and .u32 e f) (bits .and .u32 (bits .xor .u32 4294967295 e) g)
def majF (a b c : Int) : Int := bits .xor .u32 (bits .xor .u32 (bits .and .u32 a b) (bits .and .u32 a c)) (bits .and .u32 b c)
def uF (k w : Int) (r : R8) : Int := (r.h + big1 r.e + chF r.e r.f r.g + k + w) % 4294967296
def vF (r : R8) : Int := (big0 r.a + majF r.a r.b r.c) % 4294967296
def stepF (k w : Int) (r : R8) : R8 := ⟨(uF k w r + vF r) % 4294967296, r.a, r.b, r.c, (r.d + uF k w r) % 4294967296, r.e, r.f, r.g⟩
def runF (kk ww : Nat → Int) (r : R8) : Nat → R8
  | 0 => r
  | t + 1 => stepF (kk t) (ww t) (runF kk ww r t)
def r8 (s : Nat → Int) : R8 := ⟨s 0, s 1, s 2, s 3, s 4, s 5, s 6, s 7⟩
def outF (s : Nat → Int) (r : R8) (i : Nat) : Int :=
  [(s 0 + r.a) % 4294967296, (s 1 + r.b) % 4294967296, (s 2 + r.c) % 4294967296, (s 3 + r.d) % 4294967296, (s 4 + r.e) % 4294967296, (s 5 + r.f) % 4294967296, (s 6 + r.g) % 4294967296, (s 7 + r.h) % 4294967296].getD i 0
def mixF (s b : Nat → Int) : Nat → Int := outF s (runF roundsF (sched b 64) (r8 s) 64)
theorem u32_all : (if IntKind.u32.signed = true then -1 else IntKind.u32.max) = 4294967295 := by decide

theorem blk_drewN {w : World} {b : Nat} {T : TypeId} {cs : Array Value} (h : Blk w b T cs) (n : Nat) : Blk (w.drewN n) b T cs := by
  induction n with
  | zero => exact h
  | succ n ih => exact ih

set_option maxRecDepth 8000 in
set_option maxHeartbeats 1000000 in
theorem mix_any (s b : Nat → Int) (w : World) :
    Calls Tryz.prog 98 #[.agg (wordsA 8 s), .agg (bytesA 64 b)] w fun e w' => e = .returned (.agg (wordsA 8 (mixF s b))) ∧ Below w.heap.size w w' := by
  go_enter Tryz.func98, Tryz.ntmps98
  go_wp2_with (first | (refine wpList_boxA rfl 163 (.tmp 0) rfl (wordsA 8 s) rfl ?_; refine wpList_boxA rfl 165 (.tmp 1) rfl (bytesA 64 b) rfl ?_) | (refine wpList_new rfl 163 rfl _ Tryz.new163 ?_))
  have hB : Below w.heap.size w (((w.alloc (.cells (wordsA 8 s) 163)).alloc (.cells (bytesA 64 b) 165)).alloc (.cells (wordsA 8 fun _ => 0) 163)) :=
    (((Below.refl _ _).alloc (Nat.le_refl _) _).alloc (by simp) _).alloc (by simp; omega) _
  have hJ : MixJ w.heap.size w s b (((w.alloc (.cells (wordsA 8 s) 163)).alloc (.cells (bytesA 64 b) 165)).alloc (.cells (wordsA 8 fun _ => 0) 163)).drew false false false false false false false undef undef undef undef undef :=
    { below := hB.drew, hN := by simp [World.drew],
      k0 := (((Blk.new w 163 (wordsA 8 s)).alloc _).alloc _).drew
      k1 := by simpa using ((Blk.new (w.alloc (.cells (wordsA 8 s) 163)) 165 (bytesA 64 b)).alloc (.cells (wordsA 8 fun _ => 0) 163)).drew
      k2 := by simpa using (Blk.new ((w.alloc (.cells (wordsA 8 s) 163)).alloc (.cells (bytesA 64 b) 165)) 163 (wordsA 8 fun _ => 0)).drew
      e18 := fun h => by simp at h, e19 := fun h => by simp at h, e20 := fun h => by simp at h, e5 := fun h => by simp at h, e6 := fun h => by simp at h, ne := fun h => by simp at h, w5 := fun h => by simp at h, w6 := fun h => by simp at h }
  clear hB
  generalize (((w.alloc (.cells (wordsA 8 s) 163)).alloc (.cells (bytesA 64 b) 165)).alloc (.cells (wordsA 8 fun _ => 0) 163)) = w0 at *
  simp only [Act.put, List.setIfInBounds_toArray, List.set_cons_succ, List.set_cons_zero, World.size_alloc]
  refine mix_region1 _ w.heap.size w w0 s b _ (by simp) rfl rfl hJ _ ?_
  intro g k v18 v19 v20 wc hg hk hgk hG hK hS hR hB
  simp only [fr5, Act.put, List.setIfInBounds_toArray, List.set_cons_succ, List.set_cons_zero]
  clear hJ
  have s0 : wc.cell? ⟨w.heap.size, 0, none⟩ = some (.int .u32 (s 0)) := by rw [hS.cell, wordsA_get _ _ _ (by omega)]
  have s1 : wc.cell? ⟨w.heap.size, 1, none⟩ = some (.int .u32 (s 1)) := by rw [hS.cell, wordsA_get _ _ _ (by omega)]
  have s2 : wc.cell? ⟨w.heap.size, 2, none⟩ = some (.int .u32 (s 2)) := by rw [hS.cell, wordsA_get _ _ _ (by omega)]
  have s3 : wc.cell? ⟨w.heap.size, 3, none⟩ = some (.int .u32 (s 3)) := by rw [hS.cell, wordsA_get _ _ _ (by omega)]
  have s4 : wc.cell? ⟨w.heap.size, 4, none⟩ = some (.int .u32 (s 4)) := by rw [hS.cell, wordsA_get _ _ _ (by omega)]
  have s5 : wc.cell? ⟨w.heap.size, 5, none⟩ = some (.int .u32 (s 5)) := by rw [hS.cell, wordsA_get _ _ _ (by omega)]
  have s6 : wc.cell? ⟨w.heap.size, 6, none⟩ = some (.int .u32 (s 6)) := by rw [hS.cell, wordsA_get _ _ _ (by omega)]
  have s7 : wc.cell? ⟨w.heap.size, 7, none⟩ = some (.int .u32 (s 7)) := by rw [hS.cell, wordsA_get _ _ _ (by omega)]
  go_wp2
  go_quiet (fail)
  go_wp2
  clear s0 s1 s2 s3 s4 s5 s6 s7
  have hG0 := blk_drewN hG nq
  have hK0 := blk_drewN hK nq
  have hS0 := blk_drewN hS nq
  have hR0 := blk_drewN hR nq
  have hB0 : Below w.heap.size w (wc.drewN nq) := below_drewN hB nq
  go_loopw [7, 8, 9, 10, 11, 12, 13, 14, 37] (fun xa xb xc xd xe xf xg xh i wr => ∃ t : Nat, t ≤ 64 ∧ i = .int .i64 t ∧
      xa = .int .u32 (runF roundsF (sched b 64) (r8 s) t).a ∧ xb = .int .u32 (runF roundsF (sched b 64) (r8 s) t).b ∧ xc = .int .u32 (runF roundsF (sched b 64) (r8 s) t).c ∧ xd = .int .u32 (runF roundsF (sched b 64) (r8 s) t).d ∧
      xe = .int .u32 (runF roundsF (sched b 64) (r8 s) t).e ∧ xf = .int .u32 (runF roundsF (sched b 64) (r8 s) t).f ∧ xg = .int .u32 (runF roundsF (sched b 64) (r8 s) t).g ∧ xh = .int .u32 (runF roundsF (sched b 64) (r8 s) t).h ∧
      Blk wr g 195 (wordsA 64 roundsF) ∧ Blk wr k 195 (wordsA 64 (sched b 64)) ∧ Blk wr w.heap.size 163 (wordsA 8 s) ∧ Blk wr (w.heap.size + 1 + 1) 163 (wordsA 8 fun _ => 0) ∧ Below w.heap.size w wr) (fun _ _ _ _ _ _ _ _ i _ => 64 - (intOf i).toNat)
  case atStart => exact ⟨0, by omega, rfl, rfl, rfl, rfl, rfl, rfl, rfl, rfl, rfl, hG0, hK0, hS0, hR0, hB0⟩
  case round =>
    clear hG0 hK0 hS0 hR0 hB0 hG hK hS hR hB
    obtain ⟨t, ht, rfl, rfl, rfl, rfl, rfl, rfl, rfl, rfl, rfl, hG, hK, hS, hR, hB⟩ := hrel
    obtain ⟨r, hr⟩ : ∃ r, Hid (r = runF roundsF (sched b 64) (r8 s) t) := ⟨_, rfl⟩
    rw [← hr.out]
    obtain ⟨ra, rb, rc, rd, re, rf, rg, rh⟩ := r
    dsimp only
    by_cases hlt : t < 64
    · have eg : wr.cell? ⟨g, t, none⟩ = some (.int .u32 (roundsF t)) := by rw [hG.cell, wordsA_get _ _ _ (by omega)]
      have ek : wr.cell? ⟨k, t, none⟩ = some (.int .u32 (sched b 64 t)) := by rw [hK.cell, wordsA_get _ _ _ (by omega)]
      obtain ⟨kt, hkt⟩ : ∃ kt, Hid (kt = roundsF t) := ⟨_, rfl⟩
      obtain ⟨wt, hwt⟩ : ∃ wt, Hid (wt = sched b 64 t) := ⟨_, rfl⟩
      rw [← hkt.out] at eg
      rw [← hwt.out] at ek
      go_wp2
      go_quiet ((go_at_call 120; exact Calls.quiet_of_same (turn_any _ _ _ (by omega) (by omega))))
      go_wp2_with (go_at_call 120; refine (turn_any _ _ _ (by omega) (by omega)).mono ?_; rintro e w' ⟨rfl, rfl⟩)
      go_roundw
      case rel =>
        have hn : runF roundsF (sched b 64) (r8 s) (t + 1) = stepF kt wt ⟨ra, rb, rc, rd, re, rf, rg, rh⟩ := by rw [hkt.out, hwt.out, hr.out]; rfl
        simp only [u32_all]
        exact ⟨t + 1, by omega, by go_num, by rw [hn]; rfl, by rw [hn]; rfl, by rw [hn]; rfl, by rw [hn]; rfl, by rw [hn]; rfl, by rw [hn]; rfl, by rw [hn]; rfl, by rw [hn]; rfl, blk_drewN hG _, blk_drewN hK _, blk_drewN hS _, blk_drewN hR _, below_drewN hB _⟩
      case measure => simp [intOf]; omega
    · obtain rfl : t = 64 := by omega
      clear hlt ht
      have s0 : wr.cell? ⟨w.heap.size, 0, none⟩ = some (.int .u32 (s 0)) := by rw [hS.cell, wordsA_get _ _ _ (by omega)]
      have s1 : wr.cell? ⟨w.heap.size, 1, none⟩ = some (.int .u32 (s 1)) := by rw [hS.cell, wordsA_get _ _ _ (by omega)]
      have s2 : wr.cell? ⟨w.heap.size, 2, none⟩ = some (.int .u32 (s 2)) := by rw [hS.cell, wordsA_get _ _ _ (by omega)]
      have s3 : wr.cell? ⟨w.heap.size, 3, none⟩ = some (.int .u32 (s 3)) := by rw [hS.cell, wordsA_get _ _ _ (by omega)]
      have s4 : wr.cell? ⟨w.heap.size, 4, none⟩ = some (.int .u32 (s 4)) := by rw [hS.cell, wordsA_get _ _ _ (by omega)]
      have s5 : wr.cell? ⟨w.heap.size, 5, none⟩ = some (.int .u32 (s 5)) := by rw [hS.cell, wordsA_get _ _ _ (by omega)]
      have s6 : wr.cell? ⟨w.heap.size, 6, none⟩ = some (.int .u32 (s 6)) := by rw [hS.cell, wordsA_get _ _ _ (by omega)]
      have s7 : wr.cell? ⟨w.heap.size, 7, none⟩ = some (.int .u32 (s 7)) := by rw [hS.cell, wordsA_get _ _ _ (by omega)]
      have hfin : Hid (mixF s b = outF s ⟨ra, rb, rc, rd, re, rf, rg, rh⟩) := by show mixF s b = _; rw [hr.out]; rfl
      clear hr
      go_wp2_with (refine wpList_bld rfl 163 _ rfl (wordsA 8 (outF s ⟨ra, rb, rc, rd, re, rf, rg, rh⟩)) (by kernel_rfl) ?_; refine wpList_store_row rfl 163 (.tmp 4) (.tmp 132) rfl (w.heap.size + 1 + 1) (wordsA 8 (outF s ⟨ra, rb, rc, rd, re, rf, rg, rh⟩)) rfl rfl 163 (wordsA 8 fun _ => 0) hR (Tryz.size163W _) (wordsA_sizes _ _ _) (wordsA_one _ _) ?_)
      exact bodyPost_ret (v := .agg (wordsA 8 (outF s ⟨ra, rb, rc, rd, re, rf, rg, rh⟩))) (results_cell_row Tryz.results98 _ _ (w.heap.size + 1 + 1) 163 _ (0, 0) _ rfl (hR.setRow _) Tryz.underlying163 rfl (Tryz.size163W _)) rfl ⟨by rw [hfin.out], below_setRow hB (by omega) _⟩
end Go.Proofs.YtdkhjeofjhcceaaGreatDoor.Nd.Sh
namespace Go.Proofs.YtdkhjeofjhcceaaGreatDoor.Nd.Sh
open Go.RowKit

def digA (s r : Nat → Int) (n : Int) : Array Value := Array.ofFn (n := 73) fun i => if i.val < 8 then .int .u32 (s i.val) else if i.val < 72 then .int .u8 (r (i.val - 8)) else .int .i64 n

theorem digA_size (s r : Nat → Int) (n : Int) : (digA s r n).size = 73 := by simp [digA]
theorem digA_w (s r : Nat → Int) (n : Int) (j : Nat) (h : j < 8) : (digA s r n)[j]? = some (.int .u32 (s j)) := by
  have h' : j < 73 := by omega
  simp [digA, h, h']
theorem digA_r (s r : Nat → Int) (n : Int) (j : Nat) (h : j < 64) : (digA s r n)[8 + j]? = some (.int .u8 (r j)) := by
  have h1 : ¬ 8 + j < 8 := by omega
  have h2 : 8 + j < 72 := by omega
  have h' : 8 + j < 73 := by omega
  simp [digA, h2, h']
theorem digA_n (s r : Nat → Int) (n : Int) : (digA s r n)[72]? = some (.int .i64 n) := by simp [digA]
theorem digA_setn (s r : Nat → Int) (n m : Int) : (digA s r n).setIfInBounds 72 (.int .i64 m) = digA s r m := by
  apply Array.ext_getElem?
  intro i
  rw [Array.getElem?_setIfInBounds]
  by_cases e : 72 = i
  · subst e; simp [digA]
  · by_cases hi : i < 73
    · have : i < 72 := by omega
      simp [digA, e, hi, this]
    · simp [digA, e, hi]
theorem digA_one (s r : Nat → Int) (n : Int) : (digA s r n).all (·.oneCell') = true := by
  rw [Array.all_eq_true_iff_forall_mem]; intro v hv; simp [digA] at hv; obtain ⟨i, rfl⟩ := hv; split <;> (try split) <;> rfl

def putN (r : Nat → Int) (u k : Nat) (y : Nat → Int) : Nat → Int := fun j => if u ≤ j ∧ j < u + k then y (j - u) else r j
theorem digA_splice (s r : Nat → Int) (n : Int) (u k : Nat) (y : Nat → Int) (h : u + k ≤ 64) :
    ((digA s r n).toList.take (8 + u) ++ ((List.range k).map (fun j => Value.int .u8 (y j)) ++ (digA s r n).toList.drop (8 + u + k))).toArray = digA s (putN r u k y) n := by
  have hl : (digA s r n).toList.length = 73 := by simp [digA_size]
  apply Array.ext_getElem?
  intro i
  rw [List.getElem?_toArray, List.getElem?_append, List.length_take, hl, show min (8 + u) 73 = 8 + u by omega]
  by_cases h1 : i < 8 + u
  · rw [if_pos h1, List.getElem?_take, if_pos h1, Array.getElem?_toList]
    have hi : i < 73 := by omega
    by_cases h8 : i < 8
    · rw [digA_w _ _ _ _ h8, digA_w _ _ _ _ h8]
    · obtain ⟨j, rfl⟩ : ∃ j, i = 8 + j := ⟨i - 8, by omega⟩
      rw [digA_r _ _ _ _ (by omega), digA_r _ _ _ _ (by omega)]
      simp only [putN]; rw [if_neg (by omega)]
  · rw [if_neg h1, List.getElem?_append, List.length_map, List.length_range]
    by_cases h2 : i - (8 + u) < k
    · rw [if_pos h2, List.getElem?_map, List.getElem?_range h2]
      obtain ⟨j, rfl⟩ : ∃ j, i = 8 + j := ⟨i - 8, by omega⟩
      rw [digA_r _ _ _ _ (by omega)]
      simp only [putN, Option.map_some]; rw [if_pos (by omega), show 8 + j - (8 + u) = j - u by omega]
    · rw [if_neg h2, List.getElem?_drop, Array.getElem?_toList, show 8 + u + k + (i - (8 + u) - k) = i by omega]
      by_cases h72 : i < 72
      · obtain ⟨j, rfl⟩ : ∃ j, i = 8 + j := ⟨i - 8, by omega⟩
        rw [digA_r _ _ _ _ (by omega), digA_r _ _ _ _ (by omega)]
        simp only [putN]; rw [if_neg (by omega)]
      · by_cases h73 : i = 72
        · subst h73; rw [digA_n, digA_n]
        · rw [Array.getElem?_eq_none (by rw [digA_size]; omega), Array.getElem?_eq_none (by rw [digA_size]; omega)]

theorem Tryz.size167 : (Tryz.prog.info? 167).map (·.size) = some 73 := by kernel_rfl
theorem Tryz.size167D (s r : Nat → Int) (n : Int) : (Tryz.prog.info? 167).map (·.size) = some (digA s r n).size := by rw [digA_size]; exact Tryz.size167

set_option maxRecDepth 10000 in
theorem new_any (w : World) :
    Calls Tryz.prog 66 #[] w fun e w' => e = .returned (ptr (w.heap.size + 1)) ∧ w' = (w.alloc (.cells (wordsA 8 beginF) 163)).alloc (.cells (digA beginF (fun _ => 0) 0) 167) := by
  go_enter Tryz.func66, Tryz.ntmps66
  go_wp2_with fail
  refine (begin_any _).mono ?_
  rintro e w' ⟨rfl, rfl⟩
  go_wp2_with (refine wpList_bld rfl 167 _ rfl (digA beginF (fun _ => 0) 0) (by kernel_rfl) ?_; refine wpList_boxA rfl 167 (.tmp 2) rfl (digA beginF (fun _ => 0) 0) rfl ?_)
  go_ret
  exact ⟨by simp, rfl⟩

end Go.Proofs.YtdkhjeofjhcceaaGreatDoor.Nd.Sh
namespace Go.Proofs.YtdkhjeofjhcceaaGreatDoor.Nd.Sh
open Go.RowKit

def wo0 (q : String) : Oper := { dst := some 36, op := Op.move (Operand.tmp 0), type := 132, pos := q, after := #[], guard := none }
def wo1 (q : String) : Oper := { dst := some 37, op := Op.move (Operand.tmp 0), type := 132, pos := q, after := #[], guard := none }
def wo2 (q : String) : Oper := { dst := some 38, op := Op.nilCheck (Operand.tmp 37), type := 0, pos := q, after := #[{ on := 1, ground := Ground.data }], guard := none }
def wo3 (q : String) : Oper := { dst := some 39, op := Op.fieldAddr 167 (Operand.tmp 38) 0, type := 0, pos := q, after := #[{ on := 2, ground := Ground.data }], guard := none }
def wo4 (q : String) : Oper := { dst := some 40, op := Op.load 163 (Operand.tmp 39), type := 163, pos := q, after := #[{ on := 3, ground := Ground.data }], guard := none }
def wo5 (q : String) : Oper := { dst := some 41, op := Op.move (Operand.tmp 0), type := 132, pos := q, after := #[], guard := none }
def wo6 (q : String) : Oper := { dst := some 42, op := Op.nilCheck (Operand.tmp 41), type := 0, pos := q, after := #[{ on := 5, ground := Ground.data }], guard := none }
def wo7 (q : String) : Oper := { dst := some 43, op := Op.fieldAddr 167 (Operand.tmp 42) 1, type := 0, pos := q, after := #[{ on := 6, ground := Ground.data }], guard := none }
def wo8 (q : String) : Oper := { dst := some 44, op := Op.load 165 (Operand.tmp 43), type := 165, pos := q, after := #[{ on := 7, ground := Ground.data }], guard := none }
def wo9 (q : String) : Oper := { dst := some 45, op := Op.call { callee := Callee.value (Operand.func 98), args := #[Operand.tmp 40, Operand.tmp 44], argTypes := #[163, 165] }, type := 163, pos := q, after := #[{ on := 4, ground := Ground.data }, { on := 8, ground := Ground.data }], guard := none }
def wo10 (q : String) : Oper := { dst := some 46, op := Op.nilCheck (Operand.tmp 36), type := 0, pos := q, after := #[{ on := 0, ground := Ground.data }, { on := 0, ground := Ground.phase }, { on := 1, ground := Ground.phase }, { on := 2, ground := Ground.phase }, { on := 3, ground := Ground.phase }, { on := 4, ground := Ground.phase }, { on := 5, ground := Ground.phase }, { on := 6, ground := Ground.phase }, { on := 7, ground := Ground.phase }, { on := 8, ground := Ground.phase }, { on := 9, ground := Ground.phase }], guard := none }
def wo11 (q : String) : Oper := { dst := some 47, op := Op.fieldAddr 167 (Operand.tmp 46) 0, type := 0, pos := q, after := #[{ on := 10, ground := Ground.data }, { on := 0, ground := Ground.phase }, { on := 1, ground := Ground.phase }, { on := 2, ground := Ground.phase }, { on := 3, ground := Ground.phase }, { on := 4, ground := Ground.phase }, { on := 5, ground := Ground.phase }, { on := 6, ground := Ground.phase }, { on := 7, ground := Ground.phase }, { on := 8, ground := Ground.phase }, { on := 9, ground := Ground.phase }], guard := none }
def wo12 (q : String) : Oper := { dst := none, op := Op.store 163 (Operand.tmp 47) (Operand.tmp 45), type := 0, pos := q, after := #[{ on := 11, ground := Ground.data }, { on := 9, ground := Ground.data }, { on := 9, ground := Ground.chain }, { on := 0, ground := Ground.phase }, { on := 1, ground := Ground.phase }, { on := 2, ground := Ground.phase }, { on := 3, ground := Ground.phase }, { on := 4, ground := Ground.phase }, { on := 5, ground := Ground.phase }, { on := 6, ground := Ground.phase }, { on := 7, ground := Ground.phase }, { on := 8, ground := Ground.phase }, { on := 9, ground := Ground.phase }], guard := none }
def woA (q : String) : Array Oper := #[wo0 q, wo1 q, wo2 q, wo3 q, wo4 q, wo5 q, wo6 q, wo7 q, wo8 q, wo9 q, wo10 q, wo11 q, wo12 q]
theorem Tryz.enter98 (w : World) (vs : Array Value) : (callFunc 98 vs).run Tryz.prog w = .ok (.enter 98 vs) w := by kernel_rfl
theorem Tryz.field67_0 (g : Nat) (w : World) : (Instr.fieldAt 167 (ptr g) 0).run Tryz.prog w = .ok (ptr g) w := by kernel_rfl
theorem Tryz.field67_1 (g : Nat) (w : World) : (Instr.fieldAt 167 (ptr g) 1).run Tryz.prog w = .ok (.pointer (some ⟨g, 8, none⟩)) w := by kernel_rfl

def woV (g : Nat) (s p : Nat → Int) : Nat → Value
  | 4 => .agg (wordsA 8 s)
  | 7 => .pointer (some ⟨g, 8, none⟩)
  | 8 => .agg (bytesA 64 p)
  | 9 => .agg (wordsA 8 (mixF s p))
  | 12 => undef
  | _ => ptr g
structure WoW (g : Nat) (w0 : World) (s p : Nat → Int) (m : Int) (l : Array Bool) (w : World) : Prop where
  gr : w0.grownBy w (some g)
  a : l.getD 12 false = false → Blk w g 167 (digA s p m)
  b : l.getD 12 false = true → Blk w g 167 (digA (mixF s p) p m)
  c : l.getD 12 false = true → l.getD 4 false = true ∧ l.getD 8 false = true

theorem digA_words (s p c : Nat → Int) (m : Int) : ((digA s p m).toList.take 0 ++ (wordsA 8 c).toList ++ (digA s p m).toList.drop (0 + (wordsA 8 c).size)).toArray = digA c p m := by
  have hl : (digA s p m).toList.length = 73 := by simp [digA_size]
  apply Array.ext_getElem?
  intro i
  rw [wordsA_size, List.take_zero, List.nil_append, List.getElem?_toArray, List.getElem?_append, Array.length_toList, wordsA_size]
  by_cases h8 : i < 8
  · rw [if_pos h8, Array.getElem?_toList, wordsA_get _ _ _ h8, digA_w _ _ _ _ h8]
  · rw [if_neg h8, List.getElem?_drop, Array.getElem?_toList, show 0 + 8 + (i - 8) = i by omega]
    by_cases h72 : i < 72
    · obtain ⟨j, rfl⟩ : ∃ j, i = 8 + j := ⟨i - 8, by omega⟩
      rw [digA_r _ _ _ _ (by omega), digA_r _ _ _ _ (by omega)]
    · by_cases h73 : i = 72
      · subst h73; rw [digA_n, digA_n]
      · rw [Array.getElem?_eq_none (by rw [digA_size]; omega), Array.getElem?_eq_none (by rw [digA_size]; omega)]
theorem dig_range8 {w : World} {g : Nat} {s p : Nat → Int} {m : Int} (h : Blk w g 167 (digA s p m)) : w.rangeAt g 8 (bytesA 64 p).toList := by
  intro j v hv
  have hj : j < 64 := by have := (List.getElem?_eq_some_iff.1 hv).1; simpa [bytesA_size] using this
  rw [h.cell, digA_r _ _ _ _ hj, ← hv, Array.getElem?_toList, bytesA_get _ _ _ hj]
theorem dig_range0 {w : World} {g : Nat} {s p : Nat → Int} {m : Int} (h : Blk w g 167 (digA s p m)) : w.rangeAt g 0 (wordsA 8 s).toList := by
  intro j v hv
  have hj : j < 8 := by have := (List.getElem?_eq_some_iff.1 hv).1; simpa [wordsA_size] using this
  rw [Nat.zero_add, h.cell, digA_w _ _ _ _ hj, ← hv, Array.getElem?_toList, wordsA_get _ _ _ hj]
theorem grownBy_trans {a b c : World} {o : Option Nat} (h : a.grownBy b o) (k : b.grownBy c o) : a.grownBy c o :=
  ⟨k.os.trans h.os, k.tape.trans h.tape, k.output.trans h.output, Nat.le_trans h.size k.size, fun i hi hn => (k.block i (Nat.lt_of_lt_of_le hi h.size) hn).trans (h.block i hi hn)⟩
theorem grownBy_setRow (w : World) (g : Nat) (cs : Array Value) : w.grownBy (w.setRow g cs) (some g) :=
  ⟨rfl, rfl, rfl, by simp, fun i _ hn => setRow_other w g i cs (fun e => hn (by rw [e]))⟩
theorem grownBy_below {w w' : World} (h : Below w.heap.size w w') (o : Option Nat) : w.grownBy w' o := ⟨h.os, h.tape, h.output, h.size, fun i hi _ => h.block i hi⟩

theorem WoW.next {g : Nat} {w0 w w' : World} {s p : Nat → Int} {m : Int} {l : Array Bool} (h : WoW g w0 s p m l w) (hb : Below w.heap.size w w') (i : Nat) (hi : i ≠ 12) : WoW g w0 s p m (l.setIfInBounds i true) w' where
  gr := grownBy_trans h.gr (grownBy_below hb _)
  a e := by rw [getD_set_ne false hi] at e; exact (h.a e).below hb (h.a e).lt
  b e := by rw [getD_set_ne false hi] at e; exact (h.b e).below hb (h.b e).lt
  c e := by rw [getD_set_ne false hi] at e; exact ⟨getD_set_true (h.c e).1, getD_set_true (h.c e).2⟩
theorem getD_ft {l : Array Bool} {i : Nat} (h : l.getD i true = false) : l.getD i false = false := by
  obtain ⟨h1, h2⟩ := getD_lt h
  simp [Array.getD, h1, h2]

set_option maxRecDepth 8000 in
set_option maxHeartbeats 1000000 in
theorem wo_step (q : String) (g : Nat) (w0 : World) (s p : Nat → Int) (m : Int) (a0 : Act) (h0 : a0.eval (.tmp 0) = ptr g) (Q : Exit → Act → World → Prop)
    (l : Array Bool) (a : Act) (w : World) (i : Nat) (o : Oper)
    (hold : ∀ t : Nat, (∀ (j : Nat) (o' : Oper), (woA q)[j]? = some o' → o'.dst ≠ some t) → a.eval (.tmp t) = a0.eval (.tmp t))
    (hval : ∀ (j : Nat) (o' : Oper) (d : Nat), (woA q)[j]? = some o' → o'.dst = some d → l.getD j false = true → a.eval (.tmp d) = woV g s p j)
    (hW : WoW g w0 s p m l w) (_ : l.size = (woA q).size) (hi : l.getD i true = false) (ho : (woA q)[i]? = some o) (he : ∀ e ∈ o.after, Region.binds .any e = true → l.getD e.on false = true) :
    o.guard = none ∧ o.wp Tryz.prog a w (fun a' w' => a' = a.put o.dst (woV g s p i) ∧ WoW g w0 s p m (l.setIfInBounds i true) w') Q := by
  have a0e : a.eval (.tmp 0) = ptr g := by
    rw [hold 0 ?_, h0]
    intro j o' hj
    have : ∀ j : Fin 13, ((woA q)[j.val]?.bind (·.dst)) ≠ some 0 := by
      have h : ∀ j : Fin 13, ((woA (String.ofList []))[j.val]?.bind (·.dst)) ≠ some 0 := by decide
      intro j
      have e : ((woA q)[j.val]?.bind (·.dst)) = ((woA (String.ofList []))[j.val]?.bind (·.dst)) := by
        match j with
        | ⟨0, _⟩ => rfl
        | ⟨1, _⟩ => rfl
        | ⟨2, _⟩ => rfl
        | ⟨3, _⟩ => rfl
        | ⟨4, _⟩ => rfl
        | ⟨5, _⟩ => rfl
        | ⟨6, _⟩ => rfl
        | ⟨7, _⟩ => rfl
        | ⟨8, _⟩ => rfl
        | ⟨9, _⟩ => rfl
        | ⟨10, _⟩ => rfl
        | ⟨11, _⟩ => rfl
        | ⟨12, _⟩ => rfl
      rw [e]; exact h j
    have hlt : j < 13 := (Array.getElem?_eq_some_iff.1 hj).1
    have := this ⟨j, hlt⟩
    rw [hj] at this; exact this
  have v := fun (j d : Nat) (o' : Oper) (h1 : (woA q)[j]? = some o') (h2 : o'.dst = some d) (h3 : l.getD j false = true) => hval j o' d h1 h2 h3
  match i, hi, ho with
  | 0, hi, ho =>
    have e : wo0 q = o := Option.some.inj ho
    exact ⟨by rw [← e]; rfl, wp_move (.tmp 0) (by rw [← e]; rfl) (ptr g) a0e ⟨rfl, hW.next (Below.refl _ _) 0 (by decide)⟩⟩
  | 1, hi, ho =>
    have e : wo1 q = o := Option.some.inj ho
    exact ⟨by rw [← e]; rfl, wp_move (.tmp 0) (by rw [← e]; rfl) (ptr g) a0e ⟨rfl, hW.next (Below.refl _ _) 1 (by decide)⟩⟩
  | 2, hi, ho =>
    have e : wo2 q = o := Option.some.inj ho
    have qq := v 1 37 (wo1 q) rfl rfl (he ⟨1, .data⟩ (by rw [← e]; simp [wo2]) rfl)
    exact ⟨by rw [← e]; rfl, wp_nilCheck (.tmp 37) (by rw [← e]; rfl) ⟨g, 0, none⟩ qq ⟨rfl, hW.next (Below.refl _ _) 2 (by decide)⟩⟩
  | 3, hi, ho =>
    have e : wo3 q = o := Option.some.inj ho
    have qq := v 2 38 (wo2 q) rfl rfl (he ⟨2, .data⟩ (by rw [← e]; simp [wo3]) rfl)
    exact ⟨by rw [← e]; rfl, wp_fieldAddr 167 (.tmp 38) 0 (by rw [← e]; rfl) (ptr g) (ptr g) qq (Tryz.field67_0 g) ⟨rfl, hW.next (Below.refl _ _) 3 (by decide)⟩⟩
  | 4, hi, ho =>
    have e : wo4 q = o := Option.some.inj ho
    have qq := v 3 39 (wo3 q) rfl rfl (he ⟨3, .data⟩ (by rw [← e]; simp [wo4]) rfl)
    have hb : Blk w g 167 (digA s p m) := hW.a (by
      cases h : l.getD 12 false with
      | false => rfl
      | true => have := (hW.c h).1; rw [getD_ft hi] at this; cases this)
    refine ⟨by rw [← e]; rfl, wp_load_mid 163 (.tmp 39) (by rw [← e]; rfl) g 0 qq (wordsA 8 s).toList (.array 8 162) (dig_range0 hb) Tryz.underlying163 rfl (by rw [Array.length_toList]; exact Tryz.size163W s) ?_⟩
    rw [Array.toArray_toList]
    exact ⟨rfl, hW.next (Below.refl _ _) 4 (by decide)⟩
  | 5, hi, ho =>
    have e : wo5 q = o := Option.some.inj ho
    exact ⟨by rw [← e]; rfl, wp_move (.tmp 0) (by rw [← e]; rfl) (ptr g) a0e ⟨rfl, hW.next (Below.refl _ _) 5 (by decide)⟩⟩
  | 6, hi, ho =>
    have e : wo6 q = o := Option.some.inj ho
    have qq := v 5 41 (wo5 q) rfl rfl (he ⟨5, .data⟩ (by rw [← e]; simp [wo6]) rfl)
    exact ⟨by rw [← e]; rfl, wp_nilCheck (.tmp 41) (by rw [← e]; rfl) ⟨g, 0, none⟩ qq ⟨rfl, hW.next (Below.refl _ _) 6 (by decide)⟩⟩
  | 7, hi, ho =>
    have e : wo7 q = o := Option.some.inj ho
    have qq := v 6 42 (wo6 q) rfl rfl (he ⟨6, .data⟩ (by rw [← e]; simp [wo7]) rfl)
    exact ⟨by rw [← e]; rfl, wp_fieldAddr 167 (.tmp 42) 1 (by rw [← e]; rfl) (ptr g) (.pointer (some ⟨g, 8, none⟩)) qq (Tryz.field67_1 g) ⟨rfl, hW.next (Below.refl _ _) 7 (by decide)⟩⟩
  | 8, hi, ho =>
    have e : wo8 q = o := Option.some.inj ho
    have qq := v 7 43 (wo7 q) rfl rfl (he ⟨7, .data⟩ (by rw [← e]; simp [wo8]) rfl)
    have hb : Blk w g 167 (digA s p m) := hW.a (by
      cases h : l.getD 12 false with
      | false => rfl
      | true => have := (hW.c h).2; rw [getD_ft hi] at this; cases this)
    refine ⟨by rw [← e]; rfl, wp_load_mid 165 (.tmp 43) (by rw [← e]; rfl) g 8 qq (bytesA 64 p).toList (.array 64 5) (dig_range8 hb) Tryz.underlying165 rfl (by rw [Array.length_toList]; exact Tryz.size165B p) ?_⟩
    rw [Array.toArray_toList]
    exact ⟨rfl, hW.next (Below.refl _ _) 8 (by decide)⟩
  | 9, hi, ho =>
    have e : wo9 q = o := Option.some.inj ho
    have q1 : a.eval (.tmp 40) = .agg (wordsA 8 s) := v 4 40 (wo4 q) rfl rfl (he ⟨4, .data⟩ (by rw [← e]; simp [wo9]) rfl)
    have q2 : a.eval (.tmp 44) = .agg (bytesA 64 p) := v 8 44 (wo8 q) rfl rfl (he ⟨8, .data⟩ (by rw [← e]; simp [wo9]) rfl)
    exact ⟨by rw [← e]; rfl, wp_callF 98 #[.tmp 40, .tmp 44] #[163, 165] (by rw [← e]; rfl) Tryz.enter98 #[.agg (wordsA 8 s), .agg (bytesA 64 p)] (by simp only [List.map_toArray, List.map_cons, List.map_nil, q1, q2])
      (fun v w' => v = .agg (wordsA 8 (mixF s p)) ∧ Below w.heap.size w w') ((mix_any s p w).mono (by rintro e w' ⟨rfl, hb⟩; exact ⟨_, rfl, rfl, hb⟩))
      (by rintro v w' ⟨rfl, hb⟩; exact ⟨rfl, hW.next hb 9 (by decide)⟩)⟩
  | 10, hi, ho =>
    have e : wo10 q = o := Option.some.inj ho
    have qq := v 0 36 (wo0 q) rfl rfl (he ⟨0, .data⟩ (by rw [← e]; simp [wo10]) rfl)
    exact ⟨by rw [← e]; rfl, wp_nilCheck (.tmp 36) (by rw [← e]; rfl) ⟨g, 0, none⟩ qq ⟨rfl, hW.next (Below.refl _ _) 10 (by decide)⟩⟩
  | 11, hi, ho =>
    have e : wo11 q = o := Option.some.inj ho
    have qq := v 10 46 (wo10 q) rfl rfl (he ⟨10, .data⟩ (by rw [← e]; simp [wo11]) rfl)
    exact ⟨by rw [← e]; rfl, wp_fieldAddr 167 (.tmp 46) 0 (by rw [← e]; rfl) (ptr g) (ptr g) qq (Tryz.field67_0 g) ⟨rfl, hW.next (Below.refl _ _) 11 (by decide)⟩⟩
  | 12, hi, ho =>
    have e : wo12 q = o := Option.some.inj ho
    have q1 := v 11 47 (wo11 q) rfl rfl (he ⟨11, .data⟩ (by rw [← e]; simp [wo12]) rfl)
    have q2 : a.eval (.tmp 45) = .agg (wordsA 8 (mixF s p)) := v 9 45 (wo9 q) rfl rfl (he ⟨9, .data⟩ (by rw [← e]; simp [wo12]) rfl)
    have l4 := he ⟨4, .phase⟩ (by rw [← e]; simp [wo12]) rfl
    have l8 := he ⟨8, .phase⟩ (by rw [← e]; simp [wo12]) rfl
    have hb := hW.a (getD_ft hi)
    refine ⟨by rw [← e]; rfl, wp_store_part 163 (.tmp 47) (.tmp 45) (by rw [← e]; rfl) g 0 (wordsA 8 (mixF s p)) q1 q2 167 (digA s p m) hb (Tryz.size163W _) (by rw [wordsA_size, digA_size]; omega) (wordsA_one _ _) ?_⟩
    rw [digA_words]
    have h12 : (l.setIfInBounds 12 true).getD 12 false = true := by
      obtain ⟨h1, _⟩ := getD_lt hi
      simp [Array.getD, h1]
    exact ⟨rfl, { gr := grownBy_trans hW.gr (grownBy_setRow _ _ _), a := fun e => (by rw [h12] at e; cases e), b := fun _ => Blk.setRow hb _, c := fun _ => ⟨getD_set_true l4, getD_set_true l8⟩ }⟩
  | n + 13, hi, ho => simp [woA] at ho

theorem putsTo_wo (q : String) (g : Nat) (s p : Nat → Int) (a0 : Act) : putsTo (woA q) (woV g s p) a0 13 =
    ((((((((((((a0.put (some 36) (ptr g)).put (some 37) (ptr g)).put (some 38) (ptr g)).put (some 39) (ptr g)).put (some 40) (.agg (wordsA 8 s))).put (some 41) (ptr g)).put (some 42) (ptr g)).put (some 43) (.pointer (some ⟨g, 8, none⟩))).put (some 44) (.agg (bytesA 64 p))).put (some 45) (.agg (wordsA 8 (mixF s p)))).put (some 46) (ptr g)).put (some 47) (ptr g)) := by kernel_rfl

theorem wo_region (q : String) (g : Nat) (w0 : World) (s p : Nat → Int) (m : Int) (a0 : Act) (hsz : a0.tmps.size = 48) (h0 : a0.eval (.tmp 0) = ptr g) (hb : Blk w0 g 167 (digA s p m)) (Q : Exit → Act → World → Prop)
    (hQ : ∀ wc, w0.grownBy wc (some g) → Blk wc g 167 (digA (mixF s p) p m) → Q .normal (putsTo (woA q) (woV g s p) a0 13) wc) :
    (Code.region 6 (woA q) true).wp Tryz.prog Q a0 w0 := by
  refine wp_region_vals (by kernel_rfl) (woV g s p) (WoW g w0 s p m) (by rw [hsz]; kernel_rfl) (by kernel_rfl) (wo_step q g w0 s p m a0 h0 Q) ?_ ?_
  · intro l wc hW hall
    exact hQ wc hW.gr (hW.b (hall 12 (by simp [woA])))
  · exact ⟨⟨rfl, rfl, rfl, Nat.le_refl _, fun _ _ _ => rfl⟩, fun _ => hb.drew, fun h => by simp [Array.getD] at h, fun h => by simp [Array.getD] at h⟩
end Go.Proofs.YtdkhjeofjhcceaaGreatDoor.Nd.Sh
namespace Go.Proofs.YtdkhjeofjhcceaaGreatDoor.Nd.Sh
open Go.RowKit

structure Dg where
  s : Nat → Int
  r : Nat → Int
  n : Nat
def absorb (d : Dg) (x : Int) : Dg := ⟨if d.n % 64 = 63 then mixF d.s (upd d.r (d.n % 64) x) else d.s, upd d.r (d.n % 64) x, d.n + 1⟩
def absorbN (d : Dg) (x : Nat → Int) : Nat → Dg
  | 0 => d
  | i + 1 => absorb (absorbN d x i) (x i)
theorem absorbN_n (d : Dg) (x : Nat → Int) (i : Nat) : (absorbN d x i).n = d.n + i := by
  induction i with
  | zero => rfl
  | succ i ih => simp only [absorbN, absorb, ih]; omega
theorem absorbN_add (d : Dg) (x : Nat → Int) (i k : Nat) : absorbN d x (i + k) = absorbN (absorbN d x i) (fun j => x (i + j)) k := by
  induction k with
  | zero => rfl
  | succ k ih => rw [← Nat.add_assoc]; simp only [absorbN, ih]
theorem putN_succ (r : Nat → Int) (u k : Nat) (y : Nat → Int) : upd (putN r u k y) (u + k) (y k) = putN r u (k + 1) y := by
  funext j
  simp only [upd, putN]
  by_cases h1 : j = u + k
  · subst h1; simp
  · by_cases h2 : u ≤ j ∧ j < u + k
    · rw [if_neg h1, if_pos h2, if_pos (by omega)]
    · rw [if_neg h1, if_neg h2, if_neg (by omega)]
theorem putN_zero (r : Nat → Int) (u : Nat) (y : Nat → Int) : putN r u 0 y = r := by
  funext j; simp only [putN]; rw [if_neg (by omega)]
theorem absorb_chunk (d : Dg) (y : Nat → Int) (k : Nat) (h : d.n % 64 + k ≤ 64) :
    absorbN d y k = ⟨if d.n % 64 + k = 64 then mixF d.s (putN d.r (d.n % 64) k y) else d.s, putN d.r (d.n % 64) k y, d.n + k⟩ := by
  induction k with
  | zero => simp only [absorbN, putN_zero]; rw [if_neg (by omega)]; rfl
  | succ k ih =>
    simp only [absorbN]
    rw [ih (by omega), if_neg (by omega)]
    have e : (d.n + k) % 64 = d.n % 64 + k := by omega
    simp only [absorb, e, putN_succ]
    by_cases h63 : d.n % 64 + k = 63
    · rw [if_pos h63, if_pos (by omega)]; rfl
    · rw [if_neg h63, if_neg (by omega)]; rfl

theorem Tryz.size5 : (Tryz.prog.info? 5).map (·.size) = some 1 := by kernel_rfl
theorem Tryz.elemSl : Tryz.prog.elem 165 = 5 := by kernel_rfl
theorem Tryz.alen65 : Tryz.prog.arrayLen 165 = 64 := by kernel_rfl
theorem Tryz.sizeOf5 (w : World) : (sizeOf 5).run Tryz.prog w = .ok 1 w := by kernel_rfl
theorem slice65 (w : World) (g u : Nat) (h : u < 64) : (Instr.sliceAt 165 (.pointer (some ⟨g, 8, none⟩)) (some (.int .i64 (u : Int))) none none).run Tryz.prog w = .ok (.slice (some ⟨g, 8 + u, none⟩) (64 - u) (64 - u)) w := by
  rw [run_sliceAt_array_l (P := Tryz.prog) (w := w) (t := 165) (a := ⟨g, 8, none⟩) (by rw [Tryz.elemSl, Tryz.alen65]; exact Tryz.underlying165) .i64 (u : Int) (by omega) (by rw [Tryz.alen65]; omega), Tryz.elemSl, Tryz.alen65, Tryz.sizeOf5]
  have : ¬ 64 = u := by omega
  simp [slicedAt, Result.andThen, Addr.add_mid, this]


theorem hid_in {p : Prop} (h : p) : Hid p := h
structure Keep (p : Prop) : Prop where
  out : p
theorem grownBy_refl (w : World) (o : Option Nat) : w.grownBy w o := ⟨rfl, rfl, rfl, Nat.le_refl _, fun _ _ _ => rfl⟩
theorem grownBy_setCell (w : World) (g j : Nat) (v : Value) : w.grownBy (w.setCell ⟨g, j, none⟩ v) (some g) :=
  ⟨rfl, rfl, rfl, by simp [World.setCell], fun i _ hn => Below.heap_setCell w _ v i (fun e => hn (by rw [e]))⟩
theorem grownBy_cell {w w' : World} {g h j : Nat} {v : Value} (hg : w.grownBy w' (some g)) (hne : h ≠ g) (hc : w.cell? ⟨h, j, none⟩ = some v) : w'.cell? ⟨h, j, none⟩ = some v := by
  have hlt : h < w.heap.size := by
    apply Nat.lt_of_not_le; intro hle
    simp [World.cell?, Array.getElem?_eq_none hle] at hc
  rw [World.cell?_of_block (w := w) (hg.block h hlt (by simpa using hne))]; exact hc

set_option maxRecDepth 8000 in
set_option maxHeartbeats 1000000 in
theorem write_any (g : Nat) (d : Dg) (x : Nat → Int) (len cap h off : Nat) (w : World) (hg : Blk w g 167 (digA d.s d.r d.n)) (hgh : h ≠ g)
    (hx : ∀ i, i < len → w.cell? ⟨h, off + i, none⟩ = some (.int .u8 (x i))) (hlen : (d.n : Int) + len ≤ 1152921504606846976) (hcap : len ≤ cap) :
    Calls Tryz.prog 67 #[ptr g, .slice (some ⟨h, off, none⟩) len cap] w fun e w' => e = .returned (.tuple #[]) ∧ Blk w' g 167 (digA (absorbN d x len).s (absorbN d x len).r (absorbN d x len).n) ∧ w.grownBy w' (some g) := by
  have HX : Keep (∀ i, i < len → w.cell? ⟨h, off + i, none⟩ = some (.int .u8 (x i))) := ⟨hx⟩
  clear hx
  go_enter Tryz.func67, Tryz.ntmps67
  go_wp2
  go_loopw [1] (fun b wr => ∃ i o c : Nat, i ≤ len ∧ b = .slice (some ⟨h, o, none⟩) (len - i) c ∧ len - i ≤ c ∧ Hid (i < len → o = off + i) ∧ Blk wr g 167 (digA (absorbN d x i).s (absorbN d x i).r (absorbN d x i).n) ∧ w.grownBy wr (some g)) (fun b _ => match b with | .slice _ l _ => l | _ => 0)
  case atStart => exact ⟨0, off, cap, by omega, rfl, by omega, fun _ => rfl, hg, grownBy_refl _ _⟩
  case round =>
    obtain ⟨i, o, c, hi, rfl, hc, HO, hD, hgr⟩ := hrel
    clear hg
    have hni := absorbN_n d x i
    obtain ⟨D, hDD⟩ : ∃ D, Keep (D = absorbN d x i) := ⟨_, ⟨rfl⟩⟩
    rw [← hDD.out] at hD hni
    obtain ⟨s, r, n⟩ := D
    dsimp only at hD hni
    by_cases hlt : i < len
    · have c72 : wr.cell? ⟨g, 72, none⟩ = some (.int .i64 n) := by rw [hD.cell, digA_n]
      have hn0 : (n : Int) + (len - i : Nat) ≤ 1152921504606846976 := by omega
      clear hni
      obtain rfl := HO.out hlt
      obtain ⟨u, hu0⟩ : ∃ u, u = n % 64 := ⟨_, rfl⟩
      have hu : (n : Int) % 64 = (u : Int) := by omega
      have hu64 : u < 64 := by omega
      have hu64' : (u : Int) < 64 := by omega
      have HU : Keep (u = n % 64) := ⟨hu0⟩
      clear hu0
      have hsl := slice65 wr g u hu64
      obtain ⟨k, hk0⟩ : ∃ k, k = Nat.min (len - i) (64 - u) := ⟨_, rfl⟩
      have hk1 : k ≤ len - i := by rw [hk0]; exact Nat.min_le_left _ _
      have hk2' : k ≤ 64 - u := by rw [hk0]; exact Nat.min_le_right _ _
      have hk2 : u + k ≤ 64 := by omega
      clear hk2'
      have hk3 : 0 < k := by rw [hk0]; exact Nat.lt_min.2 ⟨by omega, by omega⟩
      have HK : Keep (k = Nat.min (len - i) (64 - u)) := ⟨hk0⟩
      clear hk0
      have HS : Keep (∀ j v, ((List.range k).map fun j => Value.int .u8 (x (i + j)))[j]? = some v → wr.cell? ((⟨h, off + i, none⟩ : Addr).add j) = some v) := by
        refine ⟨?_⟩
        intro j v hv
        have hj : j < k := by have := (List.getElem?_eq_some_iff.1 hv).1; simpa using this
        rw [List.getElem?_map, List.getElem?_range hj] at hv
        rw [Addr.add_mid, Nat.add_assoc]
        refine grownBy_cell hgr hgh ?_
        rw [HX.out _ (by omega)]
        simpa using hv
      have HL : Keep (((List.range k).map fun j => Value.int .u8 (x (i + j))).length = Nat.min (len - i) (64 - u)) := by
        refine ⟨?_⟩; rw [← HK.out]; simp
      have HF : Keep (8 + u + ((List.range k).map fun j => Value.int .u8 (x (i + j))).length ≤ (digA s r n).size) := by
        refine ⟨?_⟩; rw [digA_size]; simp; omega
      have H1 : Keep (∀ v ∈ ((List.range k).map fun j => Value.int .u8 (x (i + j))), v.oneCell' = true) := by
        refine ⟨?_⟩; intro v hv; simp at hv; obtain ⟨_, _, rfl⟩ := hv; rfl
      obtain ⟨w1, hw1⟩ : ∃ w1, Keep (w1 = wr.setRow g ((digA s r n).toList.take (8 + u) ++ (((List.range k).map fun j => Value.int .u8 (x (i + j))) ++ (digA s r n).toList.drop (8 + u + ((List.range k).map fun j => Value.int .u8 (x (i + j))).length))).toArray) := ⟨_, ⟨rfl⟩⟩
      have hD1 : Blk w1 g 167 (digA s (putN r u k (fun j => x (i + j))) n) := by
        have := hD.setRow (digA s (putN r u k (fun j => x (i + j))) n)
        rw [← digA_splice s r n u k (fun j => x (i + j)) hk2] at this ⊢
        rw [hw1.out, List.length_map, List.length_range]; exact this
      have hgr1 : w.grownBy w1 (some g) := by rw [hw1.out]; exact grownBy_trans hgr (grownBy_setRow _ _ _)
      have c72' : w1.cell? ⟨g, 72, none⟩ = some (.int .i64 n) := by rw [hD1.cell, digA_n]
      have f72' : w1.frozen? ⟨g, 72, none⟩ = false := hD1.frozen 72
      go_wp2_with (refine wpList_copy_own rfl (.tmp 18) (.tmp 19) 32 32 rfl 5 Tryz.underlying32 Tryz.size5 g (8 + u) (64 - u) (64 - u) ⟨h, off + i, none⟩ (len - i) c rfl rfl (digA s r n) 167 hD ((List.range k).map fun j => Value.int .u8 (x (i + j))) HL.out HS.out HF.out H1.out ?_; rw [← hw1.out, List.length_map, List.length_range]; refine Hid.out ?_)
      clear c72 hsl hD
      refine hid_in ?_
      have hch : Keep (absorbN d x (i + k) = ⟨if u + k = 64 then mixF s (putN r u k fun j => x (i + j)) else s, putN r u k fun j => x (i + j), n + k⟩) := by
        refine ⟨?_⟩
        rw [absorbN_add, ← hDD.out]
        have := absorb_chunk ⟨s, r, n⟩ (fun j => x (i + j)) k (by rw [← HU.out]; exact hk2)
        rw [← HU.out] at this
        exact this
      have hcc : Keep ((if c = k then some (⟨h, off + i, none⟩ : Addr) else some ⟨h, off + i + k, none⟩) = some ⟨h, if c = k then off + i else off + i + k, none⟩) := ⟨by split <;> rfl⟩
      have hoo : Keep (i + k < len → (if c = k then off + i else off + i + k) = off + (i + k)) := ⟨fun hl => by rw [if_neg (by omega)]; omega⟩
      clear HX HS HL HF H1 hw1 HO
      by_cases huk : u + k = 64
      · have hukb : ((u : Int) + (k : Int) == 64) = true := by simp; omega
        by_cases hck : c = k
        · have hck' := hck.symm
          subst hck'
          go_wp2
          have hD2 := hD1.set 72 (.int .i64 ((n : Int) + k))
          rw [digA_setn] at hD2
          have hgr2 := grownBy_trans hgr1 (grownBy_setCell w1 g 72 (.int .i64 ((n : Int) + k)))
          generalize w1.setCell ⟨g, 72, none⟩ (.int .i64 ((n : Int) + k)) = w2 at *
          clear hD1 hgr1 c72' f72' hgr
          refine wo_region _ g w2 s _ ((n : Int) + k) _ (by simp) rfl hD2 _ ?_
          intro wc hgr3 hD3
          rw [putsTo_wo]
          simp only [Act.put, List.setIfInBounds_toArray, List.set_cons_succ, List.set_cons_zero]
          go_wp2
          have hx3 : Blk wc g 167 (digA (absorbN d x (i + k)).s (absorbN d x (i + k)).r (absorbN d x (i + k)).n) := by
            rw [hch.out, if_pos huk]
            simpa using hD3
          refine ⟨⟨i + k, off + i, 0, by omega, by rw [show len - (i + k) = 0 by omega], by omega, fun hl => absurd hl (by omega), hx3, grownBy_trans hgr2 hgr3⟩, by dsimp only; omega⟩
        · go_wp2
          have hD2 := hD1.set 72 (.int .i64 ((n : Int) + k))
          rw [digA_setn] at hD2
          have hgr2 := grownBy_trans hgr1 (grownBy_setCell w1 g 72 (.int .i64 ((n : Int) + k)))
          generalize w1.setCell ⟨g, 72, none⟩ (.int .i64 ((n : Int) + k)) = w2 at *
          clear hD1 hgr1 c72' f72' hgr
          refine wo_region _ g w2 s _ ((n : Int) + k) _ (by simp) rfl hD2 _ ?_
          intro wc hgr3 hD3
          rw [putsTo_wo]
          simp only [Act.put, List.setIfInBounds_toArray, List.set_cons_succ, List.set_cons_zero]
          go_wp2
          have hx3 : Blk wc g 167 (digA (absorbN d x (i + k)).s (absorbN d x (i + k)).r (absorbN d x (i + k)).n) := by
            rw [hch.out, if_pos huk]
            simpa using hD3
          refine ⟨⟨i + k, off + i + k, c - k, by omega, by rw [Nat.sub_sub], by omega, fun _ => Nat.add_assoc _ _ _, hx3, grownBy_trans hgr2 hgr3⟩, by dsimp only; omega⟩
      · have hukb : ((u : Int) + (k : Int) == 64) = false := by simp; omega
        go_wp2
        refine ⟨⟨i + k, _, c - k, by omega, by rw [hcc.out, Nat.sub_sub], by omega, hoo.out, ?_, grownBy_trans hgr1 (grownBy_setCell _ _ _ _)⟩, by dsimp only; omega⟩
        have h2 := hD1.set 72 (.int .i64 ((n : Int) + k))
        rw [digA_setn] at h2
        rw [hch.out, if_neg huk]
        simpa using h2
    · obtain rfl : i = len := by omega
      rw [Nat.sub_self]
      have hfin : Blk wr g 167 (digA (absorbN d x i).s (absorbN d x i).r (absorbN d x i).n) := by rw [← hDD.out]; exact hD
      go_wp2
      go_end0
      exact ⟨rfl, hfin, hgr⟩
end Go.Proofs.YtdkhjeofjhcceaaGreatDoor.Nd.Sh
namespace Go.Proofs.YtdkhjeofjhcceaaGreatDoor.Nd.Sh
open Go.RowKit

def zerosF (n : Nat) : Nat := (119 - n % 64) % 64
def endL (n : Nat) (j : Nat) : List Value := (Value.int .u8 128 :: List.replicate (zerosF n) (.int .u8 0)) ++ (List.range j).map fun t => .int .u8 (8 * (n : Int) / 2 ^ (56 - 8 * t) % 256)

theorem Tryz.info5 : (Tryz.prog.info? 5).map (fun i => (i.zero, i.size, i.bytes)) = some (some (.int .u8 0), 1, 1) := by kernel_rfl

theorem made_bytes (n : Nat) : madeCells #[.int .u8 0] n = bytesA n fun _ => 0 := by
  apply Array.ext_getElem?
  intro i
  by_cases h : i < n <;> simp [madeCells, bytesA, h, Nat.mod_one]

theorem run_make28 (l c : Nat) (hlc : l ≤ c) (hc : c ≤ 1000) (w : World) : (Instr.makeSlice 32 (.int .i64 (l : Int)) (.int .i64 (c : Int))).run Tryz.prog w = .ok (.slice (some ⟨w.heap.size, 0, none⟩) l c) (w.alloc (.cells (bytesA c fun _ => 0) 5)) := by
  obtain ⟨i, hi, hzz⟩ := Option.map_eq_some_iff.1 Tryz.info5
  simp only [Prod.mk.injEq] at hzz
  obtain ⟨hz, hs, hb⟩ := hzz
  have hr := run_make (P := Tryz.prog) w 32 5 i (.int .u8 0) Tryz.underlying32 hi hz .i64 .i64 (l : Int) (c : Int) (by omega) (by omega) (by rw [hb]; omega) (by omega)
  simp only [Int.toNat_natCast, hs, Nat.mul_one, Value.cells] at hr
  rw [made_bytes] at hr
  exact hr

set_option maxRecDepth 8000 in
set_option maxHeartbeats 1000000 in
theorem end_any (n : Nat) (w : World) (hn : (n : Int) ≤ 1152921504606846976) :
    Calls Tryz.prog 99 #[.int .i64 (n : Int)] w fun e w' => ∃ g, e = .returned (.slice (some ⟨g, 0, none⟩) (zerosF n + 9) (zerosF n + 9)) ∧ w.heap.size ≤ g ∧
      (∀ i v, (endL n 8)[i]? = some v → w'.cell? ⟨g, i, none⟩ = some v) ∧ Below w.heap.size w w' := by
  have hz : (119 - (n : Int) % 64) % 64 = (zerosF n : Int) := by unfold zerosF; omega
  have hzl : zerosF n < 64 := by unfold zerosF; omega
  obtain ⟨z, hzz⟩ : ∃ z, Keep (z = zerosF n) := ⟨_, ⟨rfl⟩⟩
  rw [← hzz.out] at hz hzl ⊢
  have hmk : ∀ w : World, (Instr.makeSlice 32 (.int .i64 (1 + (z : Int))) (.int .i64 (1 + (z : Int) + 8))).run Tryz.prog w = .ok (.slice (some ⟨w.heap.size, 0, none⟩) (z + 1) (z + 9)) (w.alloc (.cells (bytesA (z + 9) fun _ => 0) 5)) := by
    intro w
    have := run_make28 (z + 1) (z + 9) (by omega) (by omega) w
    rwa [show ((z + 1 : Nat) : Int) = 1 + (z : Int) by omega, show ((z + 9 : Nat) : Int) = 1 + (z : Int) + 8 by omega] at this
  have w1 : IntKind.u64.wrap (n : Int) = n := by rw [IntKind.wrap_u64]; omega
  have w2 : IntKind.u64.wrap (8 * (n : Int)) = 8 * n := by rw [IntKind.wrap_u64]; omega
  have hK := Blk.new w 5 (bytesA (z + 9) fun _ => 0)
  have c0 : (w.alloc (.cells (bytesA (z + 9) fun _ => 0) 5)).cell? ⟨w.heap.size, 0, none⟩ = some (.int .u8 0) := by rw [hK.cell, bytesA_get _ _ _ (by omega)]
  have f0 : (w.alloc (.cells (bytesA (z + 9) fun _ => 0) 5)).frozen? ⟨w.heap.size, 0, none⟩ = false := hK.frozen 0
  go_enter Tryz.func99, Tryz.ntmps99
  go_wp2
  have hown : (w.alloc (.cells ((bytesA (z + 9) fun _ => 0).setIfInBounds 0 (.int .u8 128)) 5)).ownsRow w.heap.size 5 1 (.slice (some ⟨w.heap.size, 0, none⟩) (z + 1) (z + 9)) (z + 1) (endL n 0) := by
    have hl : (endL n 0).length = z + 1 := by simp [endL, ← hzz.out]
    refine ⟨by rw [hl]; omega, .inr ⟨w.heap.size, z + 9, _, rfl, Nat.le_refl _, heap_alloc_new _ _, by omega, by unfold maxLen; omega, by simp [bytesA_size], ?_⟩⟩
    rw [bytesA_set]
    apply List.ext_getElem?
    intro i
    rw [List.getElem?_take, Array.getElem?_toList]
    by_cases h : i < (z + 1) * 1
    · rw [if_pos h, bytesA_get _ _ _ (by omega)]
      simp only [endL, List.range_zero, List.map_nil, List.append_nil, ← hzz.out, upd]
      cases i with
      | zero => rfl
      | succ i => rw [if_neg (by omega), List.getElem?_cons_succ, List.getElem?_replicate, if_pos (by omega)]
    · rw [if_neg h, List.getElem?_eq_none (by rw [hl]; omega)]
  have hB : Below w.heap.size w (w.alloc (.cells ((bytesA (z + 9) fun _ => 0).setIfInBounds 0 (.int .u8 128)) 5)) := below_new _ _
  clear c0 f0 hK
  generalize w.alloc (.cells ((bytesA (z + 9) fun _ => 0).setIfInBounds 0 (.int .u8 128)) 5) = w0 at *
  simp only [hz]
  go_loopw [4, 6] (fun b sh wr => ∃ j : Nat, j ≤ 8 ∧ sh = .int .i64 (56 - 8 * (j : Int)) ∧ b = .slice (some ⟨w.heap.size, 0, none⟩) (z + 1 + j) (z + 9) ∧ wr.ownsRow w.heap.size 5 1 (.slice (some ⟨w.heap.size, 0, none⟩) (z + 1 + j) (z + 9)) (z + 1 + j) (endL n j) ∧ Below w.heap.size w wr) (fun _ sh _ => (intOf sh + 8).toNat)
  case atStart => exact ⟨0, by omega, by simp, rfl, hown, hB⟩
  case round =>
    clear hown hB
    obtain ⟨j, hj, rfl, rfl, hown, hB⟩ := hrel
    by_cases hlt : j < 8
    · have hs0 : 0 ≤ 56 - 8 * (j : Int) := by omega
      have hs1 : 56 - 8 * (j : Int) ≤ 64 := by omega
      obtain ⟨i5, hi5, hzz5⟩ := Option.map_eq_some_iff.1 Tryz.info5
      simp only [Prod.mk.injEq] at hzz5
      have hone : Keep (∀ u ∈ [Value.int .u8 (8 * (n : Int) / 2 ^ (56 - 8 * j) % 256)], u.oneCell' = true) := ⟨by intro u hu; simp at hu; subst hu; rfl⟩
      have hownA : Keep ((wr.alloc (.cells #[Value.int .u8 (8 * (n : Int) / 2 ^ (56 - 8 * j) % 256)] 5)).ownsRow w.heap.size 5 1 (.slice (some ⟨w.heap.size, 0, none⟩) (z + 1 + j) (z + 9)) (z + 1 + j) (endL n j)) := ⟨by
        obtain ⟨h1, h2⟩ := hown
        refine ⟨h1, ?_⟩
        rcases h2 with h2 | ⟨g, cap, cur, e, hg, hh, r⟩
        · exact .inl h2
        · exact .inr ⟨g, cap, cur, e, hg, by rw [Below.heap_alloc _ _ _ (Array.getElem?_eq_some_iff.1 hh).1]; exact hh, r⟩⟩
      have hKi : Keep (Tryz.prog.info? 5 = some i5) := ⟨hi5⟩
      have hKs : Keep (i5.size = 1) := ⟨hzz5.2.1⟩
      clear hi5 hzz5
      go_wp2_with (at_builtin; refine wpList_append_fits _ rfl (.tmp 26) (.tmp 31) 32 rfl w.heap.size 5 i5 1 Tryz.underlying32 hKi.out hKs.out w.heap.size (z + 1 + j) (z + 9) (endL n j) rfl hownA.out ⟨wr.heap.size, 0, none⟩ 1 1 [Value.int .u8 (8 * (n : Int) / 2 ^ (56 - 8 * j) % 256)] rfl rfl (cell_one_new _ _ _) hone.out (by omega) ?_; intro w' hown' hgr')
      have hlz : w.heap.size ≤ wr.heap.size := hB.size
      have hB' : Below w.heap.size w w' := (hB.alloc hlz (.cells #[Value.int .u8 (8 * (n : Int) / 2 ^ (56 - 8 * j) % 256)] 5)).grown hgr' (by simp; omega) (fun k e => by injection e with e; omega)
      have hL : endL n j ++ [Value.int .u8 (8 * (n : Int) / 2 ^ (56 - 8 * j) % 256)] = endL n (j + 1) := by simp only [endL, List.range_succ, List.map_append, List.map_cons, List.map_nil, List.append_assoc]
      rw [hL] at hown'
      go_roundw
      case rel =>
        exact ⟨j + 1, by omega, by congr 1; omega, rfl, hown', hB'⟩
      case measure => simp [intOf]; omega
    · obtain rfl : j = 8 := by omega
      go_wp2
      go_ret
      refine ⟨w.heap.size, rfl, Nat.le_refl _, fun i v hv => ?_, hB⟩
      have hi : i < (endL n 8).length := (List.getElem?_eq_some_iff.1 hv).1
      rw [hown.cellAt i (by rw [← hown.1]; exact hi)]
      exact hv
end Go.Proofs.YtdkhjeofjhcceaaGreatDoor.Nd.Sh
namespace Go.Proofs.YtdkhjeofjhcceaaGreatDoor.Nd.Sh
open Go.RowKit

def layUp (s : Nat → Int) : Nat → (Nat → Int)
  | 0 => fun _ => 0
  | t + 1 => upd (upd (upd (upd (layUp s t) (4 * t) (s t / 16777216 % 256)) (4 * t + 1) (s t / 65536 % 256)) (4 * t + 2) (s t / 256 % 256)) (4 * t + 3) (s t % 256)

theorem index60_0 (s : Nat → Int) (w : World) : (Instr.index 163 (.agg (wordsA 8 s)) (.int .i64 0)).run Tryz.prog w = .ok (.int .u32 (s 0)) w := by kernel_rfl
theorem index60_1 (s : Nat → Int) (w : World) : (Instr.index 163 (.agg (wordsA 8 s)) (.int .i64 1)).run Tryz.prog w = .ok (.int .u32 (s 1)) w := by kernel_rfl
theorem index60_2 (s : Nat → Int) (w : World) : (Instr.index 163 (.agg (wordsA 8 s)) (.int .i64 2)).run Tryz.prog w = .ok (.int .u32 (s 2)) w := by kernel_rfl
theorem index60_3 (s : Nat → Int) (w : World) : (Instr.index 163 (.agg (wordsA 8 s)) (.int .i64 3)).run Tryz.prog w = .ok (.int .u32 (s 3)) w := by kernel_rfl
theorem index60_4 (s : Nat → Int) (w : World) : (Instr.index 163 (.agg (wordsA 8 s)) (.int .i64 4)).run Tryz.prog w = .ok (.int .u32 (s 4)) w := by kernel_rfl
theorem index60_5 (s : Nat → Int) (w : World) : (Instr.index 163 (.agg (wordsA 8 s)) (.int .i64 5)).run Tryz.prog w = .ok (.int .u32 (s 5)) w := by kernel_rfl
theorem index60_6 (s : Nat → Int) (w : World) : (Instr.index 163 (.agg (wordsA 8 s)) (.int .i64 6)).run Tryz.prog w = .ok (.int .u32 (s 6)) w := by kernel_rfl
theorem index60_7 (s : Nat → Int) (w : World) : (Instr.index 163 (.agg (wordsA 8 s)) (.int .i64 7)).run Tryz.prog w = .ok (.int .u32 (s 7)) w := by kernel_rfl
theorem index60 (s : Nat → Int) (t : Nat) (ht : t < 8) (w : World) : (Instr.index 163 (.agg (wordsA 8 s)) (.int .i64 (t : Int))).run Tryz.prog w = .ok (.int .u32 (s t)) w := by
  match t, ht with
  | 0, _ => exact index60_0 s w
  | 1, _ => exact index60_1 s w
  | 2, _ => exact index60_2 s w
  | 3, _ => exact index60_3 s w
  | 4, _ => exact index60_4 s w
  | 5, _ => exact index60_5 s w
  | 6, _ => exact index60_6 s w
  | 7, _ => exact index60_7 s w
  | n + 8, h => omega

set_option maxRecDepth 8000 in
set_option maxHeartbeats 1000000 in
theorem lay_any (s : Nat → Int) (w : World) :
    Calls Tryz.prog 100 #[.agg (wordsA 8 s)] w fun e w' => e = .returned (.agg (bytesA 32 (layUp s 8))) ∧ Below w.heap.size w w' := by
  go_enter Tryz.func100, Tryz.ntmps100
  go_wp2_with (first | (refine wpList_boxA rfl 163 (.tmp 0) rfl (wordsA 8 s) rfl ?_; refine wpList_new rfl 50 rfl _ Tryz.new50 ?_) | (refine wpList_new rfl 50 rfl _ Tryz.new50 ?_) | (refine wpList_load_row rfl 163 (.tmp 1) rfl w.heap.size rfl 163 (wordsA 8 s) (0, 0) (.array 8 162) (((Blk.new w 163 (wordsA 8 s)).alloc _).alloc _) Tryz.underlying163 rfl (Tryz.size163W _) ?_))
  have hR := (Blk.new (w.alloc (.cells (wordsA 8 s) 163)) 50 (bytesA 32 fun _ => 0)).alloc (.cells (bytesA 32 fun _ => 0) 50)
  have hH := Blk.new ((w.alloc (.cells (wordsA 8 s) 163)).alloc (.cells (bytesA 32 fun _ => 0) 50)) 50 (bytesA 32 fun _ => 0)
  have hB : Below w.heap.size w (((w.alloc (.cells (wordsA 8 s) 163)).alloc (.cells (bytesA 32 fun _ => 0) 50)).alloc (.cells (bytesA 32 fun _ => 0) 50)) :=
    (((Below.refl _ _).alloc (Nat.le_refl _) _).alloc (by simp) _).alloc (by simp; omega) _
  simp only [World.size_alloc] at hR hH
  generalize (((w.alloc (.cells (wordsA 8 s) 163)).alloc (.cells (bytesA 32 fun _ => 0) 50)).alloc (.cells (bytesA 32 fun _ => 0) 50)) = w0 at *
  go_loopw [7] (fun i wr => ∃ t : Nat, t ≤ 8 ∧ i = .int .i64 t ∧ Blk wr (w.heap.size + 1) 50 (bytesA 32 fun _ => 0) ∧ Blk wr (w.heap.size + 1 + 1) 50 (bytesA 32 (layUp s t)) ∧ Below w.heap.size w wr) (fun i _ => 8 - (intOf i).toNat)
  case atStart => exact ⟨0, by omega, rfl, hR, hH, hB⟩
  case round =>
    clear hR hH hB
    obtain ⟨t, ht, rfl, hR, hH, hB⟩ := hrel
    by_cases hlt : t < 8
    · have hix := index60 s t hlt
      have hlt' : (t : Int) < 8 := by omega
      have c0 : wr.cell? ⟨w.heap.size + 1 + 1, 4 * t, none⟩ = some (.int .u8 (layUp s t (4 * t))) := by rw [hH.cell, bytesA_get _ _ _ (by omega)]
      have f0 : wr.frozen? ⟨w.heap.size + 1 + 1, 4 * t, none⟩ = false := hH.frozen _
      have c1 : wr.cell? ⟨w.heap.size + 1 + 1, 4 * t + 1, none⟩ = some (.int .u8 (layUp s t (4 * t + 1))) := by rw [hH.cell, bytesA_get _ _ _ (by omega)]
      have f1 : wr.frozen? ⟨w.heap.size + 1 + 1, 4 * t + 1, none⟩ = false := hH.frozen _
      have c2 : wr.cell? ⟨w.heap.size + 1 + 1, 4 * t + 2, none⟩ = some (.int .u8 (layUp s t (4 * t + 2))) := by rw [hH.cell, bytesA_get _ _ _ (by omega)]
      have f2 : wr.frozen? ⟨w.heap.size + 1 + 1, 4 * t + 2, none⟩ = false := hH.frozen _
      have c3 : wr.cell? ⟨w.heap.size + 1 + 1, 4 * t + 3, none⟩ = some (.int .u8 (layUp s t (4 * t + 3))) := by rw [hH.cell, bytesA_get _ _ _ (by omega)]
      have f3 : wr.frozen? ⟨w.heap.size + 1 + 1, 4 * t + 3, none⟩ = false := hH.frozen _
      go_wp2
      go_roundw
      case rel =>
        have ne : w.heap.size + 1 ≠ w.heap.size + 1 + 1 := by omega
        have le : w.heap.size ≤ w.heap.size + 1 + 1 := by omega
        have h := (((hH.set (4 * t) (.int .u8 (s t / 16777216 % 256))).set (4 * t + 1) (.int .u8 (s t / 65536 % 256))).set (4 * t + 2) (.int .u8 (s t / 256 % 256))).set (4 * t + 3) (.int .u8 (s t % 256))
        rw [bytesA_set, bytesA_set, bytesA_set, bytesA_set] at h
        exact ⟨t + 1, by omega, by go_num, (((hR.set_ne ne _).set_ne ne _).set_ne ne _).set_ne ne _, h, (((hB.setCell le _).setCell le _).setCell le _).setCell le _⟩
      case measure => simp [intOf]; omega
    · obtain rfl : t = 8 := by omega
      clear hlt ht
      obtain ⟨c, hc⟩ : ∃ c, Keep (c = layUp s 8) := ⟨_, ⟨rfl⟩⟩
      rw [← hc.out] at hH
      go_wp2_with (refine wpList_load_row rfl 50 (.tmp 3) rfl (w.heap.size + 1 + 1) rfl 50 (bytesA 32 c) (0, 0) (.array 32 5) hH Tryz.underlying50 rfl (Tryz.size50B _) ?_; refine wpList_store_row rfl 50 (.tmp 2) (.tmp 38) rfl (w.heap.size + 1) (bytesA 32 c) rfl rfl 50 (bytesA 32 fun _ => 0) hR (Tryz.size50B _) (bytesA_sizes _ _ _) (bytesA_one _ _) ?_)
      exact bodyPost_ret (v := .agg (bytesA 32 c)) (results_cell_row Tryz.results100 _ _ (w.heap.size + 1) 50 _ (0, 0) _ rfl (hR.setRow _) Tryz.underlying50 rfl (Tryz.size50B _)) rfl ⟨by rw [hc.out], below_setRow hB (by omega) _⟩
end Go.Proofs.YtdkhjeofjhcceaaGreatDoor.Nd.Sh
namespace Go.Proofs.YtdkhjeofjhcceaaGreatDoor.Nd.Sh
open Go.RowKit

def endX (n i : Nat) : Int := if i = 0 then 128 else if i ≤ zerosF n then 0 else 8 * (n : Int) / 2 ^ (56 - 8 * (i - zerosF n - 1)) % 256
theorem endL_get (n i : Nat) (h : i < zerosF n + 9) : (endL n 8)[i]? = some (.int .u8 (endX n i)) := by
  unfold endL endX
  rw [List.getElem?_append, List.length_cons, List.length_replicate]
  by_cases h1 : i < zerosF n + 1
  · rw [if_pos h1]
    cases i with
    | zero => rfl
    | succ i => rw [List.getElem?_cons_succ, List.getElem?_replicate, if_pos (by omega), if_neg (by omega), if_pos (by omega)]
  · rw [if_neg h1, if_neg (by omega), if_neg (by omega), List.getElem?_map, List.getElem?_range (by omega)]
    simp only [Option.map_some]
    rw [show i - (zerosF n + 1) = i - zerosF n - 1 by omega]

def dg0 : Dg := ⟨beginF, fun _ => 0, 0⟩
def sumF (d : Dg) : Nat → Int := layUp (absorbN d (endX d.n) (zerosF d.n + 9)).s 8

theorem Tryz.new167 (w : World) : (Instr.alloc 167 true (.tuple #[])).run Tryz.prog w = .ok (.pointer (some ⟨w.heap.size, 0, none⟩)) (w.alloc (.cells (digA (fun _ => 0) (fun _ => 0) 0) 167)) := by kernel_rfl
theorem digA_sizes (s r s' r' : Nat → Int) (n n' : Int) : (digA s r n).size = (digA s' r' n').size := by rw [digA_size, digA_size]

set_option maxRecDepth 8000 in
set_option maxHeartbeats 1000000 in
theorem sum_any (g : Nat) (d : Dg) (w : World) (hg : Blk w g 167 (digA d.s d.r d.n)) (hn : (d.n : Int) ≤ 576460752303423488) :
    Calls Tryz.prog 68 #[ptr g] w fun e w' => e = .returned (.agg (bytesA 32 (sumF d))) ∧ Below w.heap.size w w' := by
  have hlt := hg.lt
  obtain ⟨s, r, n⟩ := d
  dsimp only at hg hn
  have hg1 := (hg.alloc (.cells (bytesA 32 fun _ => 0) 50))
  have hc1 := Blk.new (w.alloc (.cells (bytesA 32 fun _ => 0) 50)) 167 (digA (fun _ => 0) (fun _ => 0) 0)
  have HG : Keep (Blk (w.alloc (.cells (bytesA 32 fun _ => 0) 50)) g 167 (digA s r n)) := ⟨hg1⟩
  have HC : Keep (Blk ((w.alloc (.cells (bytesA 32 fun _ => 0) 50)).alloc (.cells (digA (fun _ => 0) (fun _ => 0) 0) 167)) (w.heap.size + 1) 167 (digA (fun _ => 0) (fun _ => 0) 0)) := ⟨by simpa using hc1⟩
  have hg2 := (hg1.alloc (.cells (digA (fun _ => 0) (fun _ => 0) 0) 167)).setRow_ne (b' := w.heap.size + 1) (by omega) (digA s r n)
  have hc2 := HC.out.setRow (digA s r n)
  have hr2 := ((Blk.new w 50 (bytesA 32 fun _ => 0)).alloc (.cells (digA (fun _ => 0) (fun _ => 0) 0) 167)).setRow_ne (b' := w.heap.size + 1) (by omega) (digA s r n)
  have hB2 : Below w.heap.size w (((w.alloc (.cells (bytesA 32 fun _ => 0) 50)).alloc (.cells (digA (fun _ => 0) (fun _ => 0) 0) 167)).setRow (w.heap.size + 1) (digA s r n)) :=
    below_setRow (((Below.refl _ _).alloc (Nat.le_refl _) _).alloc (by simp) _) (by omega) _
  clear hg hg1 hc1
  obtain ⟨w2, hw2⟩ : ∃ w2, Keep (w2 = ((w.alloc (.cells (bytesA 32 fun _ => 0) 50)).alloc (.cells (digA (fun _ => 0) (fun _ => 0) 0) 167)).setRow (w.heap.size + 1) (digA s r n)) := ⟨_, ⟨rfl⟩⟩
  rw [← hw2.out] at hg2 hc2 hr2 hB2
  have c72 : w2.cell? ⟨g, 72, none⟩ = some (.int .i64 n) := by rw [hg2.cell, digA_n]
  go_enter Tryz.func68, Tryz.ntmps68
  go_wp2_with (first | (refine wpList_new rfl 50 rfl _ Tryz.new50 ?_) | (refine wpList_load_row rfl 167 (.tmp 5) rfl g rfl 167 (digA s r n) (0, 0) _ HG.out Tryz.underlying167 rfl (Tryz.size167D _ _ _) ?_; refine wpList_new rfl 167 rfl _ Tryz.new167 ?_; refine wpList_store_row rfl 167 (.tmp 3) (.tmp 6) rfl (w.heap.size + 1) (digA s r n) (by simp [Act.put, Act.eval]) rfl 167 (digA (fun _ => 0) (fun _ => 0) 0) HC.out (Tryz.size167D _ _ _) (digA_sizes _ _ _ _ _ _) (digA_one _ _ _) ?_; rw [← hw2.out]))
  refine (end_any n _ (by omega)).mono ?_
  rintro e w3 ⟨h, rfl, hle, hcells, hB3⟩
  have hsz2 := hB2.size
  have hc3 := hc2.below hB3 hc2.lt
  have hr3 := hr2.below hB3 hr2.lt
  have hltc := hc2.lt
  have hz9 : zerosF n + 9 ≤ 72 := by unfold zerosF; omega
  have HX : Keep (∀ i, i < zerosF n + 9 → w3.cell? ⟨h, 0 + i, none⟩ = some (.int .u8 (endX n i))) := ⟨fun i hi => by rw [Nat.zero_add]; exact hcells i _ (endL_get n i hi)⟩
  clear hcells c72
  have HB3 : Keep (Below w.heap.size w w3) := ⟨hB2.trans (hB3.mono hsz2)⟩
  go_wp2_with fail
  refine (write_any (w.heap.size + 1) ⟨s, r, n⟩ (endX n) (zerosF n + 9) (zerosF n + 9) h 0 w3 hc3 (by omega) HX.out (by dsimp only; omega) (Nat.le_refl _)).mono ?_
  rintro e w4 ⟨rfl, hc4, hgr4⟩
  have hr4 : Blk w4 w.heap.size 50 (bytesA 32 fun _ => 0) := by
    unfold Blk; rw [hgr4.block _ hr3.lt (by simp)]; exact hr3
  have hB4 : Below w.heap.size w w4 := HB3.out.grown hgr4 (by have := HB3.out.size; omega) (fun k e => by injection e with e; omega)
  obtain ⟨D, hD⟩ : ∃ D, Keep (D = absorbN ⟨s, r, n⟩ (endX n) (zerosF n + 9)) := ⟨_, ⟨rfl⟩⟩
  rw [← hD.out] at hc4
  obtain ⟨s', r', n'⟩ := D
  dsimp only at hc4
  have hrng := dig_range0 hc4
  go_wp2_with (refine wpList_load_mid rfl 163 (.tmp 13) rfl (w.heap.size + 1) 0 rfl (wordsA 8 s').toList (.array 8 162) hrng Tryz.underlying163 rfl (by rw [Array.length_toList]; exact Tryz.size163W s') ?_; rw [Array.toArray_toList])
  refine (lay_any s' _).mono ?_
  rintro e w5 ⟨rfl, hB5⟩
  have hr5 := hr4.below hB5 hr4.lt
  have hB5' := hB4.trans (hB5.mono hB4.size)
  obtain ⟨c, hc⟩ : ∃ c, Keep (c = layUp s' 8) := ⟨_, ⟨rfl⟩⟩
  rw [← hc.out]
  go_wp2_with (refine wpList_store_row rfl 50 (.tmp 2) (.tmp 15) rfl w.heap.size (bytesA 32 c) rfl rfl 50 (bytesA 32 fun _ => 0) hr5 (Tryz.size50B _) (bytesA_sizes _ _ _) (bytesA_one _ _) ?_)
  exact bodyPost_ret (v := .agg (bytesA 32 c)) (results_cell_row Tryz.results68 _ _ w.heap.size 50 _ (0, 0) _ rfl (hr5.setRow _) Tryz.underlying50 rfl (Tryz.size50B _)) rfl ⟨by rw [hc.out]; unfold sumF; rw [← hD.out], below_setRow hB5' (Nat.le_refl _) _⟩
end Go.Proofs.YtdkhjeofjhcceaaGreatDoor.Nd.Sh
namespace Go.Proofs.YtdkhjeofjhcceaaGreatDoor.Nd.Sh
open Go.RowKit

def absorbL (d : Dg) (l : List Int) : Dg := l.foldl absorb d
theorem absorbL_append (d : Dg) (l m : List Int) : absorbL d (l ++ m) = absorbL (absorbL d l) m := by simp [absorbL]
theorem absorbN_L (d : Dg) (l : List Int) (k : Nat) (hk : k ≤ l.length) : absorbN d (fun i => l.getD i 0) k = absorbL d (l.take k) := by
  induction k with
  | zero => rfl
  | succ k ih =>
    rw [List.take_succ_eq_append_getElem (by omega), absorbL_append, ← ih (by omega)]
    simp [absorbN, absorbL, List.getD, show k < l.length by omega]
theorem absorbN_all (d : Dg) (l : List Int) : absorbN d (fun i => l.getD i 0) l.length = absorbL d l := by
  rw [absorbN_L d l l.length (Nat.le_refl _), List.take_length]
theorem absorbL_n (d : Dg) (l : List Int) : (absorbL d l).n = d.n + l.length := by rw [← absorbN_all, absorbN_n]

def RowAt (w : World) (v : Value) (l : List Int) : Prop :=
  (v = .slice none 0 0 ∧ l = []) ∨ (∃ a c, v = .slice (some a) 0 c ∧ l = []) ∨ ∃ h off cap, v = .slice (some ⟨h, off, none⟩) l.length cap ∧ l.length ≤ cap ∧ ∀ i, i < l.length → w.cell? ⟨h, off + i, none⟩ = some (.int .u8 (l.getD i 0))

theorem cell_lt {w : World} {h j : Nat} {v : Value} (hc : w.cell? ⟨h, j, none⟩ = some v) : h < w.heap.size := by
  apply Nat.lt_of_not_le; intro hle
  simp [World.cell?, Array.getElem?_eq_none hle] at hc

theorem RowAt.below {w w' : World} {v : Value} {l : List Int} (h : RowAt w v l) (hb : Below w.heap.size w w') : RowAt w' v l := by
  rcases h with h | h | ⟨b, off, cap, h1, h2, h3⟩
  · exact .inl h
  · exact .inr (.inl h)
  · exact .inr <| .inr ⟨b, off, cap, h1, h2, fun i hi => by rw [hb.cell (p := ⟨b, off + i, none⟩) (cell_lt (h3 i hi))]; exact h3 i hi⟩

set_option maxRecDepth 8000 in
set_option maxHeartbeats 400000 in
theorem write_none (g : Nat) (a : Option Addr) (c : Nat) (w : World) :
    Calls Tryz.prog 67 #[ptr g, .slice a 0 c] w fun e w' => e = .returned (.tuple #[]) ∧ w' = w := by
  go_enter Tryz.func67, Tryz.ntmps67
  go_wp2
  refine wp_loop_rounds 1 ?_; rw [rounds_succ]
  go_wp2
  go_end0
  exact ⟨rfl, rfl⟩

theorem write_row (g : Nat) (d : Dg) (v : Value) (l : List Int) (w0 w : World) (hb : Below w0.heap.size w0 w) (hg0 : w0.heap.size ≤ g) (hrow : RowAt w0 v l) (hg : Blk w g 167 (digA d.s d.r d.n))
    (hlen : (d.n : Int) + l.length ≤ 1152921504606846976) :
    Calls Tryz.prog 67 #[ptr g, v] w fun e w' => e = .returned (.tuple #[]) ∧ Blk w' g 167 (digA (absorbL d l).s (absorbL d l).r (absorbL d l).n) ∧ Below w0.heap.size w0 w' := by
  rcases hrow with ⟨rfl, rfl⟩ | ⟨a, c, rfl, rfl⟩ | ⟨h, off, cap, rfl, hcap, hx⟩
  · refine (write_none g none 0 w).mono ?_
    rintro e w' ⟨rfl, rfl⟩
    exact ⟨rfl, hg, hb⟩
  · refine (write_none g (some a) c w).mono ?_
    rintro e w' ⟨rfl, rfl⟩
    exact ⟨rfl, hg, hb⟩
  · by_cases h0 : l.length = 0
    · obtain rfl := List.eq_nil_of_length_eq_zero h0
      refine (write_none g (some ⟨h, off, none⟩) cap w).mono ?_
      rintro e w' ⟨rfl, rfl⟩
      exact ⟨rfl, hg, hb⟩
    · have hlt := cell_lt (hx 0 (by omega))
      refine (write_any g d (fun i => l.getD i 0) l.length cap h off w hg (by omega) (fun i hi => by rw [hb.cell (p := ⟨h, off + i, none⟩) hlt]; exact hx i hi) hlen hcap).mono ?_
      rintro e w' ⟨rfl, h1, h2⟩
      rw [absorbN_all] at h1
      exact ⟨rfl, h1, hb.grown h2 (by have := hb.size; omega) (fun k e => by injection e with e; omega)⟩

def shaP (l : List Int) : Nat → Int := sumF (absorbL dg0 l)

def concat (rows : Nat → List Int) : Nat → List Int
  | 0 => []
  | i + 1 => concat rows i ++ rows i

theorem concat_le (rows : Nat → List Int) (i m : Nat) (hi : i ≤ m) : (concat rows i).length ≤ (concat rows m).length := by
  obtain ⟨k, rfl⟩ : ∃ k, m = i + k := ⟨m - i, by omega⟩
  clear hi
  induction k with
  | zero => exact Nat.le_refl _
  | succ k ih => rw [← Nat.add_assoc]; simp only [concat, List.length_append]; exact Nat.le_trans ih (Nat.le_add_right _ _)

set_option maxRecDepth 8000 in
set_option maxHeartbeats 1000000 in
theorem ofAll_any (q o m cap : Nat) (V : Nat → Value) (rows : Nat → List Int) (w : World) (hV : ∀ i, i < m → w.cell? ⟨q, o + i, none⟩ = some (V i)) (hrow : ∀ i, i < m → RowAt w (V i) (rows i))
    (hm : (m : Int) ≤ 9223372036854775807) (hlen : ((concat rows m).length : Int) ≤ 576460752303423488) :
    Calls Tryz.prog 41 #[.slice (some ⟨q, o, none⟩) m cap] w fun e w' => e = .returned (.agg (bytesA 32 (shaP (concat rows m)))) ∧ Below w.heap.size w w' := by
  have hbA := below_new w (.cells (bytesA 32 fun _ => 0) 50)
  have HV : Keep (∀ i, i < m → (w.alloc (.cells (bytesA 32 fun _ => 0) 50)).cell? ⟨q, o + i, none⟩ = some (V i)) := ⟨fun i hi => by rw [hbA.cell (p := ⟨q, o + i, none⟩) (cell_lt (hV i hi))]; exact hV i hi⟩
  have HR : Keep (∀ i, i < m → RowAt (w.alloc (.cells (bytesA 32 fun _ => 0) 50)) (V i) (rows i)) := ⟨fun i hi => (hrow i hi).below hbA⟩
  clear hV hrow
  go_enter Tryz.func41, Tryz.ntmps41
  go_wp2_with (first | (refine wpList_new rfl 50 rfl _ Tryz.new50 ?_))
  refine (new_any _).mono ?_
  rintro e w1 ⟨rfl, rfl⟩
  simp only [World.size_alloc]
  go_wp2_with fail
  have hG := Blk.new ((w.alloc (.cells (bytesA 32 fun _ => 0) 50)).alloc (.cells (wordsA 8 beginF) 163)) 167 (digA beginF (fun _ => 0) 0)
  have hR := Blk.new w 50 (bytesA 32 fun _ => 0)
  have hsA : (w.alloc (.cells (bytesA 32 fun _ => 0) 50)).heap.size = w.heap.size + 1 := by simp
  have hB : Below (w.heap.size + 1) (w.alloc (.cells (bytesA 32 fun _ => 0) 50)) (((w.alloc (.cells (bytesA 32 fun _ => 0) 50)).alloc (.cells (wordsA 8 beginF) 163)).alloc (.cells (digA beginF (fun _ => 0) 0) 167)) :=
    ((Below.refl _ _).alloc (by simp) _).alloc (by simp) _
  simp only [World.size_alloc] at hG
  generalize (((w.alloc (.cells (bytesA 32 fun _ => 0) 50)).alloc (.cells (wordsA 8 beginF) 163)).alloc (.cells (digA beginF (fun _ => 0) 0) 167)) = w0 at *
  generalize w.alloc (.cells (bytesA 32 fun _ => 0) 50) = wA at *
  have HL : Keep (∀ i, i ≤ m → (concat rows i).length ≤ (concat rows m).length) := ⟨fun i hi => concat_le rows i m hi⟩
  have HA : Keep (wA.heap.size = w.heap.size + 1) := ⟨hsA⟩
  clear hsA
  go_loopw [9] (fun i wr => ∃ t : Nat, t ≤ m ∧ i = .int .i64 t ∧ Blk wr (w.heap.size + 1 + 1) 167 (digA (absorbL dg0 (concat rows t)).s (absorbL dg0 (concat rows t)).r (absorbL dg0 (concat rows t)).n) ∧ Below (w.heap.size + 1) wA wr) (fun i _ => m - (intOf i).toNat)
  case atStart => exact ⟨0, by omega, rfl, hG, hB⟩
  case round =>
    clear hG hB
    obtain ⟨t, ht, rfl, hGr, hBr⟩ := hrel
    by_cases hlt : t < m
    · have hlt' : (t : Int) < (m : Int) := by omega
      have hcell := HV.out t hlt
      have hc : wr.cell? ⟨q, o + t, none⟩ = some (V t) := by rw [hBr.cell (p := ⟨q, o + t, none⟩) (by rw [← HA.out]; exact cell_lt hcell)]; exact hcell
      clear hcell
      have hLt := HL.out (t + 1) hlt
      simp only [concat, List.length_append] at hLt
      have HRow : Keep (RowAt wA (V t) (rows t)) := ⟨HR.out t hlt⟩
      go_wp2_with fail
      refine (write_row (w.heap.size + 1 + 1) (absorbL dg0 (concat rows t)) (V t) (rows t) wA wr (by rw [HA.out]; exact hBr) (by rw [HA.out]; omega) HRow.out hGr (by rw [absorbL_n]; show ((0 + (concat rows t).length : Nat) : Int) + _ ≤ _; omega)).mono ?_
      rintro e w' ⟨rfl, hG', hB'⟩
      rw [HA.out] at hB'
      rw [← absorbL_append] at hG'
      go_wp2
      go_roundw
      case rel => exact ⟨t + 1, by omega, by go_num, hG', hB'⟩
      case measure => simp [intOf]; omega
    · obtain rfl : t = m := by omega
      go_wp2_with fail
      refine (sum_any (w.heap.size + 1 + 1) (absorbL dg0 (concat rows t)) wr hGr (by rw [absorbL_n]; show ((0 + (concat rows t).length : Nat) : Int) ≤ _; omega)).mono ?_
      rintro e w5 ⟨rfl, hB5⟩
      have hr5 : Blk w5 w.heap.size 50 (bytesA 32 fun _ => 0) := (hR.below hBr (by omega)).below hB5 (by have := hGr.lt; omega)
      have hB5' : Below w.heap.size w w5 := hbA.trans ((hBr.mono (by omega)).trans (hB5.mono (by have := hGr.lt; omega)))
      obtain ⟨c, hc⟩ : ∃ c, Keep (c = sumF (absorbL dg0 (concat rows t))) := ⟨_, ⟨rfl⟩⟩
      rw [← hc.out]
      go_wp2_with (refine wpList_store_row rfl 50 (.tmp 2) (.tmp 18) rfl w.heap.size (bytesA 32 c) rfl rfl 50 (bytesA 32 fun _ => 0) hr5 (Tryz.size50B _) (bytesA_sizes _ _ _) (bytesA_one _ _) ?_)
      exact bodyPost_ret (v := .agg (bytesA 32 c)) (results_cell_row Tryz.results41 _ _ w.heap.size 50 _ (0, 0) _ rfl (hr5.setRow _) Tryz.underlying50 rfl (Tryz.size50B _)) rfl ⟨by rw [hc.out]; rfl, below_setRow hB5' (Nat.le_refl _) _⟩

set_option maxRecDepth 8000 in
set_option maxHeartbeats 1000000 in
theorem of_any (v : Value) (l : List Int) (w : World) (hrow : RowAt w v l) (hlen : (l.length : Int) ≤ 576460752303423488) :
    Calls Tryz.prog 24 #[v] w fun e w' => e = .returned (.agg (bytesA 32 (shaP l))) ∧ Below w.heap.size w w' := by
  obtain ⟨pa, pn, pc, rfl⟩ : ∃ a n c, v = .slice a n c := by
    rcases hrow with ⟨rfl, _⟩ | ⟨a, c, rfl, _⟩ | ⟨h, off, cap, rfl, _⟩
    · exact ⟨_, _, _, rfl⟩
    · exact ⟨_, _, _, rfl⟩
    · exact ⟨_, _, _, rfl⟩
  have HRow : Keep (RowAt ((w.alloc (.cells (bytesA 32 fun _ => 0) 50)).alloc (.cells #[.slice pa pn pc] 32)) (.slice pa pn pc) l) := ⟨hrow.below (((Below.refl _ _).alloc (Nat.le_refl _) _).alloc (by simp) _)⟩
  have hR := (Blk.new w 50 (bytesA 32 fun _ => 0)).alloc (.cells #[.slice pa pn pc] 32)
  have hB : Below w.heap.size w ((w.alloc (.cells (bytesA 32 fun _ => 0) 50)).alloc (.cells #[.slice pa pn pc] 32)) := ((Below.refl _ _).alloc (Nat.le_refl _) _).alloc (by simp) _
  have HV : Keep (((w.alloc (.cells (bytesA 32 fun _ => 0) 50)).alloc (.cells #[.slice pa pn pc] 32)).cell? ⟨w.heap.size + 1, 0, none⟩ = some (.slice pa pn pc)) := ⟨by
    have h := Blk.new (w.alloc (.cells (bytesA 32 fun _ => 0) 50)) 32 #[.slice pa pn pc]
    simp only [World.size_alloc] at h
    rw [h.cell]; rfl⟩
  clear hrow
  go_enter Tryz.func24, Tryz.ntmps24
  go_wp2_with (first | (refine wpList_new rfl 50 rfl _ Tryz.new50 ?_))
  generalize ((w.alloc (.cells (bytesA 32 fun _ => 0) 50)).alloc (.cells #[.slice pa pn pc] 32)) = w0 at *
  refine (ofAll_any (w.heap.size + 1) 0 1 1 (fun _ => .slice pa pn pc) (fun _ => l) w0 (fun i hi => by have e : i = 0 := (by omega); rw [e]; exact HV.out) (fun i _ => HRow.out) (by omega) (by simpa [concat] using hlen)).mono ?_
  rintro e w5 ⟨rfl, hB5⟩
  have hr5 := hR.below hB5 hR.lt
  have hB5' := hB.trans (hB5.mono hB.size)
  obtain ⟨c, hc⟩ : ∃ c, Keep (c = shaP (concat (fun _ => l) 1)) := ⟨_, ⟨rfl⟩⟩
  rw [← hc.out]
  go_wp2_with (refine wpList_store_row rfl 50 (.tmp 2) (.tmp 5) rfl w.heap.size (bytesA 32 c) rfl rfl 50 (bytesA 32 fun _ => 0) hr5 (Tryz.size50B _) (bytesA_sizes _ _ _) (bytesA_one _ _) ?_)
  exact bodyPost_ret (v := .agg (bytesA 32 c)) (results_cell_row Tryz.results24 _ _ w.heap.size 50 _ (0, 0) _ rfl (hr5.setRow _) Tryz.underlying50 rfl (Tryz.size50B _)) rfl ⟨by rw [hc.out]; simp [concat], below_setRow hB5' (Nat.le_refl _) _⟩
end Go.Proofs.YtdkhjeofjhcceaaGreatDoor.Nd.Sh
