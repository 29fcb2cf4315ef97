import Derived.Test.YtlogkojhcccogaaB02
import Derived.Test.YtlogkojhcccogaaB03
import Derived.Test.YtlogkojhcccogaaB01
import Derived.ArgAppend
import Derived.Lib.ConvBytes
import Derived.Deep.RegionWith
import Derived.Maps.Own
import Derived.Defers
import Derived.Recover
import Derived.Laws.StructEq
import Derived.ChangeKeysEq
import Derived.Sort.Grow
import Derived.Deep.Draws
import Derived.Deep.QuietTactic
import Derived.BigQuiet
import Derived.Deep.MidRow
import Derived.Deep.RegionHeld3
import Derived.Lib.Bytealg
namespace Go.Proofs.Ytlogkojhcccogaa
open Go.RowKit

theorem numF_size (f : Nat) : ∀ x, 0 < x → x < 128 ^ (f + 1) → 128 ^ ((numF f x).length - 1) ≤ x ∧ x < 128 ^ (numF f x).length := by
  induction f with
  | zero => intro x h0 hx; have : x < 128 := by simpa using hx
            simp [numF]; omega
  | succ f ih =>
    intro x h0 hx
    rw [numF]
    by_cases h : x < 128
    · rw [if_pos h]; simp; omega
    · rw [if_neg h]
      have h2 : x / 128 < 128 ^ (f + 1) := by rw [Nat.div_lt_iff_lt_mul (by omega)]; rw [Nat.pow_succ] at hx; exact hx
      obtain ⟨h3, h4⟩ := ih (x / 128) (by omega) h2
      have hp := numF_pos f (x / 128)
      rw [List.length_cons, Nat.add_sub_cancel]
      constructor
      · obtain ⟨k, hk⟩ : ∃ k, (numF f (x / 128)).length = k + 1 := ⟨(numF f (x / 128)).length - 1, by omega⟩
        rw [hk] at h3 ⊢
        rw [Nat.add_sub_cancel] at h3
        rw [Nat.pow_succ]
        exact (Nat.le_div_iff_mul_le (by omega)).1 h3
      · rw [Nat.pow_succ]
        exact (Nat.div_lt_iff_lt_mul (by omega)).1 h4
theorem bl_size (x : Nat) (hx : x < 18446744073709551616) (h0 : 0 < x) : (Lib.bitLen x + 6) / 7 = (numL x).length := by
  obtain ⟨h1, h2⟩ := numF_size 9 x h0 (by
    have : (128 : Nat) ^ (9 + 1) = 1180591620717411303424 := by decide
    rw [this]; omega)
  have hk := numL_len x
  have hp := numF_pos 9 x
  obtain ⟨k, hkk⟩ : ∃ k, (numL x).length = k + 1 := ⟨(numL x).length - 1, by unfold numL; omega⟩
  have e1 : (128 : Nat) ^ k = 2 ^ (7 * k) := by rw [Nat.pow_mul]
  unfold numL at hkk
  rw [hkk, Nat.add_sub_cancel, e1] at h1
  rw [hkk] at h2
  have hlow : Lib.bitLen x = 7 * k + Lib.bitLen (x / 2 ^ (7 * k)) := Lib.bitLen_shift (7 * k) x h1 (by rw [two64]; exact hx)
  have hy1 : 0 < x / 2 ^ (7 * k) := Nat.div_pos h1 (Nat.two_pow_pos _)
  have hy2 : x / 2 ^ (7 * k) < 128 := by
    rw [Nat.div_lt_iff_lt_mul (Nat.two_pow_pos _), ← e1, Nat.mul_comm, ← Nat.pow_succ]; exact h2
  have hy3 : 1 ≤ Lib.bitLen (x / 2 ^ (7 * k)) := by
    rw [Lib.bitLen_half _ (by omega) (by rw [two64]; omega)]; omega
  have hy4 : Lib.bitLen (x / 2 ^ (7 * k)) ≤ 7 := Lib.bitLen_le _ 7 (by omega) hy2
  unfold numL
  rw [hkk, hlow]
  omega
theorem bl_zero : Lib.bitLen 0 = 0 := by decide

set_option maxRecDepth 8000 in
set_option maxHeartbeats 1000000 in
theorem size_any (x : Nat) (w : World) (hx : x < 18446744073709551616) :
    Calls Try.prog 58 #[.int .u64 (x : Int)] w fun e w' => e = .returned (.int .i64 ((numL x).length : Int)) ∧ w' = w := by
  have HX := Keep.mk hx
  have hl : Lib.bitLen x ≤ 64 := Lib.bitLen_le x 64 (by omega) (by rw [two64]; exact hx)
  obtain ⟨b, hb⟩ : ∃ b, Keep (b = Lib.bitLen x) := ⟨_, ⟨rfl⟩⟩
  rw [← hb.out] at hl
  have hl' : (b : Int) ≤ 64 := by omega
  have h0' : (0 : Int) ≤ (b : Int) := by omega
  clear hx hl
  go_enter Try.func58, Try.ntmps58
  go_wp2_with fail
  refine (len64_any x w HX.out).mono ?_
  rintro e w1 ⟨rfl, rfl⟩
  rw [← hb.out]
  go_wp2
  go_ret
  refine ⟨?_, rfl⟩
  show Ending.returned (Value.int .i64 (max 1 (((b : Int) + 7 - 1) / 7))) = _
  congr 2
  by_cases hx0 : x = 0
  · subst hx0
    rw [bl_zero] at hb
    rw [hb.out, numL_small 0 (by omega)]
    decide
  · have h := bl_size x HX.out (by omega)
    rw [← hb.out] at h
    have h1 := numF_pos 9 x
    rw [← h] 
    unfold numL at h
    omega

set_option maxRecDepth 8000 in
set_option maxHeartbeats 1000000 in
theorem rsize_any (x : Nat) (w : World) (hx : x < 18446744073709551616) :
    Calls Try.prog 50 #[.int .u64 (x : Int)] w fun e w' => e = .returned (.int .i64 ((numL x).length : Int)) ∧ w' = w := by
  have HX := Keep.mk hx
  clear hx
  go_enter Try.func50, Try.ntmps50
  go_wp2
  go_loop [0, 3] (fun i n => ∃ (y k : Nat), i = .int .u64 (y : Int) ∧ n = .int .i64 (k : Int) ∧ Keep (y < 18446744073709551616) ∧ Keep (k + (numL y).length = (numL x).length + 1) ∧ k ≤ 10) (fun i _ => (intOf i).toNat)
  case atStart => exact ⟨x, 1, rfl, rfl, HX, ⟨by omega⟩, by omega⟩
  case round =>
    obtain ⟨y, k, rfl, rfl, hy, hk, hk10⟩ := hrel
    by_cases h128 : 128 ≤ y
    · have h128' : (128 : Int) ≤ (y : Int) := by omega
      have HS : Keep (numL y = ((y % 128 + 128 : Nat) : Int) :: numL (y / 128)) := ⟨numL_step y h128 hy.out⟩
      obtain ⟨z, hz⟩ : ∃ z, Keep (y / 128 = z) := ⟨_, ⟨rfl⟩⟩
      have hz1 : (y : Int) / 128 = (z : Int) := by have := hz.out; omega
      have hwz : IntKind.u64.wrap (z : Int) = (z : Int) := by rw [IntKind.wrap_u64]; have := hz.out; have := hy.out; omega
      go_wp2
      refine ⟨⟨z, k + 1, rfl, by go_num, ⟨by have := hy.out; have := hz.out; omega⟩, ⟨?_⟩, ?_⟩, by simp only [intOf]; have := hz.out; omega⟩
      · have := hk.out
        rw [HS.out, List.length_cons, hz.out] at this
        omega
      · have := hk.out
        have h1 := numL_len x
        have h2 := numF_pos 9 z
        rw [HS.out, List.length_cons, hz.out] at this
        unfold numL at this h1
        omega
    · have h128' : ¬ (128 : Int) ≤ (y : Int) := by omega
      have HS : Keep ((k : Int) = (numL x).length) := ⟨by have := hk.out; rw [numL_small y (by omega)] at this; simp at this; omega⟩
      go_wp2
      go_ret
      refine ⟨?_, rfl⟩
      show Ending.returned (Value.int .i64 (k : Int)) = _
      rw [HS.out]
def LayPost (v : Value) (l : List Int) (w : World) (e : Ending) (w' : World) : Prop :=
  ∃ v', e = .returned v' ∧ Own w' v' l ∧ Moved w v v' ∧ Grown w w' fun k => v.ownBlock = some k
theorem LayPost.trans {v v1 : Value} {l : List Int} {w w1 w2 : World} {e : Ending} (h : LayPost v1 l w1 e w2) (hm : Moved w v v1) (hg : Grown w w1 fun k => v.ownBlock = some k) : LayPost v l w e w2 := by
  obtain ⟨v2, he, h1, h2, h3⟩ := h
  exact ⟨v2, he, h1, hm.trans hg.size h2, hg.next h3 fun i hi h => hm.old hi h⟩
theorem Own.box {w : World} {v : Value} {l : List Int} (h : Own w v l) (o : Obj) : Own (w.alloc o) v l := h.grown (Grown.alloc w o fun _ => False) fun _ _ h => h
theorem AppPost.box {w w' : World} {v v' : Value} {l : List Int} {o : Obj} (h : AppPost (w.alloc o) v l v' w') : Own w' v' l ∧ Moved w v v' ∧ Grown w w' fun k => v.ownBlock = some k :=
  ⟨h.1, (Moved.refl w v).trans (Grown.alloc w o fun _ => False).size h.moved, (Grown.alloc w o _).next h.grown fun _ _ h => h⟩


theorem Try.new101 (w : World) : (Instr.alloc 101 true (.tuple #[])).run Try.prog w = .ok (.pointer (some ⟨w.heap.size, 0, none⟩)) (w.alloc (.cells (bytesA 32 fun _ => 0) 101)) := by kernel_rfl
theorem wpList_bld {P : Program} {ops : Array Oper} {rest : List Oper} {o : Oper} {a : Act} {w : World} {Q : Exit → Act → World → Prop} (hg : o.guard = none) (t : TypeId) (parts : Array (Nat × Operand)) (ho : o.op = .build t parts)
    (cells : Array Value) (hf : P.built t (parts.map fun (i, x) => (i, a.eval x)).toList = some cells)
    (h : wpList P ops Q rest (a.put o.dst (.agg cells)) w) : wpList P ops Q (o :: rest) a w :=
  wpList_build hg t parts ho (by rw [hf]; rfl) (by rw [hf]; exact h)
theorem wpList_new {P : Program} {ops : Array Oper} {rest : List Oper} {o : Oper} {a : Act} {w : World} {Q : Exit → Act → World → Prop} (hg : o.guard = none) (t : TypeId) (ho : o.op = .alloc t)
    (cells : Array Value) (hf : ∀ w : World, (Instr.alloc t true (.tuple #[])).run P w = .ok (.pointer (some ⟨w.heap.size, 0, none⟩)) (w.alloc (.cells cells t)))
    (h : wpList P ops Q rest (a.put o.dst (.pointer (some ⟨w.heap.size, 0, none⟩))) (w.alloc (.cells cells t))) : wpList P ops Q (o :: rest) a w := by
  refine wpList_plain hg fun K hK => ?_
  unfold Oper.wp execOp
  simp only [ho, Sem.run_bind, hf w, Result.andThen_ok]
  exact hK _ _ h


def marks (t : Nat) : List Int := (List.range t).map fun i : Nat => 192 + (i : Int)
theorem marks_len (t : Nat) : (marks t).length = t := by simp [marks]
def WideAt (w : World) (v : Value) (l : List Int) : Prop :=
  ∃ g cap, v = .slice (some ⟨g, 0, none⟩) l.length cap ∧ Own w (.slice (some ⟨g, 0, none⟩) (l ++ marks 7).length cap) (l ++ marks 7)
theorem WideAt.cap {w : World} {v : Value} {l : List Int} (h : WideAt w v l) : ∃ g cap, v = .slice (some ⟨g, 0, none⟩) l.length cap ∧ l.length + 7 ≤ cap ∧ cap ≤ maxLen ∧ (∀ i, i < l.length + 7 → w.cell? ⟨g, i, none⟩ = some (.int .u8 ((l ++ marks 7).getD i 0))) ∧ ∃ cur, Blk w g 5 cur ∧ cur.size = cap := by
  obtain ⟨g, cap, rfl, h2⟩ := h
  rcases h2.form with ⟨e, _⟩ | ⟨g', cap', cur, e, hb, h3, h4, h5, h6⟩
  · cases e
  · injection e with e1 e2 e3
    injection e1 with e1
    injection e1 with e1
    subst e1 e3
    refine ⟨g, cap, rfl, by rw [List.length_append, marks_len] at h3; exact h3, h4, fun i hi => ?_, cur, hb, h5⟩
    rw [World.ownsRow.cellAt h2 i (by rw [List.length_append, marks_len]; omega), bv_get _ _ (by rw [List.length_append, marks_len]; omega)]
theorem WideAt.row {w : World} {v : Value} {l : List Int} (h : WideAt w v l) : RowAt w v l := by
  obtain ⟨g, cap, rfl, h1, _, h2, _⟩ := h.cap
  refine .inr (.inr ⟨g, 0, cap, rfl, by omega, fun i hi => ?_⟩)
  rw [Nat.zero_add, h2 i (by omega)]
  simp [List.getD_eq_getElem?_getD, List.getElem?_append, hi]
theorem WideAt.grown {w w' : World} {v : Value} {l : List Int} {S : Nat → Prop} (h : WideAt w v l) (hg : Grown w w' S) (hs : ∀ k, v.ownBlock = some k → ¬ S k) : WideAt w' v l := by
  obtain ⟨g, cap, rfl, h2⟩ := h
  exact ⟨g, cap, rfl, h2.grown hg fun k hk => hs k hk⟩


theorem conv_row (v : Value) (l : List Int) (w : World) (h : RowAt w v l) : (convert 25 9 v).run Try.prog w = .ok (.string (strOfNums l)) w := by
  rcases h with ⟨rfl, rfl⟩ | ⟨a, c, rfl, rfl⟩ | ⟨b, off, cap, rfl, _, hc⟩
  · rw [run_convert_bytes_nil (P := Try.prog) w 25 5 Try.underlying25 Try.underlying5 0 0 9 Try.underlying9]; rfl
  · rw [run_convert_bytes_string (P := Try.prog) w 25 9 5 _ 0 c Try.underlying25 Try.underlying5 Try.underlying9]
    simp [Conv.bytesToString, loadCells, loadCellsFrom, strOfNums]
    rfl
  · exact run_convert_bytes_arg (P := Try.prog) w 25 5 Try.underlying25 Try.underlying5 b off l.length cap l rfl hc 9 Try.underlying9

def Typ (w : World) (k : Nat) (T : TypeId) : Prop := ∃ cs fz, w.heap[k]? = some (.cells cs T fz)
theorem Blk.typ {w : World} {k : Nat} {T : TypeId} {cs : Array Value} (h : Blk w k T cs) : Typ w k T := ⟨cs, _, h⟩
theorem Typ.lt {w : World} {k : Nat} {T : TypeId} (h : Typ w k T) : k < w.heap.size := by
  obtain ⟨cs, fz, h⟩ := h
  exact (Array.getElem?_eq_some_iff.1 h).1
theorem Typ.one {w : World} {k : Nat} {T T' : TypeId} (h : Typ w k T) (h' : Typ w k T') : T = T' := by
  obtain ⟨cs, fz, h⟩ := h
  obtain ⟨cs', fz', h'⟩ := h'
  rw [h] at h'; simp at h'; exact h'.2.1
theorem Typ.ne {w : World} {k k' : Nat} {T T' : TypeId} (h : Typ w k T) (h' : Typ w k' T') (ht : T ≠ T') : k ≠ k' := by
  rintro rfl; exact ht (h.one h')
theorem Grown.typ {a b : World} {S : Nat → Prop} (h : Grown a b S) {k : Nat} {T : TypeId} (hk : Typ a k T) (hs : ¬ S k) : Typ b k T := by
  have hlt := hk.lt
  obtain ⟨cs, fz, h1⟩ := hk
  exact ⟨cs, fz, by rw [h.block k hlt hs]; exact h1⟩
theorem Own.typ {w : World} {v : Value} {l : List Int} (h : Own w v l) {k : Nat} (hk : v.ownBlock = some k) : Typ w k 5 := by
  rcases h.2 with ⟨rfl, _⟩ | ⟨g, cap, cur, rfl, _, h3, _⟩
  · simp [Value.ownBlock] at hk
  · simp [Value.ownBlock] at hk
    subst hk
    exact ⟨cur, _, h3⟩

def OwnT (w : World) (v : Value) (l : List Int) : Prop :=
  (v = .slice none 0 0 ∧ l = []) ∨ ∃ g cap cur fz, v = .slice (some ⟨g, 0, none⟩) l.length cap ∧ w.heap[g]? = some (.cells cur 5 fz) ∧ (fz = (0, 0) ∨ cap ≤ fz.1) ∧ l.length ≤ cap ∧ cap ≤ maxLen ∧ cur.size = cap ∧ cur.toList.take l.length = bv l
theorem Own.tail {w : World} {v : Value} {l : List Int} (h : Own w v l) : OwnT w v l := by
  rcases h.form with h | ⟨g, cap, cur, rfl, hb, h3, h4, h5, h6⟩
  · exact .inl h
  · exact .inr ⟨g, cap, cur, _, rfl, hb, .inl rfl, h3, h4, h5, h6⟩
theorem OwnT.typ {w : World} {v : Value} {l : List Int} (h : OwnT w v l) {k : Nat} (hk : v.ownBlock = some k) : Typ w k 5 := by
  rcases h with ⟨rfl, _⟩ | ⟨g, cap, cur, fz, rfl, h3, _⟩
  · simp [Value.ownBlock] at hk
  · simp [Value.ownBlock] at hk
    subst hk
    exact ⟨cur, _, h3⟩
theorem OwnT.lt {w : World} {v : Value} {l : List Int} (h : OwnT w v l) : ∀ k, v.ownBlock = some k → k < w.heap.size := fun _ hk => (h.typ hk).lt
theorem OwnT.ne {w : World} {v : Value} {l : List Int} {p : Nat} {T : TypeId} {cs : Array Value} (h : OwnT w v l) (hp : Blk w p T cs) (hT : T ≠ 5) : v.ownBlock ≠ some p := fun e => hT (hp.typ.one (h.typ e))
theorem OwnT.grown {w w' : World} {v : Value} {l : List Int} {S : Nat → Prop} (h : OwnT w v l) (hg : Grown w w' S) (hs : ∀ k, v.ownBlock = some k → ¬ S k) : OwnT w' v l := by
  rcases h with h1 | ⟨g, cap, cur, fz, rfl, h3, h4⟩
  · exact .inl h1
  · exact .inr ⟨g, cap, cur, fz, rfl, by rw [hg.block g (Array.getElem?_eq_some_iff.1 h3).1 (hs g rfl)]; exact h3, h4⟩
theorem OwnT.box {w : World} {v : Value} {l : List Int} (h : OwnT w v l) (o : Obj) : OwnT (w.alloc o) v l := h.grown (Grown.alloc w o fun _ => False) fun _ _ h => h
theorem take_get {cur : Array Value} {l : List Int} {n : Nat} (h : cur.toList.take n = bv l) (hl : l.length = n) (t : Nat) (ht : t < n) : cur[t]? = some (.int .u8 (l.getD t 0)) := by
  have h1 := bv_get l t (by omega)
  rw [← h, List.getElem?_take, if_pos ht] at h1
  simpa using h1
theorem OwnT.cells {w : World} {g n cap : Nat} {l : List Int} (h : OwnT w (.slice (some ⟨g, 0, none⟩) n cap) l) (t : Nat) (ht : t < l.length) : w.cell? ⟨g, t, none⟩ = some (.int .u8 (l.getD t 0)) ∧ w.frozen? ⟨g, t, none⟩ = false := by
  rcases h with ⟨e, _⟩ | ⟨g', cap', cur, fz, e, hb, hf, h3, h4, h5, h6⟩
  · cases e
  · injection e with e1 e2 e3
    injection e1 with e1
    injection e1 with e1
    subst e1 e2 e3
    refine ⟨by rw [cell_of_row w g t cur 5 fz hb]; exact take_get h6 rfl t ht, ?_⟩
    rcases hf with rfl | hf
    · simp [World.frozen?, hb]
    · simp only [World.frozen?, hb]
      simp
      omega
theorem OwnT.row {w : World} {v : Value} {l : List Int} (h : OwnT w v l) : RowAt w v l := by
  have h' := h
  rcases h with h1 | ⟨g, cap, cur, fz, rfl, hb, hf, h3, h4, h5, h6⟩
  · exact .inl h1
  · exact .inr (.inr ⟨g, 0, cap, rfl, h3, fun i hi => by rw [Nat.zero_add]; exact (h'.cells i hi).1⟩)
theorem OwnT.sl {w : World} {v : Value} {l : List Int} (h : OwnT w v l) : ∃ a n c, v = .slice a n c := by
  rcases h with ⟨rfl, _⟩ | ⟨g, cap, cur, fz, rfl, _⟩
  · exact ⟨_, _, _, rfl⟩
  · exact ⟨_, _, _, rfl⟩
theorem OwnT.addr {w : World} {va : Option Addr} {n vc : Nat} {l : List Int} (h : OwnT w (.slice va n vc) l) (h0 : 0 < l.length) : ∃ g, va = some ⟨g, 0, none⟩ := by
  rcases h with ⟨_, e⟩ | ⟨g, cap, cur, fz, e, _⟩
  · subst e; simp at h0
  · injection e with e1 _ _
    exact ⟨g, e1⟩
theorem bv_set (l : List Int) (t : Nat) (c : Int) : (bv l).set t (.int .u8 c) = bv (l.set t c) := by simp [bv, List.map_set]
theorem OwnT.set {w : World} {g n cap : Nat} {l : List Int} (h : OwnT w (.slice (some ⟨g, 0, none⟩) n cap) l) (t : Nat) (c : Int) : OwnT (w.setCell ⟨g, t, none⟩ (.int .u8 c)) (.slice (some ⟨g, 0, none⟩) n cap) (l.set t c) := by
  rcases h with ⟨e, _⟩ | ⟨g', cap', cur, fz, e, hb, hf, h3, h4, h5, h6⟩
  · cases e
  · injection e with e1 e2 e3
    injection e1 with e1
    injection e1 with e1
    subst e1 e2 e3
    refine .inr ⟨g, cap, cur.setIfInBounds t (.int .u8 c), fz, by rw [List.length_set], ?_, hf, by rw [List.length_set]; exact h3, h4, by simp [h5], ?_⟩
    · rw [setCell_eq_setRow w g t cur 5 fz _ hb]; exact setRow_heap w g cur _ 5 fz hb
    · rw [Array.toList_setIfInBounds, List.length_set, List.take_set, h6, bv_set]
theorem OwnT.plain {w : World} {va : Option Addr} {n vc : Nat} {l : List Int} (h : OwnT w (.slice va n vc) l) : (∀ a, va = some a → a.off = 0 ∧ a.spot = none) ∧ (va = none → n = 0 ∧ vc = 0) ∧ n ≤ vc ∧ n = l.length := by
  rcases h with ⟨e, e2⟩ | ⟨g, cap, cur, fz, e, hb, _, h3, _⟩
  · injection e with e1 e2 e3
    subst e1 e2 e3
    subst e2
    exact ⟨fun a ha => by simp at ha, fun _ => ⟨rfl, rfl⟩, by omega, rfl⟩
  · injection e with e1 e2 e3
    subst e1 e2 e3
    exact ⟨fun a ha => by simp at ha; subst ha; exact ⟨rfl, rfl⟩, fun h => by simp at h, h3, rfl⟩
def AppPostT (w : World) (v : Value) (l : List Int) (v' : Value) (w' : World) : Prop :=
  OwnT w' v' l ∧ ((v'.ownBlock = v.ownBlock ∧ Grown w w' fun k => v.ownBlock = some k) ∨ (v'.ownBlock = some w.heap.size ∧ Below w.heap.size w w'))
theorem AppPostT.grown {w w' : World} {v v' : Value} {l : List Int} (h : AppPostT w v l v' w') : Grown w w' fun k => v.ownBlock = some k := by
  rcases h.2 with h | h
  · exact h.2
  · exact Grown.below h.2
theorem AppPost.tail {w w' : World} {v v' : Value} {l : List Int} (h : AppPost w v l v' w') : AppPostT w v l v' w' := ⟨h.1.tail, h.2⟩

theorem conv_bytes (w : World) (s : ByteArray) (hb : s.size ≤ 140737488355328) : ∃ v w', (convert 9 25 (.string s)).run Try.prog w = .ok v w' ∧ OwnT w' v (lst s) ∧ v.ownBlock = some w.heap.size ∧ Below w.heap.size w w' := by
  have hr := Lib.run_convert_string_bytes (P := Try.prog) w 9 25 5 s Try.underlying9 Try.underlying25 Try.underlying5
  refine ⟨_, _, hr, ?_, rfl, ⟨rfl, rfl, rfl, ?_, fun k hk => Lib.bytesWorld_at_old w 5 s k hk⟩⟩
  · have hge := grownCap_ge w s.size 0 5
    have hcs : (Lib.bytesCells w 5 s).size = grownCap w s.size 0 5 := by
      have : s.data.size = s.size := rfl
      simp [Lib.bytesCells]; omega
    refine .inr ⟨w.heap.size, grownCap w s.size 0 5, _, _, by rw [lst_len], Lib.bytesWorld_at_new w 5 s, .inr (by rw [hcs]; exact Nat.le_refl _), by rw [lst_len]; exact hge, grownCap_le_maxLen w _ _ _ (by unfold maxLen; omega), hcs, ?_⟩
    rw [lst_len, ← lst_cells]
    simp only [Lib.bytesCells, Array.toList_append, Lib.strCells]
    rw [List.take_append_of_le_length (by simp), List.take_of_length_le (by simp)]
    simp
  · rw [Lib.bytesWorld_size]; omega
def bp : Option Nat → Value
  | none => .pointer none
  | some q => ptr q
structure InAt (w : World) (p : Nat) (s : ByteArray) (a : Nat) (bad : Option Nat) : Prop where
  blk : Blk w p 118 #[.string s, .int .i64 (a : Int), bp bad]
  le : a ≤ s.size
def BadAt (w : World) (q : Nat) (why : Int) (a : Nat) : Prop := Blk w q 126 #[.int .i64 why, .int .i64 (a : Int)]
def err (q : Nat) : Value := .iface 116 (ptr q)

set_option maxRecDepth 8000 in
set_option maxHeartbeats 400000 in
theorem ileft_any (p : Nat) (s : ByteArray) (a : Nat) (bad : Option Nat) (w : World) (h : InAt w p s a bad) (hb : s.size ≤ 140737488355328) :
    Calls Try.prog 100 #[ptr p] w fun e w' => e = .returned (.int .i64 ((s.size : Int) - a)) ∧ ∃ q, w' = w.drewN q := by
  have c0 : w.cell? ⟨p, 0, none⟩ = some (.string s) := by rw [h.blk.cell]; rfl
  have c1 : w.cell? ⟨p, 1, none⟩ = some (.int .i64 (a : Int)) := by rw [h.blk.cell]; rfl
  have hle := h.le
  have h1 : (a : Int) ≤ (s.size : Int) := by omega
  have h2 : (s.size : Int) ≤ 140737488355328 := by omega
  clear h hb hle
  go_enter Try.func100, Try.ntmps100
  go_wp2
  go_quiet (fail)
  go_wp2
  go_ret
  exact ⟨rfl, nq, rfl⟩

set_option maxRecDepth 8000 in
set_option maxHeartbeats 400000 in
theorem iat_any (p : Nat) (s : ByteArray) (a : Nat) (bad : Option Nat) (w : World) (h : InAt w p s a bad) :
    Calls Try.prog 63 #[ptr p] w fun e w' => e = .returned (.int .i64 (a : Int)) ∧ w' = w := by
  have c1 : w.cell? ⟨p, 1, none⟩ = some (.int .i64 (a : Int)) := by rw [h.blk.cell]; rfl
  clear h
  go_enter Try.func63, Try.ntmps63
  go_wp2
  go_ret
  exact ⟨rfl, rfl⟩

set_option maxRecDepth 8000 in
set_option maxHeartbeats 400000 in
theorem ifail_any (p : Nat) (s : ByteArray) (a : Nat) (why : Int) (w : World) (h : InAt w p s a none) :
    Calls Try.prog 101 #[ptr p, .int .i64 why] w fun e w' => e = .returned (err w.heap.size) ∧ InAt w' p s a (some w.heap.size) ∧ BadAt w' w.heap.size why a ∧ Grown w w' fun k => k = p := by
  have HI := Keep.mk h
  have c1 : w.cell? ⟨p, 1, none⟩ = some (.int .i64 (a : Int)) := by rw [h.blk.cell]; rfl
  have hlt := h.blk.lt
  have hne : p ≠ w.heap.size := by omega
  have hb1 := (h.blk.alloc (.cells #[.int .i64 why, .int .i64 (a : Int)] 126))
  have HB := Keep.mk hb1
  have HN := Keep.mk (Blk.new w 126 #[.int .i64 why, .int .i64 (a : Int)])
  have HG := Keep.mk (Grown.alloc w (.cells #[.int .i64 why, .int .i64 (a : Int)] 126) fun k => k = p)
  have HL := Keep.mk h.le
  clear h hb1 
  go_enter Try.func101, Try.ntmps101
  go_wp2_with (first | (refine wpList_boxA rfl 126 (.tmp 11) rfl _ rfl ?_; refine Hid.out ?_))
  refine hid_in ?_
  generalize w.alloc (.cells #[.int .i64 why, .int .i64 (a : Int)] 126) = w1 at *
  have c2 : w1.cell? ⟨p, 2, none⟩ = some (.pointer none) := by rw [HB.out.cell]; rfl
  have f2 := HB.out.frozen 2
  clear c1
  go_wp2
  go_ret
  exact ⟨rfl, ⟨HB.out.set 2 _, HL.out⟩, HN.out.set_ne (fun e => hne e.symm) _, HG.out.trans (Grown.setCell w1 p 2 _ fun _ => rfl)⟩
theorem lst_get (s : ByteArray) (t : Nat) (h : t < s.size) : (lst s).drop t = (s[t].toNat : Int) :: (lst s).drop (t + 1) := by
  have h' : t < (lst s).length := by rw [lst_len]; exact h
  rw [List.drop_eq_getElem_cons h']
  congr 1
  simp [lst]
  rfl

set_option maxRecDepth 8000 in
set_option maxHeartbeats 4000000 in
theorem first_any (s : ByteArray) (w : World) (hb : s.size ≤ 140737488355328) :
    Calls Try.prog 115 #[.string s] w fun e w' => e = .returned (.tuple #[.int .u64 (fstG (lst s) 0 0).1, .int .i64 (fstG (lst s) 0 0).2.1, .int .i64 (fstG (lst s) 0 0).2.2]) ∧ w' = w := by
  have hsm : (s.size : Int) ≤ 140737488355328 := by omega
  have HB := Keep.mk (lst_byts s)
  clear hb
  go_enter Try.func115, Try.ntmps115
  go_wp2
  go_loop [5, 6] (fun x i => ∃ (t : Nat) (y : Int), t ≤ 9 ∧ t ≤ s.size ∧ x = .int .u64 y ∧ i = .int .i64 t ∧ Keep (fstG ((lst s).drop t) t y = fstG (lst s) 0 0) ∧ Keep (0 ≤ y ∧ y < 2 ^ (7 * t))) (fun _ i => 10 - (intOf i).toNat)
  case atStart => exact ⟨0, 0, by omega, by omega, rfl, rfl, ⟨by simp⟩, ⟨by simp⟩⟩
  case round =>
    obtain ⟨t, y, ht, hts, rfl, rfl, hF, hy⟩ := hrel
    by_cases hlt : t < s.size
    · have hlt' : (t : Int) < (s.size : Int) := by omega
      obtain ⟨c, hc⟩ : ∃ c : Int, Keep ((s[t].toNat : Int) = c) := ⟨_, ⟨rfl⟩⟩
      have hc1 := hc.out
      have hcb := s[t].toNat_lt
      have hc0 : 0 ≤ c := by omega
      have hc2 : c < 256 := by omega
      have hg := lst_get s t hlt
      rw [hc1] at hg
      have HG := Keep.mk hg
      clear hg hcb
      rcases (by omega : t = 0 ∨ t = 1 ∨ t = 2 ∨ t = 3 ∨ t = 4 ∨ t = 5 ∨ t = 6 ∨ t = 7 ∨ t = 8 ∨ t = 9) with rfl | rfl | rfl | rfl | rfl | rfl | rfl | rfl | rfl | rfl
      · have e7 : (2 : Int) ^ (7 * 0) = 1 := by decide
        by_cases h0 : c = 0
        · have hr : fstG (lst s) 0 0 = (y + c % 128 * 2 ^ (7 * 0), ((0 : Nat) : Int) + 1, 0) := by rw [← hF.out, HG.out, fstG, if_neg (by omega), if_neg (by omega), if_pos (by omega)]
          have hz := Keep.mk e7
          clear HG hc e7
          subst h0
          have HR := Keep.mk hr
          clear hr
          go_wp2
          go_ret3
          refine ⟨?_, rfl⟩
          rw [HR.out]
          refine congrArg (fun z => Ending.returned (Value.tuple #[Value.int .u64 z, Value.int .i64 1, Value.int .i64 0])) ?_
          have hyb := hy.out
          rw [hz.out] at hyb ⊢
          first | omega | (rw [IntKind.wrap_u64]; omega)
        have hc3 : (c == 0) = false := by simpa using h0
        by_cases h1 : c < 128
        · have hr : fstG (lst s) 0 0 = (y + c % 128 * 2 ^ (7 * 0), ((0 : Nat) : Int) + 1, 0) := by rw [← hF.out, HG.out, fstG, if_neg (by omega), if_neg (by omega), if_pos (by omega)]
          have hz := Keep.mk e7
          clear e7
          have HR := Keep.mk hr
          clear hr
          go_wp2
          go_ret3
          refine ⟨?_, rfl⟩
          rw [HR.out]
          refine congrArg (fun z => Ending.returned (Value.tuple #[Value.int .u64 z, Value.int .i64 1, Value.int .i64 0])) ?_
          have hyb := hy.out
          rw [hz.out] at hyb ⊢
          first | omega | (rw [IntKind.wrap_u64]; omega)
        have hr : fstG ((lst s).drop 1) (0+1) (y + c % 128 * 2 ^ (7 * 0)) = fstG (lst s) 0 0 := by rw [← hF.out, HG.out, fstG, if_neg (by omega), if_neg (by omega), if_neg h1]
        have HR := Keep.mk hr
        have hz := Keep.mk e7
        have hz2 : Keep ((2 : Int) ^ (7 * 1) = 128) := ⟨by decide⟩
        clear hr e7
        go_wp2
        refine ⟨⟨1, y + c % 128 * 2 ^ (7 * 0), by omega, by omega, ?_, rfl, ⟨HR.out⟩, ⟨?_⟩⟩, by simp [intOf]⟩
        · have hyb := hy.out
          rw [hz.out] at hyb ⊢
          refine congrArg (Value.int .u64) ?_
          first | omega | (rw [IntKind.wrap_u64]; omega)
        · have hyb := hy.out
          rw [hz.out] at hyb ⊢
          rw [hz2.out]
          omega
      · have e7 : (2 : Int) ^ (7 * 1) = 128 := by decide
        by_cases h0 : c = 0
        · have hr : fstG (lst s) 0 0 = (0, 0, 21) := by rw [← hF.out, HG.out, fstG, if_neg (by omega), if_pos ⟨h0, by omega⟩]
          clear HG hc
          subst h0
          clear e7
          have HR := Keep.mk hr
          clear hr
          go_wp2
          go_ret3
          refine ⟨?_, rfl⟩
          rw [HR.out]
          rfl
        by_cases h1 : c < 128
        · have hr : fstG (lst s) 0 0 = (y + c % 128 * 2 ^ (7 * 1), ((1 : Nat) : Int) + 1, 0) := by rw [← hF.out, HG.out, fstG, if_neg (by omega), if_neg (by omega), if_pos h1]
          have hz := Keep.mk e7
          clear e7
          have hc3 : (c == 0) = false := by simpa using h0
          have HR := Keep.mk hr
          clear hr
          go_wp2
          go_ret3
          refine ⟨?_, rfl⟩
          rw [HR.out]
          refine congrArg (fun z => Ending.returned (Value.tuple #[Value.int .u64 z, Value.int .i64 2, Value.int .i64 0])) ?_
          have hyb := hy.out
          rw [hz.out] at hyb ⊢
          first | omega | (rw [IntKind.wrap_u64]; omega)
        have hr : fstG ((lst s).drop 2) (1+1) (y + c % 128 * 2 ^ (7 * 1)) = fstG (lst s) 0 0 := by rw [← hF.out, HG.out, fstG, if_neg (by omega), if_neg (by omega), if_neg h1]
        have HR := Keep.mk hr
        have hz := Keep.mk e7
        have hz2 : Keep ((2 : Int) ^ (7 * 2) = 16384) := ⟨by decide⟩
        clear hr e7
        have hc3 : (c == 0) = false := by simpa using h0
        go_wp2
        refine ⟨⟨2, y + c % 128 * 2 ^ (7 * 1), by omega, by omega, ?_, rfl, ⟨HR.out⟩, ⟨?_⟩⟩, by simp [intOf]⟩
        · have hyb := hy.out
          rw [hz.out] at hyb ⊢
          refine congrArg (Value.int .u64) ?_
          first | omega | (rw [IntKind.wrap_u64]; omega)
        · have hyb := hy.out
          rw [hz.out] at hyb ⊢
          rw [hz2.out]
          omega
      · have e7 : (2 : Int) ^ (7 * 2) = 16384 := by decide
        by_cases h0 : c = 0
        · have hr : fstG (lst s) 0 0 = (0, 0, 21) := by rw [← hF.out, HG.out, fstG, if_neg (by omega), if_pos ⟨h0, by omega⟩]
          clear HG hc
          subst h0
          clear e7
          have HR := Keep.mk hr
          clear hr
          go_wp2
          go_ret3
          refine ⟨?_, rfl⟩
          rw [HR.out]
          rfl
        by_cases h1 : c < 128
        · have hr : fstG (lst s) 0 0 = (y + c % 128 * 2 ^ (7 * 2), ((2 : Nat) : Int) + 1, 0) := by rw [← hF.out, HG.out, fstG, if_neg (by omega), if_neg (by omega), if_pos h1]
          have hz := Keep.mk e7
          clear e7
          have hc3 : (c == 0) = false := by simpa using h0
          have HR := Keep.mk hr
          clear hr
          go_wp2
          go_ret3
          refine ⟨?_, rfl⟩
          rw [HR.out]
          refine congrArg (fun z => Ending.returned (Value.tuple #[Value.int .u64 z, Value.int .i64 3, Value.int .i64 0])) ?_
          have hyb := hy.out
          rw [hz.out] at hyb ⊢
          first | omega | (rw [IntKind.wrap_u64]; omega)
        have hr : fstG ((lst s).drop 3) (2+1) (y + c % 128 * 2 ^ (7 * 2)) = fstG (lst s) 0 0 := by rw [← hF.out, HG.out, fstG, if_neg (by omega), if_neg (by omega), if_neg h1]
        have HR := Keep.mk hr
        have hz := Keep.mk e7
        have hz2 : Keep ((2 : Int) ^ (7 * 3) = 2097152) := ⟨by decide⟩
        clear hr e7
        have hc3 : (c == 0) = false := by simpa using h0
        go_wp2
        refine ⟨⟨3, y + c % 128 * 2 ^ (7 * 2), by omega, by omega, ?_, rfl, ⟨HR.out⟩, ⟨?_⟩⟩, by simp [intOf]⟩
        · have hyb := hy.out
          rw [hz.out] at hyb ⊢
          refine congrArg (Value.int .u64) ?_
          first | omega | (rw [IntKind.wrap_u64]; omega)
        · have hyb := hy.out
          rw [hz.out] at hyb ⊢
          rw [hz2.out]
          omega
      · have e7 : (2 : Int) ^ (7 * 3) = 2097152 := by decide
        by_cases h0 : c = 0
        · have hr : fstG (lst s) 0 0 = (0, 0, 21) := by rw [← hF.out, HG.out, fstG, if_neg (by omega), if_pos ⟨h0, by omega⟩]
          clear HG hc
          subst h0
          clear e7
          have HR := Keep.mk hr
          clear hr
          go_wp2
          go_ret3
          refine ⟨?_, rfl⟩
          rw [HR.out]
          rfl
        by_cases h1 : c < 128
        · have hr : fstG (lst s) 0 0 = (y + c % 128 * 2 ^ (7 * 3), ((3 : Nat) : Int) + 1, 0) := by rw [← hF.out, HG.out, fstG, if_neg (by omega), if_neg (by omega), if_pos h1]
          have hz := Keep.mk e7
          clear e7
          have hc3 : (c == 0) = false := by simpa using h0
          have HR := Keep.mk hr
          clear hr
          go_wp2
          go_ret3
          refine ⟨?_, rfl⟩
          rw [HR.out]
          refine congrArg (fun z => Ending.returned (Value.tuple #[Value.int .u64 z, Value.int .i64 4, Value.int .i64 0])) ?_
          have hyb := hy.out
          rw [hz.out] at hyb ⊢
          first | omega | (rw [IntKind.wrap_u64]; omega)
        have hr : fstG ((lst s).drop 4) (3+1) (y + c % 128 * 2 ^ (7 * 3)) = fstG (lst s) 0 0 := by rw [← hF.out, HG.out, fstG, if_neg (by omega), if_neg (by omega), if_neg h1]
        have HR := Keep.mk hr
        have hz := Keep.mk e7
        have hz2 : Keep ((2 : Int) ^ (7 * 4) = 268435456) := ⟨by decide⟩
        clear hr e7
        have hc3 : (c == 0) = false := by simpa using h0
        go_wp2
        refine ⟨⟨4, y + c % 128 * 2 ^ (7 * 3), by omega, by omega, ?_, rfl, ⟨HR.out⟩, ⟨?_⟩⟩, by simp [intOf]⟩
        · have hyb := hy.out
          rw [hz.out] at hyb ⊢
          refine congrArg (Value.int .u64) ?_
          first | omega | (rw [IntKind.wrap_u64]; omega)
        · have hyb := hy.out
          rw [hz.out] at hyb ⊢
          rw [hz2.out]
          omega
      · have e7 : (2 : Int) ^ (7 * 4) = 268435456 := by decide
        by_cases h0 : c = 0
        · have hr : fstG (lst s) 0 0 = (0, 0, 21) := by rw [← hF.out, HG.out, fstG, if_neg (by omega), if_pos ⟨h0, by omega⟩]
          clear HG hc
          subst h0
          clear e7
          have HR := Keep.mk hr
          clear hr
          go_wp2
          go_ret3
          refine ⟨?_, rfl⟩
          rw [HR.out]
          rfl
        by_cases h1 : c < 128
        · have hr : fstG (lst s) 0 0 = (y + c % 128 * 2 ^ (7 * 4), ((4 : Nat) : Int) + 1, 0) := by rw [← hF.out, HG.out, fstG, if_neg (by omega), if_neg (by omega), if_pos h1]
          have hz := Keep.mk e7
          clear e7
          have hc3 : (c == 0) = false := by simpa using h0
          have HR := Keep.mk hr
          clear hr
          go_wp2
          go_ret3
          refine ⟨?_, rfl⟩
          rw [HR.out]
          refine congrArg (fun z => Ending.returned (Value.tuple #[Value.int .u64 z, Value.int .i64 5, Value.int .i64 0])) ?_
          have hyb := hy.out
          rw [hz.out] at hyb ⊢
          first | omega | (rw [IntKind.wrap_u64]; omega)
        have hr : fstG ((lst s).drop 5) (4+1) (y + c % 128 * 2 ^ (7 * 4)) = fstG (lst s) 0 0 := by rw [← hF.out, HG.out, fstG, if_neg (by omega), if_neg (by omega), if_neg h1]
        have HR := Keep.mk hr
        have hz := Keep.mk e7
        have hz2 : Keep ((2 : Int) ^ (7 * 5) = 34359738368) := ⟨by decide⟩
        clear hr e7
        have hc3 : (c == 0) = false := by simpa using h0
        go_wp2
        refine ⟨⟨5, y + c % 128 * 2 ^ (7 * 4), by omega, by omega, ?_, rfl, ⟨HR.out⟩, ⟨?_⟩⟩, by simp [intOf]⟩
        · have hyb := hy.out
          rw [hz.out] at hyb ⊢
          refine congrArg (Value.int .u64) ?_
          first | omega | (rw [IntKind.wrap_u64]; omega)
        · have hyb := hy.out
          rw [hz.out] at hyb ⊢
          rw [hz2.out]
          omega
      · have e7 : (2 : Int) ^ (7 * 5) = 34359738368 := by decide
        by_cases h0 : c = 0
        · have hr : fstG (lst s) 0 0 = (0, 0, 21) := by rw [← hF.out, HG.out, fstG, if_neg (by omega), if_pos ⟨h0, by omega⟩]
          clear HG hc
          subst h0
          clear e7
          have HR := Keep.mk hr
          clear hr
          go_wp2
          go_ret3
          refine ⟨?_, rfl⟩
          rw [HR.out]
          rfl
        by_cases h1 : c < 128
        · have hr : fstG (lst s) 0 0 = (y + c % 128 * 2 ^ (7 * 5), ((5 : Nat) : Int) + 1, 0) := by rw [← hF.out, HG.out, fstG, if_neg (by omega), if_neg (by omega), if_pos h1]
          have hz := Keep.mk e7
          clear e7
          have hc3 : (c == 0) = false := by simpa using h0
          have HR := Keep.mk hr
          clear hr
          go_wp2
          go_ret3
          refine ⟨?_, rfl⟩
          rw [HR.out]
          refine congrArg (fun z => Ending.returned (Value.tuple #[Value.int .u64 z, Value.int .i64 6, Value.int .i64 0])) ?_
          have hyb := hy.out
          rw [hz.out] at hyb ⊢
          first | omega | (rw [IntKind.wrap_u64]; omega)
        have hr : fstG ((lst s).drop 6) (5+1) (y + c % 128 * 2 ^ (7 * 5)) = fstG (lst s) 0 0 := by rw [← hF.out, HG.out, fstG, if_neg (by omega), if_neg (by omega), if_neg h1]
        have HR := Keep.mk hr
        have hz := Keep.mk e7
        have hz2 : Keep ((2 : Int) ^ (7 * 6) = 4398046511104) := ⟨by decide⟩
        clear hr e7
        have hc3 : (c == 0) = false := by simpa using h0
        go_wp2
        refine ⟨⟨6, y + c % 128 * 2 ^ (7 * 5), by omega, by omega, ?_, rfl, ⟨HR.out⟩, ⟨?_⟩⟩, by simp [intOf]⟩
        · have hyb := hy.out
          rw [hz.out] at hyb ⊢
          refine congrArg (Value.int .u64) ?_
          first | omega | (rw [IntKind.wrap_u64]; omega)
        · have hyb := hy.out
          rw [hz.out] at hyb ⊢
          rw [hz2.out]
          omega
      · have e7 : (2 : Int) ^ (7 * 6) = 4398046511104 := by decide
        by_cases h0 : c = 0
        · have hr : fstG (lst s) 0 0 = (0, 0, 21) := by rw [← hF.out, HG.out, fstG, if_neg (by omega), if_pos ⟨h0, by omega⟩]
          clear HG hc
          subst h0
          clear e7
          have HR := Keep.mk hr
          clear hr
          go_wp2
          go_ret3
          refine ⟨?_, rfl⟩
          rw [HR.out]
          rfl
        by_cases h1 : c < 128
        · have hr : fstG (lst s) 0 0 = (y + c % 128 * 2 ^ (7 * 6), ((6 : Nat) : Int) + 1, 0) := by rw [← hF.out, HG.out, fstG, if_neg (by omega), if_neg (by omega), if_pos h1]
          have hz := Keep.mk e7
          clear e7
          have hc3 : (c == 0) = false := by simpa using h0
          have HR := Keep.mk hr
          clear hr
          go_wp2
          go_ret3
          refine ⟨?_, rfl⟩
          rw [HR.out]
          refine congrArg (fun z => Ending.returned (Value.tuple #[Value.int .u64 z, Value.int .i64 7, Value.int .i64 0])) ?_
          have hyb := hy.out
          rw [hz.out] at hyb ⊢
          first | omega | (rw [IntKind.wrap_u64]; omega)
        have hr : fstG ((lst s).drop 7) (6+1) (y + c % 128 * 2 ^ (7 * 6)) = fstG (lst s) 0 0 := by rw [← hF.out, HG.out, fstG, if_neg (by omega), if_neg (by omega), if_neg h1]
        have HR := Keep.mk hr
        have hz := Keep.mk e7
        have hz2 : Keep ((2 : Int) ^ (7 * 7) = 562949953421312) := ⟨by decide⟩
        clear hr e7
        have hc3 : (c == 0) = false := by simpa using h0
        go_wp2
        refine ⟨⟨7, y + c % 128 * 2 ^ (7 * 6), by omega, by omega, ?_, rfl, ⟨HR.out⟩, ⟨?_⟩⟩, by simp [intOf]⟩
        · have hyb := hy.out
          rw [hz.out] at hyb ⊢
          refine congrArg (Value.int .u64) ?_
          first | omega | (rw [IntKind.wrap_u64]; omega)
        · have hyb := hy.out
          rw [hz.out] at hyb ⊢
          rw [hz2.out]
          omega
      · have e7 : (2 : Int) ^ (7 * 7) = 562949953421312 := by decide
        by_cases h0 : c = 0
        · have hr : fstG (lst s) 0 0 = (0, 0, 21) := by rw [← hF.out, HG.out, fstG, if_neg (by omega), if_pos ⟨h0, by omega⟩]
          clear HG hc
          subst h0
          clear e7
          have HR := Keep.mk hr
          clear hr
          go_wp2
          go_ret3
          refine ⟨?_, rfl⟩
          rw [HR.out]
          rfl
        by_cases h1 : c < 128
        · have hr : fstG (lst s) 0 0 = (y + c % 128 * 2 ^ (7 * 7), ((7 : Nat) : Int) + 1, 0) := by rw [← hF.out, HG.out, fstG, if_neg (by omega), if_neg (by omega), if_pos h1]
          have hz := Keep.mk e7
          clear e7
          have hc3 : (c == 0) = false := by simpa using h0
          have HR := Keep.mk hr
          clear hr
          go_wp2
          go_ret3
          refine ⟨?_, rfl⟩
          rw [HR.out]
          refine congrArg (fun z => Ending.returned (Value.tuple #[Value.int .u64 z, Value.int .i64 8, Value.int .i64 0])) ?_
          have hyb := hy.out
          rw [hz.out] at hyb ⊢
          first | omega | (rw [IntKind.wrap_u64]; omega)
        have hr : fstG ((lst s).drop 8) (7+1) (y + c % 128 * 2 ^ (7 * 7)) = fstG (lst s) 0 0 := by rw [← hF.out, HG.out, fstG, if_neg (by omega), if_neg (by omega), if_neg h1]
        have HR := Keep.mk hr
        have hz := Keep.mk e7
        have hz2 : Keep ((2 : Int) ^ (7 * 8) = 72057594037927936) := ⟨by decide⟩
        clear hr e7
        have hc3 : (c == 0) = false := by simpa using h0
        go_wp2
        refine ⟨⟨8, y + c % 128 * 2 ^ (7 * 7), by omega, by omega, ?_, rfl, ⟨HR.out⟩, ⟨?_⟩⟩, by simp [intOf]⟩
        · have hyb := hy.out
          rw [hz.out] at hyb ⊢
          refine congrArg (Value.int .u64) ?_
          first | omega | (rw [IntKind.wrap_u64]; omega)
        · have hyb := hy.out
          rw [hz.out] at hyb ⊢
          rw [hz2.out]
          omega
      · have e7 : (2 : Int) ^ (7 * 8) = 72057594037927936 := by decide
        by_cases h0 : c = 0
        · have hr : fstG (lst s) 0 0 = (0, 0, 21) := by rw [← hF.out, HG.out, fstG, if_neg (by omega), if_pos ⟨h0, by omega⟩]
          clear HG hc
          subst h0
          clear e7
          have HR := Keep.mk hr
          clear hr
          go_wp2
          go_ret3
          refine ⟨?_, rfl⟩
          rw [HR.out]
          rfl
        by_cases h1 : c < 128
        · have hr : fstG (lst s) 0 0 = (y + c % 128 * 2 ^ (7 * 8), ((8 : Nat) : Int) + 1, 0) := by rw [← hF.out, HG.out, fstG, if_neg (by omega), if_neg (by omega), if_pos h1]
          have hz := Keep.mk e7
          clear e7
          have hc3 : (c == 0) = false := by simpa using h0
          have HR := Keep.mk hr
          clear hr
          go_wp2
          go_ret3
          refine ⟨?_, rfl⟩
          rw [HR.out]
          refine congrArg (fun z => Ending.returned (Value.tuple #[Value.int .u64 z, Value.int .i64 9, Value.int .i64 0])) ?_
          have hyb := hy.out
          rw [hz.out] at hyb ⊢
          first | omega | (rw [IntKind.wrap_u64]; omega)
        have hr : fstG ((lst s).drop 9) (8+1) (y + c % 128 * 2 ^ (7 * 8)) = fstG (lst s) 0 0 := by rw [← hF.out, HG.out, fstG, if_neg (by omega), if_neg (by omega), if_neg h1]
        have HR := Keep.mk hr
        have hz := Keep.mk e7
        have hz2 : Keep ((2 : Int) ^ (7 * 9) = 9223372036854775808) := ⟨by decide⟩
        clear hr e7
        have hc3 : (c == 0) = false := by simpa using h0
        go_wp2
        refine ⟨⟨9, y + c % 128 * 2 ^ (7 * 8), by omega, by omega, ?_, rfl, ⟨HR.out⟩, ⟨?_⟩⟩, by simp [intOf]⟩
        · have hyb := hy.out
          rw [hz.out] at hyb ⊢
          refine congrArg (Value.int .u64) ?_
          first | omega | (rw [IntKind.wrap_u64]; omega)
        · have hyb := hy.out
          rw [hz.out] at hyb ⊢
          rw [hz2.out]
          omega
      · have e7 : (2 : Int) ^ (7 * 9) = 9223372036854775808 := by decide
        by_cases h2 : 1 < c
        · have hr : fstG (lst s) 0 0 = (0, 0, 22) := by rw [← hF.out, HG.out, fstG, if_pos ⟨rfl, h2⟩]
          clear e7
          have HR := Keep.mk hr
          clear hr
          go_wp2
          go_ret3
          refine ⟨?_, rfl⟩
          rw [HR.out]
          rfl
        by_cases h0 : c = 0
        · have hr : fstG (lst s) 0 0 = (0, 0, 21) := by rw [← hF.out, HG.out, fstG, if_neg (by omega), if_pos ⟨h0, by omega⟩]
          clear HG hc
          subst h0
          clear e7
          have HR := Keep.mk hr
          clear hr
          go_wp2
          go_ret3
          refine ⟨?_, rfl⟩
          rw [HR.out]
          rfl
        have h1 : c < 128 := by omega
        have hr : fstG (lst s) 0 0 = (y + c % 128 * 2 ^ (7 * 9), ((9 : Nat) : Int) + 1, 0) := by rw [← hF.out, HG.out, fstG, if_neg (by omega), if_neg (by omega), if_pos h1]
        have hz := Keep.mk e7
        clear e7
        have hc3 : (c == 0) = false := by simpa using h0
        have HR := Keep.mk hr
        clear hr
        go_wp2
        go_ret3
        refine ⟨?_, rfl⟩
        rw [HR.out]
        refine congrArg (fun z => Ending.returned (Value.tuple #[Value.int .u64 z, Value.int .i64 10, Value.int .i64 0])) ?_
        have hyb := hy.out
        rw [hz.out] at hyb ⊢
        first | omega | (rw [IntKind.wrap_u64]; omega)
    · have hlt' : ¬ ((t : Int) < (s.size : Int)) := by omega
      have hr : fstG (lst s) 0 0 = (0, 0, 20) := by
        rw [← hF.out, List.drop_of_length_le (by rw [lst_len]; omega), fstG]
      have HR := Keep.mk hr
      clear hr
      go_wp2
      go_ret3
      refine ⟨?_, rfl⟩
      rw [HR.out]
      rfl
theorem lst_extract (s : ByteArray) (a b : Nat) : lst (s.extract a b) = ((lst s).drop a).take (b - a) := by
  unfold lst
  rw [← List.map_drop, ← List.map_take]
  congr 1
  rw [ByteArray.data_extract, Array.toList_extract]
theorem lst_from (s : ByteArray) (a : Nat) : lst (s.extract a s.size) = (lst s).drop a := by
  rw [lst_extract, List.take_of_length_le (by rw [List.length_drop, lst_len]; omega)]
theorem fstG_shape (D : List Int) : ∀ (i : Nat) (x : Int), ((fstG D i x).2.2 ≠ 0 → (fstG D i x).1 = 0 ∧ (fstG D i x).2.1 = 0) ∧ ((fstG D i x).2.2 = 0 → (i : Int) < (fstG D i x).2.1 ∧ (fstG D i x).2.1 ≤ i + D.length) := by
  induction D with
  | nil => intro i x; simp [fstG]
  | cons c D ih =>
    intro i x
    rw [fstG]
    by_cases h1 : i = 9 ∧ 1 < c
    · rw [if_pos h1]; simp
    · rw [if_neg h1]
      by_cases h2 : c = 0 ∧ 0 < i
      · rw [if_pos h2]; simp
      · rw [if_neg h2]
        by_cases h3 : c < 128
        · rw [if_pos h3]; simp; omega
        · rw [if_neg h3]
          have h := ih (i + 1) (x + c % 128 * 2 ^ (7 * i))
          refine ⟨h.1, fun h0 => ?_⟩
          have := h.2 h0
          simp only [List.length_cons]
          omega
theorem fstM_shape (D : List Int) (most : Int) : ((fstM D most).2.2 ≠ 0 → (fstM D most).1 = 0 ∧ (fstM D most).2.1 = 0) ∧ 0 ≤ (fstM D most).2.1 ∧ (fstM D most).2.1 ≤ D.length := by
  have h := fstG_shape D 0 0
  unfold fstM
  split
  · simp
  · refine ⟨h.1, ?_⟩
    by_cases h0 : (fstG D 0 0).2.2 = 0
    · have := h.2 h0; omega
    · have := h.1 h0; omega

def ErrAs (w w' : World) (why : Int) (a : Nat) (bad : Option Nat) (er : Value) : Prop :=
  (why = 0 ∧ bad = none ∧ er = .nilIface) ∨ (why ≠ 0 ∧ ∃ q, w.heap.size ≤ q ∧ bad = some q ∧ er = err q ∧ BadAt w' q why a)
def RdPost (p : Nat) (s : ByteArray) (why : Int) (a : Nat) (res : Value) (w : World) (e : Ending) (w' : World) : Prop :=
  ∃ bad er, e = .returned (.tuple #[res, er]) ∧ InAt w' p s a bad ∧ (Grown w w' fun k => k = p) ∧ ErrAs w w' why a bad er

set_option maxRecDepth 8000 in
set_option maxHeartbeats 1000000 in
theorem inum_good (p : Nat) (s : ByteArray) (a : Nat) (most : Nat) (w : World) (h : InAt w p s a none) (hb : s.size ≤ 140737488355328) :
    Calls Try.prog 105 #[ptr p, .int .u64 (most : Int)] w (RdPost p s (fstM ((lst s).drop a) most).2.2 (a + (fstM ((lst s).drop a) most).2.1.toNat) (.int .u64 (fstM ((lst s).drop a) most).1) w) := by
  have HI := Keep.mk h
  have c0 : w.cell? ⟨p, 0, none⟩ = some (.string s) := by rw [h.blk.cell]; rfl
  have c1 : w.cell? ⟨p, 1, none⟩ = some (.int .i64 (a : Int)) := by rw [h.blk.cell]; rfl
  have c2 : w.cell? ⟨p, 2, none⟩ = some (.pointer none) := by rw [h.blk.cell]; rfl
  have hle := h.le
  have h1 : (a : Int) ≤ (s.size : Int) := by omega
  have h2 : (s.size : Int) ≤ 140737488355328 := by omega
  have hS := Keep.mk (fstM_shape ((lst s).drop a) most)
  have HF := fun wx => first_any (s.extract a s.size) wx (by rw [← lst_len, lst_from, List.length_drop, lst_len]; omega)
  rw [lst_from] at HF
  have hM : Keep (fstM ((lst s).drop a) most = if (fstG ((lst s).drop a) 0 0).2.2 = 0 ∧ (most : Int) < (fstG ((lst s).drop a) 0 0).1 then (0, 0, 22) else fstG ((lst s).drop a) 0 0) := ⟨rfl⟩
  have hlen : Keep (((lst s).drop a).length = s.size - a) := ⟨by rw [List.length_drop, lst_len]⟩
  generalize fstM ((lst s).drop a) most = R at *
  generalize fstG ((lst s).drop a) 0 0 = G at *
  obtain ⟨x, k, y⟩ := G
  simp only at HF hM
  have HF2 := Keep.mk HF
  clear HF h hb hle
  go_enter Try.func105, Try.ntmps105
  go_wp2_with fail
  go_quiet (first | (go_at_call 115; refine Calls.quiet_of_same (HF2.out _)))
  obtain ⟨w1, hw1⟩ : ∃ w1, Keep (w1 = w.drewN nq) := ⟨_, ⟨rfl⟩⟩
  rw [← hw1.out]
  have hI1 : InAt w1 p s a none := by rw [hw1.out]; exact ⟨HI.out.blk.drewN nq, HI.out.le⟩
  have hG1 : Grown w w1 (fun k => k = p) := by rw [hw1.out]; exact (Grown.refl w _).drewN nq
  have d1 : w1.cell? ⟨p, 1, none⟩ = some (.int .i64 (a : Int)) := by rw [hI1.blk.cell]; rfl
  have f1 := hI1.blk.frozen 1
  have HI1 := Keep.mk hI1
  have HG1 := Keep.mk hG1
  clear c0 c1 c2 hI1 hG1 hw1
  by_cases hy : y = 0
  · subst hy
    by_cases hx : (most : Int) < x
    · have hR : Keep (R = (0, 0, 22)) := ⟨by rw [hM.out, if_pos ⟨rfl, hx⟩]⟩
      go_wp2_with fail
      refine (ifail_any p s a 22 w1 HI1.out).mono ?_
      rintro e w2 ⟨rfl, h3, h4, h5⟩
      have HP := Keep.mk (And.intro h3 (And.intro h4 h5))
      clear h3 h4 h5
      go_wp2
      go_ret2
      rw [hR.out]
      exact ⟨some w1.heap.size, err w1.heap.size, rfl, HP.out.1, HG1.out.trans HP.out.2.2, .inr ⟨by decide, w1.heap.size, HG1.out.size, rfl, rfl, HP.out.2.1⟩⟩
    · have hR : Keep (R = (x, k, 0)) := ⟨by rw [hM.out, if_neg (fun h => hx h.2)]⟩
      rw [hR.out] at hS
      have hk0 : 0 ≤ k := hS.out.2.1
      have hk1 : k ≤ (s.size : Int) - a := by have := hS.out.2.2; simp only at this; rw [hlen.out] at this; omega
      obtain ⟨kn, rfl⟩ : ∃ kn : Nat, k = (kn : Int) := ⟨k.toNat, by omega⟩
      have HI2 : Keep (InAt (w1.setCell ⟨p, 1, none⟩ (.int .i64 ((a : Int) + (kn : Int)))) p s (a + kn) none) := ⟨⟨HI1.out.blk.set 1 _, by omega⟩⟩
      clear hS
      go_wp2
      go_ret2
      rw [hR.out]
      exact ⟨none, .nilIface, rfl, HI2.out, HG1.out.trans (Grown.setCell w1 p 1 _ fun _ => rfl), .inl ⟨rfl, rfl, rfl⟩⟩
  · have hR : Keep (R = (x, k, y)) := ⟨by rw [hM.out, if_neg (fun h => hy h.1)]⟩
    rw [hR.out] at hS
    have hxk := hS.out.1 hy
    simp only at hxk
    obtain ⟨rfl, rfl⟩ := hxk
    have hy1 : (y == 0) = false := by simpa using hy
    have hy2 : (y != 0) = true := by simpa using hy
    clear hS
    go_wp2_with fail
    refine (ifail_any p s a y w1 HI1.out).mono ?_
    rintro e w2 ⟨rfl, h3, h4, h5⟩
    have HP := Keep.mk (And.intro h3 (And.intro h4 h5))
    clear h3 h4 h5
    go_wp2
    go_ret2
    rw [hR.out]
    exact ⟨some w1.heap.size, err w1.heap.size, rfl, HP.out.1, HG1.out.trans HP.out.2.2, .inr ⟨hy, w1.heap.size, HG1.out.size, rfl, rfl, HP.out.2.1⟩⟩

theorem below_drewN (w : World) (n : Nat) : Below w.heap.size w (w.drewN n) := ⟨rfl, rfl, rfl, Nat.le_refl _, fun _ _ => rfl⟩

def nextW (D : List Int) (n : Int) : Int := if n < 0 then 1 else if (D.length : Int) < n then 20 else 0
def nextN (D : List Int) (n : Int) : Nat := if nextW D n = 0 then n.toNat else 0
set_option maxRecDepth 8000 in
set_option maxHeartbeats 1000000 in
theorem inext_good (p : Nat) (s : ByteArray) (a : Nat) (n : Int) (w : World) (h : InAt w p s a none) (hb : s.size ≤ 140737488355328) (hn1 : -9223372036854775808 ≤ n) (hn2 : n ≤ 9223372036854775807) :
    Calls Try.prog 99 #[ptr p, .int .i64 n] w (RdPost p s (nextW ((lst s).drop a) n) (a + nextN ((lst s).drop a) n) (.string (s.extract a (a + nextN ((lst s).drop a) n))) w) := by
  have HI := Keep.mk h
  have c0 : w.cell? ⟨p, 0, none⟩ = some (.string s) := by rw [h.blk.cell]; rfl
  have c1 : w.cell? ⟨p, 1, none⟩ = some (.int .i64 (a : Int)) := by rw [h.blk.cell]; rfl
  have c2 : w.cell? ⟨p, 2, none⟩ = some (.pointer none) := by rw [h.blk.cell]; rfl
  have hle := h.le
  have h1 : (a : Int) ≤ (s.size : Int) := by omega
  have h2 : (s.size : Int) ≤ 140737488355328 := by omega
  have hlen : ((lst s).drop a).length = s.size - a := by rw [List.length_drop, lst_len]
  have f1 := h.blk.frozen 1
  have hse : s.extract a a = ByteArray.empty := by
    rw [← nums_lst (s.extract a a), lst_extract]; simp [strOfNums]; rfl
  by_cases hneg : n < 0
  · have hW : nextW ((lst s).drop a) n = 1 := by unfold nextW; rw [if_pos hneg]
    have hN : nextN ((lst s).drop a) n = 0 := by unfold nextN; rw [hW]; rfl
    rw [hW, hN, Nat.add_zero, hse]
    clear hW hN hse hlen h hn1 hn2 hb hle
    go_enter Try.func99, Try.ntmps99
    go_wp2_with fail
    refine (ifail_any p s a 1 w HI.out).mono ?_
    rintro e w2 ⟨rfl, h3, h4, h5⟩
    have HP := Keep.mk (And.intro h3 (And.intro h4 h5))
    clear h3 h4 h5
    go_wp2
    go_ret2
    exact ⟨some w.heap.size, err w.heap.size, rfl, HP.out.1, HP.out.2.2, .inr ⟨by decide, w.heap.size, Nat.le_refl _, rfl, rfl, HP.out.2.1⟩⟩
  · by_cases hbig : (s.size : Int) - a < n
    · have hW : nextW ((lst s).drop a) n = 20 := by unfold nextW; rw [if_neg hneg, if_pos (by rw [hlen]; omega)]
      have hN : nextN ((lst s).drop a) n = 0 := by unfold nextN; rw [hW]; rfl
      rw [hW, hN, Nat.add_zero, hse]
      have HSz := Keep.mk hb
      clear hW hN hse hlen h hn1 hn2 hb hle
      go_enter Try.func99, Try.ntmps99
      go_wp2_with fail
      refine (ileft_any p s a none w HI.out HSz.out).mono ?_
      rintro e w1 ⟨rfl, q, hw1⟩
      have HI1 : Keep (InAt w1 p s a none) := ⟨by rw [hw1]; exact ⟨HI.out.blk.drewN q, HI.out.le⟩⟩
      have HG1 : Keep (Grown w w1 fun k => k = p) := ⟨by rw [hw1]; exact (Grown.refl w _).drewN q⟩
      clear hw1 c0 c1 c2
      go_wp2_with fail
      refine (ifail_any p s a 20 w1 HI1.out).mono ?_
      rintro e w2 ⟨rfl, h3, h4, h5⟩
      have HP := Keep.mk (And.intro h3 (And.intro h4 h5))
      clear h3 h4 h5
      go_wp2
      go_ret2
      exact ⟨some w1.heap.size, err w1.heap.size, rfl, HP.out.1, HG1.out.trans HP.out.2.2, .inr ⟨by decide, w1.heap.size, HG1.out.size, rfl, rfl, HP.out.2.1⟩⟩
    · obtain ⟨m, rfl⟩ : ∃ m : Nat, n = (m : Int) := ⟨n.toNat, by omega⟩
      have hW : nextW ((lst s).drop a) m = 0 := by unfold nextW; rw [if_neg hneg, if_neg (by rw [hlen]; omega)]
      have hN : nextN ((lst s).drop a) m = m := by unfold nextN; rw [hW]; simp
      rw [hW, hN]
      have HSz := Keep.mk hb
      have hm1 : (a : Int) + (m : Int) ≤ (s.size : Int) := by omega
      clear hW hN hse hlen h hn1 hn2 hb hle
      go_enter Try.func99, Try.ntmps99
      go_wp2_with fail
      refine (ileft_any p s a none w HI.out HSz.out).mono ?_
      rintro e w1 ⟨rfl, q, hw1⟩
      have hI1 : InAt w1 p s a none := by rw [hw1]; exact ⟨HI.out.blk.drewN q, HI.out.le⟩
      have HG1 : Keep (Grown w w1 fun k => k = p) := ⟨by rw [hw1]; exact (Grown.refl w _).drewN q⟩
      have c0 : w1.cell? ⟨p, 0, none⟩ = some (.string s) := by rw [hI1.blk.cell]; rfl
      have c1 : w1.cell? ⟨p, 1, none⟩ = some (.int .i64 (a : Int)) := by rw [hI1.blk.cell]; rfl
      have HI1 := Keep.mk hI1
      clear hw1 c2 f1 hI1
      go_wp2_with fail
      go_quiet (fail)
      obtain ⟨w2, hw2⟩ : ∃ w2, Keep (w2 = w1.drewN nq) := ⟨_, ⟨rfl⟩⟩
      rw [← hw2.out]
      have hI2 : InAt w2 p s a none := by rw [hw2.out]; exact ⟨HI1.out.blk.drewN nq, HI1.out.le⟩
      have hG2 : Grown w w2 (fun k => k = p) := by rw [hw2.out]; exact HG1.out.drewN nq
      have d1 : w2.cell? ⟨p, 1, none⟩ = some (.int .i64 (a : Int)) := by rw [hI2.blk.cell]; rfl
      have f1 := hI2.blk.frozen 1
      have HI2 : Keep (InAt (w2.setCell ⟨p, 1, none⟩ (.int .i64 ((a : Int) + (m : Int)))) p s (a + m) none) := ⟨⟨hI2.blk.set 1 _, by omega⟩⟩
      have HG2 := Keep.mk hG2
      clear c0 c1 hI2 hG2 hw2
      go_wp2
      go_ret2
      exact ⟨none, .nilIface, rfl, HI2.out, HG2.out.trans (Grown.setCell w2 p 1 _ fun _ => rfl), .inl ⟨rfl, rfl, rfl⟩⟩
theorem lst_at0 (s : ByteArray) (h : 0 < s.size) : (s[0].toNat : Int) = (lst s).getD 0 0 := by
  have := lst_get s 0 h
  rw [List.drop_zero] at this
  rw [this]; rfl
theorem ext_size (s : ByteArray) (a n : Nat) (h : a + n ≤ s.size) : (s.extract a (a + n)).size = n := by
  rw [← lst_len, lst_extract, List.length_take, List.length_drop, lst_len]; omega

def RdPostB (p : Nat) (s : ByteArray) (why : Int) (a : Nat) (l : List Int) (w : World) (e : Ending) (w' : World) : Prop :=
  ∃ bad er res, e = .returned (.tuple #[res, er]) ∧ InAt w' p s a bad ∧ (Grown w w' fun k => k = p) ∧ ErrAs w w' why a bad er ∧
    ((why = 0 ∧ OwnT w' res l ∧ ∃ k, res.ownBlock = some k ∧ w.heap.size ≤ k ∧ bad = none) ∨ (why ≠ 0 ∧ res = .slice none 0 0))

theorem nextN_0 (D : List Int) (n : Int) (h : nextW D n = 0) : nextN D n = n.toNat ∧ 0 ≤ n ∧ n.toNat ≤ D.length := by
  unfold nextN
  rw [if_pos h]
  unfold nextW at h
  by_cases h1 : n < 0
  · rw [if_pos h1] at h; cases h
  · rw [if_neg h1] at h
    by_cases h2 : (D.length : Int) < n
    · rw [if_pos h2] at h; cases h
    · exact ⟨rfl, by omega, by omega⟩
theorem nextN_1 (D : List Int) (n : Int) (h : nextW D n ≠ 0) : nextN D n = 0 := by unfold nextN; rw [if_neg h]

set_option maxRecDepth 8000 in
set_option maxHeartbeats 1000000 in
theorem ibyte_good (p : Nat) (s : ByteArray) (a : Nat) (w : World) (h : InAt w p s a none) (hb : s.size ≤ 140737488355328) (D : List Int) (hD : D = (lst s).drop a) (W : Int) (hW : W = nextW D 1) (N : Nat) (hN : N = nextN D 1) (c : Int) (hc : c = if W = 0 then D.getD 0 0 else 0) :
    Calls Try.prog 65 #[ptr p] w (RdPost p s W (a + N) (.int .u8 c) w) := by
  have HC := Keep.mk (inext_good p s a 1 w h hb (by decide) (by decide))
  have HD : Keep (((lst s).drop a).length = s.size - a) := ⟨by rw [List.length_drop, lst_len]⟩
  have HL := Keep.mk h.le
  rw [← hD] at HC HD
  rw [← hW, ← hN] at HC
  have HDD := Keep.mk hD
  have HW := Keep.mk hW
  have HN := Keep.mk hN
  have Hc := Keep.mk hc
  clear h hb hD hW hN hc
  go_enter Try.func65, Try.ntmps65
  go_wp2_with fail
  refine HC.out.mono ?_
  rintro e w1 ⟨bad, er, rfl, h1, h2, h3⟩
  have H1 := Keep.mk h1
  have H2 := Keep.mk h2
  have H3 := Keep.mk h3
  clear h1 h2 HC
  rcases h3 with ⟨h0, rfl, rfl⟩ | ⟨h0, q, hq, rfl, rfl, hbad⟩
  · have hx := nextN_0 D 1 (by rw [← HW.out]; exact h0)
    have hN1 : N = 1 := by rw [HN.out, hx.1]; rfl
    subst hN1
    have hDl : 1 ≤ D.length := hx.2.2
    have hsz : (s.extract a (a + 1)).size = 1 := ext_size s a 1 (by have := HD.out; omega)
    have hz2 : 0 < (s.extract a (a + 1)).size := by omega
    have hv := lst_at0 (s.extract a (a + 1)) hz2
    have hl : (lst (s.extract a (a + 1))).getD 0 0 = c := by
      rw [lst_extract, ← HDD.out, Hc.out, if_pos h0]
      cases D with
      | nil => simp at hDl
      | cons c D => simp
    rw [hl] at hv
    have hz : (0 : Int) < ((s.extract a (a + 1)).size : Int) := by omega
    have H0 := Keep.mk h0
    clear hl h0 hx hDl hsz HN HDD
    generalize s.extract a (a + 1) = st at *
    go_wp2
    go_ret2
    exact ⟨none, .nilIface, rfl, H1.out, H2.out, H3.out⟩
  · have hc0 : c = 0 := by rw [Hc.out, if_neg h0]
    have H0 := Keep.mk h0
    have Hb := Keep.mk hbad
    subst hc0
    clear h0 hbad
    unfold err
    go_wp2
    go_ret2
    exact ⟨some q, err q, rfl, H1.out, H2.out, H3.out⟩

set_option maxRecDepth 8000 in
set_option maxHeartbeats 1000000 in
theorem iraw_good (p : Nat) (s : ByteArray) (a : Nat) (n : Int) (w : World) (h : InAt w p s a none) (hb : s.size ≤ 140737488355328) (hn1 : -9223372036854775808 ≤ n) (hn2 : n ≤ 9223372036854775807) (D : List Int) (hD : D = (lst s).drop a) (W : Int) (hW : W = nextW D n) (N : Nat) (hN : N = nextN D n) :
    Calls Try.prog 109 #[ptr p, .int .i64 n] w (RdPostB p s W (a + N) (D.take N) w) := by
  have HC := Keep.mk (inext_good p s a n w h hb hn1 hn2)
  have HL := Keep.mk h.le
  have HLD : Keep (D.length = s.size - a) := ⟨by rw [hD, List.length_drop, lst_len]⟩
  have HS := Keep.mk hb
  rw [← hD, ← hW, ← hN] at HC
  have HDD := Keep.mk hD
  have HW := Keep.mk hW
  have HN := Keep.mk hN
  clear h hb hD hW hN hn1 hn2
  go_enter Try.func109, Try.ntmps109
  go_wp2_with fail
  refine HC.out.mono ?_
  rintro e w1 ⟨bad, er, rfl, h1, h2, h3⟩
  have H1 := Keep.mk h1
  have H2 := Keep.mk h2
  have H3 := Keep.mk h3
  clear h1 h2 HC
  rcases h3 with ⟨h0, rfl, rfl⟩ | ⟨h0, q, hq, rfl, rfl, hbad⟩
  · have hx := nextN_0 D n (by rw [← HW.out]; exact h0)
    have hNl : N ≤ D.length := by rw [HN.out, hx.1]; exact hx.2.2
    have hl : lst (s.extract a (a + N)) = D.take N := by rw [lst_extract, ← HDD.out, show a + N - a = N by omega]
    have hsz : (s.extract a (a + N)).size = N := ext_size s a N (by have := HLD.out; have := HL.out; omega)
    obtain ⟨v, w2, hr, hO, hk, hB⟩ := conv_bytes w1 (s.extract a (a + N)) (by rw [hsz]; have := HLD.out; have := HS.out; omega)
    rw [hl] at hO
    have HO := Keep.mk hO
    have HK := Keep.mk hk
    have HB := Keep.mk hB
    have H0 := Keep.mk h0
    clear hl hsz hx hNl h0 hO hk hB HN HW HDD HLD
    generalize s.extract a (a + N) = st at *
    go_wp2
    go_ret2
    refine ⟨none, .nilIface, v, rfl, ⟨H1.out.blk.below HB.out H1.out.blk.lt, H1.out.le⟩, H2.out.next (Grown.below (S := fun _ => False) HB.out) fun _ _ h => h.elim, .inl ⟨H0.out, rfl, rfl⟩, .inl ⟨H0.out, HO.out, _, HK.out, H2.out.size, rfl⟩⟩
  · have H0 := Keep.mk h0
    clear h0 hbad
    unfold err
    go_wp2
    go_ret2
    exact ⟨some q, err q, _, rfl, H1.out, H2.out, H3.out, .inr ⟨H0.out, rfl⟩⟩
def byt (D : List Int) (mm : Int) : Int × Nat × List Int :=
  if (fstM D mm).2.2 = 0 then (nextW (D.drop (fstM D mm).2.1.toNat) (fstM D mm).1, (fstM D mm).2.1.toNat + nextN (D.drop (fstM D mm).2.1.toNat) (fstM D mm).1, (D.drop (fstM D mm).2.1.toNat).take (nextN (D.drop (fstM D mm).2.1.toNat) (fstM D mm).1)) else ((fstM D mm).2.2, 0, [])
theorem byt_eq (D : List Int) (mm : Int) : byt D mm = if (fstM D mm).2.2 = 0 then (nextW (D.drop (fstM D mm).2.1.toNat) (fstM D mm).1, (fstM D mm).2.1.toNat + nextN (D.drop (fstM D mm).2.1.toNat) (fstM D mm).1, (D.drop (fstM D mm).2.1.toNat).take (nextN (D.drop (fstM D mm).2.1.toNat) (fstM D mm).1)) else ((fstM D mm).2.2, 0, []) := rfl
theorem fstM_le (D : List Int) (mm : Int) (hB : Byts D) : (fstM D mm).2.2 = 0 → 0 ≤ (fstM D mm).1 ∧ (fstM D mm).1 ≤ mm := by
  unfold fstM
  split
  · intro h; cases h
  · rename_i h
    intro h0
    obtain ⟨x, h1, _⟩ := fstG_form D (fstG D 0 0).1 (fstG D 0 0).2.1 hB (Prod.ext rfl (Prod.ext rfl h0))
    refine ⟨by rw [h1]; omega, ?_⟩
    by_cases hle : (fstG D 0 0).1 ≤ mm
    · exact hle
    · exact absurd ⟨h0, by omega⟩ h

set_option maxRecDepth 8000 in
set_option maxHeartbeats 1000000 in
theorem ireadB_good (p : Nat) (s : ByteArray) (a : Nat) (most : Int) (mm : Nat) (hmm : (mm : Int) = max most 0) (w : World) (h : InAt w p s a none) (hb : s.size ≤ 140737488355328) (hm2 : mm ≤ 9223372036854775807) (D : List Int) (hD : D = (lst s).drop a) (W : Int) (hW : W = (byt D (mm : Int)).1) (N : Nat) (hN : N = (byt D (mm : Int)).2.1) (l : List Int) (hl : l = (byt D (mm : Int)).2.2) :
    Calls Try.prog 116 #[ptr p, .int .i64 most] w (RdPostB p s W (a + N) l w) := by
  have hc := inum_good p s a mm w h hb
  rw [← hD] at hc
  have HLD : Keep (D.length = s.size - a) := ⟨by rw [hD, List.length_drop, lst_len]⟩
  have HL := Keep.mk h.le
  have HS := Keep.mk hb
  have HDD := Keep.mk hD
  have HBy := Keep.mk (byt_eq D (mm : Int))
  have HSh := Keep.mk (fstM_shape D (mm : Int))
  have HLe := Keep.mk (fstM_le D (mm : Int) (by rw [hD]; exact (lst_byts s).drop a))
  have HW := Keep.mk hW
  have HN := Keep.mk hN
  have Hl := Keep.mk hl
  have hmx := hmm.symm
  have hwm : IntKind.u64.wrap (mm : Int) = (mm : Int) := by rw [IntKind.wrap_u64]; omega
  have Hm2 := Keep.mk hm2
  clear hW hN hl hD hmm h hb hm2
  generalize fstM D (mm : Int) = R at *
  obtain ⟨x, k, y⟩ := R
  simp only at hc HBy HSh HLe
  have HC := Keep.mk hc
  clear hc
  go_enter Try.func116, Try.ntmps116
  go_wp2_with fail
  refine HC.out.mono ?_
  rintro e w1 ⟨bad, er, rfl, h1, h2, h3⟩
  have H1 := Keep.mk h1
  have H2 := Keep.mk h2
  have H3 := Keep.mk h3
  clear h1 h2 HC hwm hmx
  rcases h3 with ⟨h0, rfl, rfl⟩ | ⟨h0, q, hq, rfl, rfl, hbad⟩
  · obtain ⟨hx0, hx1⟩ := HLe.out h0
    have hk0 : 0 ≤ k := HSh.out.2.1
    have hk1 : k ≤ D.length := HSh.out.2.2
    obtain ⟨kn, rfl⟩ : ∃ kn : Nat, k = (kn : Int) := ⟨k.toNat, by omega⟩
    rw [if_pos h0, Int.toNat_natCast] at HBy
    have hx2 : x ≤ 9223372036854775807 := by have := Hm2.out; omega
    have hak : Keep (a + kn ≤ s.size) := ⟨by have := HLD.out; have := HL.out; omega⟩
    rw [Int.toNat_natCast] at H1
    have hc2 := inext_good p s (a + kn) x w1 H1.out HS.out (by omega) hx2
    have hDk : (lst s).drop (a + kn) = D.drop kn := by rw [HDD.out, List.drop_drop]
    rw [hDk] at hc2
    obtain ⟨W2, hW2⟩ : ∃ W2, Keep (W2 = nextW (D.drop kn) x) := ⟨_, ⟨rfl⟩⟩
    obtain ⟨N2, hN2⟩ : ∃ N2, Keep (N2 = nextN (D.drop kn) x) := ⟨_, ⟨rfl⟩⟩
    rw [← hW2.out, ← hN2.out] at hc2 HBy
    have eW : W = W2 := by rw [HW.out, HBy.out]
    have eN : N = kn + N2 := by rw [HN.out, HBy.out]
    have el : l = (D.drop kn).take N2 := by rw [Hl.out, HBy.out]
    have HC2 := Keep.mk hc2
    subst eW
    have HeN := Keep.mk eN
    have Hel := Keep.mk el
    have HDk := Keep.mk hDk
    clear hc2 h0 eN el hDk HW HN Hl HBy HSh HLe H3 hk0 hk1
    go_wp2_with fail
    refine HC2.out.mono ?_
    rintro e w2 ⟨bad, er, rfl, h4, h5, h6⟩
    have H4 : Keep (InAt w2 p s (a + N) bad) := ⟨by rw [HeN.out, ← Nat.add_assoc]; exact h4⟩
    have H5 := Keep.mk (H2.out.trans h5)
    have hsz := H2.out.size
    have H6 : Keep (ErrAs w w2 W (a + N) bad er) := ⟨by
      rw [HeN.out, ← Nat.add_assoc]
      rcases h6 with h6 | ⟨h6, q, h7, h8⟩
      · exact .inl h6
      · exact .inr ⟨h6, q, by omega, h8⟩⟩
    have hNl : Keep (N2 ≤ (D.drop kn).length) := ⟨by
      by_cases hw : W = 0
      · have := nextN_0 (D.drop kn) x (by rw [← hW2.out]; exact hw); rw [hN2.out, this.1]; exact this.2.2
      · rw [hN2.out, nextN_1 (D.drop kn) x (by rw [← hW2.out]; exact hw)]; omega⟩
    have hls : lst (s.extract (a + kn) (a + kn + N2)) = l := by rw [lst_extract, HDk.out, Hel.out, show a + kn + N2 - (a + kn) = N2 by omega]
    have hsz2 : (s.extract (a + kn) (a + kn + N2)).size = N2 := ext_size s (a + kn) N2 (by have := HLD.out; have := HL.out; have := hNl.out; have h8 := hak.out; have h9 := hNl.out; rw [List.length_drop] at h9; omega)
    clear h4 h5 HC2 hsz
    rcases h6 with ⟨h0, rfl, rfl⟩ | ⟨h0, q, hq, rfl, rfl, hbad⟩
    · obtain ⟨v, w3, hr, hO, hk, hB⟩ := conv_bytes w2 (s.extract (a + kn) (a + kn + N2)) (by rw [hsz2]; have := HLD.out; have := HS.out; have := hNl.out; rw [List.length_drop] at this; omega)
      rw [hls] at hO
      have HO := Keep.mk hO
      have HK := Keep.mk hk
      have HB := Keep.mk hB
      have H0 := Keep.mk h0
      clear hls hsz2 h0 hO hk hB hNl
      generalize s.extract (a + kn) (a + kn + N2) = st at *
      go_wp2
      go_ret2
      refine ⟨none, .nilIface, v, rfl, ⟨H4.out.blk.below HB.out H4.out.blk.lt, H4.out.le⟩, H5.out.next (Grown.below (S := fun _ => False) HB.out) fun _ _ h => h.elim, .inl ⟨H0.out, rfl, rfl⟩, .inl ⟨H0.out, HO.out, _, HK.out, H5.out.size, rfl⟩⟩
    · have H0 := Keep.mk h0
      clear h0 hbad hls hsz2
      unfold err
      go_wp2
      go_ret2
      exact ⟨some q, err q, _, rfl, H4.out, H5.out, H6.out, .inr ⟨H0.out, rfl⟩⟩
  · rw [if_neg h0] at HBy
    have eW : W = y := by rw [HW.out, HBy.out]
    have eN : N = 0 := by rw [HN.out, HBy.out]
    subst eW eN
    obtain ⟨rfl, rfl⟩ := HSh.out.1 h0
    have H0 := Keep.mk h0
    clear h0 hbad HBy HSh HLe HW HN Hl
    unfold err
    go_wp2
    go_ret2
    exact ⟨some q, err q, _, rfl, H1.out, H2.out, H3.out, .inr ⟨H0.out, rfl⟩⟩

set_option maxRecDepth 8000 in
set_option maxHeartbeats 1000000 in
theorem ibytes_good (p : Nat) (s : ByteArray) (a : Nat) (most : Int) (mm : Nat) (hmm : (mm : Int) = max most 0) (w : World) (h : InAt w p s a none) (hb : s.size ≤ 140737488355328) (hm2 : mm ≤ 9223372036854775807) (D : List Int) (hD : D = (lst s).drop a) (W : Int) (hW : W = (byt D (mm : Int)).1) (N : Nat) (hN : N = (byt D (mm : Int)).2.1) (l : List Int) (hl : l = (byt D (mm : Int)).2.2) :
    Calls Try.prog 111 #[ptr p, .int .i64 most] w (RdPostB p s W (a + N) l w) := by
  have HC := Keep.mk (ireadB_good p s a most mm hmm w h hb hm2 D hD W hW N hN l hl)
  clear hmm h hb hm2 hD hW hN hl
  go_enter Try.func111, Try.ntmps111
  go_wp2_with fail
  refine HC.out.mono ?_
  rintro e w1 ⟨bad, er, res, rfl, h1⟩
  have H := Keep.mk h1
  clear h1 HC
  go_wp2
  go_ret2
  exact ⟨bad, er, res, rfl, H.out⟩

theorem results_cell_row2 {P : Program} {fn : Func} {p u : Tmp} {ty : TypeId} (h : fn.results = #[.cell p ty, .tmp u]) (tmps : Array Value) (w : World) (g : Nat) (t : TypeId) (cs : Array Value) (fr : Nat × Nat) (d : TypeDesc) (y : Value)
    (hp : tmps.getD p undef = .pointer (some ⟨g, 0, none⟩)) (hy : tmps.getD u undef = y) (hg : w.heap[g]? = some (.cells cs t fr))
    (hu : P.underlying ty = some d) (hd : (match d with | .struct _ | .array _ _ => true | _ => false) = true) (hi : (P.info? ty).map (·.size) = some cs.size) :
    (results fn tmps).run P w = .ok (.tuple #[.agg cs, y]) w := by
  rw [results_cell_tmp h, hp, hy]
  simp [asAddr, Result.andThen, run_loadVar_row w g t ty cs fr d hg hu hd hi]

theorem run_copyS (w : World) (g : Nat) (T ty : TypeId) (st : ByteArray) (n : Nat) (cur : Array Value) (hg : Blk w g T cur) (hs : cur.size = n) (hn : st.size = n ∨ st.size = 0) :
    (Builtin.copy_ #[25, 9] ty #[.slice (some ⟨g, 0, none⟩) n n, .string st]).run Try.prog w = .ok (goInt st.size) (w.setRow g ((bv (lst st)) ++ cur.toList.drop st.size).toArray) := by
  have hst := run_storeCells_at Try.prog g 0 T (bv (lst st)) 0 cur w hg (by rw [bv_len, lst_len]; omega) (bv_one _)
  have hcur : (cur.toList.take (0 + 0) ++ bv (lst st) ++ cur.toList.drop (0 + 0 + (bv (lst st)).length)).toArray = ((bv (lst st)) ++ cur.toList.drop st.size).toArray := by
    rw [bv_len, lst_len]; simp
  rw [hcur] at hst
  obtain ⟨i, hi, hzz⟩ := Option.map_eq_some_iff.1 Try.info5
  simp only [Prod.mk.injEq] at hzz
  obtain ⟨_, hsz, _⟩ := hzz
  have hf := Lib.run_firstCells_string (P := Try.prog) w 1 st
  rw [lst_cells] at hf
  have hmin : Nat.min st.size n = st.size := by rcases hn with h | h <;> simp [h]
  simp [Builtin.copy_, run_underlying Try.underlying25, Builtin.lenOf, sizeOf, typeInfo, hi, hsz, hmin, hf, hst]

def hrd (D : List Int) (W : Int) : Nat → Int := fun i => if W = 0 then D.getD i 0 else 0
theorem bytesA_of (l : List Int) (n : Nat) (h : l.length = n) : (bv l).toArray = bytesA n (fun i => l.getD i 0) := by
  apply Array.ext_getElem?
  intro i
  by_cases hi : i < n
  · rw [bytesA_get _ _ _ hi, List.getElem?_toArray, bv_get l i (by omega)]
  · rw [Array.getElem?_eq_none (by rw [List.size_toArray, bv_len]; omega), Array.getElem?_eq_none (by rw [bytesA_size]; omega)]
theorem copied (st : ByteArray) (D : List Int) (W : Int) (h : (W = 0 ∧ lst st = D.take 32 ∧ 32 ≤ D.length) ∨ (W ≠ 0 ∧ st.size = 0)) : ((bv (lst st)) ++ (bytesA 32 fun _ => 0).toList.drop st.size).toArray = bytesA 32 (hrd D W) := by
  rcases h with ⟨h0, h1, h2⟩ | ⟨h0, h1⟩
  · have hs : st.size = 32 := by rw [← lst_len, h1, List.length_take]; omega
    rw [hs, List.drop_of_length_le (by simp [bytesA_size]), List.append_nil, h1, bytesA_of _ 32 (by rw [List.length_take]; omega)]
    exact bytesA_congr fun i hi => by simp [hrd, h0, List.getD_eq_getElem?_getD, hi]
  · have hl : lst st = [] := List.eq_nil_of_length_eq_zero (by rw [lst_len]; exact h1)
    rw [hl, h1]
    simp only [bv, List.map_nil, List.nil_append, List.drop_zero, Array.toArray_toList]
    exact bytesA_congr fun i hi => by simp [hrd, h0]


set_option maxRecDepth 8000 in
set_option maxHeartbeats 1000000 in
theorem ihash_good (p : Nat) (s : ByteArray) (a : Nat) (w : World) (h : InAt w p s a none) (hb : s.size ≤ 140737488355328) (D : List Int) (hD : D = (lst s).drop a) (W : Int) (hW : W = nextW D 32) (N : Nat) (hN : N = nextN D 32) :
    Calls Try.prog 107 #[ptr p] w (RdPost p s W (a + N) (.agg (bytesA 32 (hrd D W))) w) := by
  have HI := Keep.mk h
  have HL := Keep.mk h.le
  have HLD : Keep (D.length = s.size - a) := ⟨by rw [hD, List.length_drop, lst_len]⟩
  have HS := Keep.mk hb
  have HDD := Keep.mk hD
  have HW := Keep.mk hW
  have HN := Keep.mk hN
  have Hp := Keep.mk h.blk.lt
  have HR := Keep.mk (show Blk ((w.alloc (.cells (bytesA 32 fun _ => 0) 101)).alloc (.cells (bytesA 32 fun _ => 0) 101)) w.heap.size 101 (bytesA 32 fun _ => 0) from (Blk.new w 101 _).alloc _)
  have HH : Keep (Blk ((w.alloc (.cells (bytesA 32 fun _ => 0) 101)).alloc (.cells (bytesA 32 fun _ => 0) 101)) (w.heap.size + 1) 101 (bytesA 32 fun _ => 0)) := ⟨by
    have h := Blk.new (w.alloc (.cells (bytesA 32 fun _ => 0) 101)) 101 (bytesA 32 fun _ => 0)
    simp only [World.size_alloc] at h
    exact h⟩
  have HB : Keep (Below w.heap.size w ((w.alloc (.cells (bytesA 32 fun _ => 0) 101)).alloc (.cells (bytesA 32 fun _ => 0) 101))) := ⟨((Below.refl _ _).alloc (Nat.le_refl _) _).alloc (by simp) _⟩
  have HZ : Keep (((w.alloc (.cells (bytesA 32 fun _ => 0) 101)).alloc (.cells (bytesA 32 fun _ => 0) 101)).heap.size = w.heap.size + 2) := ⟨by simp⟩
  clear h hb hD hW hN
  go_enter Try.func107, Try.ntmps107
  go_wp2_with (first | (refine wpList_new rfl 101 rfl _ Try.new101 ?_))
  generalize (w.alloc (.cells (bytesA 32 fun _ => 0) 101)).alloc (.cells (bytesA 32 fun _ => 0) 101) = w0 at *
  have hI0 : InAt w0 p s a none := ⟨HI.out.blk.below HB.out HI.out.blk.lt, HI.out.le⟩
  have hc := inext_good p s a 32 w0 hI0 HS.out (by decide) (by decide)
  rw [← HDD.out, ← HW.out, ← HN.out] at hc
  refine hc.mono ?_
  rintro e w1 ⟨bad, er, rfl, h1, h2, h3⟩
  have hR1 := h2.blk HR.out (fun e => by have := Hp.out; omega)
  have hH1 := h2.blk HH.out (fun e => by have := Hp.out; omega)
  have hcp : (W = 0 ∧ lst (s.extract a (a + N)) = D.take 32 ∧ 32 ≤ D.length) ∨ (W ≠ 0 ∧ (s.extract a (a + N)).size = 0) := by
    by_cases h0 : W = 0
    · have hx := nextN_0 D 32 (by rw [← HW.out]; exact h0)
      have hN32 : N = 32 := by rw [HN.out, hx.1]; rfl
      exact .inl ⟨h0, by rw [lst_extract, ← HDD.out, hN32, show a + 32 - a = 32 by omega], hx.2.2⟩
    · have hN0 : N = 0 := by rw [HN.out, nextN_1 D 32 (by rw [← HW.out]; exact h0)]
      exact .inr ⟨h0, by rw [hN0, ← lst_len, lst_extract]; simp⟩
  have hcs := run_copyS w1 (w.heap.size + 1) 101 3 (s.extract a (a + N)) 32 _ hH1 (bytesA_size _ _) (by
    rcases hcp with ⟨_, h4, h5⟩ | ⟨_, h4⟩
    · left; rw [← lst_len, h4, List.length_take]; omega
    · exact .inr h4)
  rw [copied _ D W hcp] at hcs
  have hH2 := hH1.setRow (bytesA 32 (hrd D W))
  have hR2 := hR1.setRow_ne (b' := w.heap.size + 1) (by omega) (bytesA 32 (hrd D W))
  have hI2 : InAt (w1.setRow (w.heap.size + 1) (bytesA 32 (hrd D W))) p s (a + N) bad := ⟨h1.blk.setRow_ne (by have := Hp.out; omega) _, h1.le⟩
  have hG0 : Grown w w1 (fun k => k = p) := (Grown.below HB.out).next h2 fun _ _ h => h
  have HE := Keep.mk h3
  have HI1 := Keep.mk h1
  have HG0 := Keep.mk hG0
  have HI2 := Keep.mk hI2
  obtain ⟨c, hcd⟩ : ∃ c, Keep (c = hrd D W) := ⟨_, ⟨rfl⟩⟩
  rw [← hcd.out] at hcs hH2 hR2 HI2
  rw [← hcd.out]
  have HH2 := Keep.mk hH2
  have HR2 := Keep.mk hR2
  obtain ⟨z, hz⟩ : ∃ z, Keep (z = goInt (s.extract a (a + N)).size) := ⟨_, ⟨rfl⟩⟩
  rw [← hz.out] at hcs
  clear hc hI0 h1 h2 h3 hR1 hH1 hcp hH2 hR2 hI2 hG0 hz HN HDD HW
  generalize s.extract a (a + N) = st at *
  obtain ⟨w2, hw2⟩ : ∃ w2, Keep (w2 = w1.setRow (w.heap.size + 1) (bytesA 32 c)) := ⟨_, ⟨rfl⟩⟩
  rw [← hw2.out] at hcs HH2 HR2 HI2
  go_wp2_with (first | (refine wpList_load_row rfl 101 (.tmp 4) rfl (w.heap.size + 1) rfl 101 (bytesA 32 c) (0, 0) (.array 32 5) HH2.out Try.underlying101 rfl (Try.size101B _) ?_) | (refine wpList_store_row rfl 101 (.tmp 2) (.tmp 15) rfl w.heap.size (bytesA 32 c) rfl rfl 101 (bytesA 32 fun _ => 0) HR2.out (Try.size101B _) (bytesA_sizes _ _ _) (bytesA_one _ _) ?_))
  refine bodyPost_ret (v := .tuple #[.agg (bytesA 32 c), er]) (results_cell_row2 Try.results107 _ _ w.heap.size 101 _ (0, 0) _ _ rfl rfl (HR2.out.setRow _) Try.underlying101 rfl (Try.size101B _)) rfl ?_
  have hp := Hp.out
  have hz := HZ.out
  refine ⟨bad, er, by rw [hcd.out], ⟨HI2.out.blk.setRow_ne (by omega) _, HI2.out.le⟩, ?_, ?_⟩
  · rw [hw2.out]
    exact (HG0.out.next (Grown.setRow w1 (w.heap.size + 1) _ (S := fun k => k = w.heap.size + 1) fun _ => rfl) fun i hi e => by omega).next (Grown.setRow _ w.heap.size _ (S := fun k => k = w.heap.size) fun _ => rfl) fun i hi e => by omega
  · rcases HE.out with h6 | ⟨h6, q, h7, h8, h9, h10⟩
    · exact .inl h6
    · refine .inr ⟨h6, q, by omega, h8, h9, ?_⟩
      rw [hw2.out]
      exact (h10.setRow_ne (by omega) _).setRow_ne (by omega) _


set_option maxRecDepth 8000 in
set_option maxHeartbeats 1000000 in
theorem iend_good (p : Nat) (s : ByteArray) (a : Nat) (w : World) (h : InAt w p s a none) (hb : s.size ≤ 140737488355328) (W : Int) (hW : W = if a < s.size then 23 else 0) :
    Calls Try.prog 67 #[ptr p] w fun e w' => ∃ bad er, e = .returned er ∧ InAt w' p s a bad ∧ (Grown w w' fun k => k = p) ∧ ErrAs w w' W a bad er := by
  have HI := Keep.mk h
  have HS := Keep.mk hb
  have c2 : w.cell? ⟨p, 2, none⟩ = some (.pointer none) := by rw [h.blk.cell]; rfl
  have hle := h.le
  by_cases hlt : a < s.size
  · have HW : W = 23 := by rw [hW, if_pos hlt]
    have h1 : (0 : Int) < (s.size : Int) - a := by omega
    subst HW
    clear h hb hW hle
    go_enter Try.func67, Try.ntmps67
    go_wp2_with fail
    refine (ileft_any p s a none w HI.out HS.out).mono ?_
    rintro e w1 ⟨rfl, q, hw1⟩
    have HI1 : Keep (InAt w1 p s a none) := ⟨by rw [hw1]; exact ⟨HI.out.blk.drewN q, HI.out.le⟩⟩
    have HG1 : Keep (Grown w w1 fun k => k = p) := ⟨by rw [hw1]; exact (Grown.refl w _).drewN q⟩
    clear hw1 c2
    go_wp2_with fail
    refine (ifail_any p s a 23 w1 HI1.out).mono ?_
    rintro e w2 ⟨rfl, h3, h4, h5⟩
    have HP := Keep.mk (And.intro h3 (And.intro h4 h5))
    clear h3 h4 h5
    go_wp2
    go_ret
    exact ⟨some w1.heap.size, err w1.heap.size, rfl, HP.out.1, HG1.out.trans HP.out.2.2, .inr ⟨by decide, w1.heap.size, HG1.out.size, rfl, rfl, HP.out.2.1⟩⟩
  · have HW : W = 0 := by rw [hW, if_neg hlt]
    have h1 : ¬ (0 : Int) < (s.size : Int) - a := by omega
    subst HW
    clear h hb hW hle
    go_enter Try.func67, Try.ntmps67
    go_wp2_with fail
    refine (ileft_any p s a none w HI.out HS.out).mono ?_
    rintro e w1 ⟨rfl, q, hw1⟩
    have HI1 : Keep (InAt w1 p s a none) := ⟨by rw [hw1]; exact ⟨HI.out.blk.drewN q, HI.out.le⟩⟩
    have HG1 : Keep (Grown w w1 fun k => k = p) := ⟨by rw [hw1]; exact (Grown.refl w _).drewN q⟩
    clear hw1 c2
    go_wp2
    go_ret
    exact ⟨none, .nilIface, rfl, HI1.out, HG1.out, .inl ⟨rfl, rfl, rfl⟩⟩
set_option maxRecDepth 8000 in
set_option maxHeartbeats 1000000 in
theorem newIn_any (v : Value) (l : List Int) (w : World) (hr : RowAt w v l) :
    Calls Try.prog 36 #[v] w fun e w' => e = .returned (ptr w.heap.size) ∧ w' = w.alloc (.cells #[.string (strOfNums l), .int .i64 0, .pointer none] 118) := by
  have hc := conv_row v l w hr
  clear hr
  go_enter Try.func36, Try.ntmps36
  go_wp2
  go_ret
  exact ⟨rfl, rfl⟩
theorem wp_val {P : Program} {Q : Exit → Act → World → Prop} {o : Oper} {a : Act} {w : World} {K : Act → World → Prop} (v : Value) (hrun : (execOp a.eval o).run P w = .ok (.value v) w) (h : K (a.put o.dst v) w) : o.wp P a w K Q := by
  unfold Oper.wp
  rw [hrun]
  exact h
structure IntsAt (w : World) (v : Value) (m : Nat) (K : Nat → Int) : Prop where
  form : (∃ a c, v = .slice a 0 c ∧ m = 0) ∨ ∃ q o cap, v = .slice (some ⟨q, o, none⟩) m cap ∧ ∀ i, i < m → w.cell? ⟨q, o + i, none⟩ = some (.int .i64 (K i))
theorem IntsAt.sl {w : World} {v : Value} {m : Nat} {K : Nat → Int} (h : IntsAt w v m K) : ∃ a c, v = .slice a m c := by
  rcases h.form with ⟨a, c, rfl, rfl⟩ | ⟨q, o, cap, rfl, _⟩
  · exact ⟨_, _, rfl⟩
  · exact ⟨_, _, rfl⟩
theorem IntsAt.at {w : World} {a : Option Addr} {m c : Nat} {K : Nat → Int} (h : IntsAt w (.slice a m c) m K) {t : Nat} (ht : t < m) : ∃ q o, a = some ⟨q, o, none⟩ ∧ w.cell? ⟨q, o + t, none⟩ = some (.int .i64 (K t)) := by
  rcases h.form with ⟨_, _, _, h2⟩ | ⟨q, o, cap, h1, h2⟩
  · omega
  · injection h1 with h1 h3 h4
    exact ⟨q, o, h1, h2 t ht⟩



theorem results_cell1_row {P : Program} {fn : Func} {p : Tmp} {ty : TypeId} (h : fn.results = #[.cell p ty]) (tmps : Array Value) (w : World) (g : Nat) (t : TypeId) (cs : Array Value) (fr : Nat × Nat) (d : TypeDesc)
    (hp : tmps.getD p undef = .pointer (some ⟨g, 0, none⟩)) (hg : w.heap[g]? = some (.cells cs t fr))
    (hu : P.underlying ty = some d) (hd : (match d with | .struct _ | .array _ _ => true | _ => false) = true) (hi : (P.info? ty).map (·.size) = some cs.size) :
    (results fn tmps).run P w = .ok (.agg cs) w := by
  have hr := run_loadVar_row (P := P) w g t ty cs fr d hg hu hd hi
  simp only [results, h]
  simp only [Array.getD_eq_getD_getElem?] at hp
  simp [asAddr, hp, hr]

def RfAt (w : World) (x : Nat) (vB : Value) (a : Nat) (why b : Int) : Prop := Blk w x 83 #[vB, .int .i64 (a : Int), .int .i64 why, .int .i64 b]
theorem RfAt.c0 {w : World} {x : Nat} {vB : Value} {a : Nat} {why b : Int} (h : RfAt w x vB a why b) : w.cell? ⟨x, 0, none⟩ = some vB := by rw [Blk.cell h]; rfl
theorem RfAt.c1 {w : World} {x : Nat} {vB : Value} {a : Nat} {why b : Int} (h : RfAt w x vB a why b) : w.cell? ⟨x, 1, none⟩ = some (.int .i64 (a : Int)) := by rw [Blk.cell h]; rfl
theorem RfAt.c2 {w : World} {x : Nat} {vB : Value} {a : Nat} {why b : Int} (h : RfAt w x vB a why b) : w.cell? ⟨x, 2, none⟩ = some (.int .i64 why) := by rw [Blk.cell h]; rfl
theorem RfAt.c3 {w : World} {x : Nat} {vB : Value} {a : Nat} {why b : Int} (h : RfAt w x vB a why b) : w.cell? ⟨x, 3, none⟩ = some (.int .i64 b) := by rw [Blk.cell h]; rfl


structure RS (w : World) (x : Nat) (vB : Value) (a : Nat) (why b : Int) (w1 : World) : Prop where
  rf : RfAt w1 x vB a why b
  cell : Blk w1 w.heap.size 41 #[.int .i64 0, .int .i64 0]
  gr : Grown w w1 fun k => k = x
  lt : x < w.heap.size
theorem RS.start {w : World} {x : Nat} {vB : Value} {a : Nat} {why b : Int} (h : RfAt w x vB a why b) : RS w x vB a why b (w.alloc (.cells #[.int .i64 0, .int .i64 0] 41)) :=
  ⟨Blk.alloc h _, Blk.new _ _ _, Grown.alloc _ _ _, Blk.lt h⟩
theorem RS.d0 {w : World} {x : Nat} {vB : Value} {a : Nat} {why b : Int} {w1 : World} (h : RS w x vB a why b w1) : w1.cell? ⟨w.heap.size, 0, none⟩ = some (.int .i64 0) := by rw [h.cell.cell]; rfl
theorem RS.d1 {w : World} {x : Nat} {vB : Value} {a : Nat} {why b : Int} {w1 : World} (h : RS w x vB a why b w1) : w1.cell? ⟨w.heap.size, 1, none⟩ = some (.int .i64 0) := by rw [h.cell.cell]; rfl




end Go.Proofs.Ytlogkojhcccogaa
namespace Go.Proofs.Ytlogkojhcccogaa
open Go.RowKit
set_option linter.unusedSimpArgs false
set_option linter.unusedVariables false

theorem blk_range {w : World} {b : Nat} {T : TypeId} {cs : Array Value} (h : Blk w b T cs) : w.rangeAt b 0 cs.toList := fun j v hv => by
  rw [Nat.zero_add, h.cell]; simpa using hv
theorem InAt.box {w : World} {p : Nat} {s : ByteArray} {a : Nat} {bad : Option Nat} (h : InAt w p s a bad) (o : Obj) : InAt (w.alloc o) p s a bad := ⟨h.blk.alloc o, h.le⟩

theorem wpList_wanted {P : Program} {ops : Array Oper} {rest : List Oper} {o : Oper} {a : Act} {w : World} {Q : Exit → Act → World → Prop} (hw : Region.wanted o (yielded ops a.tmps) = true)
    (h : ∀ K : Act → World → Prop, (∀ a w, wpList P ops Q rest a w → K a w) → o.wp P a w K Q) : wpList P ops Q (o :: rest) a w :=
  wpList_step fun K hK => by rw [if_pos hw]; exact h K hK

theorem wp_bldG {P : Program} {o : Oper} {a : Act} {w : World} {K : Act → World → Prop} {Q : Exit → Act → World → Prop} (t : TypeId) (parts : Array (Nat × Operand)) (ho : o.op = .build t parts)
    (cells : Array Value) (hf : P.built t (parts.map fun (i, x) => (i, a.eval x)).toList = some cells) (h : K (a.put o.dst (.agg cells)) w) : o.wp P a w K Q :=
  wp_build t parts ho (by rw [hf]; rfl) (by rw [hf]; exact h)

structure WL (P : Program) (ops : Array Oper) (Q : Exit → Act → World → Prop) (l : List Oper) (a : Act) (w : World) : Prop where
  out : wpList P ops Q l a w
theorem WL.skip {P : Program} {ops : Array Oper} {rest : List Oper} {o : Oper} {a : Act} {w : World} {Q : Exit → Act → World → Prop} (hw : Region.wanted o (yielded ops a.tmps) = false)
    (h : WL P ops Q rest (a.put o.dst undef) w) : WL P ops Q (o :: rest) a w :=
  ⟨wpList_step fun K hK => by rw [if_neg (by rw [hw]; simp)]; exact hK _ _ h.out⟩
theorem WL.val {P : Program} {ops : Array Oper} {rest : List Oper} {o : Oper} {a : Act} {w : World} {Q : Exit → Act → World → Prop} (hw : Region.wanted o (yielded ops a.tmps) = true) (v : Value)
    (hrun : (execOp a.eval o).run P w = .ok (.value v) w) (h : WL P ops Q rest (a.put o.dst v) w) : WL P ops Q (o :: rest) a w :=
  ⟨wpList_wanted hw fun _ hK => wp_val v hrun (hK _ _ h.out)⟩
theorem WL.nil {P : Program} {ops : Array Oper} {a : Act} {w : World} {Q : Exit → Act → World → Prop} (h : Q .normal a w) : WL P ops Q [] a w := ⟨h⟩
theorem WL.mid {P : Program} {ops : Array Oper} {rest : List Oper} {op : Oper} {a : Act} {w : World} {Q : Exit → Act → World → Prop} (hw : Region.wanted op (yielded ops a.tmps) = true) (ty : TypeId) (x : Operand) (ho : op.op = .load ty x)
    (b o : Nat) (hx : a.eval x = .pointer (some ⟨b, o, none⟩)) (cs : List Value) (d : TypeDesc) (hc : w.rangeAt b o cs)
    (hu : P.underlying ty = some d) (hd : d.isRow = true) (hi : (P.info? ty).map (·.size) = some cs.length)
    (h : WL P ops Q rest (a.put op.dst (.agg cs.toArray)) w) : WL P ops Q (op :: rest) a w :=
  ⟨wpList_wanted hw fun _ hK => wp_load_mid ty x ho b o hx cs d hc hu hd hi (hK _ _ h.out)⟩
theorem WL.call {P : Program} {ops : Array Oper} {rest : List Oper} {o : Oper} {a : Act} {w : World} {Q : Exit → Act → World → Prop} (hw : Region.wanted o (yielded ops a.tmps) = true)
    (h : ∀ K : Act → World → Prop, (∀ a w, WL P ops Q rest a w → K a w) → o.wp P a w K Q) : WL P ops Q (o :: rest) a w :=
  ⟨wpList_wanted hw fun K hK => h K fun a w h => hK a w h.out⟩

section
variable {P : Program} {ops : Array Oper} {rest : List Oper} {o : Oper} {a : Act} {w : World} {Q : Exit → Act → World → Prop}
theorem WL.row (hw : Region.wanted o (yielded ops a.tmps) = true) (ty : TypeId) (x : Operand) (ho : o.op = .load ty x)
    (b : Nat) (hx : a.eval x = .pointer (some ⟨b, 0, none⟩)) (t : TypeId) (cs : Array Value) (d : TypeDesc) (hc : Blk w b t cs)
    (hu : P.underlying ty = some d) (hd : d.isRow = true) (hi : (P.info? ty).map (·.size) = some cs.size)
    (h : WL P ops Q rest (a.put o.dst (.agg cs)) w) : WL P ops Q (o :: rest) a w :=
  WL.mid hw ty x ho b 0 hx cs.toList d (blk_range hc) hu hd (by rw [Array.length_toList]; exact hi) (by rw [Array.toArray_toList]; exact h)
theorem WL.new (hw : Region.wanted o (yielded ops a.tmps) = true) (t : TypeId) (ho : o.op = .alloc t) (cells : Array Value)
    (hf : ∀ w : World, (Instr.alloc t true (.tuple #[])).run P w = .ok (.pointer (some ⟨w.heap.size, 0, none⟩)) (w.alloc (.cells cells t)))
    (h : WL P ops Q rest (a.put o.dst (.pointer (some ⟨w.heap.size, 0, none⟩))) (w.alloc (.cells cells t))) : WL P ops Q (o :: rest) a w :=
  ⟨wpList_wanted hw fun K hK => by
    unfold Oper.wp execOp
    simp only [ho, Sem.run_bind, hf w, Result.andThen_ok]
    exact hK _ _ h.out⟩
theorem WL.box (hw : Region.wanted o (yielded ops a.tmps) = true) (t : TypeId) (x : Operand) (ho : o.op = .box t x) (cs : Array Value) (hx : a.eval x = .agg cs)
    (h : WL P ops Q rest (a.put o.dst (.pointer (some ⟨w.heap.size, 0, none⟩))) (w.alloc (.cells cs t))) : WL P ops Q (o :: rest) a w :=
  ⟨wpList_wanted hw fun K hK => by
    unfold Oper.wp execOp
    simp only [ho, hx, Sem.run_bind, run_box_agg, Result.andThen_ok]
    exact hK _ _ h.out⟩
theorem WL.storeR (hw : Region.wanted o (yielded ops a.tmps) = true) (ty : TypeId) (x y : Operand) (ho : o.op = .store ty x y)
    (g : Nat) (cells : Array Value) (hx : a.eval x = .pointer (some ⟨g, 0, none⟩)) (hy : a.eval y = .agg cells)
    (t : TypeId) (old : Array Value) (hg : Blk w g t old) (hi : (P.info? ty).map (·.size) = some cells.size) (hold : old.size = cells.size) (h1 : cells.all (·.oneCell') = true)
    (h : WL P ops Q rest (a.put o.dst undef) (w.setRow g cells)) : WL P ops Q (o :: rest) a w :=
  ⟨wpList_wanted hw fun _ hK => wp_store_row ty x y ho g cells hx hy t old hg hi hold h1 (hK _ _ h.out)⟩
theorem WL.cell (hw : Region.wanted o (yielded ops a.tmps) = true) (w' : World) (hrun : (execOp a.eval o).run P w = .ok .skip w')
    (h : WL P ops Q rest (a.put o.dst undef) w') : WL P ops Q (o :: rest) a w :=
  ⟨wpList_wanted hw fun _ hK => by unfold Oper.wp; rw [hrun, Oper.upon_skip]; exact hK _ _ h.out⟩
theorem WL.valW (hw : Region.wanted o (yielded ops a.tmps) = true) (v : Value) (w' : World) (hrun : (execOp a.eval o).run P w = .ok (.value v) w')
    (h : WL P ops Q rest (a.put o.dst v) w') : WL P ops Q (o :: rest) a w :=
  ⟨wpList_wanted hw fun _ hK => by unfold Oper.wp; rw [hrun, Oper.upon_value]; exact hK _ _ h.out⟩
theorem WL.bld (hw : Region.wanted o (yielded ops a.tmps) = true) (t : TypeId) (parts : Array (Nat × Operand)) (ho : o.op = .build t parts)
    (vs : List (Nat × Value)) (hv : (parts.map fun (i, x) => (i, a.eval x)).toList = vs) (cells : Array Value) (hf : P.built t vs = some cells)
    (h : WL P ops Q rest (a.put o.dst (.agg cells)) w) : WL P ops Q (o :: rest) a w :=
  ⟨wpList_wanted hw fun _ hK => wp_bldG t parts ho cells (by rw [hv]; exact hf) (hK _ _ h.out)⟩
theorem WL.bs (hw : Region.wanted o (yielded ops a.tmps) = true) (t : TypeId) (n : Nat) (parts : Array (Nat × Operand)) (ho : o.op = .buildSlice t n parts)
    (vs : Array (Nat × Value)) (hv : (parts.map fun (i, x) => (i, a.eval x)) = vs) (v : Value) (w' : World) (hrun : (Instr.buildSlice t n vs).run P w = .ok v w')
    (h : WL P ops Q rest (a.put o.dst v) w') : WL P ops Q (o :: rest) a w :=
  ⟨wpList_wanted hw fun K hK => by
    unfold Oper.wp execOp
    simp only [ho, hv, Sem.run_bind, hrun, Result.andThen_ok]
    exact hK _ _ h.out⟩
theorem WL.part (hw : Region.wanted o (yielded ops a.tmps) = true) (ty : TypeId) (x y : Operand) (ho : o.op = .store ty x y)
    (g off : Nat) (cells : Array Value) (hx : a.eval x = .pointer (some ⟨g, off, none⟩)) (hy : a.eval y = .agg cells)
    (t : TypeId) (cur : Array Value) (hg : Blk w g t cur) (hi : (P.info? ty).map (·.size) = some cells.size) (hfit : off + cells.size ≤ cur.size) (h1 : cells.all (·.oneCell') = true)
    (new : Array Value) (hn : (cur.toList.take off ++ cells.toList ++ cur.toList.drop (off + cells.size)).toArray = new)
    (h : WL P ops Q rest (a.put o.dst undef) (w.setRow g new)) : WL P ops Q (o :: rest) a w := by
  subst hn
  refine ⟨wpList_wanted hw fun K hK => ?_⟩
  have hst := run_storeCells_at P g off t cells.toList 0 cur w hg (by simpa using hfit) (fun v hv => (Array.all_eq_true_iff_forall_mem.1 h1) v (by simpa using hv))
  have hrun : (storeVar ty ⟨g, off, none⟩ (.agg cells)).run P w = .ok () (w.setRow g (cur.toList.take off ++ cells.toList ++ cur.toList.drop (off + cells.size)).toArray) := by
    cases hq : P.info? ty with
    | none => simp [hq] at hi
    | some i =>
      have hs : cells.size = i.size := by simp [hq] at hi; omega
      simp only [Nat.add_zero, Array.length_toList] at hst
      simp [storeVar, sizeOf, typeInfo, hq, Value.cells, hs, hst]
  unfold Oper.wp execOp
  simp only [ho, hx, hy, Instr.storeAt, Instr.sureAddr, Sem.run_bind, Sem.run_pure, Result.andThen_ok, hrun]
  exact hK _ _ h.out
theorem run_callF (a : Act) (o : Oper) (f : FuncId) (args : Array Operand) (ts : Array TypeId) (ho : o.op = .call { callee := .value (.func f), args := args, argTypes := ts })
    (hf : ∀ (w : World) (vs : Array Value), (callFunc f vs).run P w = .ok (.enter f vs) w) (w : World) :
    (execOp a.eval o).run P w = .ok (.enter f (args.map a.eval)) w := by
  unfold execOp
  simp only [ho]
  simp [resolve, Act.eval, go_sem]
  exact hf w _
theorem run_callV (a : Act) (o : Oper) (f : FuncId) (x : Operand) (args : Array Operand) (ts : Array TypeId) (ho : o.op = .call { callee := .value x, args := args, argTypes := ts }) (hx : a.eval x = .func (.func f) #[] #[])
    (hf : ∀ (w : World) (vs : Array Value), (callFunc f vs).run P w = .ok (.enter f vs) w) (w : World) :
    (execOp a.eval o).run P w = .ok (.enter f (args.map a.eval)) w := by
  unfold execOp
  simp only [ho, resolve, hx]
  generalize Array.map a.eval args = vs
  simp [go_sem]
  exact hf w _
theorem WL.callF (hw : Region.wanted o (yielded ops a.tmps) = true) (f : FuncId) (args : Array Operand) (ts : Array TypeId) (ho : o.op = .call { callee := .value (.func f), args := args, argTypes := ts })
    (hf : ∀ (w : World) (vs : Array Value), (callFunc f vs).run P w = .ok (.enter f vs) w) (vs : Array Value) (hvs : args.map a.eval = vs)
    (hc : Calls P f vs w fun e w' => ∃ v, e = .returned v ∧ WL P ops Q rest (a.put o.dst v) w') : WL P ops Q (o :: rest) a w :=
  ⟨wpList_wanted hw fun K hK => by
    unfold Oper.wp
    rw [run_callF a o f args ts ho hf w, Oper.upon_enter, hvs]
    refine hc.mono ?_
    rintro e w' ⟨v, rfl, hr⟩
    exact hK _ _ hr.out⟩
theorem WL.callV (hw : Region.wanted o (yielded ops a.tmps) = true) (f : FuncId) (x : Operand) (args : Array Operand) (ts : Array TypeId) (ho : o.op = .call { callee := .value x, args := args, argTypes := ts }) (hx : a.eval x = .func (.func f) #[] #[])
    (hf : ∀ (w : World) (vs : Array Value), (callFunc f vs).run P w = .ok (.enter f vs) w) (vs : Array Value) (hvs : args.map a.eval = vs)
    (hc : Calls P f vs w fun e w' => ∃ v, e = .returned v ∧ WL P ops Q rest (a.put o.dst v) w') : WL P ops Q (o :: rest) a w :=
  ⟨wpList_wanted hw fun K hK => by
    unfold Oper.wp
    rw [run_callV a o f x args ts ho hx hf w, Oper.upon_enter, hvs]
    refine hc.mono ?_
    rintro e w' ⟨v, rfl, hr⟩
    exact hK _ _ hr.out⟩
end
theorem Blk.c {w : World} {b : Nat} {T : TypeId} {cs : Array Value} (h : Blk w b T cs) (j : Nat) {v : Value} (hv : cs[j]? = some v) : w.cell? ⟨b, j, none⟩ = some v := by rw [h.cell]; exact hv

theorem wp_callF {P : Program} {Q : Exit → Act → World → Prop} {o : Oper} {a : Act} {w : World} {K : Act → World → Prop} (f : FuncId) (args : Array Operand) (ts : Array TypeId) (ho : o.op = .call { callee := .value (.func f), args := args, argTypes := ts })
    (hf : ∀ (w : World) (vs : Array Value), (callFunc f vs).run P w = .ok (.enter f vs) w)
    (vs : Array Value) (hvs : args.map a.eval = vs)
    (R : Value → World → Prop) (hc : Calls P f vs w fun e w' => ∃ v, e = .returned v ∧ R v w')
    (h : ∀ v w', R v w' → K (a.put o.dst v) w') : o.wp P a w K Q := by
  unfold Oper.wp
  rw [run_callF a o f args ts ho hf w, Oper.upon_enter, hvs]
  refine hc.mono ?_
  rintro e w' ⟨v, rfl, hr⟩
  exact h v w' hr


section
variable {P : Program} {ops : Array Oper} {rest : List Oper} {o : Oper} {a : Act} {w : World} {Q : Exit → Act → World → Prop}
theorem WL.callP (hw : Region.wanted o (yielded ops a.tmps) = true) (f : FuncId) (args : Array Operand) (ts : Array TypeId) (ho : o.op = .call { callee := .value (.func f), args := args, argTypes := ts })
    (hf : ∀ (w : World) (vs : Array Value), (callFunc f vs).run P w = .ok (.enter f vs) w) (vs : Array Value) (hvs : args.map a.eval = vs)
    (hc : Calls P f vs w fun e w' => (∃ v, e = .returned v ∧ WL P ops Q rest (a.put o.dst v) w') ∨ (∃ ch, e = .panicked ch ∧ Q (.panic ch) a w')) : WL P ops Q (o :: rest) a w :=
  ⟨wpList_wanted hw fun K hK => by
    unfold Oper.wp
    rw [run_callF a o f args ts ho hf w, Oper.upon_enter, hvs]
    refine hc.mono ?_
    rintro e w' (⟨v, rfl, hr⟩ | ⟨ch, rfl, hr⟩)
    · exact hK _ _ hr.out
    · exact hr⟩
theorem WL.panic (hw : Region.wanted o (yielded ops a.tmps) = true) (x : Operand) (ho : o.op = .panic x) (t : TypeId) (v : Value) (hx : a.eval x = .iface t v)
    (h : Q (.panic [{ v := .iface t v, recovered := false }]) a w) : WL P ops Q (o :: rest) a w :=
  ⟨wpList_wanted hw fun K hK => by
    unfold Oper.wp execOp
    simp only [ho, hx, Sem.run_bind, run_panic_iface]
    exact h⟩
end

theorem wpAnyH_weaken {P : Program} {md : Region.Mode} {ops : Array Oper} {Q : Exit → Act → World → Prop} {S S' : World → Prop} (h : ∀ w, S' w → S w) : ∀ (fuel : Nat) (listed : Array Bool) (a : Act) (w : World), wpAnyH P md ops Q S' fuel listed a w → wpAnyH P md ops Q S fuel listed a w
  | 0, _, _, _, h1 => h1
  | fuel + 1, _, _, _, h1 => ⟨h1.1, fun i hi => wpOp_mono (fun a' w' h2 => ⟨h w' h2.1, wpAnyH_weaken h fuel _ a' w' h2.2⟩) (h1.2 i hi)⟩
theorem fst_form (D : List Int) (most : Int) (hB : Byts D) (h : (fstM D most).2.2 = 0) : ∃ x : Nat, x < 18446744073709551616 ∧ (x : Int) ≤ most ∧ (fstM D most).1 = x ∧ (fstM D most).2.1 = ((numL x).length : Int) ∧ ∃ r, D = numL x ++ r := by
  have hle := fstM_le D most hB h
  have h2 : fstM D most = fstG D 0 0 := by
    unfold fstM at h ⊢
    split at h
    · simp at h
    · rename_i hn; rw [if_neg hn]
  rw [h2] at h hle ⊢
  obtain ⟨x, h3, h4, h5, r, h6⟩ := fstG_form D _ _ hB (Prod.ext rfl (Prod.ext rfl h))
  exact ⟨x, h4, by rw [← h3]; exact hle.2, h3, h5, r, h6⟩
theorem byt_back (D : List Int) (mm : Int) (hB : Byts D) (h : (byt D mm).1 = 0) : ((byt D mm).2.2.length : Int) ≤ mm ∧ (byt D mm).2.1 = (bform (byt D mm).2.2).length ∧ ∃ r, D = bform (byt D mm).2.2 ++ r := by
  rw [byt_eq] at h ⊢
  by_cases h0 : (fstM D mm).2.2 = 0
  · rw [if_pos h0] at h ⊢
    obtain ⟨x, h1, h2, h3, h4, r, h5⟩ := fst_form D mm hB h0
    simp only at h ⊢
    rw [h3, h4, Int.toNat_natCast] at h ⊢
    have hd : D.drop (numL x).length = r := by rw [h5, List.drop_left]
    rw [hd] at h ⊢
    have hN := nextN_0 _ _ h
    rw [hN.1, Int.toNat_natCast]
    have hlx : (r.take x).length = x := by rw [List.length_take]; have := hN.2.2; rw [Int.toNat_natCast] at this; omega
    refine ⟨by rw [hlx]; exact h2, by rw [bform, hlx, List.length_append, hlx], r.drop x, ?_⟩
    rw [bform, hlx, List.append_assoc, List.take_append_drop, ← h5]
  · rw [if_neg h0] at h; exact absurd h h0
end Go.Proofs.Ytlogkojhcccogaa
namespace Go.Proofs.Ytlogkojhcccogaa.Sh
open Go.RowKit Go.Sort

theorem Try.cells5q : Try.prog.cellsOf 5 = 1 := by kernel_rfl
theorem Try.isAgg5q (w : World) : (isAgg 5).run Try.prog w = .ok false w := by kernel_rfl
theorem Try.size5q : (Try.prog.info? 5).map (·.size) = some 1 := by kernel_rfl
theorem run_part5q (c : Nat → Int) (i : Nat) (hi : i < 32) (w : World) : (part 5 (bytesA 32 c) i).run Try.prog w = .ok (.int .u8 (c i)) w := by
  unfold part
  rw [Sem.run_bind, Try.isAgg5q]
  simp [Result.andThen, bytesA_get 32 c i hi]
theorem run_items2 (c e : Nat → Int) (d : Nat) (w : World) : ∀ is : List Nat, (∀ i ∈ is, i < 32) → (Op.eqItems (d + 1) 5 1 (bytesA 32 c) (bytesA 32 e) is).run Try.prog w = .ok (is.all fun i => c i == e i) w
  | [], _ => by simp [Op.eqItems]
  | i :: is, h => by
    have hi := h i (by simp)
    have ih := run_items2 c e d w is (fun j hj => h j (by simp [hj]))
    simp only [Op.eqItems, Sem.run_bind, Nat.mul_one, run_part5q c i hi, run_part5q e i hi, Result.andThen_ok]
    rw [run_equalIn_int (P := Try.prog) (w := w) d 5 .u8 .u8 (c i) (e i) Try.underlying5]
    by_cases hh : c i = e i
    · simp [Result.andThen_ok, ih, hh]
    · simp [Result.andThen_ok, hh]
theorem run_equal_arr2 (c e : Nat → Int) (w : World) : (Op.equalIn 10000 101 (.agg (bytesA 32 c)) (.agg (bytesA 32 e))).run Try.prog w = .ok ((List.range 32).all fun i => c i == e i) w := by
  obtain ⟨i, hi, _⟩ := Option.map_eq_some_iff.1 Try.size5q
  rw [run_equalIn_array (P := Try.prog) w 9999 _ _ Try.underlying101 hi, Try.cells5q]
  exact run_items2 c e 9998 w _ (fun j hj => List.mem_range.1 hj)
theorem all_eq_iff (x y : Hs) : ((List.range 32).all fun i => x.f i == y.f i) = decide (x = y) := by
  by_cases h : x = y
  · subst h; simp
  · rw [decide_eq_false h, Bool.eq_false_iff]
    intro h2
    refine h (Hs.ext' fun i hi => ?_)
    have := List.all_eq_true.1 h2 i (List.mem_range.2 hi)
    simpa using this
theorem run_neqH (x y : Hs) (w : World) : (binOp .neq 101 (.agg (bytesA 32 x.f)) (.agg (bytesA 32 y.f))).run Try.prog w = .ok (.bool (!decide (x = y))) w := by
  rw [run_neq_struct, run_equal_arr2, all_eq_iff]; rfl





end Go.Proofs.Ytlogkojhcccogaa.Sh
namespace Go.Proofs.Ytlogkojhcccogaa.Sh
open Go.RowKit Go.Sort

def encH (h : Hs) : List Value := (bytesA 32 h.f).toList
theorem encH_len (h : Hs) : (encH h).length = 32 := by rw [encH, Array.length_toList, bytesA_size]
theorem encH_get (h : Hs) (j : Nat) (hj : j < 32) : (encH h)[j]? = some (.int .u8 (h.f j)) := by rw [encH, Array.getElem?_toList, bytesA_get _ _ _ hj]
theorem encH_one (h : Hs) (v : Value) (hv : v ∈ encH h) : v.oneCell' = true := by
  have := Array.all_eq_true'.1 (bytesA_one 32 h.f) v (by unfold encH at hv; exact Array.mem_toList_iff.1 hv)
  simpa using this
theorem encH_arr (h : Hs) : (encH h).toArray = bytesA 32 h.f := by rw [encH, Array.toArray_toList]
def flatH (L : List Hs) : List Value := L.flatMap encH
theorem flatH_cons (x : Hs) (L : List Hs) : flatH (x :: L) = encH x ++ flatH L := rfl
theorem flatH_app (L M : List Hs) : flatH (L ++ M) = flatH L ++ flatH M := by simp [flatH]
theorem flatH_len : ∀ L : List Hs, (flatH L).length = L.length * 32
  | [] => rfl
  | x :: L => by rw [flatH_cons, List.length_append, encH_len, flatH_len L, List.length_cons]; omega
theorem flatH_get : ∀ (L : List Hs) (i : Nat) (hi : i < L.length) (j : Nat), j < 32 → (flatH L)[i * 32 + j]? = (encH L[i])[j]?
  | x :: L, 0, _, j, hj => by rw [flatH_cons, List.getElem?_append_left (by rw [encH_len]; omega)]; simp
  | x :: L, i + 1, hi, j, hj => by
    rw [flatH_cons, List.getElem?_append_right (by rw [encH_len]; omega), encH_len, show (i + 1) * 32 + j - 32 = i * 32 + j by omega]
    simpa using flatH_get L i (by simpa using hi) j hj

def HRow (w : World) (v : Value) (L : List Hs) : Prop :=
  (∃ a c, v = .slice a 0 c ∧ L = [] ∧ (a = none → c = 0)) ∨ ∃ b off cap, v = .slice (some ⟨b, off, none⟩) L.length cap ∧ L.length ≤ cap ∧ w.rangeAt b off (flatH L)
theorem rangeAt_elem {w : World} {b off : Nat} {L : List Hs} (h : w.rangeAt b off (flatH L)) (i : Nat) (hi : i < L.length) : w.rangeAt b (off + i * 32) (encH L[i]) := by
  intro j v hv
  have hj : j < 32 := by
    have := (List.getElem?_eq_some_iff.1 hv).1
    rwa [encH_len] at this
  rw [Nat.add_assoc]
  exact h _ v (by rw [flatH_get L i hi j hj]; exact hv)
theorem HRow.form {w : World} {v : Value} {L : List Hs} (h : HRow w v L) : ∃ a c, v = .slice a L.length c := by
  rcases h with ⟨a, c, rfl, rfl, _⟩ | ⟨b, off, cap, rfl, _⟩
  · exact ⟨a, c, rfl⟩
  · exact ⟨_, cap, rfl⟩
theorem HRow.at {w : World} {a : Option Addr} {n c : Nat} {L : List Hs} (h : HRow w (.slice a n c) L) (hL : 0 < L.length) : ∃ b off, a = some ⟨b, off, none⟩ ∧ n = L.length ∧ L.length ≤ c ∧ w.rangeAt b off (flatH L) := by
  rcases h with ⟨_, _, _, rfl, _⟩ | ⟨b, off, cap, h1, h2, h3⟩
  · simp at hL
  · injection h1 with h1 h4 h5
    subst h1 h4 h5
    exact ⟨b, off, rfl, rfl, h2, h3⟩
theorem rangeAt_lt {w : World} {b off : Nat} {L : List Hs} (h : w.rangeAt b off (flatH L)) (hL : 0 < L.length) : b < w.heap.size := by
  have := h 0 (.int .u8 (L[0].f 0)) ((flatH_get L 0 hL 0 (by omega)).trans (encH_get _ _ (by omega)))
  exact cell_lt this
theorem rangeAt_below {w w' : World} {B b off : Nat} {cs : List Value} (h : w.rangeAt b off cs) (hb : Below B w w') (hlt : b < B) : w'.rangeAt b off cs := fun j v hv => by
  rw [hb.cell (p := ⟨b, off + j, none⟩) hlt]; exact h j v hv
theorem HRow.below {w w' : World} {v : Value} {L : List Hs} (h : HRow w v L) (hb : Below w.heap.size w w') : HRow w' v L := by
  rcases h with h | ⟨b, off, cap, h1, h2, h3⟩
  · exact .inl h
  · by_cases hL : 0 < L.length
    · exact .inr ⟨b, off, cap, h1, h2, rangeAt_below h3 hb (rangeAt_lt h3 hL)⟩
    · have : L = [] := List.eq_nil_of_length_eq_zero (by omega)
      subst this
      exact .inl ⟨_, _, h1, rfl, fun h => by cases h⟩
theorem HRow.of_owns {w : World} {base n : Nat} {v : Value} {L : List Hs} (h : w.ownsRow base 101 32 v n (flatH L)) : HRow w v L := by
  have hn : n = L.length := by have := h.1; rw [flatH_len] at this; omega
  subst hn
  rcases h.2 with ⟨rfl, h0⟩ | ⟨g, cap, cur, rfl, _, hg, hc, _, _, ht⟩
  · exact .inl ⟨none, 0, rfl, List.eq_nil_of_length_eq_zero h0, fun _ => rfl⟩
  · refine .inr ⟨g, 0, cap, rfl, hc, fun j v hv => ?_⟩
    rw [Nat.zero_add, cell_of_row w g j cur 101 (0, 0) hg]
    rw [← ht, List.getElem?_take] at hv
    split at hv
    · rwa [Array.getElem?_toList] at hv
    · cases hv
theorem Try.size101L (h : Hs) : (Try.prog.info? 101).map (·.size) = some (encH h).length := by rw [encH_len]; exact Try.size101

end Go.Proofs.Ytlogkojhcccogaa.Sh
namespace Go.Proofs.Ytlogkojhcccogaa.Sh
open Go.RowKit Go.Sort

theorem run_neqL (x y : Hs) (w : World) : (binOp .neq 101 (.agg (encH x).toArray) (.agg (encH y).toArray)).run Try.prog w = .ok (.bool (!decide (x = y))) w := by
  rw [encH_arr, encH_arr]; exact run_neqH x y w
theorem rangeAt_drewN {w : World} {b o n : Nat} {cs : List Value} (h : w.rangeAt b o cs) : (w.drewN n).rangeAt b o cs := h
theorem rangeAt_drew {w : World} {b o : Nat} {cs : List Value} (h : w.rangeAt b o cs) : w.drew.rangeAt b o cs := h

set_option maxRecDepth 8000 in
set_option maxHeartbeats 1000000 in
theorem same_walk (n b1 o1 c1 b2 o2 c2 : Nat) (L M : List Hs) (w : World) (hL : L.length = n) (hM : M.length = n) (h1 : w.rangeAt b1 o1 (flatH L)) (h2 : w.rangeAt b2 o2 (flatH M)) (hn : (n : Int) ≤ 9223372036854775807) :
    Calls Try.prog 46 #[.slice (some ⟨b1, o1, none⟩) n c1, .slice (some ⟨b2, o2, none⟩) n c2] w fun e w' => e = .returned (.bool (decide (L = M))) ∧ ∃ q, w' = w.drewN q := by
  obtain ⟨R, hR⟩ : ∃ R, Keep (R = decide (L = M)) := ⟨_, ⟨rfl⟩⟩
  rw [← hR.out]
  have HL : Keep (L.length = n) := ⟨hL⟩
  have HM : Keep (M.length = n) := ⟨hM⟩
  have H1 : Keep (w.rangeAt b1 o1 (flatH L)) := ⟨h1⟩
  have H2 : Keep (w.rangeAt b2 o2 (flatH M)) := ⟨h2⟩
  have hu := Try.underlying101
  clear hL hM h1 h2
  go_enter Try.func46, Try.ntmps46
  go_wp2
  go_loopw [5] (fun i wr => ∃ t q : Nat, t ≤ n ∧ i = .int .i64 (t : Int) ∧ (∀ k, k < t → L[k]? = M[k]?) ∧ wr = w.drewN q) (fun i _ => n - (intOf i).toNat)
  case atStart => exact ⟨0, 0, by omega, rfl, fun k hk => by omega, by rw [World.drewN_zero]⟩
  case round =>
    obtain ⟨t, q, ht, rfl, hke, rfl⟩ := hrel
    have HK : Keep (∀ k, k < t → L[k]? = M[k]?) := ⟨hke⟩
    clear hke
    by_cases hlt : t < n
    · have l1 : t < L.length := by rw [HL.out]; exact hlt
      have l2 : t < M.length := by rw [HM.out]; exact hlt
      have hneq := run_neqL L[t] M[t]
      have cA : (w.drewN q).drew.rangeAt b1 (o1 + t * 32) (encH L[t]) := rangeAt_drew (rangeAt_drewN (rangeAt_elem H1.out t l1))
      have cB : (w.drewN q).drew.rangeAt b2 (o2 + t * 32) (encH M[t]) := rangeAt_drew (rangeAt_drewN (rangeAt_elem H2.out t l2))
      have hi1 := Try.size101L L[t]
      have hi2 := Try.size101L M[t]
      obtain ⟨E, hE⟩ : ∃ E, Keep (E = !decide (L[t] = M[t])) := ⟨_, ⟨rfl⟩⟩
      rw [← hE.out] at hneq
      have HE : Keep (E = false → L[t]? = M[t]?) := ⟨fun h => by
        have := hE.out; rw [h] at this
        rw [List.getElem?_eq_getElem l1, List.getElem?_eq_getElem l2]; simpa using this⟩
      have HF : Keep (E = true → R = false) := ⟨fun h => by
        have := hE.out; rw [h] at this
        rw [hR.out]; refine decide_eq_false fun e => ?_
        subst e; simp at this⟩
      clear hE
      generalize encH L[t] = CA at *
      generalize encH M[t] = CB at *
      obtain ⟨wn, hwn⟩ : ∃ wn, Keep (w.drewN q = wn) := ⟨_, ⟨rfl⟩⟩
      rw [hwn.out] at cA cB ⊢
      have hlt' : (t : Int) < (n : Int) := by omega
      clear l1 l2
      go_wp2
      refine wp_region_held_drew (S := fun w' => w'.rangeAt b1 (o1 + t * 32) CA ∧ w'.rangeAt b2 (o2 + t * 32) CB) (by kernel_rfl) ⟨cA, cB⟩ (fun hHeld => ?_)
      refine wpAnyH_take (i := 0) (oi := ⟨some 17, Op.move (Operand.tmp 0), 23, _, _, none⟩) (v := Value.slice (some ⟨b1, o1, none⟩) n c1) rfl (by kernel_rfl) (by kernel_rfl) (by kernel_rfl) (fun _ _ _ h => h) (Or.inl ⟨by rfl, fun w hS => by go_simp⟩) hHeld ?_
      simp only [Act.put, List.setIfInBounds_toArray, List.set_cons_zero, List.set_cons_succ]
      refine wpAnyH_take (i := 1) (oi := ⟨some 18, Op.move (Operand.tmp 5), 3, _, _, none⟩) (v := .int .i64 (t : Int)) rfl (by kernel_rfl) (by kernel_rfl) (by kernel_rfl) (fun _ _ _ h => h) (Or.inl ⟨by rfl, fun w hS => by go_simp⟩) hHeld ?_
      simp only [Act.put, List.setIfInBounds_toArray, List.set_cons_zero, List.set_cons_succ]
      refine wpAnyH_take (i := 2) (oi := ⟨some 19, Op.indexAddr 23 (Operand.tmp 17) (Operand.tmp 18), 0, _, _, none⟩) (v := .pointer (some ⟨b1, o1 + t * 32, none⟩)) rfl (by kernel_rfl) (by kernel_rfl) (by kernel_rfl) (fun _ _ _ h => h) (Or.inl ⟨by rfl, fun w hS => by go_simp⟩) hHeld ?_
      simp only [Act.put, List.setIfInBounds_toArray, List.set_cons_zero, List.set_cons_succ]
      refine wpAnyH_take (i := 3) (oi := ⟨some 20, Op.load 101 (Operand.tmp 19), 101, _, _, none⟩) (v := .agg (CA).toArray) rfl (by kernel_rfl) (by kernel_rfl) (by kernel_rfl) (fun _ _ _ h => h) (yieldsIf_load_mid (by rfl) 101 (Operand.tmp 19) rfl b1 (o1 + t * 32) rfl CA _ (fun w hS => hS.1) hu rfl hi1) hHeld ?_
      simp only [Act.put, List.setIfInBounds_toArray, List.set_cons_zero, List.set_cons_succ]
      refine wpAnyH_take (i := 4) (oi := ⟨some 21, Op.move (Operand.tmp 1), 23, _, _, none⟩) (v := Value.slice (some ⟨b2, o2, none⟩) n c2) rfl (by kernel_rfl) (by kernel_rfl) (by kernel_rfl) (fun _ _ _ h => h) (Or.inl ⟨by rfl, fun w hS => by go_simp⟩) hHeld ?_
      simp only [Act.put, List.setIfInBounds_toArray, List.set_cons_zero, List.set_cons_succ]
      refine wpAnyH_take (i := 5) (oi := ⟨some 22, Op.move (Operand.tmp 5), 3, _, _, none⟩) (v := .int .i64 (t : Int)) rfl (by kernel_rfl) (by kernel_rfl) (by kernel_rfl) (fun _ _ _ h => h) (Or.inl ⟨by rfl, fun w hS => by go_simp⟩) hHeld ?_
      simp only [Act.put, List.setIfInBounds_toArray, List.set_cons_zero, List.set_cons_succ]
      refine wpAnyH_take (i := 6) (oi := ⟨some 23, Op.indexAddr 23 (Operand.tmp 21) (Operand.tmp 22), 0, _, _, none⟩) (v := .pointer (some ⟨b2, o2 + t * 32, none⟩)) rfl (by kernel_rfl) (by kernel_rfl) (by kernel_rfl) (fun _ _ _ h => h) (Or.inl ⟨by rfl, fun w hS => by go_simp⟩) hHeld ?_
      simp only [Act.put, List.setIfInBounds_toArray, List.set_cons_zero, List.set_cons_succ]
      refine wpAnyH_take (i := 7) (oi := ⟨some 24, Op.load 101 (Operand.tmp 23), 101, _, _, none⟩) (v := .agg (CB).toArray) rfl (by kernel_rfl) (by kernel_rfl) (by kernel_rfl) (fun _ _ _ h => h) (yieldsIf_load_mid (by rfl) 101 (Operand.tmp 23) rfl b2 (o2 + t * 32) rfl CB _ (fun w hS => hS.2) hu rfl hi2) hHeld ?_
      simp only [Act.put, List.setIfInBounds_toArray, List.set_cons_zero, List.set_cons_succ]
      refine wpAnyH_take (i := 8) (oi := ⟨some 25, Op.binOp BinOp.neq 101 (Operand.tmp 20) (Operand.tmp 24) 101, 4, _, _, none⟩) (v := .bool E) rfl (by kernel_rfl) (by kernel_rfl) (by kernel_rfl) (fun _ _ _ h => h) (Or.inl ⟨by rfl, fun w hS => by go_simp⟩) hHeld ?_
      simp only [Act.put, List.setIfInBounds_toArray, List.set_cons_zero, List.set_cons_succ]
      refine wpAnyH_done (by kernel_rfl) ?_ _
      have HD : Keep (∃ k, wn.drew = w.drewN k) := ⟨_, by rw [← hwn.out, World.drew_drewN]⟩
      cases E with
      | true =>
        have HF2 : Keep (R = false) := ⟨HF.out rfl⟩
        clear HF HE
        go_wp2
        go_ret
        exact ⟨by rw [HF2.out]; rfl, HD.out⟩
      | false =>
        have HE2 : Keep (L[t]? = M[t]?) := ⟨HE.out rfl⟩
        clear HF HE
        go_wp2
        go_roundw
        case rel =>
          obtain ⟨k, hk⟩ := HD.out
          exact ⟨t + 1, k, by omega, by go_num, fun k hk => by
            rcases Nat.lt_or_eq_of_le (Nat.le_of_lt_succ hk) with h | h
            · exact HK.out k h
            · subst h; exact HE2.out, hk⟩
        case measure => simp [intOf]; omega
    · obtain rfl : t = n := by omega
      go_wp2
      go_ret
      refine ⟨?_, q, rfl⟩
      rw [hR.out, decide_eq_true (List.ext_getElem? fun i => ?_)]
      · rfl
      · by_cases hi : i < t
        · exact HK.out i hi
        · have e1 := HL.out
          have e2 := HM.out
          rw [List.getElem?_eq_none (by omega), List.getElem?_eq_none (by omega)]

set_option maxRecDepth 8000 in
set_option maxHeartbeats 400000 in
theorem same_ne (a1 a2 : Option Addr) (n m c1 c2 : Nat) (w : World) (h : n ≠ m) : Calls Try.prog 46 #[.slice a1 n c1, .slice a2 m c2] w fun e w' => e = .returned (.bool false) ∧ w' = w := by
  have h' : ¬ ((n : Int) = (m : Int)) := by omega
  go_enter Try.func46, Try.ntmps46
  go_wp2
  go_ret
  exact ⟨rfl, rfl⟩
set_option maxRecDepth 8000 in
set_option maxHeartbeats 400000 in
theorem same_none (a1 a2 : Option Addr) (c1 c2 : Nat) (w : World) : Calls Try.prog 46 #[.slice a1 0 c1, .slice a2 0 c2] w fun e w' => e = .returned (.bool true) ∧ w' = w := by
  go_enter Try.func46, Try.ntmps46
  go_wp2
  refine wp_loop_rounds 1 ?_; rw [rounds_succ]
  go_wp2
  go_ret
  exact ⟨rfl, rfl⟩
theorem same_any (v1 v2 : Value) (L M : List Hs) (w : World) (h1 : HRow w v1 L) (h2 : HRow w v2 M) (hn : (L.length : Int) ≤ 9223372036854775807) :
    Calls Try.prog 46 #[v1, v2] w fun e w' => e = .returned (.bool (decide (L = M))) ∧ ∃ q, w' = w.drewN q := by
  obtain ⟨a1, c1, rfl⟩ := h1.form
  obtain ⟨a2, c2, rfl⟩ := h2.form
  by_cases hl : L.length = M.length
  · by_cases h0 : 0 < L.length
    · obtain ⟨b1, o1, rfl, _, _, r1⟩ := h1.at h0
      obtain ⟨b2, o2, rfl, _, _, r2⟩ := h2.at (by omega)
      rw [← hl]
      exact same_walk L.length b1 o1 c1 b2 o2 c2 L M w rfl hl.symm r1 r2 hn
    · have e1 : L = [] := List.eq_nil_of_length_eq_zero (by omega)
      have e2 : M = [] := List.eq_nil_of_length_eq_zero (by omega)
      subst e1 e2
      exact (same_none a1 a2 c1 c2 w).mono fun e w' h => ⟨by rw [h.1]; simp, 0, by rw [h.2, World.drewN_zero]⟩
  · exact (same_ne a1 a2 _ _ c1 c2 w hl).mono fun e w' h => ⟨by rw [h.1, decide_eq_false fun e => hl (by rw [e])], 0, by rw [h.2, World.drewN_zero]⟩
end Go.Proofs.Ytlogkojhcccogaa.Sh
namespace Go.Proofs.Ytlogkojhcccogaa.Sh
open Go.RowKit Go.Sort

def risesB (L : List Hs) : Bool := (List.range (L.length - 1)).all fun i => decide (cf (L.getD i default) (L.getD (i + 1) default) < 0)
theorem risesB_iff (L : List Hs) : risesB L = true ↔ ∀ i, i + 1 < L.length → cf (L.getD i default) (L.getD (i + 1) default) < 0 := by
  unfold risesB
  rw [List.all_eq_true]
  constructor
  · intro h i hi
    exact of_decide_eq_true (h i (List.mem_range.2 (by omega)))
  · intro h i hi
    exact decide_eq_true (h i (by have := List.mem_range.1 hi; omega))

end Go.Proofs.Ytlogkojhcccogaa.Sh
namespace Go.Proofs.Ytlogkojhcccogaa
open Go.RowKit
set_option linter.unusedSimpArgs false
set_option linter.unusedVariables false

abbrev Hs := Sh.Hs
def hB (h : Hs) : List Int := hl 32 h.f
def hs (c : List Int) : Hs := Vector.ofFn fun i : Fin 32 => UInt8.ofNat (c.getD i.val 0).toNat
theorem hB_len (h : Hs) : (hB h).length = 32 := hl_len _ _
theorem hs_f (c : List Int) (hc : Byts c) (i : Nat) (hi : i < 32) : (hs c).f i = c.getD i 0 := by
  have := hc.getD i
  rw [Sh.Hs.f_get _ _ hi]
  simp only [hs, Vector.getElem_ofFn]
  rw [UInt8.toNat_ofNat_of_lt' (by show (c.getD i 0).toNat < 256; omega)]
  omega
def OwnH (w : World) (v : Value) (l : List Hs) : Prop := w.ownsRow 0 101 32 v l.length (Sh.flatH l)
theorem OwnH.form {w : World} {v : Value} {l : List Hs} (h : OwnH w v l) : (v = .slice none 0 0 ∧ l = []) ∨ ∃ g cap cur, v = .slice (some ⟨g, 0, none⟩) l.length cap ∧ Blk w g 101 cur ∧ l.length ≤ cap ∧ cur.toList.take (l.length * 32) = Sh.flatH l := by
  rcases h.2 with ⟨rfl, h0⟩ | ⟨g, cap, cur, rfl, _, h3, h4, h5, h6, h7⟩
  · exact .inl ⟨rfl, List.eq_nil_of_length_eq_zero h0⟩
  · exact .inr ⟨g, cap, cur, rfl, h3, h4, h7⟩
theorem OwnH.row {w : World} {v : Value} {l : List Hs} (h : OwnH w v l) : Sh.HRow w v l := Sh.HRow.of_owns h
theorem OwnH.sl {w : World} {v : Value} {l : List Hs} (h : OwnH w v l) : ∃ a c, v = .slice a l.length c := h.row.form
theorem OwnH.lt {w : World} {v : Value} {l : List Hs} (h : OwnH w v l) : ∀ k, v.ownBlock = some k → k < w.heap.size := fun k hk => (World.ownsRow.lt h k hk).2
theorem OwnH.grown {w w' : World} {v : Value} {l : List Hs} {S : Nat → Prop} (h : OwnH w v l) (hg : Grown w w' S) (hs : ∀ k, v.ownBlock = some k → ¬ S k) : OwnH w' v l := by
  refine ⟨h.1, ?_⟩
  rcases h.2 with h1 | ⟨g, cap, cur, rfl, h2, h3, h4⟩
  · exact .inl h1
  · exact .inr ⟨g, cap, cur, rfl, h2, hg.blk h3 (hs g rfl), h4⟩
theorem OwnH.below {w w' : World} {v : Value} {l : List Hs} (h : OwnH w v l) (hb : Below w.heap.size w w') : OwnH w' v l := h.grown (Grown.below (S := fun _ => False) hb) fun _ _ h => h
theorem OwnH.ne {w : World} {v : Value} {l : List Hs} {p : Nat} {T : TypeId} {cs : Array Value} (h : OwnH w v l) (hp : Blk w p T cs) (hT : T ≠ 101) : v.ownBlock ≠ some p := by
  intro e
  rcases h.form with ⟨rfl, _⟩ | ⟨g, cap, cur, rfl, h3, _⟩
  · simp [Value.ownBlock] at e
  · simp [Value.ownBlock] at e
    subst e
    exact hT (blk_type hp h3)
theorem ownH_empty (w : World) : OwnH (w.alloc (.cells #[] 101)) (.slice (some ⟨w.heap.size, 0, none⟩) 0 0) [] :=
  ⟨rfl, .inr ⟨w.heap.size, 0, #[], rfl, Nat.zero_le _, Blk.new w 101 #[], Nat.le_refl _, by decide, rfl, rfl⟩⟩
theorem Try.infoH : (Try.prog.info? 101).map (fun i => (i.zero, i.size, i.bytes)) = some (some (.agg (bytesA 32 fun _ => 0)), 32, 32) := by kernel_rfl
theorem run_appH (w : World) (ty : TypeId) (v : Value) (l : List Hs) (hown : OwnH w v l) (g : Nat) (x : Hs) (hg : Blk w g 101 (bytesA 32 x.f)) (hb : l.length ≤ 1000000000000) :
    ∃ v' w', (Builtin.append_ #[23, 23] ty #[v, .slice (some ⟨g, 0, none⟩) 1 1]).run Try.prog w = .ok v' w' ∧ OwnH w' v' (l ++ [x]) ∧ (Grown w w' fun k => v.ownBlock = some k) ∧ Moved w v v' := by
  obtain ⟨i, hi, hzz⟩ := Option.map_eq_some_iff.1 Try.infoH
  simp only [Prod.mk.injEq] at hzz
  obtain ⟨hz, hsz, hby⟩ := hzz
  have hzs : (Value.agg (bytesA 32 fun _ => 0)).cells.size = 32 := by show (bytesA 32 fun _ => 0).size = 32; exact bytesA_size _ _
  obtain ⟨v', w', hr, h1, h2, _, h3⟩ := run_append_own_at (P := Try.prog) w 0 23 ty 101 i (.agg (bytesA 32 fun _ => 0)) 32 32 Try.underlying23 hi hz hsz hby hzs (by omega) v l.length (Sh.flatH l) hown ⟨g, 0, none⟩ 1 1 (Sh.encH x) (by rw [Sh.encH_len]) (fun j u hu => by
      rw [Addr.add_mid, Nat.zero_add, hg.cell, ← Array.getElem?_toList]
      exact hu)
    (fun u hu => Sh.encH_one x u hu) (by unfold maxLen; omega) (by omega) (Nat.zero_le _)
  refine ⟨v', w', hr, ?_, Grown.of h2 fun k _ e => e, ?_⟩
  · unfold OwnH
    rw [List.length_append, Sh.flatH_app, show Sh.flatH [x] = Sh.encH x by simp [Sh.flatH]]
    exact h1
  · rcases h3 with h3 | h3
    · exact .inl h3
    · exact .inr ⟨_, h3, Nat.le_refl _⟩
theorem WL.appH {ops : Array Oper} {rest : List Oper} {o : Oper} {a : Act} {w : World} {Q : Exit → Act → World → Prop} (hw : Region.wanted o (yielded ops a.tmps) = true) (s x : Operand)
    (ho : o.op = .call { callee := .builtin .append, args := #[s, x], argTypes := #[23, 23] }) (v : Value) (l : List Hs) (g : Nat) (y : Hs)
    (hs : a.eval s = v) (hx : a.eval x = .slice (some ⟨g, 0, none⟩) 1 1) (hown : OwnH w v l) (hg : Blk w g 101 (bytesA 32 y.f)) (hb : l.length ≤ 1000000000000)
    (h : ∀ v' w', OwnH w' v' (l ++ [y]) → (Grown w w' fun k => v.ownBlock = some k) → Moved w v v' → WL Try.prog ops Q rest (a.put o.dst v') w') : WL Try.prog ops Q (o :: rest) a w :=
  ⟨wpList_wanted hw fun K hK => by
    obtain ⟨v', w', hr, h1, h2, h3⟩ := run_appH w o.type v l hown g y hg hb
    unfold Oper.wp execOp
    simp only [ho, resolve, invoke, builtin, Sem.run_bind, Sem.run_pure, Result.andThen_ok, List.map_toArray, List.map_cons, List.map_nil, hs, hx, hr]
    exact hK _ _ (h v' w' h1 h2 h3).out⟩
theorem bsH (x : Hs) (w : World) : (Instr.buildSlice 23 1 #[(0, .agg (bytesA 32 x.f))]).run Try.prog w = .ok (.slice (some ⟨w.heap.size, 0, none⟩) 1 1) (w.alloc (.cells (bytesA 32 x.f) 101)) := by kernel_rfl
theorem bsHE (w : World) : (Instr.buildSlice 23 0 #[]).run Try.prog w = .ok (.slice (some ⟨w.heap.size, 0, none⟩) 0 0) (w.alloc (.cells #[] 101)) := by kernel_rfl
def getH (L : List Int) : Nat → List Hs → Nat → Int × Nat × List Hs
  | 0, P, a => (0, a, P)
  | n + 1, P, a => if nextW (L.drop a) 32 ≠ 0 then (nextW (L.drop a) 32, a + nextN (L.drop a) 32, [])
    else if 0 < P.length ∧ 0 ≤ Sh.cf (P.getD (P.length - 1) default) (hs ((L.drop a).take 32)) then (130, a, [])
    else getH L n (P ++ [hs ((L.drop a).take 32)]) (a + 32)
theorem hrd_hs (D : List Int) (h : nextW D 32 = 0) (hD : Byts D) : bytesA 32 (hrd D 0) = bytesA 32 (hs (D.take 32)).f := bytesA_congr fun i hi => by
  have := nextN_0 _ _ h
  rw [hs_f _ (hD.take 32) i hi]
  unfold hrd
  rw [if_pos rfl, List.getD_eq_getElem?_getD, List.getD_eq_getElem?_getD, List.getElem?_take, if_pos hi]
def wr (q : Nat) : PanicEntry := { v := .iface 107 (.agg #[err q]), recovered := false }
theorem Try.in68 (w : World) (vs : Array Value) : (callFunc 68 vs).run Try.prog w = .ok (.enter 68 vs) w := by kernel_rfl
theorem Try.in66 (w : World) (vs : Array Value) : (callFunc 66 vs).run Try.prog w = .ok (.enter 66 vs) w := by kernel_rfl
theorem Try.in64 (w : World) (vs : Array Value) : (callFunc 64 vs).run Try.prog w = .ok (.enter 64 vs) w := by kernel_rfl
theorem Try.in104 (w : World) (vs : Array Value) : (callFunc 104 vs).run Try.prog w = .ok (.enter 104 vs) w := by kernel_rfl
theorem Try.in108 (w : World) (vs : Array Value) : (callFunc 108 vs).run Try.prog w = .ok (.enter 108 vs) w := by kernel_rfl
theorem Try.in106 (w : World) (vs : Array Value) : (callFunc 106 vs).run Try.prog w = .ok (.enter 106 vs) w := by kernel_rfl
theorem Try.in56 (w : World) (vs : Array Value) : (callFunc 56 vs).run Try.prog w = .ok (.enter 56 vs) w := by kernel_rfl
theorem Try.in97 (w : World) (vs : Array Value) : (callFunc 97 vs).run Try.prog w = .ok (.enter 97 vs) w := by kernel_rfl
theorem Try.in63 (w : World) (vs : Array Value) : (callFunc 63 vs).run Try.prog w = .ok (.enter 63 vs) w := by kernel_rfl
theorem Try.in65 (w : World) (vs : Array Value) : (callFunc 65 vs).run Try.prog w = .ok (.enter 65 vs) w := by kernel_rfl
theorem Try.in105 (w : World) (vs : Array Value) : (callFunc 105 vs).run Try.prog w = .ok (.enter 105 vs) w := by kernel_rfl
theorem Try.in107 (w : World) (vs : Array Value) : (callFunc 107 vs).run Try.prog w = .ok (.enter 107 vs) w := by kernel_rfl
theorem Try.in109 (w : World) (vs : Array Value) : (callFunc 109 vs).run Try.prog w = .ok (.enter 109 vs) w := by kernel_rfl
theorem Try.in111 (w : World) (vs : Array Value) : (callFunc 111 vs).run Try.prog w = .ok (.enter 111 vs) w := by kernel_rfl
theorem Try.in67 (w : World) (vs : Array Value) : (callFunc 67 vs).run Try.prog w = .ok (.enter 67 vs) w := by kernel_rfl
theorem Try.in23 (w : World) (vs : Array Value) : (callFunc 23 vs).run Try.prog w = .ok (.enter 23 vs) w := by kernel_rfl
theorem Try.in22 (w : World) (vs : Array Value) : (callFunc 22 vs).run Try.prog w = .ok (.enter 22 vs) w := by kernel_rfl
theorem wr_built (q : Nat) : Try.prog.built 107 [(0, .iface 116 (ptr q))] = some #[.iface 116 (ptr q)] := by kernel_rfl
theorem bad_built (why : Int) (a : Nat) : Try.prog.built 126 [(0, .int .i64 why), (1, .int .i64 (a : Int))] = some #[.int .i64 why, .int .i64 (a : Int)] := by kernel_rfl
theorem with_any (q : Nat) (w : World) : Calls Try.prog 68 #[err q] w fun e w' => e = .panicked [wr q] ∧ w' = w := by
  unfold wr err
  go_enter Try.func68, Try.ntmps68
  refine wp_region_list (WL.out ?_)
  refine WL.val (by kernel_rfl) (.iface 116 (ptr q)) (by go_simp) ?_
  simp only [Act.put, List.setIfInBounds_toArray, List.set_cons_zero, List.set_cons_succ]
  refine WL.bld (by kernel_rfl) 107 _ rfl [(0, .iface 116 (ptr q))] (by simp [Act.eval]) _ (wr_built _) ?_
  simp only [Act.put, List.setIfInBounds_toArray, List.set_cons_zero, List.set_cons_succ]
  refine WL.val (by kernel_rfl) (.iface 107 (.agg #[.iface 116 (ptr q)])) (by go_simp) ?_
  simp only [Act.put, List.setIfInBounds_toArray, List.set_cons_zero, List.set_cons_succ]
  refine WL.panic (by kernel_rfl) (.tmp 4) rfl 107 _ rfl ?_
  exact ⟨rfl, rfl, rfl⟩
theorem at_any (why : Int) (a : Nat) (w : World) : Calls Try.prog 66 #[.int .i64 why, .int .i64 (a : Int)] w fun e w' => e = .panicked [wr w.heap.size] ∧ BadAt w' w.heap.size why a ∧ Below w.heap.size w w' := by
  go_enter Try.func66, Try.ntmps66
  refine wp_region_list (WL.out ?_)
  refine WL.val (by kernel_rfl) (.int .i64 why) (by go_simp) ?_
  simp only [Act.put, List.setIfInBounds_toArray, List.set_cons_zero, List.set_cons_succ]
  refine WL.val (by kernel_rfl) (.int .i64 (a : Int)) (by go_simp) ?_
  simp only [Act.put, List.setIfInBounds_toArray, List.set_cons_zero, List.set_cons_succ]
  refine WL.bld (by kernel_rfl) 126 _ rfl [(0, .int .i64 why), (1, .int .i64 (a : Int))] (by simp [Act.eval]) _ (bad_built why a) ?_
  simp only [Act.put, List.setIfInBounds_toArray, List.set_cons_zero, List.set_cons_succ]
  refine WL.box (by kernel_rfl) 126 (.tmp 6) rfl _ rfl ?_
  have HBd : Keep (BadAt (w.alloc (.cells #[.int .i64 why, .int .i64 (a : Int)] 126)) w.heap.size why a) := ⟨Blk.new w 126 _⟩
  have HB : Keep (Below w.heap.size w (w.alloc (.cells #[.int .i64 why, .int .i64 (a : Int)] 126))) := ⟨below_new w _⟩
  generalize w.alloc (.cells #[.int .i64 why, .int .i64 (a : Int)] 126) = w1 at *
  simp only [Act.put, List.setIfInBounds_toArray, List.set_cons_zero, List.set_cons_succ]
  refine WL.val (by kernel_rfl) (.iface 116 (.pointer (some ⟨w.heap.size, 0, none⟩))) (by go_simp) ?_
  simp only [Act.put, List.setIfInBounds_toArray, List.set_cons_zero, List.set_cons_succ]
  refine WL.callP (by kernel_rfl) 68 _ _ rfl Try.in68 #[err w.heap.size] (by simp [Act.eval, err, ptr]) ?_
  refine (with_any w.heap.size w1).mono ?_
  rintro e w' ⟨rfl, rfl⟩
  refine .inr ⟨_, rfl, ?_⟩
  exact ⟨rfl, rfl, HBd.out, HB.out⟩
theorem must104_ok (x : Value) (w : World) : Calls Try.prog 104 #[x, .nilIface] w fun e w' => e = .returned x ∧ w' = w := by
  go_enter Try.func104, Try.ntmps104
  go_wp2
  go_ret
  exact ⟨rfl, rfl⟩
theorem must104_bad (x : Value) (q : Nat) (w : World) : Calls Try.prog 104 #[x, err q] w fun e w' => e = .panicked [wr q] ∧ w' = w := by
  have HG := Keep.mk (with_any q w)
  unfold err at HG ⊢
  go_enter Try.func104, Try.ntmps104
  go_wp2_with fail
  refine HG.out.mono ?_
  rintro e w' ⟨rfl, rfl⟩
  exact ⟨rfl, rfl, rfl⟩
theorem must108_ok (x : Value) (w : World) : Calls Try.prog 108 #[x, .nilIface] w fun e w' => e = .returned x ∧ w' = w := by
  go_enter Try.func108, Try.ntmps108
  go_wp2
  go_ret
  exact ⟨rfl, rfl⟩
theorem must108_bad (x : Value) (q : Nat) (w : World) : Calls Try.prog 108 #[x, err q] w fun e w' => e = .panicked [wr q] ∧ w' = w := by
  have HG := Keep.mk (with_any q w)
  unfold err at HG ⊢
  go_enter Try.func108, Try.ntmps108
  go_wp2_with fail
  refine HG.out.mono ?_
  rintro e w' ⟨rfl, rfl⟩
  exact ⟨rfl, rfl, rfl⟩
theorem must64_ok (x : Value) (w : World) : Calls Try.prog 64 #[x, .nilIface] w fun e w' => e = .returned x ∧ w' = w := by
  go_enter Try.func64, Try.ntmps64
  go_wp2
  go_ret
  exact ⟨rfl, rfl⟩
theorem must64_bad (x : Value) (q : Nat) (w : World) : Calls Try.prog 64 #[x, err q] w fun e w' => e = .panicked [wr q] ∧ w' = w := by
  have HG := Keep.mk (with_any q w)
  unfold err at HG ⊢
  go_enter Try.func64, Try.ntmps64
  go_wp2_with fail
  refine HG.out.mono ?_
  rintro e w' ⟨rfl, rfl⟩
  exact ⟨rfl, rfl, rfl⟩
theorem mustH_ok (c : Nat → Int) (w : World) : Calls Try.prog 106 #[.agg (bytesA 32 c), .nilIface] w fun e w' => e = .returned (.agg (bytesA 32 c)) ∧ Below w.heap.size w w' := by
  go_enter Try.func106, Try.ntmps106
  refine wp_seq_k fun K1 hK1 => ?_
  refine wp_region_list (WL.out ?_)
  refine WL.box (by kernel_rfl) 101 (.tmp 0) rfl _ rfl ?_
  have HX1 := Keep.mk (Blk.new w 101 (bytesA 32 c))
  have B1 := Keep.mk (below_new w (.cells (bytesA 32 c) 101))
  generalize w.alloc (.cells (bytesA 32 c) 101) = w1 at *
  simp only [Act.put, List.setIfInBounds_toArray, List.set_cons_zero, List.set_cons_succ]
  refine WL.new (by kernel_rfl) 101 rfl _ Try.new101 ?_
  have HX2 := Keep.mk (HX1.out.alloc (.cells (bytesA 32 fun _ => 0) 101))
  have HY2 := Keep.mk (Blk.new w1 101 (bytesA 32 fun _ => 0))
  have B2 : Keep (Below w.heap.size w (w1.alloc (.cells (bytesA 32 fun _ => 0) 101))) := ⟨B1.out.trans ((below_new w1 _).mono B1.out.size)⟩
  have hs : Keep (w.heap.size < w1.heap.size) := ⟨HX1.out.lt⟩
  have hne : Keep (w.heap.size ≠ w1.heap.size) := ⟨by have := hs.out; omega⟩
  generalize w1.alloc (.cells (bytesA 32 fun _ => 0) 101) = w2 at *
  simp only [Act.put, List.setIfInBounds_toArray, List.set_cons_zero, List.set_cons_succ]
  refine WL.nil ?_
  refine hK1 _ _ ?_
  refine wp_seq_k fun K2 hK2 => ?_
  refine wp_seq_k fun K3 hK3 => ?_
  refine wp_region_list (WL.out ?_)
  refine WL.val (by kernel_rfl) (.nilIface) (by go_simp) ?_
  simp only [Act.put, List.setIfInBounds_toArray, List.set_cons_zero, List.set_cons_succ]
  refine WL.val (by kernel_rfl) (.bool false) (by go_simp) ?_
  simp only [Act.put, List.setIfInBounds_toArray, List.set_cons_zero, List.set_cons_succ]
  refine WL.nil ?_
  refine hK3 _ _ ?_
  refine wp_cond_false rfl ?_
  refine wp_skip ?_
  refine hK2 _ _ ?_
  refine wp_seq_k fun K4 hK4 => ?_
  refine wp_region_list (WL.out ?_)
  refine WL.row (by kernel_rfl) 101 (.tmp 2) rfl w.heap.size rfl 101 (bytesA 32 c) _ HX2.out Try.underlying101 rfl (Try.size101B _) ?_
  simp only [Act.put, List.setIfInBounds_toArray, List.set_cons_zero, List.set_cons_succ]
  refine WL.storeR (by kernel_rfl) 101 (.tmp 4) (.tmp 9) rfl w1.heap.size (bytesA 32 c) rfl rfl 101 (bytesA 32 fun _ => 0) HY2.out (Try.size101B _) (bytesA_sizes _ _ _) (bytesA_one _ _) ?_
  have HY3 := Keep.mk (HY2.out.setRow (bytesA 32 c))
  have B3 : Keep (Below w.heap.size w (w2.setRow w1.heap.size (bytesA 32 c))) := ⟨below_setRow B2.out (by have := hs.out; omega) _⟩
  generalize w2.setRow w1.heap.size (bytesA 32 c) = w3 at *
  simp only [Act.put]
  refine WL.nil ?_
  refine hK4 _ _ ?_
  refine wp_ret ?_
  refine bodyPost_ret (v := .agg (bytesA 32 c)) (results_cell1_row Try.results106 _ _ w1.heap.size 101 _ (0, 0) _ rfl HY3.out Try.underlying101 rfl (Try.size101B _)) rfl ?_
  exact ⟨rfl, B3.out⟩
theorem mustH_bad (c : Nat → Int) (q : Nat) (w : World) : Calls Try.prog 106 #[.agg (bytesA 32 c), err q] w fun e w' => e = .panicked [wr q] ∧ Below w.heap.size w w' := by
  unfold err
  go_enter Try.func106, Try.ntmps106
  refine wp_seq_k fun K1 hK1 => ?_
  refine wp_region_list (WL.out ?_)
  refine WL.box (by kernel_rfl) 101 (.tmp 0) rfl _ rfl ?_
  have HX1 := Keep.mk (Blk.new w 101 (bytesA 32 c))
  have B1 := Keep.mk (below_new w (.cells (bytesA 32 c) 101))
  generalize w.alloc (.cells (bytesA 32 c) 101) = w1 at *
  simp only [Act.put, List.setIfInBounds_toArray, List.set_cons_zero, List.set_cons_succ]
  refine WL.new (by kernel_rfl) 101 rfl _ Try.new101 ?_
  have HX2 := Keep.mk (HX1.out.alloc (.cells (bytesA 32 fun _ => 0) 101))
  have HY2 := Keep.mk (Blk.new w1 101 (bytesA 32 fun _ => 0))
  have B2 : Keep (Below w.heap.size w (w1.alloc (.cells (bytesA 32 fun _ => 0) 101))) := ⟨B1.out.trans ((below_new w1 _).mono B1.out.size)⟩
  have hs : Keep (w.heap.size < w1.heap.size) := ⟨HX1.out.lt⟩
  have hne : Keep (w.heap.size ≠ w1.heap.size) := ⟨by have := hs.out; omega⟩
  generalize w1.alloc (.cells (bytesA 32 fun _ => 0) 101) = w2 at *
  simp only [Act.put, List.setIfInBounds_toArray, List.set_cons_zero, List.set_cons_succ]
  refine WL.nil ?_
  refine hK1 _ _ ?_
  refine wp_seq_k fun K2 hK2 => ?_
  refine wp_seq_k fun K3 hK3 => ?_
  refine wp_region_list (WL.out ?_)
  refine WL.val (by kernel_rfl) (.iface 116 (ptr q)) (by go_simp) ?_
  simp only [Act.put, List.setIfInBounds_toArray, List.set_cons_zero, List.set_cons_succ]
  refine WL.val (by kernel_rfl) (.bool true) (by go_simp) ?_
  simp only [Act.put, List.setIfInBounds_toArray, List.set_cons_zero, List.set_cons_succ]
  refine WL.nil ?_
  refine hK3 _ _ ?_
  refine wp_cond_true rfl ?_
  refine wp_region_list (WL.out ?_)
  refine WL.val (by kernel_rfl) (.iface 116 (ptr q)) (by go_simp) ?_
  simp only [Act.put, List.setIfInBounds_toArray, List.set_cons_zero, List.set_cons_succ]
  refine WL.callP (by kernel_rfl) 68 _ _ rfl Try.in68 #[err q] (by simp [Act.eval, err]) ?_
  refine (with_any q w2).mono ?_
  rintro e w' ⟨rfl, rfl⟩
  refine .inr ⟨_, rfl, ?_⟩
  try simp only [Exit.inBlock, Exit.then]
  refine ⟨rfl, ?_⟩
  exact ⟨rfl, B2.out⟩
def u8s (l : List Int) : List UInt8 := l.map fun c => c.toNat.toUInt8
theorem push_list (b : ByteArray) (x : UInt8) : (b.push x).data.toList = b.data.toList ++ [x] := by
  cases b; simp [ByteArray.push]
theorem run_load_u8 {P : Program} (w : World) (b o : Nat) (c : Int) (h : w.cell? ⟨b, o, none⟩ = some (.int .u8 c)) : (load ⟨b, o, none⟩).run P w = .ok (.int .u8 c) w := by
  have h1 := h
  go_simp
theorem run_loadBytes {P : Program} (w : World) (b : Nat) : ∀ (cs : List Int) (o : Nat) (acc : ByteArray), (∀ i c, cs[i]? = some c → w.cell? ⟨b, o + i, none⟩ = some (.int .u8 c)) →
    ∃ r : ByteArray, (Extern.Bytes.loadBytes ⟨b, o, none⟩ cs.length acc).run P w = .ok r w ∧ r.data.toList = acc.data.toList ++ u8s cs
  | [], o, acc, _ => ⟨acc, rfl, by simp [u8s]⟩
  | c :: cs, o, acc, h => by
    obtain ⟨r, h1, h2⟩ := run_loadBytes w b cs (o + 1) (acc.push c.toNat.toUInt8) (fun i d hd => by
      have := h (i + 1) d (by simpa using hd)
      rwa [show o + (i + 1) = o + 1 + i by omega] at this)
    refine ⟨r, ?_, by rw [h2, push_list]; simp [u8s]⟩
    have h0 := h 0 c rfl
    rw [Nat.add_zero] at h0
    simp only [List.length_cons, Extern.Bytes.loadBytes, Sem.run_bind, run_load_u8 w b o c h0, Result.andThen_ok]
    exact h1
theorem u8_lt {a b : Int} (ha : 0 ≤ a ∧ a < 256) (hb : 0 ≤ b ∧ b < 256) : (a.toNat.toUInt8 < b.toNat.toUInt8) ↔ a < b := by
  rw [UInt8.lt_iff_toNat_lt, Nat.toUInt8_eq, Nat.toUInt8_eq, UInt8.toNat_ofNat', UInt8.toNat_ofNat']
  omega
theorem cmp_cf (f g : Nat → Int) (hf : ∀ i, 0 ≤ f i ∧ f i < 256) (hg : ∀ i, 0 ≤ g i ∧ g i < 256) : ∀ n i, Lib.compareBytes (u8s ((List.range' i n).map f)) (u8s ((List.range' i n).map g)) = Sh.cmpG f g n i
  | 0, i => rfl
  | n + 1, i => by
    simp only [List.range'_succ, List.map_cons, u8s, Lib.compareBytes, Sh.cmpG]
    have ih := cmp_cf f g hf hg n (i + 1)
    simp only [u8s] at ih
    rw [ih]
    simp only [u8_lt (hf i) (hg i), u8_lt (hg i) (hf i)]
theorem f_all (x : Hs) (i : Nat) : 0 ≤ x.f i ∧ x.f i < 256 := by
  unfold Sh.Hs.f
  have := (x.toArray.getD i 0).toNat_lt
  omega
theorem hB_range (x : Hs) : hB x = (List.range' 0 32).map x.f := by
  rw [← List.range_eq_range']; rfl
theorem hl_get' (f : Nat → Int) (n i : Nat) (hi : i < n) : (hl n f)[i]? = some (f i) := by simp [hl, hi]
theorem hs_get (x : Hs) (i : Nat) (c : Int) (h : (hB x)[i]? = some c) : (bytesA 32 x.f)[i]? = some (.int .u8 c) := by
  have hi : i < 32 := by
    have := (List.getElem?_eq_some_iff.1 h).1
    rwa [hB_len] at this
  rw [bytesA_get _ _ _ hi]
  have : (hB x)[i]? = some (x.f i) := by rw [← hl_get' x.f 32 i hi]; rfl
  rw [this] at h
  cases h; rfl
set_option maxRecDepth 8000 in
theorem cmpS_any (x y : Hs) (g g' : Nat) (w : World) (hx : Blk w g 101 (bytesA 32 x.f)) (hy : Blk w g' 101 (bytesA 32 y.f)) :
    Calls Try.prog 97 #[.slice (some ⟨g, 0, none⟩) 32 32, .slice (some ⟨g', 0, none⟩) 32 32] w fun e w' => e = .returned (.int .i64 (Sh.cf x y)) ∧ w' = w := by
  obtain ⟨r1, h1, h2⟩ := run_loadBytes (P := Try.prog) w g (hB x) 0 .empty (fun i c hc => by rw [hx.cell, Nat.zero_add]; exact hs_get x i c hc)
  obtain ⟨r2, h3, h4⟩ := run_loadBytes (P := Try.prog) w g' (hB y) 0 .empty (fun i c hc => by rw [hy.cell, Nat.zero_add]; exact hs_get y i c hc)
  rw [hB_len] at h1 h3
  have hcm : Extern.BytealgCompare.cmp r1 r2 = Sh.cf x y := by
    rw [Lib.cmp_eq, h2, h4]
    have e1 : hB x = (List.range' 0 32).map x.f := hB_range x
    have e2 : hB y = (List.range' 0 32).map y.f := hB_range y
    rw [e1, e2]
    have := cmp_cf x.f y.f (f_all x) (f_all y) 32 0
    show Lib.compareBytes (ByteArray.empty.data.toList ++ _) (ByteArray.empty.data.toList ++ _) = Sh.cmpG x.f y.f 32 0
    rw [show ByteArray.empty.data.toList = [] from rfl, List.nil_append, List.nil_append]
    exact this
  have hrun : (Extern.BytealgCompare.compare #[.slice (some ⟨g, 0, none⟩) 32 32, .slice (some ⟨g', 0, none⟩) 32 32]).run Try.prog w = .ok (.int .i64 (Sh.cf x y)) w := by
    change Sem.run Try.prog (do pure (goInt (Extern.BytealgCompare.cmp (← Extern.Bytes.bytesOf (.slice (some ⟨g, 0, none⟩) 32 32)) (← Extern.Bytes.bytesOf (.slice (some ⟨g', 0, none⟩) 32 32))))) w = _
    simp only [Extern.Bytes.bytesOf, Sem.run_bind, h1, h3, Result.andThen_ok, Sem.run_pure, hcm]
    rfl
  have HR := Keep.mk hrun
  clear hrun hcm h1 h2 h3 h4 hx hy
  go_enter Try.func97, Try.ntmps97
  go_wp2
  rw [run_callFunc_extern Try.func113 (by kernel_rfl) (by kernel_rfl) (by kernel_rfl) (e := Extern.BytealgCompare.compare) (by kernel_rfl), HR.out]
  simp only [Result.andThen]
  rw [Oper.upon_value]
  go_wp2
  go_ret
  exact ⟨rfl, rfl⟩
set_option maxRecDepth 8000 in
set_option maxHeartbeats 1000000 in
theorem behind_any (x y : Hs) (w : World) : Calls Try.prog 56 #[.agg (bytesA 32 x.f), .agg (bytesA 32 y.f)] w fun e w' => e = .returned (.bool (decide (0 < Sh.cf x y))) ∧ Below w.heap.size w w' := by
  go_enter Try.func56, Try.ntmps56
  refine wp_seq_k fun K1 hK1 => ?_
  refine wp_region_list (WL.out ?_)
  refine WL.box (by kernel_rfl) 101 (.tmp 0) rfl _ rfl ?_
  have HX1 := Keep.mk (Blk.new w 101 (bytesA 32 x.f))
  have B1 := Keep.mk (below_new w (.cells (bytesA 32 x.f) 101))
  generalize w.alloc (.cells (bytesA 32 x.f) 101) = w1 at *
  simp only [Act.put, List.setIfInBounds_toArray, List.set_cons_zero, List.set_cons_succ]
  refine WL.box (by kernel_rfl) 101 (.tmp 1) rfl _ rfl ?_
  have HX2 := Keep.mk (HX1.out.alloc (.cells (bytesA 32 y.f) 101))
  have HY2 := Keep.mk (Blk.new w1 101 (bytesA 32 y.f))
  have B2 : Keep (Below w.heap.size w (w1.alloc (.cells (bytesA 32 y.f) 101))) := ⟨B1.out.trans ((below_new w1 _).mono B1.out.size)⟩
  generalize w1.alloc (.cells (bytesA 32 y.f) 101) = w2 at *
  generalize w1.heap.size = g' at *
  generalize hgz : w.heap.size = g at *
  simp only [Act.put, List.setIfInBounds_toArray, List.set_cons_zero, List.set_cons_succ]
  refine WL.val (by kernel_rfl) (.bool false) (by go_simp) ?_
  simp only [Act.put, List.setIfInBounds_toArray, List.set_cons_zero, List.set_cons_succ]
  refine WL.nil ?_
  refine hK1 _ _ ?_
  refine wp_seq_k fun K2 hK2 => ?_
  refine wp_region_held_drew (S := fun _ => True) (by kernel_rfl) (trivial) (fun hHeld => ?_)
  refine wpAnyH_take (i := 0) (oi := ⟨some 5, Op.slice 101 (Operand.tmp 2) none none none, 25, _, _, none⟩) (v := .slice (some ⟨g, 0, none⟩) 32 32) rfl (by kernel_rfl) (by kernel_rfl) (by kernel_rfl) (fun _ _ _ h => h) (Or.inl ⟨by rfl, fun w hS => by go_simp⟩) hHeld ?_
  simp only [Act.put, List.setIfInBounds_toArray, List.set_cons_zero, List.set_cons_succ]
  refine wpAnyH_take (i := 1) (oi := ⟨some 6, Op.slice 101 (Operand.tmp 3) none none none, 25, _, _, none⟩) (v := .slice (some ⟨g', 0, none⟩) 32 32) rfl (by kernel_rfl) (by kernel_rfl) (by kernel_rfl) (fun _ _ _ h => h) (Or.inl ⟨by rfl, fun w hS => by go_simp⟩) hHeld ?_
  simp only [Act.put, List.setIfInBounds_toArray, List.set_cons_zero, List.set_cons_succ]
  refine wpAnyH_ready (rs := [2]) (by kernel_rfl) (by simp) ?_
  refine AllReadyH.cons (o := ⟨some 7, Op.call { callee := Callee.value (Operand.func 97), args := #[Operand.tmp 5, Operand.tmp 6], argTypes := #[25, 25] }, 3, _, _, none⟩) rfl (fun K hK => ?_) AllReadyH.nil
  rw [if_pos (by rfl)]
  refine wp_callF 97 _ _ rfl Try.in97 #[.slice (some ⟨g, 0, none⟩) 32 32, .slice (some ⟨g', 0, none⟩) 32 32] (by simp [Act.eval]) (fun v w' => v = .int .i64 (Sh.cf x y) ∧ w' = w2.drew) ((cmpS_any x y g g' w2.drew HX2.out HY2.out).mono fun e w' h => ⟨_, h.1, rfl, h.2⟩) ?_
  rintro v w5 ⟨rfl, rfl⟩
  refine hK.out _ _ trivial fun hHeld5 => ?_
  clear hK
  simp only [Act.put, List.setIfInBounds_toArray, List.set_cons_zero, List.set_cons_succ]
  refine wpAnyH_take (i := 3) (oi := ⟨some 8, Op.binOp BinOp.gtr 3 (Operand.tmp 7) (Operand.const (Value.int IntKind.i64 0)) 3, 4, _, _, none⟩) (v := .bool (decide (0 < Sh.cf x y))) rfl (by kernel_rfl) (by kernel_rfl) (by kernel_rfl) (fun _ _ _ h => h) (Or.inl ⟨by rfl, fun w hS => by go_simp⟩) hHeld5 ?_
  simp only [Act.put, List.setIfInBounds_toArray, List.set_cons_zero, List.set_cons_succ]
  refine wpAnyH_take (i := 4) (oi := ⟨some 4, Op.assign (Operand.tmp 8), 4, _, _, none⟩) (v := .bool (decide (0 < Sh.cf x y))) rfl (by kernel_rfl) (by kernel_rfl) (by kernel_rfl) (fun _ _ _ h => h) (Or.inl ⟨by rfl, fun w hS => by go_simp⟩) hHeld5 ?_
  simp only [Act.put, List.setIfInBounds_toArray, List.set_cons_zero, List.set_cons_succ]
  refine wpAnyH_done (by kernel_rfl) ?_ _
  refine hK2 _ _ ?_
  refine wp_ret ?_
  go_ret
  exact ⟨rfl, B2.out.drew⟩
def fnv (n : Nat) : Value := .func (.func n) #[] #[]
def fldA (i : Nat) : Array Value := if i = 0 then #[fnv 74, fnv 75, fnv 77] else if i = 1 then #[fnv 79, fnv 80, fnv 82] else if i = 2 then #[fnv 84, fnv 85, fnv 87] else if i = 3 then #[fnv 89, fnv 90, fnv 91] else #[fnv 92, fnv 93, fnv 95]
theorem fldA_size (i : Nat) : (fldA i).size = 3 := by
  unfold fldA
  repeat' split
  all_goals rfl
theorem fldA_one (i : Nat) : (fldA i).all (·.oneCell') = true := by
  unfold fldA
  repeat' split
  all_goals simp [fnv, Value.oneCell']
def noF : Array Value := #[.nilFunc, .nilFunc, .nilFunc]
theorem Try.size71 : (Try.prog.info? 71).map (·.size) = some 3 := by kernel_rfl
theorem Try.size71B (i : Nat) : (Try.prog.info? 71).map (·.size) = some (fldA i).size := by rw [fldA_size]; exact Try.size71
theorem Try.size71L (i : Nat) : (Try.prog.info? 71).map (·.size) = some (fldA i).toList.length := by rw [Array.length_toList, fldA_size]; exact Try.size71
theorem Try.new71 (w : World) : (Instr.alloc 71 true (.tuple #[])).run Try.prog w = .ok (.pointer (some ⟨w.heap.size, 0, none⟩)) (w.alloc (.cells noF 71)) := by kernel_rfl
theorem noF_sizes (i : Nat) : noF.size = (fldA i).size := by rw [fldA_size]; rfl
theorem Try.newmap (w : World) : (Instr.makeMap 59 none).run Try.prog w = .ok (.map (some w.heap.size)) (w.alloc (.map #[] 0)) := by kernel_rfl
theorem Try.in20 (w : World) (vs : Array Value) : (callFunc 20 vs).run Try.prog w = .ok (.enter 20 vs) w := by kernel_rfl
theorem fld0_any (w : World) : Calls Try.prog 51 #[] w fun e w' => e = .returned (.agg (fldA 0)) ∧ Below w.heap.size w w' := by
  have HB := Keep.mk (Blk.new w 71 noF)
  have HW := Keep.mk (below_new w (.cells noF 71))
  go_enter Try.func51, Try.ntmps51
  go_wp2_with (first | (refine wpList_new rfl 71 rfl _ Try.new71 ?_) | (refine wpList_bld rfl 71 _ rfl (fldA 0) (by kernel_rfl) ?_; refine wpList_store_row rfl 71 (.tmp 0) (.tmp 1) rfl w.heap.size (fldA 0) rfl rfl 71 noF HB.out (Try.size71B 0) rfl (fldA_one 0) ?_))
  refine bodyPost_ret (v := .agg (fldA 0)) (results_cell1_row Try.results51 _ _ w.heap.size 71 _ (0, 0) _ rfl (HB.out.setRow _) Try.underlying71 rfl (Try.size71B 0)) rfl ?_
  exact ⟨rfl, below_setRow HW.out (Nat.le_refl _) _⟩
theorem fld1_any (w : World) : Calls Try.prog 52 #[] w fun e w' => e = .returned (.agg (fldA 1)) ∧ Below w.heap.size w w' := by
  have HB := Keep.mk (Blk.new w 71 noF)
  have HW := Keep.mk (below_new w (.cells noF 71))
  go_enter Try.func52, Try.ntmps52
  go_wp2_with (first | (refine wpList_new rfl 71 rfl _ Try.new71 ?_) | (refine wpList_bld rfl 71 _ rfl (fldA 1) (by kernel_rfl) ?_; refine wpList_store_row rfl 71 (.tmp 0) (.tmp 1) rfl w.heap.size (fldA 1) rfl rfl 71 noF HB.out (Try.size71B 1) rfl (fldA_one 1) ?_))
  refine bodyPost_ret (v := .agg (fldA 1)) (results_cell1_row Try.results52 _ _ w.heap.size 71 _ (0, 0) _ rfl (HB.out.setRow _) Try.underlying71 rfl (Try.size71B 1)) rfl ?_
  exact ⟨rfl, below_setRow HW.out (Nat.le_refl _) _⟩
theorem fld2_any (w : World) : Calls Try.prog 53 #[] w fun e w' => e = .returned (.agg (fldA 2)) ∧ Below w.heap.size w w' := by
  have HB := Keep.mk (Blk.new w 71 noF)
  have HW := Keep.mk (below_new w (.cells noF 71))
  go_enter Try.func53, Try.ntmps53
  go_wp2_with (first | (refine wpList_new rfl 71 rfl _ Try.new71 ?_) | (refine wpList_bld rfl 71 _ rfl (fldA 2) (by kernel_rfl) ?_; refine wpList_store_row rfl 71 (.tmp 0) (.tmp 1) rfl w.heap.size (fldA 2) rfl rfl 71 noF HB.out (Try.size71B 2) rfl (fldA_one 2) ?_))
  refine bodyPost_ret (v := .agg (fldA 2)) (results_cell1_row Try.results53 _ _ w.heap.size 71 _ (0, 0) _ rfl (HB.out.setRow _) Try.underlying71 rfl (Try.size71B 2)) rfl ?_
  exact ⟨rfl, below_setRow HW.out (Nat.le_refl _) _⟩
theorem fld3_any (w : World) : Calls Try.prog 54 #[] w fun e w' => e = .returned (.agg (fldA 3)) ∧ Below w.heap.size w w' := by
  have HB := Keep.mk (Blk.new w 71 noF)
  have HW := Keep.mk (below_new w (.cells noF 71))
  go_enter Try.func54, Try.ntmps54
  go_wp2_with (first | (refine wpList_new rfl 71 rfl _ Try.new71 ?_) | (refine wpList_bld rfl 71 _ rfl (fldA 3) (by kernel_rfl) ?_; refine wpList_store_row rfl 71 (.tmp 0) (.tmp 1) rfl w.heap.size (fldA 3) rfl rfl 71 noF HB.out (Try.size71B 3) rfl (fldA_one 3) ?_))
  refine bodyPost_ret (v := .agg (fldA 3)) (results_cell1_row Try.results54 _ _ w.heap.size 71 _ (0, 0) _ rfl (HB.out.setRow _) Try.underlying71 rfl (Try.size71B 3)) rfl ?_
  exact ⟨rfl, below_setRow HW.out (Nat.le_refl _) _⟩
theorem fld4_any (w : World) : Calls Try.prog 55 #[] w fun e w' => e = .returned (.agg (fldA 4)) ∧ Below w.heap.size w w' := by
  have HB := Keep.mk (Blk.new w 71 noF)
  have HW := Keep.mk (below_new w (.cells noF 71))
  go_enter Try.func55, Try.ntmps55
  go_wp2_with (first | (refine wpList_new rfl 71 rfl _ Try.new71 ?_) | (refine wpList_bld rfl 71 _ rfl (fldA 4) (by kernel_rfl) ?_; refine wpList_store_row rfl 71 (.tmp 0) (.tmp 1) rfl w.heap.size (fldA 4) rfl rfl 71 noF HB.out (Try.size71B 4) rfl (fldA_one 4) ?_))
  refine bodyPost_ret (v := .agg (fldA 4)) (results_cell1_row Try.results55 _ _ w.heap.size 71 _ (0, 0) _ rfl (HB.out.setRow _) Try.underlying71 rfl (Try.size71B 4)) rfl ?_
  exact ⟨rfl, below_setRow HW.out (Nat.le_refl _) _⟩
def MapIs (w : World) (m : Nat) (ps : List (Int × Value)) : Prop :=
  ∃ es clock, w.heap[m]? = some (.map es clock) ∧ es.toList.map (fun e => (e.key, e.val)) = ps.map fun p => (Value.int .i64 p.1, p.2)
theorem MapIs.lt {w : World} {m : Nat} {ps : List (Int × Value)} (h : MapIs w m ps) : m < w.heap.size := by
  obtain ⟨es, clock, h1, _⟩ := h
  exact (Array.getElem?_eq_some_iff.1 h1).1
theorem MapIs.grown {w w' : World} {m : Nat} {ps : List (Int × Value)} {S : Nat → Prop} (h : MapIs w m ps) (hg : Grown w w' S) (hs : ¬ S m) : MapIs w' m ps := by
  have hlt := h.lt
  obtain ⟨es, clock, h1, h2⟩ := h
  exact ⟨es, clock, by rw [hg.block m hlt hs]; exact h1, h2⟩
theorem find_now (k : Int) : ∀ (es : List MapEntry) (ps : List (Int × Value)) (i : Nat), es.map (fun e => (e.key, e.val)) = ps.map (fun p => (Value.int .i64 p.1, p.2)) →
    ∃ r, Instr.findNow (.int .i64) (.int .i64 k) es i = some r ∧ r.map (·.2) = (ps.find? fun p => k == p.1).map (·.2)
  | [], [], i, _ => ⟨none, rfl, rfl⟩
  | [], p :: ps, i, h => by simp at h
  | e :: es, [], i, h => by simp at h
  | e :: es, p :: ps, i, h => by
    simp only [List.map_cons, List.cons.injEq, Prod.mk.injEq] at h
    obtain ⟨⟨h1, h2⟩, h3⟩ := h
    obtain ⟨r, h4, h5⟩ := find_now k es ps (i + 1) h3
    simp only [Instr.findNow, h1, Instr.sameNow, if_true]
    by_cases hk : k = p.1
    · subst hk
      simp only [beq_self_eq_true]
      exact ⟨_, rfl, by simp [h2]⟩
    · have hk' : (k == p.1) = false := by simpa using hk
      simp only [hk', List.find?_cons]
      exact ⟨r, h4, h5⟩
theorem run_findKey (k : Int) (es : List MapEntry) (ps : List (Int × Value)) (h : es.map (fun e => (e.key, e.val)) = ps.map (fun p => (Value.int .i64 p.1, p.2))) (w : World) :
    ∃ r, (Instr.findKey 3 (.int .i64 k) es).run Try.prog w = .ok r w ∧ r.map (·.2) = (ps.find? fun p => k == p.1).map (·.2) := by
  obtain ⟨r, h1, h2⟩ := find_now k es ps 0 h
  refine ⟨r, ?_, h2⟩
  unfold Instr.findKey
  simp only [Sem.run_bind, run_underlying Try.underlying3, Result.andThen_ok, h1, Sem.run_pure]
theorem check_key (b : Bool) (k : Int) (w : World) : (Instr.checkKey b 10000 3 (.int .i64 k)).run Try.prog w = .ok () w := by
  unfold Instr.checkKey
  simp only [Sem.run_bind, run_underlying Try.underlying3, Result.andThen_ok, Sem.run_pure]
theorem run_insert (w : World) (m : Nat) (ps : List (Int × Value)) (k : Int) (v : Value) (h : MapIs w m ps) (hk : ∀ p ∈ ps, p.1 ≠ k) :
    ∃ w', (Instr.mapUpdate 59 (.map (some m)) (.int .i64 k) v).run Try.prog w = .ok () w' ∧ MapIs w' m (ps ++ [(k, v)]) ∧ Grown w w' (fun j => j = m) ∧ w'.heap.size = w.heap.size := by
  have hlt := h.lt
  obtain ⟨es, clock, h1, h2⟩ := h
  obtain ⟨r, h3, h4⟩ := run_findKey k es.toList ps h2 w
  have hn : (ps.find? fun p => k == p.1) = none := by
    rw [List.find?_eq_none]
    intro p hp
    have := hk p hp
    simpa using fun e => this e.symm
  rw [hn] at h4
  obtain rfl : r = none := by cases r <;> simp_all
  refine ⟨ChangeMaps.setBlock w m (.map (es.push ⟨.int .i64 k, v, clock⟩) (clock + 1)), ?_, ⟨_, _, ChangeMaps.heap_setBlock_same h1 _, ?_⟩, ?_, ?_⟩
  · unfold Instr.mapUpdate
    simp only [Sem.run_bind, run_underlying Try.underlying59, Result.andThen_ok, getObj, Sem.run, h1, check_key, h3]
    simp [setObj, Sem.run, h1, ChangeMaps.setBlock]
  · simp [h2]
  · refine ⟨rfl, rfl, rfl, by simp [ChangeMaps.setBlock], fun j hj hne => ?_⟩
    simp only [ChangeMaps.setBlock]
    rw [Array.getElem?_setIfInBounds_ne (fun e => hne e.symm)]
  · simp [ChangeMaps.setBlock]
theorem wpList_ins {ops : Array Oper} {rest : List Oper} {o : Oper} {a : Act} {w : World} {Q : Exit → Act → World → Prop} (hg : o.guard = none) (x y z : Operand) (ho : o.op = .insert 59 x y z)
    (m : Nat) (ps : List (Int × Value)) (k : Int) (v : Value) (hx : a.eval x = .map (some m)) (hy : a.eval y = .int .i64 k) (hz : a.eval z = v) (h : MapIs w m ps) (hk : ∀ p ∈ ps, p.1 ≠ k)
    (hc : ∀ w', MapIs w' m (ps ++ [(k, v)]) → Grown w w' (fun j => j = m) → w'.heap.size = w.heap.size → wpList Try.prog ops Q rest (a.put o.dst undef) w') : wpList Try.prog ops Q (o :: rest) a w := by
  refine wpList_plain hg fun K hK => ?_
  obtain ⟨w', h1, h2, h3, h4⟩ := run_insert w m ps k v h hk
  unfold Oper.wp execOp
  simp only [ho, hx, hy, hz, Sem.run_bind, h1, Result.andThen_ok]
  exact hK _ _ (hc w' h2 h3 h4)
theorem run_look (w : World) (m : Nat) (ps : List (Int × Value)) (k : Int) (h : MapIs w m ps) (ok : Bool) :
    (Instr.lookup 59 (.map (some m)) (.int .i64 k) ok).run Try.prog w = .ok (if ok = true then .tuple #[((ps.find? fun p => k == p.1).map (·.2)).getD (.slice none 0 0), .bool (ps.find? fun p => k == p.1).isSome] else ((ps.find? fun p => k == p.1).map (·.2)).getD (.slice none 0 0)) w := by
  obtain ⟨es, clock, h1, h2⟩ := h
  obtain ⟨r, h3, h4⟩ := run_findKey k es.toList ps h2 w
  have hz : ∀ w : World, (zeroValue 57).run Try.prog w = .ok (.slice none 0 0) w := by intro w; kernel_rfl
  unfold Instr.lookup
  simp only [Sem.run_bind, run_underlying Try.underlying59, Result.andThen_ok, getObj, Sem.run, h1, check_key]
  rw [← h4]
  have h5 : (ps.find? fun p => k == p.1).isSome = r.isSome := by
    have := congrArg Option.isSome h4
    simpa using this.symm
  rw [h5]
  cases r with
  | none => rw [Sem.run_pure, Result.andThen_ok, h3]; simp [hz]
  | some q => rw [Sem.run_pure, Result.andThen_ok, h3]; simp


def hasI (k : Int) : List Nat := if k = 1 then [0, 1, 2, 3] else if k = 2 then [3] else if k = 3 then [4] else []
def flatF (is : List Nat) : Array Value := (is.flatMap fun i => (fldA i).toList).toArray
def FieldsAt (w : World) (v : Value) (is : List Nat) : Prop := (v = .slice none 0 0 ∧ is = []) ∨ ∃ g, v = .slice (some ⟨g, 0, none⟩) is.length is.length ∧ Blk w g 71 (flatF is)
theorem FieldsAt.grown {w w' : World} {v : Value} {is : List Nat} {S : Nat → Prop} (h : FieldsAt w v is) (hg : Grown w w' S) (hs : ∀ g, Blk w g 71 (flatF is) → ¬ S g) : FieldsAt w' v is := by
  rcases h with h | ⟨g, h1, h2⟩
  · exact .inl h
  · exact .inr ⟨g, h1, hg.blk h2 (hs g h2)⟩
theorem FieldsAt.below {w w' : World} {v : Value} {is : List Nat} (h : FieldsAt w v is) (hb : Below w.heap.size w w') : FieldsAt w' v is :=
  h.grown (Grown.below (S := fun _ => False) hb) fun _ _ h => h
structure TabAt (w : World) (m : Nat) : Prop where
  ex : ∃ V : Int → Value, MapIs w m ([1, 2, 3].map fun k => (k, V k)) ∧ ∀ k ∈ ([1, 2, 3] : List Int), FieldsAt w (V k) (hasI k)
theorem TabAt.lt {w : World} {m : Nat} (h : TabAt w m) : m < w.heap.size := by obtain ⟨V, h1, _⟩ := h.ex; exact h1.lt
theorem TabAt.grown {w w' : World} {m : Nat} {S : Nat → Prop} (h : TabAt w m) (hg : Grown w w' S) (hm : ¬ S m) (hs : ∀ g cs, Blk w g 71 cs → ¬ S g) : TabAt w' m := by
  obtain ⟨V, h1, h2⟩ := h.ex
  exact ⟨V, h1.grown hg hm, fun k hk => (h2 k hk).grown hg fun g hb => hs g _ hb⟩
theorem TabAt.below {w w' : World} {m : Nat} (h : TabAt w m) (hb : Below w.heap.size w w') : TabAt w' m :=
  h.grown (Grown.below (S := fun _ => False) hb) (fun h => h) fun _ _ _ h => h
theorem TabAt.ne {w : World} {m g : Nat} {T : TypeId} {cs : Array Value} (h : TabAt w m) (hg : Blk w g T cs) : m ≠ g := by
  rintro rfl
  obtain ⟨V, ⟨es, clock, h1, _⟩, _⟩ := h.ex
  unfold Blk at hg
  rw [hg] at h1
  cases h1
theorem hasI_none (k : Int) (h : k ∉ ([1, 2, 3] : List Int)) : hasI k = [] := by
  simp only [List.mem_cons, List.not_mem_nil, or_false, not_or] at h
  simp [hasI, h]
theorem hasI_some (k : Int) (h : k ∈ ([1, 2, 3] : List Int)) : hasI k ≠ [] := by
  simp only [List.mem_cons, List.not_mem_nil, or_false] at h
  rcases h with rfl | rfl | rfl <;> simp [hasI]
theorem find_tab (V : Int → Value) (k : Int) : (([1, 2, 3] : List Int).map fun k => (k, V k)).find? (fun p => k == p.1) = if k ∈ ([1, 2, 3] : List Int) then some (k, V k) else none := by
  rw [List.find?_map]
  by_cases h : k ∈ ([1, 2, 3] : List Int)
  · rw [if_pos h]
    have : (([1, 2, 3] : List Int).find? ((fun p : Int × Value => k == p.1) ∘ fun k => (k, V k))) = some k := by
      simp only [List.mem_cons, List.not_mem_nil, or_false] at h
      rcases h with rfl | rfl | rfl <;> rfl
    rw [this]; rfl
  · rw [if_neg h]
    have : (([1, 2, 3] : List Int).find? ((fun p : Int × Value => k == p.1) ∘ fun k => (k, V k))) = none := by
      rw [List.find?_eq_none]
      intro x hx hk
      have e : k = x := by simpa using hk
      exact h (e ▸ hx)
    rw [this]; rfl
theorem bs1 (w : World) : (Instr.buildSlice 57 4 #[(0, .agg (fldA 0)), (1, .agg (fldA 1)), (2, .agg (fldA 2)), (3, .agg (fldA 3))]).run Try.prog w = .ok (.slice (some ⟨w.heap.size, 0, none⟩) 4 4) (w.alloc (.cells (flatF (hasI 1)) 71)) := by kernel_rfl
theorem bs2 (w : World) : (Instr.buildSlice 57 1 #[(0, .agg (fldA 3))]).run Try.prog w = .ok (.slice (some ⟨w.heap.size, 0, none⟩) 1 1) (w.alloc (.cells (flatF (hasI 2)) 71)) := by kernel_rfl
theorem bs3 (w : World) : (Instr.buildSlice 57 1 #[(0, .agg (fldA 4))]).run Try.prog w = .ok (.slice (some ⟨w.heap.size, 0, none⟩) 1 1) (w.alloc (.cells (flatF (hasI 3)) 71)) := by kernel_rfl

structure TS (w0 : World) (m : Nat) (V : Int → Value) (ks : List Int) (w : World) : Prop where
  map : MapIs w m (ks.map fun k => (k, V k))
  has : ∀ k ∈ ks, FieldsAt w (V k) (hasI k)
  lo : w0.heap.size ≤ m
  below : Below w0.heap.size w0 w
theorem TS.next {w0 : World} {m : Nat} {V : Int → Value} {ks : List Int} {w w' : World} (h : TS w0 m V ks w) (hb : Below w.heap.size w w') : TS w0 m V ks w' where
  map := h.map.grown (Grown.below (S := fun _ => False) hb) fun h => h
  has k hk := (h.has k hk).below hb
  lo := h.lo
  below := h.below.trans (hb.mono h.below.size)
theorem MapIs.ne {w : World} {m g : Nat} {ps : List (Int × Value)} {T : TypeId} {cs : Array Value} (h : MapIs w m ps) (hg : Blk w g T cs) : m ≠ g := by
  rintro rfl
  obtain ⟨es, clock, h1, _⟩ := h
  unfold Blk at hg
  rw [hg] at h1
  cases h1
theorem TS.put {w0 : World} {m : Nat} {V : Int → Value} {ks : List Int} {w w' : World} (h : TS w0 m V ks w) (k : Int) (v : Value) (hk : k ∉ ks) (hv : FieldsAt w v (hasI k)) (hm : MapIs w' m (ks.map (fun k => (k, V k)) ++ [(k, v)])) (hg : Grown w w' fun j => j = m) :
    TS w0 m (fun j => if j = k then v else V j) (ks ++ [k]) w' where
  map := by
    rw [List.map_append]
    have e : ks.map (fun j => (j, if j = k then v else V j)) = ks.map fun j => (j, V j) := List.map_congr_left fun j hj => by rw [if_neg (fun e : j = k => hk (e ▸ hj))]
    rw [e]
    simpa using hm
  has j hj := by
    rcases List.mem_append.1 hj with hj | hj
    · rw [if_neg (fun e : j = k => hk (e ▸ hj))]
      exact (h.has j hj).grown hg fun g hb e => h.map.ne hb e.symm
    · have : j = k := by simpa using hj
      subst this
      rw [if_pos rfl]
      exact hv.grown hg fun g hb e => h.map.ne hb e.symm
  lo := h.lo
  below := h.below.trans (hg.to_below (B := w0.heap.size) (fun i hi e => by have := h.lo; omega) h.below.size)
theorem fields_row (w : World) (k : Int) (n : Nat) (h : (hasI k).length = n) : FieldsAt (w.alloc (.cells (flatF (hasI k)) 71)) (.slice (some ⟨w.heap.size, 0, none⟩) n n) (hasI k) := .inr ⟨_, by rw [h], Blk.new _ _ _⟩
theorem wpList_mkmap {ops : Array Oper} {rest : List Oper} {o : Oper} {a : Act} {w : World} {Q : Exit → Act → World → Prop} (hg : o.guard = none) (ho : o.op = .makeMap 59 none)
    (h : wpList Try.prog ops Q rest (a.put o.dst (.map (some w.heap.size))) (w.alloc (.map #[] 0))) : wpList Try.prog ops Q (o :: rest) a w := by
  refine wpList_plain hg fun K hK => ?_
  unfold Oper.wp execOp
  have := Try.newmap w
  simp only [ho, Option.map_none, Sem.run_bind, this, Result.andThen_ok]
  exact hK _ _ h
theorem wpList_bs {P : Program} {ops : Array Oper} {rest : List Oper} {o : Oper} {a : Act} {w : World} {Q : Exit → Act → World → Prop} (hg : o.guard = none) (t : TypeId) (n : Nat) (parts : Array (Nat × Operand)) (ho : o.op = .buildSlice t n parts)
    (vs : Array (Nat × Value)) (hv : (parts.map fun (i, x) => (i, a.eval x)) = vs) (v : Value) (w' : World) (hrun : (Instr.buildSlice t n vs).run P w = .ok v w')
    (h : wpList P ops Q rest (a.put o.dst v) w') : wpList P ops Q (o :: rest) a w := by
  refine wpList_plain hg fun K hK => ?_
  unfold Oper.wp execOp
  simp only [ho, hv, Sem.run_bind, hrun, Result.andThen_ok]
  exact hK _ _ h
theorem not_in (V : Int → Value) (ks : List Int) (k : Int) (h : k ∉ ks) : ∀ p ∈ ks.map (fun k => (k, V k)), p.1 ≠ k := by
  intro p hp e
  obtain ⟨j, hj, rfl⟩ := List.mem_map.1 hp
  exact h (e ▸ hj)
set_option maxRecDepth 8000 in
set_option maxHeartbeats 2000000 in
theorem tab_any (w : World) : Calls Try.prog 20 #[] w fun e w' => ∃ m, e = .returned (.map (some m)) ∧ TabAt w' m ∧ w.heap.size ≤ m ∧ Below w.heap.size w w' := by
  go_enter Try.func20, Try.ntmps20
  go_wp2_with (first | (refine wpList_mkmap rfl rfl ?_; refine Hid.out ?_))
  refine hid_in ?_
  have HT0 : Keep (TS w w.heap.size (fun _ => .nilFunc) [] (w.alloc (.map #[] 0))) := ⟨⟨⟨#[], 0, heap_alloc_new w _, rfl⟩, fun k hk => by simp at hk, Nat.le_refl _, below_new w _⟩⟩
  generalize w.alloc (.map #[] 0) = w0 at *
  rename Keep (TS _ _ _ _ w0) => HT
  go_wp2_with fail
  refine (fld0_any w0).mono ?_
  rintro e w1 ⟨rfl, hb⟩
  have HT1 := Keep.mk (HT.out.next hb)
  clear hb HT
  rename Keep (TS _ _ _ _ w1) => HT
  go_wp2_with fail
  refine (fld1_any w1).mono ?_
  rintro e w2 ⟨rfl, hb⟩
  have HT2 := Keep.mk (HT.out.next hb)
  clear hb HT
  rename Keep (TS _ _ _ _ w2) => HT
  go_wp2_with fail
  refine (fld2_any w2).mono ?_
  rintro e w3 ⟨rfl, hb⟩
  have HT3 := Keep.mk (HT.out.next hb)
  clear hb HT
  rename Keep (TS _ _ _ _ w3) => HT
  go_wp2_with fail
  refine (fld3_any w3).mono ?_
  rintro e w4 ⟨rfl, hb⟩
  have HT4 := Keep.mk (HT.out.next hb)
  clear hb HT
  rename Keep (TS _ _ _ _ w4) => HT
  go_wp2_with (first | (refine wpList_bs rfl 57 4 _ rfl #[(0, .agg (fldA 0)), (1, .agg (fldA 1)), (2, .agg (fldA 2)), (3, .agg (fldA 3))] (by simp [Act.eval]) _ _ (bs1 _) ?_; refine Hid.out ?_))
  refine hid_in ?_
  try simp only [Act.put, List.setIfInBounds_toArray, List.set_cons_zero, List.set_cons_succ]
  refine wpList_ins rfl (.tmp 1) _ (.tmp 6) rfl w.heap.size _ 1 _ rfl rfl rfl (HT.out.next (below_new _ (.cells (flatF (hasI 1)) 71))).map (not_in _ _ _ (by decide)) ?_
  intro w5 hm hg hs
  have HTn := Keep.mk ((HT.out.next (below_new _ (.cells (flatF (hasI 1)) 71))).put 1 _ (by decide) (fields_row w4 1 4 rfl) hm hg)
  clear hm hg hs HT
  rename Keep (TS _ _ _ _ w5) => HT
  go_wp2_with fail
  refine (fld3_any w5).mono ?_
  rintro e w6 ⟨rfl, hb⟩
  have HT6 := Keep.mk (HT.out.next hb)
  clear hb HT
  rename Keep (TS _ _ _ _ w6) => HT
  go_wp2_with (first | (refine wpList_bs rfl 57 1 _ rfl #[(0, .agg (fldA 3))] (by simp [Act.eval]) _ _ (bs2 _) ?_; refine Hid.out ?_))
  refine hid_in ?_
  try simp only [Act.put, List.setIfInBounds_toArray, List.set_cons_zero, List.set_cons_succ]
  refine wpList_ins rfl (.tmp 1) _ (.tmp 8) rfl w.heap.size _ 2 _ rfl rfl rfl (HT.out.next (below_new _ (.cells (flatF (hasI 2)) 71))).map (not_in _ _ _ (by decide)) ?_
  intro w7 hm hg hs
  have HTn := Keep.mk ((HT.out.next (below_new _ (.cells (flatF (hasI 2)) 71))).put 2 _ (by decide) (fields_row w6 2 1 rfl) hm hg)
  clear hm hg hs HT
  rename Keep (TS _ _ _ _ w7) => HT
  go_wp2_with fail
  refine (fld4_any w7).mono ?_
  rintro e w8 ⟨rfl, hb⟩
  have HT8 := Keep.mk (HT.out.next hb)
  clear hb HT
  rename Keep (TS _ _ _ _ w8) => HT
  go_wp2_with (first | (refine wpList_bs rfl 57 1 _ rfl #[(0, .agg (fldA 4))] (by simp [Act.eval]) _ _ (bs3 _) ?_; refine Hid.out ?_))
  refine hid_in ?_
  try simp only [Act.put, List.setIfInBounds_toArray, List.set_cons_zero, List.set_cons_succ]
  refine wpList_ins rfl (.tmp 1) _ (.tmp 10) rfl w.heap.size _ 3 _ rfl rfl rfl (HT.out.next (below_new _ (.cells (flatF (hasI 3)) 71))).map (not_in _ _ _ (by decide)) ?_
  intro w9 hm hg hs
  have HTn := Keep.mk ((HT.out.next (below_new _ (.cells (flatF (hasI 3)) 71))).put 3 _ (by decide) (fields_row w8 3 1 rfl) hm hg)
  clear hm hg hs HT
  rename Keep (TS _ _ _ _ w9) => HT
  go_wp2
  go_ret
  exact ⟨w.heap.size, rfl, ⟨_, HT.out.map, HT.out.has⟩, HT.out.lo, HT.out.below⟩
theorem flatF_at : ∀ (is : List Nat) (t i : Nat), is[t]? = some i → ∀ j, j < 3 → (flatF is)[t * 3 + j]? = (fldA i)[j]?
  | [], t, i, h, j, hj => by simp at h
  | a :: is, 0, i, h, j, hj => by
    simp at h; subst h
    unfold flatF
    rw [List.flatMap_cons, List.getElem?_toArray, Nat.zero_mul, Nat.zero_add, List.getElem?_append_left (by rw [Array.length_toList, fldA_size]; exact hj), Array.getElem?_toList]
  | a :: is, t + 1, i, h, j, hj => by
    have ih := flatF_at is t i (by simpa using h) j hj
    unfold flatF at ih ⊢
    rw [List.getElem?_toArray] at ih
    rw [List.flatMap_cons, List.getElem?_toArray, List.getElem?_append_right (by rw [Array.length_toList, fldA_size]; omega), Array.length_toList, fldA_size, ← ih]
    congr 1; omega
theorem fld_range {w : World} {g : Nat} {is : List Nat} (h : Blk w g 71 (flatF is)) (t i : Nat) (hi : is[t]? = some i) : w.rangeAt g (t * 3) (fldA i).toList := fun j v hv => by
  have hj : j < 3 := by
    have := (List.getElem?_eq_some_iff.1 hv).1
    rwa [Array.length_toList, fldA_size] at this
  rw [h.cell, flatF_at is t i hi j hj]
  simpa using hv
set_option maxRecDepth 8000 in
set_option maxHeartbeats 1000000 in
theorem rising_walk (n b o c : Nat) (L : List Hs) (w : World) (hL : L.length = n) (h1 : w.rangeAt b o (Sh.flatH L)) (hn : (n : Int) ≤ 9223372036854775806) (h0 : 0 < n) :
    Calls Try.prog 22 #[.slice (some ⟨b, o, none⟩) n c] w fun e w' => e = .returned (.bool (Sh.risesB L)) ∧ Below w.heap.size w w' := by
  obtain ⟨R, hR⟩ : ∃ R, Keep (R = Sh.risesB L) := ⟨_, ⟨rfl⟩⟩
  rw [← hR.out]
  have HL : Keep (L.length = n) := ⟨hL⟩
  have H1 : Keep (w.rangeAt b o (Sh.flatH L)) := ⟨h1⟩
  have hblt : b < w.heap.size := Sh.rangeAt_lt h1 (by omega)
  have hu := Try.underlying101
  clear hL h1
  go_enter Try.func22, Try.ntmps22
  go_wp2
  go_loopw [3] (fun i wr => ∃ t : Nat, t + 1 ≤ n ∧ i = .int .i64 ((t + 1 : Nat) : Int) ∧ (∀ k, k < t → Sh.cf (L.getD k default) (L.getD (k + 1) default) < 0) ∧ Below w.heap.size w wr) (fun i _ => n - (intOf i).toNat)
  case atStart => exact ⟨0, by omega, rfl, fun k hk => by omega, Below.refl _ _⟩
  case round =>
    obtain ⟨t, ht, rfl, hke, hB⟩ := hrel
    have HK : Keep (∀ k, k < t → Sh.cf (L.getD k default) (L.getD (k + 1) default) < 0) := ⟨hke⟩
    clear hke
    by_cases hlt : t + 1 < n
    · have l1 : t < L.length := by rw [HL.out]; omega
      have l2 : t + 1 < L.length := by rw [HL.out]; exact hlt
      have HC : Keep (∀ w, Calls Try.prog 56 #[.agg (Sh.encH L[t + 1]).toArray, .agg (Sh.encH L[t]).toArray] w fun e w' => e = .returned (.bool (decide (0 < Sh.cf L[t + 1] L[t]))) ∧ Below w.heap.size w w') := ⟨fun w => by
        rw [Sh.encH_arr, Sh.encH_arr]
        exact behind_any _ _ w⟩
      rw [Sh.cf_swap L[t] L[t + 1]] at HC
      have HS : Keep (∀ wx, Below wr.heap.size wr wx → wx.rangeAt b (o + t * 32) (Sh.encH L[t]) ∧ wx.rangeAt b (o + (t + 1) * 32) (Sh.encH L[t + 1])) := ⟨fun wx hx => by
        have hb2 := hB.trans (hx.mono hB.size)
        exact ⟨Sh.rangeAt_below (Sh.rangeAt_elem H1.out t l1) hb2 hblt, Sh.rangeAt_below (Sh.rangeAt_elem H1.out (t + 1) l2) hb2 hblt⟩⟩
      have hi1 := Sh.Try.size101L L[t]
      have hi2 := Sh.Try.size101L L[t + 1]
      obtain ⟨r, hr⟩ : ∃ r, Keep (r = Sh.cf L[t] L[t + 1]) := ⟨_, ⟨rfl⟩⟩
      rw [← hr.out] at HC
      have HE : Keep (r = Sh.cf (L.getD t default) (L.getD (t + 1) default)) := ⟨by
        rw [hr.out, List.getD_eq_getElem?_getD, List.getD_eq_getElem?_getD, List.getElem?_eq_getElem l1, List.getElem?_eq_getElem l2]; rfl⟩
      clear hr
      generalize Sh.encH L[t] = CA at *
      generalize Sh.encH L[t + 1] = CB at *
      clear l1 l2
      rename World => wn
      have hD0 : Below wn.heap.size wn wn.drew := (Below.refl _ _).drew
      have hlt' : ((t + 1 : Nat) : Int) < (n : Int) := by omega
      have hs1 : ((t + 1 : Nat) : Int) - 1 = (t : Int) := by omega
      have hlt2 : (t : Int) < (n : Int) := by omega
      have hwr : IntKind.i64.wrap (t : Int) = (t : Int) := by rw [IntKind.wrap_i64]; omega
      have hng : ¬ ((t : Int) + 1 < 0) := by omega
      go_wp2
      refine wp_region_held_drew (S := fun w' => w'.rangeAt b (o + t * 32) CA ∧ w'.rangeAt b (o + (t + 1) * 32) CB) (by kernel_rfl) (HS.out _ hD0) (fun hHeld => ?_)
      refine wpAnyH_take (i := 0) (oi := ⟨some 10, Op.move (Operand.tmp 0), 23, _, _, none⟩) (v := Value.slice (some ⟨b, o, none⟩) n c) rfl (by kernel_rfl) (by kernel_rfl) (by kernel_rfl) (fun _ _ _ h => h) (Or.inl ⟨by rfl, fun w hS => by go_simp⟩) hHeld ?_
      simp only [Act.put, List.setIfInBounds_toArray, List.set_cons_zero, List.set_cons_succ]
      refine wpAnyH_take (i := 1) (oi := ⟨some 11, Op.move (Operand.tmp 3), 3, _, _, none⟩) (v := .int .i64 ((t + 1 : Nat) : Int)) rfl (by kernel_rfl) (by kernel_rfl) (by kernel_rfl) (fun _ _ _ h => h) (Or.inl ⟨by rfl, fun w hS => by go_simp⟩) hHeld ?_
      simp only [Act.put, List.setIfInBounds_toArray, List.set_cons_zero, List.set_cons_succ]
      refine wpAnyH_take (i := 2) (oi := ⟨some 12, Op.indexAddr 23 (Operand.tmp 10) (Operand.tmp 11), 0, _, _, none⟩) (v := .pointer (some ⟨b, o + (t + 1) * 32, none⟩)) rfl (by kernel_rfl) (by kernel_rfl) (by kernel_rfl) (fun _ _ _ h => h) (Or.inl ⟨by rfl, fun w hS => by go_simp⟩) hHeld ?_
      simp only [Act.put, List.setIfInBounds_toArray, List.set_cons_zero, List.set_cons_succ]
      refine wpAnyH_take (i := 3) (oi := ⟨some 13, Op.load 101 (Operand.tmp 12), 101, _, _, none⟩) (v := .agg (CB).toArray) rfl (by kernel_rfl) (by kernel_rfl) (by kernel_rfl) (fun _ _ _ h => h) (yieldsIf_load_mid (by rfl) 101 (Operand.tmp 12) rfl b (o + (t + 1) * 32) rfl CB _ (fun w hS => hS.2) hu rfl hi2) hHeld ?_
      simp only [Act.put, List.setIfInBounds_toArray, List.set_cons_zero, List.set_cons_succ]
      refine wpAnyH_take (i := 4) (oi := ⟨some 14, Op.move (Operand.tmp 0), 23, _, _, none⟩) (v := Value.slice (some ⟨b, o, none⟩) n c) rfl (by kernel_rfl) (by kernel_rfl) (by kernel_rfl) (fun _ _ _ h => h) (Or.inl ⟨by rfl, fun w hS => by go_simp⟩) hHeld ?_
      simp only [Act.put, List.setIfInBounds_toArray, List.set_cons_zero, List.set_cons_succ]
      refine wpAnyH_take (i := 5) (oi := ⟨some 15, Op.move (Operand.tmp 3), 3, _, _, none⟩) (v := .int .i64 ((t + 1 : Nat) : Int)) rfl (by kernel_rfl) (by kernel_rfl) (by kernel_rfl) (fun _ _ _ h => h) (Or.inl ⟨by rfl, fun w hS => by go_simp⟩) hHeld ?_
      simp only [Act.put, List.setIfInBounds_toArray, List.set_cons_zero, List.set_cons_succ]
      refine wpAnyH_take (i := 6) (oi := ⟨some 16, Op.binOp BinOp.sub 3 (Operand.tmp 15) (Operand.const (Value.int IntKind.i64 1)) 3, 3, _, _, none⟩) (v := .int .i64 (t : Int)) rfl (by kernel_rfl) (by kernel_rfl) (by kernel_rfl) (fun _ _ _ h => h) (Or.inl ⟨by rfl, fun w hS => by go_simp⟩) hHeld ?_
      simp only [Act.put, List.setIfInBounds_toArray, List.set_cons_zero, List.set_cons_succ]
      refine wpAnyH_take (i := 7) (oi := ⟨some 17, Op.indexAddr 23 (Operand.tmp 14) (Operand.tmp 16), 0, _, _, none⟩) (v := .pointer (some ⟨b, o + t * 32, none⟩)) rfl (by kernel_rfl) (by kernel_rfl) (by kernel_rfl) (fun _ _ _ h => h) (Or.inl ⟨by rfl, fun w hS => by go_simp⟩) hHeld ?_
      simp only [Act.put, List.setIfInBounds_toArray, List.set_cons_zero, List.set_cons_succ]
      refine wpAnyH_take (i := 8) (oi := ⟨some 18, Op.load 101 (Operand.tmp 17), 101, _, _, none⟩) (v := .agg (CA).toArray) rfl (by kernel_rfl) (by kernel_rfl) (by kernel_rfl) (fun _ _ _ h => h) (yieldsIf_load_mid (by rfl) 101 (Operand.tmp 17) rfl b (o + t * 32) rfl CA _ (fun w hS => hS.1) hu rfl hi1) hHeld ?_
      simp only [Act.put, List.setIfInBounds_toArray, List.set_cons_zero, List.set_cons_succ]
      refine wpAnyH_ready (rs := [9]) (by kernel_rfl) (by simp) ?_
      refine AllReadyH.cons (o := ⟨some 19, Op.call { callee := Callee.value (Operand.func 56), args := #[Operand.tmp 13, Operand.tmp 18], argTypes := #[101, 101] }, 4, _, _, none⟩) rfl (fun K hK => ?_) AllReadyH.nil
      rw [if_pos (by rfl)]
      refine wp_callF 56 #[.tmp 13, .tmp 18] #[101, 101] rfl Try.in56 #[.agg CB.toArray, .agg CA.toArray] (by simp [Act.eval]) (fun v w' => v = .bool (decide (0 < -r)) ∧ Below wn.drew.heap.size wn.drew w') ((HC.out wn.drew).mono fun e w' h => ⟨_, h.1, rfl, h.2⟩) ?_
      rintro v w5 ⟨rfl, hb5⟩
      have hB5 : Below wn.heap.size wn w5 := hD0.trans (hb5.mono hD0.size)
      refine hK.out _ _ (HS.out _ hB5) fun hHeld5 => ?_
      clear hK
      simp only [Act.put, List.setIfInBounds_toArray, List.set_cons_zero, List.set_cons_succ]
      refine wpAnyH_take (i := 10) (oi := ⟨some 20, Op.unOp UnOp.not 4 (Operand.tmp 19), 4, _, _, none⟩) (v := .bool (!decide (0 < -r))) rfl (by kernel_rfl) (by kernel_rfl) (by kernel_rfl) (fun _ _ _ h => h) (Or.inl ⟨by rfl, fun w hS => by go_simp⟩) hHeld5 ?_
      simp only [Act.put, List.setIfInBounds_toArray, List.set_cons_zero, List.set_cons_succ]
      refine wpAnyH_done (by kernel_rfl) ?_ _
      have hBn : Below w.heap.size w w5 := hB.trans (hB5.mono hB.size)
      by_cases hr0 : 0 ≤ r
      · have hdd : (!decide (0 < -r)) = true := by simp; omega
        rw [hdd]
        clear hdd
        have HF : Keep (R = false) := ⟨by
          rw [hR.out, Bool.eq_false_iff]; intro h
          have := (Sh.risesB_iff L).1 h t (by rw [HL.out]; exact hlt)
          rw [← HE.out] at this; omega⟩
        go_wp2
        go_ret
        exact ⟨by rw [HF.out]; rfl, hBn⟩
      · have hdd : (!decide (0 < -r)) = false := by simp; omega
        rw [hdd]
        clear hdd
        have HE2 : Keep (Sh.cf (L.getD t default) (L.getD (t + 1) default) < 0) := ⟨by rw [← HE.out]; omega⟩
        go_wp2
        go_roundw
        case rel => exact ⟨t + 1, by omega, by go_num, fun k hk => by
            rcases Nat.lt_or_eq_of_le (Nat.le_of_lt_succ hk) with h | h
            · exact HK.out k h
            · subst h; exact HE2.out, hBn⟩
        case measure => simp [intOf]; omega
    · obtain rfl : t + 1 = n := by omega
      go_wp2
      go_ret
      refine ⟨?_, hB⟩
      rw [hR.out, (Sh.risesB_iff L).2 fun i hi => HK.out i (by have := HL.out; omega)]
      rfl
set_option maxRecDepth 8000 in
set_option maxHeartbeats 400000 in
theorem rising_none (a1 : Option Addr) (c1 : Nat) (w : World) : Calls Try.prog 22 #[.slice a1 0 c1] w fun e w' => e = .returned (.bool true) ∧ w' = w := by
  go_enter Try.func22, Try.ntmps22
  go_wp2
  refine wp_loop_rounds 1 ?_; rw [rounds_succ]
  go_wp2
  go_ret
  exact ⟨rfl, rfl⟩
theorem rising_any (v : Value) (L : List Hs) (w : World) (h : Sh.HRow w v L) (hn : (L.length : Int) ≤ 9223372036854775806) :
    Calls Try.prog 22 #[v] w fun e w' => e = .returned (.bool (Sh.risesB L)) ∧ Below w.heap.size w w' := by
  obtain ⟨a1, c1, rfl⟩ := h.form
  by_cases h0 : 0 < L.length
  · obtain ⟨b1, o1, rfl, _, _, r1⟩ := h.at h0
    exact rising_walk L.length b1 o1 c1 L w rfl r1 hn h0
  · have e1 : L = [] := List.eq_nil_of_length_eq_zero (by omega)
    subst e1
    exact (rising_none a1 c1 w).mono fun e w' h => ⟨by rw [h.1, (Sh.risesB_iff []).2 fun i hi => by simp at hi], by rw [h.2]; exact Below.refl _ _⟩

theorem pow_le10 {t : Nat} (ht : t ≤ 10) : (1 : Int) ≤ 2 ^ t ∧ (2 : Int) ^ t ≤ 1024 := by
  have h : ∀ t : Fin 11, (1 : Int) ≤ 2 ^ t.val ∧ (2 : Int) ^ t.val ≤ 1024 := by decide
  exact h ⟨t, by omega⟩
def isP (n : Int) : Bool := [8, 16, 32, 64, 128, 256, 512, 1024, 2048, 4096, 8192].contains n
theorem and_pow0 : ∀ a : Fin 65, ∀ b : Fin 128, 8 ≤ 128 * a.val + b.val → 128 * a.val + b.val ≤ 8192 → (bits .and .i64 ((128 * a.val + b.val : Nat) : Int) (((128 * a.val + b.val : Nat) : Int) - 1) == 0) = isP ((128 * a.val + b.val : Nat) : Int) := by decide +kernel
theorem and_pow (n : Nat) (h1 : 8 ≤ n) (h2 : n ≤ 8192) : (bits .and .i64 (n : Int) ((n : Int) - 1) == 0) = isP n := by
  have h := and_pow0 ⟨n / 128, by omega⟩ ⟨n % 128, by omega⟩
  simp only [show 128 * (n / 128) + n % 128 = n by omega] at h
  exact h h1 h2
theorem isP_iff (n : Int) : isP n = true ↔ ∃ t : Nat, t ≤ 10 ∧ n = 8 * 2 ^ t := by
  constructor
  · intro h
    simp [isP] at h
    rcases h with rfl | rfl | rfl | rfl | rfl | rfl | rfl | rfl | rfl | rfl | rfl
    · exact ⟨0, by omega, rfl⟩
    · exact ⟨1, by omega, rfl⟩
    · exact ⟨2, by omega, rfl⟩
    · exact ⟨3, by omega, rfl⟩
    · exact ⟨4, by omega, rfl⟩
    · exact ⟨5, by omega, rfl⟩
    · exact ⟨6, by omega, rfl⟩
    · exact ⟨7, by omega, rfl⟩
    · exact ⟨8, by omega, rfl⟩
    · exact ⟨9, by omega, rfl⟩
    · exact ⟨10, by omega, rfl⟩
  · rintro ⟨t, ht, rfl⟩
    have h : ∀ t : Fin 11, isP (8 * 2 ^ t.val) = true := by decide +kernel
    exact h ⟨t, by omega⟩
theorem isP_rng {n : Int} (h : isP n = true) : 8 ≤ n ∧ n ≤ 8192 := by
  obtain ⟨t, ht, rfl⟩ := (isP_iff n).1 h
  have := pow_le10 ht
  omega
theorem isSize_any (n : Int) (w : World) : Calls Try.prog 57 #[.int .i64 n] w fun e w' => e = .returned (.bool (isP n)) ∧ w' = w := by
  by_cases h1 : 8 ≤ n
  · by_cases h2 : n ≤ 8192
    · have hw : IntKind.i64.wrap (n - 1) = n - 1 := by rw [IntKind.wrap_i64]; omega
      have ha := and_pow n.toNat (by omega) (by omega)
      simp only [Int.toNat_of_nonneg (show 0 ≤ n by omega)] at ha
      generalize isP n = b at *
      go_enter Try.func57, Try.ntmps57
      go_wp2
      go_ret
      exact ⟨by simp_all, rfl⟩
    · have hb : isP n = false := by cases hq : isP n with
        | false => rfl
        | true => have := isP_rng hq; omega
      rw [hb]
      go_enter Try.func57, Try.ntmps57
      go_wp2
      go_ret
      exact ⟨rfl, rfl⟩
  · have hb : isP n = false := by cases hq : isP n with
        | false => rfl
        | true => have := isP_rng hq; omega
    rw [hb]
    go_enter Try.func57, Try.ntmps57
    go_wp2
    go_ret
    exact ⟨rfl, rfl⟩

theorem right_any (v : Value) (l : List Int) (w : World) (h : RowAt w v l) : Calls Try.prog 23 #[v] w fun e w' => e = .returned (.bool (isP (l.length : Int))) ∧ w' = w := by
  obtain ⟨a, c, rfl⟩ := row_form h
  have HC := Keep.mk (isSize_any (l.length : Int) w)
  clear h
  go_enter Try.func23, Try.ntmps23
  go_wp2_with fail
  refine HC.out.mono ?_
  rintro e w' ⟨rfl, rfl⟩
  go_wp2
  go_ret
  exact ⟨rfl, rfl⟩
end Go.Proofs.Ytlogkojhcccogaa
