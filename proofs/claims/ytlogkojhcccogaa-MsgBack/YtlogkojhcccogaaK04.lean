import Derived.Test.YtlogkojhcccogaaK02
import Derived.Test.YtlogkojhcccogaaK03
import Derived.ArgAppend
import Derived.Lib.ConvBytes
import Derived.Deep.RegionWith
import Derived.Maps.Own
import Derived.Defers
import Derived.Recover
import Derived.Laws.StructEq
import Derived.ChangeKeysEq
namespace Go.Proofs.Ytlogkojhcccogaa
open Go.RowKit

/-! ### How many bytes a form has. -/
theorem numF_size (f : Nat) : ∀ x, 0 < x → x < 128 ^ (f + 1) → 128 ^ ((numF f x).length - 1) ≤ x ∧ x < 128 ^ (numF f x).length := by
  induction f with
  | zero => intro x h0 hx; have : x < 128 := by simpa using hx
            simp [numF]; omega
  | succ f ih =>
    intro x h0 hx
    rw [numF]
    by_cases h : x < 128
    · rw [if_pos h]; simp; omega
    · rw [if_neg h]
      have h2 : x / 128 < 128 ^ (f + 1) := by rw [Nat.div_lt_iff_lt_mul (by omega)]; rw [Nat.pow_succ] at hx; exact hx
      obtain ⟨h3, h4⟩ := ih (x / 128) (by omega) h2
      have hp := numF_pos f (x / 128)
      rw [List.length_cons, Nat.add_sub_cancel]
      constructor
      · obtain ⟨k, hk⟩ : ∃ k, (numF f (x / 128)).length = k + 1 := ⟨(numF f (x / 128)).length - 1, by omega⟩
        rw [hk] at h3 ⊢
        rw [Nat.add_sub_cancel] at h3
        rw [Nat.pow_succ]
        exact (Nat.le_div_iff_mul_le (by omega)).1 h3
      · rw [Nat.pow_succ]
        exact (Nat.div_lt_iff_lt_mul (by omega)).1 h4
theorem bl_size (x : Nat) (hx : x < 18446744073709551616) (h0 : 0 < x) : (Lib.bitLen x + 6) / 7 = (numL x).length := by
  obtain ⟨h1, h2⟩ := numF_size 9 x h0 (by
    have : (128 : Nat) ^ (9 + 1) = 1180591620717411303424 := by decide
    rw [this]; omega)
  have hk := numL_len x
  have hp := numF_pos 9 x
  obtain ⟨k, hkk⟩ : ∃ k, (numL x).length = k + 1 := ⟨(numL x).length - 1, by unfold numL; omega⟩
  have e1 : (128 : Nat) ^ k = 2 ^ (7 * k) := by rw [Nat.pow_mul]
  unfold numL at hkk
  rw [hkk, Nat.add_sub_cancel, e1] at h1
  rw [hkk] at h2
  have hlow : Lib.bitLen x = 7 * k + Lib.bitLen (x / 2 ^ (7 * k)) := Lib.bitLen_shift (7 * k) x h1 (by rw [two64]; exact hx)
  have hy1 : 0 < x / 2 ^ (7 * k) := Nat.div_pos h1 (Nat.two_pow_pos _)
  have hy2 : x / 2 ^ (7 * k) < 128 := by
    rw [Nat.div_lt_iff_lt_mul (Nat.two_pow_pos _), ← e1, Nat.mul_comm, ← Nat.pow_succ]; exact h2
  have hy3 : 1 ≤ Lib.bitLen (x / 2 ^ (7 * k)) := by
    rw [Lib.bitLen_half _ (by omega) (by rw [two64]; omega)]; omega
  have hy4 : Lib.bitLen (x / 2 ^ (7 * k)) ≤ 7 := Lib.bitLen_le _ 7 (by omega) hy2
  unfold numL
  rw [hkk, hlow]
  omega
theorem bl_zero : Lib.bitLen 0 = 0 := by decide

set_option maxRecDepth 8000 in
set_option maxHeartbeats 1000000 in
theorem size_any (x : Nat) (w : World) (hx : x < 18446744073709551616) :
    Calls Try.prog 58 #[.int .u64 (x : Int)] w fun e w' => e = .returned (.int .i64 ((numL x).length : Int)) ∧ w' = w := by
  have HX := Keep.mk hx
  have hl : Lib.bitLen x ≤ 64 := Lib.bitLen_le x 64 (by omega) (by rw [two64]; exact hx)
  obtain ⟨b, hb⟩ : ∃ b, Keep (b = Lib.bitLen x) := ⟨_, ⟨rfl⟩⟩
  rw [← hb.out] at hl
  have hl' : (b : Int) ≤ 64 := by omega
  have h0' : (0 : Int) ≤ (b : Int) := by omega
  clear hx hl
  go_enter Try.func58, Try.ntmps58
  go_wp2_with fail
  refine (len64_any x w HX.out).mono ?_
  rintro e w1 ⟨rfl, rfl⟩
  rw [← hb.out]
  go_wp2
  go_ret
  refine ⟨?_, rfl⟩
  show Ending.returned (Value.int .i64 (max 1 (((b : Int) + 7 - 1) / 7))) = _
  congr 2
  by_cases hx0 : x = 0
  · subst hx0
    rw [bl_zero] at hb
    rw [hb.out, numL_small 0 (by omega)]
    decide
  · have h := bl_size x HX.out (by omega)
    rw [← hb.out] at h
    have h1 := numF_pos 9 x
    rw [← h] 
    unfold numL at h
    omega

set_option maxRecDepth 8000 in
set_option maxHeartbeats 1000000 in
theorem rsize_any (x : Nat) (w : World) (hx : x < 18446744073709551616) :
    Calls Try.prog 50 #[.int .u64 (x : Int)] w fun e w' => e = .returned (.int .i64 ((numL x).length : Int)) ∧ w' = w := by
  have HX := Keep.mk hx
  clear hx
  go_enter Try.func50, Try.ntmps50
  go_wp2
  go_loop [0, 3] (fun i n => ∃ (y k : Nat), i = .int .u64 (y : Int) ∧ n = .int .i64 (k : Int) ∧ Keep (y < 18446744073709551616) ∧ Keep (k + (numL y).length = (numL x).length + 1) ∧ k ≤ 10) (fun i _ => (intOf i).toNat)
  case atStart => exact ⟨x, 1, rfl, rfl, HX, ⟨by omega⟩, by omega⟩
  case round =>
    obtain ⟨y, k, rfl, rfl, hy, hk, hk10⟩ := hrel
    by_cases h128 : 128 ≤ y
    · have h128' : (128 : Int) ≤ (y : Int) := by omega
      have HS : Keep (numL y = ((y % 128 + 128 : Nat) : Int) :: numL (y / 128)) := ⟨numL_step y h128 hy.out⟩
      obtain ⟨z, hz⟩ : ∃ z, Keep (y / 128 = z) := ⟨_, ⟨rfl⟩⟩
      have hz1 : (y : Int) / 128 = (z : Int) := by have := hz.out; omega
      have hwz : IntKind.u64.wrap (z : Int) = (z : Int) := by rw [IntKind.wrap_u64]; have := hz.out; have := hy.out; omega
      go_wp2
      refine ⟨⟨z, k + 1, rfl, by go_num, ⟨by have := hy.out; have := hz.out; omega⟩, ⟨?_⟩, ?_⟩, by simp only [intOf]; have := hz.out; omega⟩
      · have := hk.out
        rw [HS.out, List.length_cons, hz.out] at this
        omega
      · have := hk.out
        have h1 := numL_len x
        have h2 := numF_pos 9 z
        rw [HS.out, List.length_cons, hz.out] at this
        unfold numL at this h1
        omega
    · have h128' : ¬ (128 : Int) ≤ (y : Int) := by omega
      have HS : Keep ((k : Int) = (numL x).length) := ⟨by have := hk.out; rw [numL_small y (by omega)] at this; simp at this; omega⟩
      go_wp2
      go_ret
      refine ⟨?_, rfl⟩
      show Ending.returned (Value.int .i64 (k : Int)) = _
      rw [HS.out]
end Go.Proofs.Ytlogkojhcccogaa
namespace Go.Proofs.Ytlogkojhcccogaa
open Go.RowKit

/-- What a call that answers a list longer than v leaves: v' has the bytes l. -/
def LayPost (v : Value) (l : List Int) (w : World) (e : Ending) (w' : World) : Prop :=
  ∃ v', e = .returned v' ∧ Own w' v' l ∧ Moved w v v' ∧ Grown w w' fun k => v.ownBlock = some k
theorem LayPost.trans {v v1 : Value} {l : List Int} {w w1 w2 : World} {e : Ending} (h : LayPost v1 l w1 e w2) (hm : Moved w v v1) (hg : Grown w w1 fun k => v.ownBlock = some k) : LayPost v l w e w2 := by
  obtain ⟨v2, he, h1, h2, h3⟩ := h
  exact ⟨v2, he, h1, hm.trans hg.size h2, hg.next h3 fun i hi h => hm.old hi h⟩
theorem AppPost.lay {w w' : World} {v v' : Value} {l : List Int} (h : AppPost w v l v' w') : LayPost v l w (.returned v') w' := ⟨v', rfl, h.1, h.moved, h.grown⟩
theorem Own.box {w : World} {v : Value} {l : List Int} (h : Own w v l) (o : Obj) : Own (w.alloc o) v l := h.grown (Grown.alloc w o fun _ => False) fun _ _ h => h
theorem AppPost.box {w w' : World} {v v' : Value} {l : List Int} {o : Obj} (h : AppPost (w.alloc o) v l v' w') : Own w' v' l ∧ Moved w v v' ∧ Grown w w' fun k => v.ownBlock = some k :=
  ⟨h.1, (Moved.refl w v).trans (Grown.alloc w o fun _ => False).size h.moved, (Grown.alloc w o _).next h.grown fun _ _ h => h⟩

set_option maxRecDepth 8000 in
set_option maxHeartbeats 1000000 in
theorem rnum_any (v : Value) (l : List Int) (x : Nat) (w : World) (h : Own w v l) (hx : x < 18446744073709551616) (hb : l.length + (numL x).length ≤ 140737488355328) :
    Calls Try.prog 32 #[v, .int .u64 (x : Int)] w (LayPost v (l ++ numL x) w) := by
  have HO : Keep (Own w v l) := ⟨h⟩
  have HB := Keep.mk hb
  have HX := Keep.mk hx
  clear h hx hb
  go_enter Try.func32, Try.ntmps32
  go_wp2
  go_loopw [0, 1] (fun b i wr => ∃ (y : Nat) (v1 : Value) (l1 : List Int), b = v1 ∧ i = .int .u64 (y : Int) ∧ Keep (y < 18446744073709551616) ∧ Own wr v1 l1 ∧ Keep (l1 ++ numL y = l ++ numL x) ∧ Moved w v v1 ∧ Grown w wr fun k => v.ownBlock = some k) (fun _ i _ => (intOf i).toNat)
  case atStart => exact ⟨x, v, l, rfl, rfl, HX, HO.out, ⟨rfl⟩, Moved.refl _ _, Grown.refl _ _⟩
  case round =>
    obtain ⟨y, v1, l1, rfl, rfl, hy, hO1, hl1, hm1, hg1⟩ := hrel
    by_cases h128 : 128 ≤ y
    · have h128' : (128 : Int) ≤ (y : Int) := by omega
      have HS : Keep (numL y = ((y % 128 + 128 : Nat) : Int) :: numL (y / 128)) := ⟨numL_step y h128 hy.out⟩
      have hlen : Keep (l1.length + [(y : Int) % 128 + 128].length ≤ 140737488355328) := ⟨by
        have e := congrArg List.length hl1.out
        have := HB.out
        rw [HS.out] at e
        simp only [List.length_append, List.length_cons, List.length_nil] at e this ⊢
        omega⟩
      have HO1 := Keep.mk (hO1.box (.cells #[.int .u8 ((y : Int) % 128 + 128)] 5))
      clear hO1
      go_wp2_with (first | (at_builtin; refine wpList_app rfl (.tmp 7) (.tmp 12) rfl _ (.slice (some ⟨wr.heap.size, 0, none⟩) 1 1) l1 [(y : Int) % 128 + 128] rfl rfl HO1.out (row_one wr _) hlen.out ?_; intro v' w' hp; refine Hid.out ?_))
      refine hid_in ?_
      have HP := Keep.mk hp.box
      clear hp
      obtain ⟨z, hz⟩ : ∃ z, Keep (y / 128 = z) := ⟨_, ⟨rfl⟩⟩
      have hz1 : (y : Int) / 128 = (z : Int) := by have := hz.out; omega
      have hwz : IntKind.u64.wrap (z : Int) = (z : Int) := by rw [IntKind.wrap_u64]; have := hz.out; have := hy.out; omega
      go_wp2
      go_roundw
      case rel =>
        obtain ⟨hO2, hm2, hg2⟩ := HP.out
        refine ⟨z, v', l1 ++ [(y : Int) % 128 + 128], rfl, rfl, ⟨by have := hy.out; have := hz.out; omega⟩, hO2, ⟨?_⟩, hm1.trans hg1.size hm2, hg1.next hg2 fun i hi h => hm1.old hi h⟩
        rw [← hl1.out, HS.out, hz.out, List.append_assoc]
        simp
      case measure => simp only [intOf]; have := hz.out; omega
    · have h128' : ¬ (128 : Int) ≤ (y : Int) := by omega
      have HL : Keep (l1 ++ [(y : Int)] = l ++ numL x) := ⟨by rw [← hl1.out, numL_small y (by omega)]⟩
      have hlen : Keep (l1.length + [(y : Int)].length ≤ 140737488355328) := ⟨by
        have e := congrArg List.length HL.out
        have := HB.out
        simp only [List.length_append, List.length_cons, List.length_nil] at e this ⊢
        omega⟩
      have HO1 := Keep.mk (hO1.box (.cells #[.int .u8 (y : Int)] 5))
      clear hO1
      go_wp2_with (first | (at_builtin; refine wpList_app rfl (.tmp 16) (.tmp 19) rfl _ (.slice (some ⟨wr.heap.size, 0, none⟩) 1 1) l1 [(y : Int)] rfl rfl HO1.out (row_one wr _) hlen.out ?_; intro v' w' hp; refine Hid.out ?_))
      refine hid_in ?_
      have HP := Keep.mk hp.box
      clear hp
      go_wp2
      go_ret
      obtain ⟨hO2, hm2, hg2⟩ := HP.out
      refine ⟨v', rfl, ?_, hm1.trans hg1.size hm2, hg1.next hg2 fun i hi h => hm1.old hi h⟩
      rw [← HL.out]; exact hO2
end Go.Proofs.Ytlogkojhcccogaa
namespace Go.Proofs.Ytlogkojhcccogaa
open Go.RowKit

set_option maxRecDepth 8000 in
set_option maxHeartbeats 1000000 in
theorem rbytes_any (v vx : Value) (l m : List Int) (w : World) (h : Own w v l) (hx : RowAt w vx m) (hsep : ∀ k, vx.ownBlock = some k → v.ownBlock ≠ some k) (hb : l.length + (bform m).length ≤ 140737488355328) :
    Calls Try.prog 31 #[v, vx] w (LayPost v (l ++ bform m) w) := by
  have HO : Keep (Own w v l) := ⟨h⟩
  have HX : Keep (RowAt w vx m) := ⟨hx⟩
  have HS := Keep.mk hsep
  have HB : Keep (l.length + (numL m.length).length + m.length ≤ 140737488355328) := ⟨by simpa [bform, Nat.add_assoc] using hb⟩
  obtain ⟨xa, xc, rfl⟩ := row_form hx
  have hw := wrap64_len m.length (by have := HB.out; omega)
  clear h hx hb hsep
  go_enter Try.func31, Try.ntmps31
  go_wp2_with fail
  refine (rnum_any v l m.length w HO.out (by have := HB.out; omega) (by have := HB.out; omega)).mono ?_
  rintro e w1 ⟨v1, rfl, hO1, hm1, hg1⟩
  have HX1 : Keep (RowAt w1 (.slice xa m.length xc) m) := ⟨HX.out.grown hg1 fun b hb _ => HS.out b hb⟩
  have HO1 := Keep.mk hO1
  have HB1 : Keep ((l ++ numL m.length).length + m.length ≤ 140737488355328) := ⟨by simpa using HB.out⟩
  clear hO1
  go_wp2_with (first | (at_builtin; refine wpList_app rfl (.tmp 10) (.tmp 11) rfl v1 _ (l ++ numL m.length) m rfl rfl HO1.out HX1.out HB1.out ?_; intro v' w' hp; refine Hid.out ?_))
  refine hid_in ?_
  have HP : Keep (AppPost w1 v1 (l ++ bform m) v' w') := ⟨by rw [List.append_assoc] at hp; exact hp⟩
  clear hp
  go_wp2
  go_ret
  exact HP.out.lay.trans hm1 hg1

theorem Try.new101 (w : World) : (Instr.alloc 101 true (.tuple #[])).run Try.prog w = .ok (.pointer (some ⟨w.heap.size, 0, none⟩)) (w.alloc (.cells (bytesA 32 fun _ => 0) 101)) := by kernel_rfl
/-- A built array, its cells said by the caller. -/
theorem wpList_bld {P : Program} {ops : Array Oper} {rest : List Oper} {o : Oper} {a : Act} {w : World} {Q : Exit → Act → World → Prop} (hg : o.guard = none) (t : TypeId) (parts : Array (Nat × Operand)) (ho : o.op = .build t parts)
    (cells : Array Value) (hf : P.built t (parts.map fun (i, x) => (i, a.eval x)).toList = some cells)
    (h : wpList P ops Q rest (a.put o.dst (.agg cells)) w) : wpList P ops Q (o :: rest) a w :=
  wpList_build hg t parts ho (by rw [hf]; rfl) (by rw [hf]; exact h)
/-- A new variable, its zero cells said by the caller. -/
theorem wpList_new {P : Program} {ops : Array Oper} {rest : List Oper} {o : Oper} {a : Act} {w : World} {Q : Exit → Act → World → Prop} (hg : o.guard = none) (t : TypeId) (ho : o.op = .alloc t)
    (cells : Array Value) (hf : ∀ w : World, (Instr.alloc t true (.tuple #[])).run P w = .ok (.pointer (some ⟨w.heap.size, 0, none⟩)) (w.alloc (.cells cells t)))
    (h : wpList P ops Q rest (a.put o.dst (.pointer (some ⟨w.heap.size, 0, none⟩))) (w.alloc (.cells cells t))) : wpList P ops Q (o :: rest) a w := by
  refine wpList_plain hg fun K hK => ?_
  unfold Oper.wp execOp
  simp only [ho, Sem.run_bind, hf w, Result.andThen_ok]
  exact hK _ _ h

/-- The hash out of bytes: the first 32, zeros behind them. -/
def hof (l : List Int) : Nat → Int := fun i => l.getD i 0
def hofT (l : List Int) (t : Nat) : Nat → Int := fun i => if i < t then l.getD i 0 else 0
theorem hofT_next (l : List Int) (t : Nat) : upd (hofT l t) t (l.getD t 0) = hofT l (t + 1) := by
  funext i
  simp only [upd, hofT]
  by_cases h : i = t
  · subst h; rw [if_pos rfl, if_pos (by omega)]
  · rw [if_neg h]
    by_cases h2 : i < t
    · rw [if_pos h2, if_pos (by omega)]
    · rw [if_neg h2, if_neg (by omega)]
theorem hofT_end (l : List Int) (t : Nat) (h : l.length ≤ t ∨ 32 ≤ t) : bytesA 32 (hofT l t) = bytesA 32 (hof l) := bytesA_congr fun i hi => by
  simp only [hofT, hof]
  by_cases h2 : i < t
  · rw [if_pos h2]
  · rw [if_neg h2, List.getD_eq_getElem?_getD, List.getElem?_eq_none (by omega)]; rfl

set_option maxRecDepth 8000 in
set_option maxHeartbeats 1000000 in
theorem rhash_any (v : Value) (l : List Int) (c : Nat → Int) (w : World) (h : Own w v l) (hb : l.length + 32 ≤ 140737488355328) :
    Calls Try.prog 62 #[v, .agg (bytesA 32 c)] w (LayPost v (l ++ hl 32 c) w) := by
  have HO := Keep.mk (h.box (.cells (bytesA 32 c) 101))
  have HBx := Keep.mk (Blk.new w 101 (bytesA 32 c))
  have HG := Keep.mk (Grown.alloc w (.cells (bytesA 32 c) 101) fun k => v.ownBlock = some k)
  have HB := Keep.mk hb
  have HN : Keep (v.ownBlock ≠ some w.heap.size) := ⟨fun e => by have := h.lt _ e; omega⟩
  clear h hb
  go_enter Try.func62, Try.ntmps62
  go_wp2_with (first | (refine wpList_boxA rfl 101 (.tmp 1) rfl (bytesA 32 c) rfl ?_))
  generalize w.alloc (.cells (bytesA 32 c) 101) = w0 at *
  go_loopw [0, 5] (fun b i wr => ∃ (t : Nat) (v1 : Value), t ≤ 32 ∧ b = v1 ∧ i = .int .i64 t ∧ Own wr v1 (l ++ hl t c) ∧ Blk wr w.heap.size 101 (bytesA 32 c) ∧ Moved w v v1 ∧ Grown w wr fun k => v.ownBlock = some k) (fun _ i _ => 32 - (intOf i).toNat)
  case atStart => exact ⟨0, v, by omega, rfl, rfl, by simpa [hl] using HO.out, HBx.out, Moved.refl _ _, HG.out⟩
  case round =>
    obtain ⟨t, v1, ht, rfl, rfl, hO1, hb1, hm1, hg1⟩ := hrel
    by_cases hlt : t < 32
    · have hlt' : (t : Int) < 32 := by omega
      have cc : wr.cell? ⟨w.heap.size, t, none⟩ = some (.int .u8 (c t)) := by rw [hb1.cell, bytesA_get _ _ _ hlt]
      have HO1 := Keep.mk (hO1.box (.cells #[.int .u8 (c t)] 5))
      have Hb := Keep.mk (hb1.alloc (.cells #[.int .u8 (c t)] 5))
      have Hne := Keep.mk (hO1.ne hb1 (by decide))
      have hlen : Keep ((l ++ hl t c).length + [c t].length ≤ 140737488355328) := ⟨by have := HB.out; simp [hl_len]; omega⟩
      clear hO1 hb1
      go_wp2_with (first | (at_builtin; refine wpList_app rfl (.tmp 10) (.tmp 14) rfl _ (.slice (some ⟨wr.heap.size, 0, none⟩) 1 1) (l ++ hl t c) [c t] rfl rfl HO1.out (row_one wr _) hlen.out ?_; intro v' w' hp; refine Hid.out ?_))
      refine hid_in ?_
      have HP := Keep.mk hp.box
      have HBn := Keep.mk (hp.grown.blk Hb.out Hne.out)
      clear hp cc
      go_wp2
      go_roundw
      case rel =>
        obtain ⟨hO2, hm2, hg2⟩ := HP.out
        refine ⟨t + 1, v', by omega, rfl, by go_num, ?_, HBn.out, hm1.trans hg1.size hm2, hg1.next hg2 fun i hi h => hm1.old hi h⟩
        have e : l ++ hl (t + 1) c = l ++ hl t c ++ [c t] := by simp [hl, List.range_succ]
        rw [e]; exact hO2
      case measure => simp only [intOf]; omega
    · obtain rfl : t = 32 := by omega
      have HO1 := Keep.mk hO1
      clear hO1
      go_wp2
      go_ret
      exact ⟨_, rfl, HO1.out, hm1, hg1⟩
end Go.Proofs.Ytlogkojhcccogaa
namespace Go.Proofs.Ytlogkojhcccogaa
open Go.RowKit

/-- The marks behind bytes. -/
def marks (t : Nat) : List Int := (List.range t).map fun i : Nat => 192 + (i : Int)
theorem marks_len (t : Nat) : (marks t).length = t := by simp [marks]
theorem marks_next (t : Nat) : marks (t + 1) = marks t ++ [192 + (t : Int)] := by simp [marks, List.range_succ]
/-- Bytes in memory of their own, with marks behind them. -/
def WideAt (w : World) (v : Value) (l : List Int) : Prop :=
  ∃ g cap, v = .slice (some ⟨g, 0, none⟩) l.length cap ∧ Own w (.slice (some ⟨g, 0, none⟩) (l ++ marks 7).length cap) (l ++ marks 7)
theorem WideAt.cap {w : World} {v : Value} {l : List Int} (h : WideAt w v l) : ∃ g cap, v = .slice (some ⟨g, 0, none⟩) l.length cap ∧ l.length + 7 ≤ cap ∧ cap ≤ maxLen ∧ (∀ i, i < l.length + 7 → w.cell? ⟨g, i, none⟩ = some (.int .u8 ((l ++ marks 7).getD i 0))) ∧ ∃ cur, Blk w g 5 cur ∧ cur.size = cap := by
  obtain ⟨g, cap, rfl, h2⟩ := h
  rcases h2.form with ⟨e, _⟩ | ⟨g', cap', cur, e, hb, h3, h4, h5, h6⟩
  · cases e
  · injection e with e1 e2 e3
    injection e1 with e1
    injection e1 with e1
    subst e1 e3
    refine ⟨g, cap, rfl, by rw [List.length_append, marks_len] at h3; exact h3, h4, fun i hi => ?_, cur, hb, h5⟩
    rw [World.ownsRow.cellAt h2 i (by rw [List.length_append, marks_len]; omega), bv_get _ _ (by rw [List.length_append, marks_len]; omega)]
theorem WideAt.row {w : World} {v : Value} {l : List Int} (h : WideAt w v l) : RowAt w v l := by
  obtain ⟨g, cap, rfl, h1, _, h2, _⟩ := h.cap
  refine .inr (.inr ⟨g, 0, cap, rfl, by omega, fun i hi => ?_⟩)
  rw [Nat.zero_add, h2 i (by omega)]
  simp [List.getD_eq_getElem?_getD, List.getElem?_append, hi]
theorem WideAt.grown {w w' : World} {v : Value} {l : List Int} {S : Nat → Prop} (h : WideAt w v l) (hg : Grown w w' S) (hs : ∀ k, v.ownBlock = some k → ¬ S k) : WideAt w' v l := by
  obtain ⟨g, cap, rfl, h2⟩ := h
  exact ⟨g, cap, rfl, h2.grown hg fun k hk => hs k hk⟩

theorem grow_free {w : World} {v : Value} {B : Nat} (ho : ∃ k, v.ownBlock = some k ∧ B ≤ k) (hB : B ≤ w.heap.size) {w' : World} {v' : Value} {m : List Int} (hp : AppPost w v m v' w') : (∃ k, v'.ownBlock = some k ∧ B ≤ k) ∧ Below B w w' := by
  obtain ⟨k, hk, hBk⟩ := ho
  rcases hp.2 with ⟨h1, h2⟩ | ⟨h1, h2⟩
  · exact ⟨⟨k, by rw [h1, hk], hBk⟩, h2.to_below (fun i hi e => by rw [hk] at e; injection e with e; omega) hB⟩
  · exact ⟨⟨_, h1, hB⟩, h2.mono hB⟩

/-- A row of bytes as a text. -/
theorem conv_row (v : Value) (l : List Int) (w : World) (h : RowAt w v l) : (convert 25 9 v).run Try.prog w = .ok (.string (strOfNums l)) w := by
  rcases h with ⟨rfl, rfl⟩ | ⟨a, c, rfl, rfl⟩ | ⟨b, off, cap, rfl, _, hc⟩
  · rw [run_convert_bytes_nil (P := Try.prog) w 25 5 Try.underlying25 Try.underlying5 0 0 9 Try.underlying9]; rfl
  · rw [run_convert_bytes_string (P := Try.prog) w 25 9 5 _ 0 c Try.underlying25 Try.underlying5 Try.underlying9]
    simp [Conv.bytesToString, loadCells, loadCellsFrom, strOfNums]
    rfl
  · exact run_convert_bytes_arg (P := Try.prog) w 25 5 Try.underlying25 Try.underlying5 b off l.length cap l rfl hc 9 Try.underlying9

/-- The slice v is full of a mark. -/
def FullAt (w : World) (v : Value) (m : Int) : Prop := ∃ n, RowAt w v (List.replicate n m) ∧ n ≤ 140737488355328
end Go.Proofs.Ytlogkojhcccogaa
namespace Go.Proofs.Ytlogkojhcccogaa
open Go.RowKit

/-- Block k has cells of type T. -/
def Typ (w : World) (k : Nat) (T : TypeId) : Prop := ∃ cs fz, w.heap[k]? = some (.cells cs T fz)
theorem Blk.typ {w : World} {k : Nat} {T : TypeId} {cs : Array Value} (h : Blk w k T cs) : Typ w k T := ⟨cs, _, h⟩
theorem Typ.lt {w : World} {k : Nat} {T : TypeId} (h : Typ w k T) : k < w.heap.size := by
  obtain ⟨cs, fz, h⟩ := h
  exact (Array.getElem?_eq_some_iff.1 h).1
theorem Typ.one {w : World} {k : Nat} {T T' : TypeId} (h : Typ w k T) (h' : Typ w k T') : T = T' := by
  obtain ⟨cs, fz, h⟩ := h
  obtain ⟨cs', fz', h'⟩ := h'
  rw [h] at h'; simp at h'; exact h'.2.1
theorem Typ.ne {w : World} {k k' : Nat} {T T' : TypeId} (h : Typ w k T) (h' : Typ w k' T') (ht : T ≠ T') : k ≠ k' := by
  rintro rfl; exact ht (h.one h')
theorem Grown.typ {a b : World} {S : Nat → Prop} (h : Grown a b S) {k : Nat} {T : TypeId} (hk : Typ a k T) (hs : ¬ S k) : Typ b k T := by
  have hlt := hk.lt
  obtain ⟨cs, fz, h1⟩ := hk
  exact ⟨cs, fz, by rw [h.block k hlt hs]; exact h1⟩
theorem Own.typ {w : World} {v : Value} {l : List Int} (h : Own w v l) {k : Nat} (hk : v.ownBlock = some k) : Typ w k 5 := by
  rcases h.2 with ⟨rfl, _⟩ | ⟨g, cap, cur, rfl, _, h3, _⟩
  · simp [Value.ownBlock] at hk
  · simp [Value.ownBlock] at hk
    subst hk
    exact ⟨cur, _, h3⟩

/-- The slice v owns the bytes l: they stand at the head of a block; behind its cells a mark may be frozen. -/
def OwnT (w : World) (v : Value) (l : List Int) : Prop :=
  (v = .slice none 0 0 ∧ l = []) ∨ ∃ g cap cur fz, v = .slice (some ⟨g, 0, none⟩) l.length cap ∧ w.heap[g]? = some (.cells cur 5 fz) ∧ (fz = (0, 0) ∨ cap ≤ fz.1) ∧ l.length ≤ cap ∧ cap ≤ maxLen ∧ cur.size = cap ∧ cur.toList.take l.length = bv l
theorem Own.tail {w : World} {v : Value} {l : List Int} (h : Own w v l) : OwnT w v l := by
  rcases h.form with h | ⟨g, cap, cur, rfl, hb, h3, h4, h5, h6⟩
  · exact .inl h
  · exact .inr ⟨g, cap, cur, _, rfl, hb, .inl rfl, h3, h4, h5, h6⟩
theorem ownT_nil (w : World) : OwnT w (.slice none 0 0) [] := .inl ⟨rfl, rfl⟩
theorem OwnT.typ {w : World} {v : Value} {l : List Int} (h : OwnT w v l) {k : Nat} (hk : v.ownBlock = some k) : Typ w k 5 := by
  rcases h with ⟨rfl, _⟩ | ⟨g, cap, cur, fz, rfl, h3, _⟩
  · simp [Value.ownBlock] at hk
  · simp [Value.ownBlock] at hk
    subst hk
    exact ⟨cur, _, h3⟩
theorem OwnT.lt {w : World} {v : Value} {l : List Int} (h : OwnT w v l) : ∀ k, v.ownBlock = some k → k < w.heap.size := fun _ hk => (h.typ hk).lt
theorem OwnT.ne {w : World} {v : Value} {l : List Int} {p : Nat} {T : TypeId} {cs : Array Value} (h : OwnT w v l) (hp : Blk w p T cs) (hT : T ≠ 5) : v.ownBlock ≠ some p := fun e => hT (hp.typ.one (h.typ e))
theorem OwnT.grown {w w' : World} {v : Value} {l : List Int} {S : Nat → Prop} (h : OwnT w v l) (hg : Grown w w' S) (hs : ∀ k, v.ownBlock = some k → ¬ S k) : OwnT w' v l := by
  rcases h with h1 | ⟨g, cap, cur, fz, rfl, h3, h4⟩
  · exact .inl h1
  · exact .inr ⟨g, cap, cur, fz, rfl, by rw [hg.block g (Array.getElem?_eq_some_iff.1 h3).1 (hs g rfl)]; exact h3, h4⟩
theorem OwnT.box {w : World} {v : Value} {l : List Int} (h : OwnT w v l) (o : Obj) : OwnT (w.alloc o) v l := h.grown (Grown.alloc w o fun _ => False) fun _ _ h => h
theorem take_get {cur : Array Value} {l : List Int} {n : Nat} (h : cur.toList.take n = bv l) (hl : l.length = n) (t : Nat) (ht : t < n) : cur[t]? = some (.int .u8 (l.getD t 0)) := by
  have h1 := bv_get l t (by omega)
  rw [← h, List.getElem?_take, if_pos ht] at h1
  simpa using h1
theorem OwnT.cells {w : World} {g n cap : Nat} {l : List Int} (h : OwnT w (.slice (some ⟨g, 0, none⟩) n cap) l) (t : Nat) (ht : t < l.length) : w.cell? ⟨g, t, none⟩ = some (.int .u8 (l.getD t 0)) ∧ w.frozen? ⟨g, t, none⟩ = false := by
  rcases h with ⟨e, _⟩ | ⟨g', cap', cur, fz, e, hb, hf, h3, h4, h5, h6⟩
  · cases e
  · injection e with e1 e2 e3
    injection e1 with e1
    injection e1 with e1
    subst e1 e2 e3
    refine ⟨by rw [cell_of_row w g t cur 5 fz hb]; exact take_get h6 rfl t ht, ?_⟩
    rcases hf with rfl | hf
    · simp [World.frozen?, hb]
    · simp only [World.frozen?, hb]
      simp
      omega
theorem OwnT.row {w : World} {v : Value} {l : List Int} (h : OwnT w v l) : RowAt w v l := by
  have h' := h
  rcases h with h1 | ⟨g, cap, cur, fz, rfl, hb, hf, h3, h4, h5, h6⟩
  · exact .inl h1
  · exact .inr (.inr ⟨g, 0, cap, rfl, h3, fun i hi => by rw [Nat.zero_add]; exact (h'.cells i hi).1⟩)
theorem OwnT.sl {w : World} {v : Value} {l : List Int} (h : OwnT w v l) : ∃ a n c, v = .slice a n c := by
  rcases h with ⟨rfl, _⟩ | ⟨g, cap, cur, fz, rfl, _⟩
  · exact ⟨_, _, _, rfl⟩
  · exact ⟨_, _, _, rfl⟩
theorem OwnT.addr {w : World} {va : Option Addr} {n vc : Nat} {l : List Int} (h : OwnT w (.slice va n vc) l) (h0 : 0 < l.length) : ∃ g, va = some ⟨g, 0, none⟩ := by
  rcases h with ⟨_, e⟩ | ⟨g, cap, cur, fz, e, _⟩
  · subst e; simp at h0
  · injection e with e1 _ _
    exact ⟨g, e1⟩
theorem bv_set (l : List Int) (t : Nat) (c : Int) : (bv l).set t (.int .u8 c) = bv (l.set t c) := by simp [bv, List.map_set]
theorem OwnT.set {w : World} {g n cap : Nat} {l : List Int} (h : OwnT w (.slice (some ⟨g, 0, none⟩) n cap) l) (t : Nat) (c : Int) : OwnT (w.setCell ⟨g, t, none⟩ (.int .u8 c)) (.slice (some ⟨g, 0, none⟩) n cap) (l.set t c) := by
  rcases h with ⟨e, _⟩ | ⟨g', cap', cur, fz, e, hb, hf, h3, h4, h5, h6⟩
  · cases e
  · injection e with e1 e2 e3
    injection e1 with e1
    injection e1 with e1
    subst e1 e2 e3
    refine .inr ⟨g, cap, cur.setIfInBounds t (.int .u8 c), fz, by rw [List.length_set], ?_, hf, by rw [List.length_set]; exact h3, h4, by simp [h5], ?_⟩
    · rw [setCell_eq_setRow w g t cur 5 fz _ hb]; exact setRow_heap w g cur _ 5 fz hb
    · rw [Array.toList_setIfInBounds, List.length_set, List.take_set, h6, bv_set]
theorem OwnT.plain {w : World} {va : Option Addr} {n vc : Nat} {l : List Int} (h : OwnT w (.slice va n vc) l) : (∀ a, va = some a → a.off = 0 ∧ a.spot = none) ∧ (va = none → n = 0 ∧ vc = 0) ∧ n ≤ vc ∧ n = l.length := by
  rcases h with ⟨e, e2⟩ | ⟨g, cap, cur, fz, e, hb, _, h3, _⟩
  · injection e with e1 e2 e3
    subst e1 e2 e3
    subst e2
    exact ⟨fun a ha => by simp at ha, fun _ => ⟨rfl, rfl⟩, by omega, rfl⟩
  · injection e with e1 e2 e3
    subst e1 e2 e3
    exact ⟨fun a ha => by simp at ha; subst ha; exact ⟨rfl, rfl⟩, fun h => by simp at h, h3, rfl⟩
/-- What append leaves: in the row's own block, or the row anew, the old one untouched. -/
def AppPostT (w : World) (v : Value) (l : List Int) (v' : Value) (w' : World) : Prop :=
  OwnT w' v' l ∧ ((v'.ownBlock = v.ownBlock ∧ Grown w w' fun k => v.ownBlock = some k) ∨ (v'.ownBlock = some w.heap.size ∧ Below w.heap.size w w'))
theorem AppPostT.grown {w w' : World} {v v' : Value} {l : List Int} (h : AppPostT w v l v' w') : Grown w w' fun k => v.ownBlock = some k := by
  rcases h.2 with h | h
  · exact h.2
  · exact Grown.below h.2
theorem AppPost.tail {w w' : World} {v v' : Value} {l : List Int} (h : AppPost w v l v' w') : AppPostT w v l v' w' := ⟨h.1.tail, h.2⟩
theorem take_set_next (L : List Value) (n : Nat) (x : Value) (h : n < L.length) : (L.set n x).take (n + 1) = L.take n ++ [x] := by
  rw [List.take_succ_eq_append_getElem (by rw [List.length_set]; exact h), List.getElem_set_self]
  congr 1
  rw [List.take_set]
  exact List.set_eq_of_length_le (by simp; omega)
/-- One byte behind a row. -/
theorem run_app_one (w : World) (ty : TypeId) (v : Value) (l : List Int) (hown : OwnT w v l) (g1 : Nat) (m : Int) (hc : w.cell? ⟨g1, 0, none⟩ = some (.int .u8 m)) (hb : l.length + 1 ≤ 140737488355328) :
    ∃ v' w', (Builtin.append_ #[25, 25] ty #[v, .slice (some ⟨g1, 0, none⟩) 1 1]).run Try.prog w = .ok v' w' ∧ AppPostT w v (l ++ [m]) v' w' := by
  obtain ⟨i, hi, hzz⟩ := Option.map_eq_some_iff.1 Try.info5
  simp only [Prod.mk.injEq] at hzz
  obtain ⟨hz, hsz, hby⟩ := hzz
  have hnews : ∀ j u, (bv [m])[j]? = some u → w.cell? ((⟨g1, 0, none⟩ : Addr).add j) = some u := fun j u hu => by
    cases j with
    | zero => simp [bv] at hu; subst hu; exact hc
    | succ j => simp [bv] at hu
  rcases hown with ⟨rfl, rfl⟩ | ⟨g, cap, cur, fz, rfl, hg, hf, hnc, hcm, hcs, htake⟩
  · obtain ⟨v', w', hr, hp⟩ := run_app_cells w ty (.slice none 0 0) [] (own_nil w) ⟨g1, 0, none⟩ 1 [m] hnews (by simp)
    exact ⟨v', w', hr, hp.tail⟩
  · by_cases hroom : l.length + 1 ≤ cap
    · have hcell : (w.cell? ⟨g, l.length, none⟩).isSome = true := by
        rw [cell_of_row w g l.length cur 5 fz hg, Array.getElem?_eq_getElem (by omega)]; rfl
      have hfr : w.frozen? ⟨g, l.length, none⟩ = false := by
        rcases hf with rfl | hf
        · simp [World.frozen?, hg]
        · simp only [World.frozen?, hg]
          simp
          omega
      have hr := run_append_room_cells (P := Try.prog) w 25 ty 5 i Try.underlying25 hi g 0 l.length cap ⟨g1, 0, none⟩ 1 1 (bv [m]) (by rw [bv_len, hsz]; rfl) hnews (bv_one _) hroom
        (fun j hj => by
          have e : j = 0 := by rw [bv_len] at hj; simpa using hj
          subst e; rw [hsz]; simpa using hcell)
        (fun j hj => by
          have e : j = 0 := by rw [bv_len] at hj; simpa using hj
          subst e; rw [hsz]; simpa using hfr)
      have e : w.setCells g (0 + l.length * i.size) (bv [m]) = w.setCell ⟨g, l.length, none⟩ (.int .u8 m) := by
        rw [hsz, Nat.mul_one, Nat.zero_add]; rfl
      rw [e] at hr
      refine ⟨_, _, hr, .inr ⟨g, cap, cur.setIfInBounds l.length (.int .u8 m), fz, by simp, ?_, hf, by simpa using hroom, hcm, by simp [hcs], ?_⟩, .inl ⟨rfl, Grown.setCell w g _ _ fun _ => rfl⟩⟩
      · rw [setCell_eq_setRow w g l.length cur 5 fz _ hg]; exact setRow_heap w g cur _ 5 fz hg
      · have hlt9 : l.length < cur.toList.length := by simp; omega
        rw [Array.toList_setIfInBounds, List.length_append, List.length_singleton, bv_app, ← htake, take_set_next cur.toList l.length (.int .u8 m) hlt9]
        rfl
    · have holds : ∀ j u, (bv l)[j]? = some u → w.cell? ((⟨g, 0, none⟩ : Addr).add j) = some u := fun j u hu => by
        have hj : j < l.length := by have := (List.getElem?_eq_some_iff.1 hu).1; rwa [bv_len] at this
        rw [bv_get l j hj] at hu
        rw [Addr.add_mid, Nat.zero_add, cell_of_row w g j cur 5 fz hg, take_get htake rfl j hj]; exact hu
      obtain ⟨v', w', hr, h1, h2⟩ := run_append_arg_grows (P := Try.prog) w 25 ty 5 i (.int .u8 0) 1 1 Try.underlying25 hi hz hsz hby rfl (by omega) ⟨g, 0, none⟩ l.length cap (bv l) (by rw [bv_len]; omega) holds ⟨g1, 0, none⟩ 1 1 (bv [m]) (by rw [bv_len]; rfl) hnews (by omega) (by unfold maxLen; omega) (by omega)
      have hr2 := run_append_grow (P := Try.prog) w 25 ty 5 i (.int .u8 0) Try.underlying25 hi hz ⟨g, 0, none⟩ l.length cap (bv l) (by rw [bv_len, hsz]; omega) holds ⟨g1, 0, none⟩ 1 1 (bv [m]) (by rw [bv_len, hsz]; rfl) hnews (by omega) (by omega) (by rw [hby]; exact growslice_fits (by omega) (by omega))
      have e := hr.symm.trans hr2
      injection e with e1 e2
      have hO : Own w' v' (l ++ [m]) := by
        refine ⟨by rw [bv_len]; omega, ?_⟩
        rcases h1.2 with ⟨_, h0⟩ | ⟨g', cap', cur', e', _, hb', h3', h4', h5', h6'⟩
        · omega
        · refine .inr ⟨g', cap', cur', by rw [List.length_append]; exact e', Nat.zero_le _, hb', by rw [List.length_append]; exact h3', h4', h5', ?_⟩
          rw [List.length_append, bv_app]; exact h6'
      refine ⟨v', w', hr, hO.tail, .inr ⟨by rw [e1]; rfl, h2.os, h2.tape, h2.output, h2.size, fun k hk => h2.block k hk (by simp)⟩⟩
theorem wpList_appT {ops : Array Oper} {rest : List Oper} {o : Oper} {a : Act} {w : World} {Q : Exit → Act → World → Prop} (hgd : o.guard = none) (s x : Operand)
    (ho : o.op = .call { callee := .builtin .append, args := #[s, x], argTypes := #[25, 25] }) (v : Value) (l : List Int) (g1 : Nat) (m : Int)
    (hs : a.eval s = v) (hx : a.eval x = .slice (some ⟨g1, 0, none⟩) 1 1) (hown : OwnT w v l) (hc : w.cell? ⟨g1, 0, none⟩ = some (.int .u8 m)) (hb : l.length + 1 ≤ 140737488355328)
    (h : ∀ v' w', AppPostT w v (l ++ [m]) v' w' → wpList Try.prog ops Q rest (a.put o.dst v') w') : wpList Try.prog ops Q (o :: rest) a w := by
  refine wpList_plain hgd fun K hK => ?_
  obtain ⟨v', w', hr, h2⟩ := run_app_one w o.type v l hown g1 m hc hb
  unfold Oper.wp execOp
  simp only [ho, resolve, invoke, builtin, Sem.run_bind, Sem.run_pure, Result.andThen_ok, List.map_toArray, List.map_cons, List.map_nil, hs, hx, hr]
  exact hK _ _ (h v' w' h2)
theorem cell_one (w : World) (x : Value) (t : TypeId) : (w.alloc (.cells #[x] t)).cell? ⟨w.heap.size, 0, none⟩ = some x := by rw [(Blk.new w t #[x]).cell]; rfl

/-- A text as bytes. -/
theorem conv_bytes (w : World) (s : ByteArray) (hb : s.size ≤ 140737488355328) : ∃ v w', (convert 9 25 (.string s)).run Try.prog w = .ok v w' ∧ OwnT w' v (lst s) ∧ v.ownBlock = some w.heap.size ∧ Below w.heap.size w w' := by
  have hr := Lib.run_convert_string_bytes (P := Try.prog) w 9 25 5 s Try.underlying9 Try.underlying25 Try.underlying5
  refine ⟨_, _, hr, ?_, rfl, ⟨rfl, rfl, rfl, ?_, fun k hk => Lib.bytesWorld_at_old w 5 s k hk⟩⟩
  · have hge := grownCap_ge w s.size 0 5
    have hcs : (Lib.bytesCells w 5 s).size = grownCap w s.size 0 5 := by
      have : s.data.size = s.size := rfl
      simp [Lib.bytesCells]; omega
    refine .inr ⟨w.heap.size, grownCap w s.size 0 5, _, _, by rw [lst_len], Lib.bytesWorld_at_new w 5 s, .inr (by rw [hcs]; exact Nat.le_refl _), by rw [lst_len]; exact hge, grownCap_le_maxLen w _ _ _ (by unfold maxLen; omega), hcs, ?_⟩
    rw [lst_len, ← lst_cells]
    simp only [Lib.bytesCells, Array.toList_append, Lib.strCells]
    rw [List.take_append_of_le_length (by simp), List.take_of_length_le (by simp)]
    simp
  · rw [Lib.bytesWorld_size]; omega
end Go.Proofs.Ytlogkojhcccogaa
namespace Go.Proofs.Ytlogkojhcccogaa
open Go.RowKit

def bp : Option Nat → Value
  | none => .pointer none
  | some q => ptr q
/-- A reader at p, of the text s: it stands at a. -/
structure InAt (w : World) (p : Nat) (s : ByteArray) (a : Nat) (bad : Option Nat) : Prop where
  blk : Blk w p 118 #[.string s, .int .i64 (a : Int), bp bad]
  le : a ≤ s.size
/-- An error at q. -/
def BadAt (w : World) (q : Nat) (why : Int) (a : Nat) : Prop := Blk w q 126 #[.int .i64 why, .int .i64 (a : Int)]
def err (q : Nat) : Value := .iface 116 (ptr q)

set_option maxRecDepth 8000 in
set_option maxHeartbeats 400000 in
theorem ileft_any (p : Nat) (s : ByteArray) (a : Nat) (bad : Option Nat) (w : World) (h : InAt w p s a bad) (hb : s.size ≤ 140737488355328) :
    Calls Try.prog 100 #[ptr p] w fun e w' => e = .returned (.int .i64 ((s.size : Int) - a)) ∧ ∃ q, w' = w.drewN q := by
  have c0 : w.cell? ⟨p, 0, none⟩ = some (.string s) := by rw [h.blk.cell]; rfl
  have c1 : w.cell? ⟨p, 1, none⟩ = some (.int .i64 (a : Int)) := by rw [h.blk.cell]; rfl
  have hle := h.le
  have h1 : (a : Int) ≤ (s.size : Int) := by omega
  have h2 : (s.size : Int) ≤ 140737488355328 := by omega
  clear h hb hle
  go_enter Try.func100, Try.ntmps100
  go_wp2
  go_quiet (fail)
  go_wp2
  go_ret
  exact ⟨rfl, nq, rfl⟩

set_option maxRecDepth 8000 in
set_option maxHeartbeats 400000 in
theorem iat_any (p : Nat) (s : ByteArray) (a : Nat) (bad : Option Nat) (w : World) (h : InAt w p s a bad) :
    Calls Try.prog 63 #[ptr p] w fun e w' => e = .returned (.int .i64 (a : Int)) ∧ w' = w := by
  have c1 : w.cell? ⟨p, 1, none⟩ = some (.int .i64 (a : Int)) := by rw [h.blk.cell]; rfl
  clear h
  go_enter Try.func63, Try.ntmps63
  go_wp2
  go_ret
  exact ⟨rfl, rfl⟩

set_option maxRecDepth 8000 in
set_option maxHeartbeats 400000 in
theorem ifail_any (p : Nat) (s : ByteArray) (a : Nat) (why : Int) (w : World) (h : InAt w p s a none) :
    Calls Try.prog 101 #[ptr p, .int .i64 why] w fun e w' => e = .returned (err w.heap.size) ∧ InAt w' p s a (some w.heap.size) ∧ BadAt w' w.heap.size why a ∧ Grown w w' fun k => k = p := by
  have HI := Keep.mk h
  have c1 : w.cell? ⟨p, 1, none⟩ = some (.int .i64 (a : Int)) := by rw [h.blk.cell]; rfl
  have hlt := h.blk.lt
  have hne : p ≠ w.heap.size := by omega
  have hb1 := (h.blk.alloc (.cells #[.int .i64 why, .int .i64 (a : Int)] 126))
  have HB := Keep.mk hb1
  have HN := Keep.mk (Blk.new w 126 #[.int .i64 why, .int .i64 (a : Int)])
  have HG := Keep.mk (Grown.alloc w (.cells #[.int .i64 why, .int .i64 (a : Int)] 126) fun k => k = p)
  have HL := Keep.mk h.le
  clear h hb1 
  go_enter Try.func101, Try.ntmps101
  go_wp2_with (first | (refine wpList_boxA rfl 126 (.tmp 11) rfl _ rfl ?_; refine Hid.out ?_))
  refine hid_in ?_
  generalize w.alloc (.cells #[.int .i64 why, .int .i64 (a : Int)] 126) = w1 at *
  have c2 : w1.cell? ⟨p, 2, none⟩ = some (.pointer none) := by rw [HB.out.cell]; rfl
  have f2 := HB.out.frozen 2
  clear c1
  go_wp2
  go_ret
  exact ⟨rfl, ⟨HB.out.set 2 _, HL.out⟩, HN.out.set_ne (fun e => hne e.symm) _, HG.out.trans (Grown.setCell w1 p 2 _ fun _ => rfl)⟩
end Go.Proofs.Ytlogkojhcccogaa
namespace Go.Proofs.Ytlogkojhcccogaa
open Go.RowKit

theorem lst_get (s : ByteArray) (t : Nat) (h : t < s.size) : (lst s).drop t = (s[t].toNat : Int) :: (lst s).drop (t + 1) := by
  have h' : t < (lst s).length := by rw [lst_len]; exact h
  rw [List.drop_eq_getElem_cons h']
  congr 1
  simp [lst]
  rfl

set_option maxRecDepth 8000 in
set_option maxHeartbeats 4000000 in
theorem first_any (s : ByteArray) (w : World) (hb : s.size ≤ 140737488355328) :
    Calls Try.prog 115 #[.string s] w fun e w' => e = .returned (.tuple #[.int .u64 (fstG (lst s) 0 0).1, .int .i64 (fstG (lst s) 0 0).2.1, .int .i64 (fstG (lst s) 0 0).2.2]) ∧ w' = w := by
  have hsm : (s.size : Int) ≤ 140737488355328 := by omega
  have HB := Keep.mk (lst_byts s)
  clear hb
  go_enter Try.func115, Try.ntmps115
  go_wp2
  go_loop [5, 6] (fun x i => ∃ (t : Nat) (y : Int), t ≤ 9 ∧ t ≤ s.size ∧ x = .int .u64 y ∧ i = .int .i64 t ∧ Keep (fstG ((lst s).drop t) t y = fstG (lst s) 0 0) ∧ Keep (0 ≤ y ∧ y < 2 ^ (7 * t))) (fun _ i => 10 - (intOf i).toNat)
  case atStart => exact ⟨0, 0, by omega, by omega, rfl, rfl, ⟨by simp⟩, ⟨by simp⟩⟩
  case round =>
    obtain ⟨t, y, ht, hts, rfl, rfl, hF, hy⟩ := hrel
    by_cases hlt : t < s.size
    · have hlt' : (t : Int) < (s.size : Int) := by omega
      obtain ⟨c, hc⟩ : ∃ c : Int, Keep ((s[t].toNat : Int) = c) := ⟨_, ⟨rfl⟩⟩
      have hc1 := hc.out
      have hcb := s[t].toNat_lt
      have hc0 : 0 ≤ c := by omega
      have hc2 : c < 256 := by omega
      have hg := lst_get s t hlt
      rw [hc1] at hg
      have HG := Keep.mk hg
      clear hg hcb
      rcases (by omega : t = 0 ∨ t = 1 ∨ t = 2 ∨ t = 3 ∨ t = 4 ∨ t = 5 ∨ t = 6 ∨ t = 7 ∨ t = 8 ∨ t = 9) with rfl | rfl | rfl | rfl | rfl | rfl | rfl | rfl | rfl | rfl
      · have e7 : (2 : Int) ^ (7 * 0) = 1 := by decide
        by_cases h0 : c = 0
        · have hr : fstG (lst s) 0 0 = (y + c % 128 * 2 ^ (7 * 0), ((0 : Nat) : Int) + 1, 0) := by rw [← hF.out, HG.out, fstG, if_neg (by omega), if_neg (by omega), if_pos (by omega)]
          have hz := Keep.mk e7
          clear HG hc e7
          subst h0
          have HR := Keep.mk hr
          clear hr
          go_wp2
          go_ret3
          refine ⟨?_, rfl⟩
          rw [HR.out]
          refine congrArg (fun z => Ending.returned (Value.tuple #[Value.int .u64 z, Value.int .i64 1, Value.int .i64 0])) ?_
          have hyb := hy.out
          rw [hz.out] at hyb ⊢
          first | omega | (rw [IntKind.wrap_u64]; omega)
        have hc3 : (c == 0) = false := by simpa using h0
        by_cases h1 : c < 128
        · have hr : fstG (lst s) 0 0 = (y + c % 128 * 2 ^ (7 * 0), ((0 : Nat) : Int) + 1, 0) := by rw [← hF.out, HG.out, fstG, if_neg (by omega), if_neg (by omega), if_pos (by omega)]
          have hz := Keep.mk e7
          clear e7
          have HR := Keep.mk hr
          clear hr
          go_wp2
          go_ret3
          refine ⟨?_, rfl⟩
          rw [HR.out]
          refine congrArg (fun z => Ending.returned (Value.tuple #[Value.int .u64 z, Value.int .i64 1, Value.int .i64 0])) ?_
          have hyb := hy.out
          rw [hz.out] at hyb ⊢
          first | omega | (rw [IntKind.wrap_u64]; omega)
        have hr : fstG ((lst s).drop 1) (0+1) (y + c % 128 * 2 ^ (7 * 0)) = fstG (lst s) 0 0 := by rw [← hF.out, HG.out, fstG, if_neg (by omega), if_neg (by omega), if_neg h1]
        have HR := Keep.mk hr
        have hz := Keep.mk e7
        have hz2 : Keep ((2 : Int) ^ (7 * 1) = 128) := ⟨by decide⟩
        clear hr e7
        go_wp2
        refine ⟨⟨1, y + c % 128 * 2 ^ (7 * 0), by omega, by omega, ?_, rfl, ⟨HR.out⟩, ⟨?_⟩⟩, by simp [intOf]⟩
        · have hyb := hy.out
          rw [hz.out] at hyb ⊢
          refine congrArg (Value.int .u64) ?_
          first | omega | (rw [IntKind.wrap_u64]; omega)
        · have hyb := hy.out
          rw [hz.out] at hyb ⊢
          rw [hz2.out]
          omega
      · have e7 : (2 : Int) ^ (7 * 1) = 128 := by decide
        by_cases h0 : c = 0
        · have hr : fstG (lst s) 0 0 = (0, 0, 21) := by rw [← hF.out, HG.out, fstG, if_neg (by omega), if_pos ⟨h0, by omega⟩]
          clear HG hc
          subst h0
          clear e7
          have HR := Keep.mk hr
          clear hr
          go_wp2
          go_ret3
          refine ⟨?_, rfl⟩
          rw [HR.out]
          rfl
        by_cases h1 : c < 128
        · have hr : fstG (lst s) 0 0 = (y + c % 128 * 2 ^ (7 * 1), ((1 : Nat) : Int) + 1, 0) := by rw [← hF.out, HG.out, fstG, if_neg (by omega), if_neg (by omega), if_pos h1]
          have hz := Keep.mk e7
          clear e7
          have hc3 : (c == 0) = false := by simpa using h0
          have HR := Keep.mk hr
          clear hr
          go_wp2
          go_ret3
          refine ⟨?_, rfl⟩
          rw [HR.out]
          refine congrArg (fun z => Ending.returned (Value.tuple #[Value.int .u64 z, Value.int .i64 2, Value.int .i64 0])) ?_
          have hyb := hy.out
          rw [hz.out] at hyb ⊢
          first | omega | (rw [IntKind.wrap_u64]; omega)
        have hr : fstG ((lst s).drop 2) (1+1) (y + c % 128 * 2 ^ (7 * 1)) = fstG (lst s) 0 0 := by rw [← hF.out, HG.out, fstG, if_neg (by omega), if_neg (by omega), if_neg h1]
        have HR := Keep.mk hr
        have hz := Keep.mk e7
        have hz2 : Keep ((2 : Int) ^ (7 * 2) = 16384) := ⟨by decide⟩
        clear hr e7
        have hc3 : (c == 0) = false := by simpa using h0
        go_wp2
        refine ⟨⟨2, y + c % 128 * 2 ^ (7 * 1), by omega, by omega, ?_, rfl, ⟨HR.out⟩, ⟨?_⟩⟩, by simp [intOf]⟩
        · have hyb := hy.out
          rw [hz.out] at hyb ⊢
          refine congrArg (Value.int .u64) ?_
          first | omega | (rw [IntKind.wrap_u64]; omega)
        · have hyb := hy.out
          rw [hz.out] at hyb ⊢
          rw [hz2.out]
          omega
      · have e7 : (2 : Int) ^ (7 * 2) = 16384 := by decide
        by_cases h0 : c = 0
        · have hr : fstG (lst s) 0 0 = (0, 0, 21) := by rw [← hF.out, HG.out, fstG, if_neg (by omega), if_pos ⟨h0, by omega⟩]
          clear HG hc
          subst h0
          clear e7
          have HR := Keep.mk hr
          clear hr
          go_wp2
          go_ret3
          refine ⟨?_, rfl⟩
          rw [HR.out]
          rfl
        by_cases h1 : c < 128
        · have hr : fstG (lst s) 0 0 = (y + c % 128 * 2 ^ (7 * 2), ((2 : Nat) : Int) + 1, 0) := by rw [← hF.out, HG.out, fstG, if_neg (by omega), if_neg (by omega), if_pos h1]
          have hz := Keep.mk e7
          clear e7
          have hc3 : (c == 0) = false := by simpa using h0
          have HR := Keep.mk hr
          clear hr
          go_wp2
          go_ret3
          refine ⟨?_, rfl⟩
          rw [HR.out]
          refine congrArg (fun z => Ending.returned (Value.tuple #[Value.int .u64 z, Value.int .i64 3, Value.int .i64 0])) ?_
          have hyb := hy.out
          rw [hz.out] at hyb ⊢
          first | omega | (rw [IntKind.wrap_u64]; omega)
        have hr : fstG ((lst s).drop 3) (2+1) (y + c % 128 * 2 ^ (7 * 2)) = fstG (lst s) 0 0 := by rw [← hF.out, HG.out, fstG, if_neg (by omega), if_neg (by omega), if_neg h1]
        have HR := Keep.mk hr
        have hz := Keep.mk e7
        have hz2 : Keep ((2 : Int) ^ (7 * 3) = 2097152) := ⟨by decide⟩
        clear hr e7
        have hc3 : (c == 0) = false := by simpa using h0
        go_wp2
        refine ⟨⟨3, y + c % 128 * 2 ^ (7 * 2), by omega, by omega, ?_, rfl, ⟨HR.out⟩, ⟨?_⟩⟩, by simp [intOf]⟩
        · have hyb := hy.out
          rw [hz.out] at hyb ⊢
          refine congrArg (Value.int .u64) ?_
          first | omega | (rw [IntKind.wrap_u64]; omega)
        · have hyb := hy.out
          rw [hz.out] at hyb ⊢
          rw [hz2.out]
          omega
      · have e7 : (2 : Int) ^ (7 * 3) = 2097152 := by decide
        by_cases h0 : c = 0
        · have hr : fstG (lst s) 0 0 = (0, 0, 21) := by rw [← hF.out, HG.out, fstG, if_neg (by omega), if_pos ⟨h0, by omega⟩]
          clear HG hc
          subst h0
          clear e7
          have HR := Keep.mk hr
          clear hr
          go_wp2
          go_ret3
          refine ⟨?_, rfl⟩
          rw [HR.out]
          rfl
        by_cases h1 : c < 128
        · have hr : fstG (lst s) 0 0 = (y + c % 128 * 2 ^ (7 * 3), ((3 : Nat) : Int) + 1, 0) := by rw [← hF.out, HG.out, fstG, if_neg (by omega), if_neg (by omega), if_pos h1]
          have hz := Keep.mk e7
          clear e7
          have hc3 : (c == 0) = false := by simpa using h0
          have HR := Keep.mk hr
          clear hr
          go_wp2
          go_ret3
          refine ⟨?_, rfl⟩
          rw [HR.out]
          refine congrArg (fun z => Ending.returned (Value.tuple #[Value.int .u64 z, Value.int .i64 4, Value.int .i64 0])) ?_
          have hyb := hy.out
          rw [hz.out] at hyb ⊢
          first | omega | (rw [IntKind.wrap_u64]; omega)
        have hr : fstG ((lst s).drop 4) (3+1) (y + c % 128 * 2 ^ (7 * 3)) = fstG (lst s) 0 0 := by rw [← hF.out, HG.out, fstG, if_neg (by omega), if_neg (by omega), if_neg h1]
        have HR := Keep.mk hr
        have hz := Keep.mk e7
        have hz2 : Keep ((2 : Int) ^ (7 * 4) = 268435456) := ⟨by decide⟩
        clear hr e7
        have hc3 : (c == 0) = false := by simpa using h0
        go_wp2
        refine ⟨⟨4, y + c % 128 * 2 ^ (7 * 3), by omega, by omega, ?_, rfl, ⟨HR.out⟩, ⟨?_⟩⟩, by simp [intOf]⟩
        · have hyb := hy.out
          rw [hz.out] at hyb ⊢
          refine congrArg (Value.int .u64) ?_
          first | omega | (rw [IntKind.wrap_u64]; omega)
        · have hyb := hy.out
          rw [hz.out] at hyb ⊢
          rw [hz2.out]
          omega
      · have e7 : (2 : Int) ^ (7 * 4) = 268435456 := by decide
        by_cases h0 : c = 0
        · have hr : fstG (lst s) 0 0 = (0, 0, 21) := by rw [← hF.out, HG.out, fstG, if_neg (by omega), if_pos ⟨h0, by omega⟩]
          clear HG hc
          subst h0
          clear e7
          have HR := Keep.mk hr
          clear hr
          go_wp2
          go_ret3
          refine ⟨?_, rfl⟩
          rw [HR.out]
          rfl
        by_cases h1 : c < 128
        · have hr : fstG (lst s) 0 0 = (y + c % 128 * 2 ^ (7 * 4), ((4 : Nat) : Int) + 1, 0) := by rw [← hF.out, HG.out, fstG, if_neg (by omega), if_neg (by omega), if_pos h1]
          have hz := Keep.mk e7
          clear e7
          have hc3 : (c == 0) = false := by simpa using h0
          have HR := Keep.mk hr
          clear hr
          go_wp2
          go_ret3
          refine ⟨?_, rfl⟩
          rw [HR.out]
          refine congrArg (fun z => Ending.returned (Value.tuple #[Value.int .u64 z, Value.int .i64 5, Value.int .i64 0])) ?_
          have hyb := hy.out
          rw [hz.out] at hyb ⊢
          first | omega | (rw [IntKind.wrap_u64]; omega)
        have hr : fstG ((lst s).drop 5) (4+1) (y + c % 128 * 2 ^ (7 * 4)) = fstG (lst s) 0 0 := by rw [← hF.out, HG.out, fstG, if_neg (by omega), if_neg (by omega), if_neg h1]
        have HR := Keep.mk hr
        have hz := Keep.mk e7
        have hz2 : Keep ((2 : Int) ^ (7 * 5) = 34359738368) := ⟨by decide⟩
        clear hr e7
        have hc3 : (c == 0) = false := by simpa using h0
        go_wp2
        refine ⟨⟨5, y + c % 128 * 2 ^ (7 * 4), by omega, by omega, ?_, rfl, ⟨HR.out⟩, ⟨?_⟩⟩, by simp [intOf]⟩
        · have hyb := hy.out
          rw [hz.out] at hyb ⊢
          refine congrArg (Value.int .u64) ?_
          first | omega | (rw [IntKind.wrap_u64]; omega)
        · have hyb := hy.out
          rw [hz.out] at hyb ⊢
          rw [hz2.out]
          omega
      · have e7 : (2 : Int) ^ (7 * 5) = 34359738368 := by decide
        by_cases h0 : c = 0
        · have hr : fstG (lst s) 0 0 = (0, 0, 21) := by rw [← hF.out, HG.out, fstG, if_neg (by omega), if_pos ⟨h0, by omega⟩]
          clear HG hc
          subst h0
          clear e7
          have HR := Keep.mk hr
          clear hr
          go_wp2
          go_ret3
          refine ⟨?_, rfl⟩
          rw [HR.out]
          rfl
        by_cases h1 : c < 128
        · have hr : fstG (lst s) 0 0 = (y + c % 128 * 2 ^ (7 * 5), ((5 : Nat) : Int) + 1, 0) := by rw [← hF.out, HG.out, fstG, if_neg (by omega), if_neg (by omega), if_pos h1]
          have hz := Keep.mk e7
          clear e7
          have hc3 : (c == 0) = false := by simpa using h0
          have HR := Keep.mk hr
          clear hr
          go_wp2
          go_ret3
          refine ⟨?_, rfl⟩
          rw [HR.out]
          refine congrArg (fun z => Ending.returned (Value.tuple #[Value.int .u64 z, Value.int .i64 6, Value.int .i64 0])) ?_
          have hyb := hy.out
          rw [hz.out] at hyb ⊢
          first | omega | (rw [IntKind.wrap_u64]; omega)
        have hr : fstG ((lst s).drop 6) (5+1) (y + c % 128 * 2 ^ (7 * 5)) = fstG (lst s) 0 0 := by rw [← hF.out, HG.out, fstG, if_neg (by omega), if_neg (by omega), if_neg h1]
        have HR := Keep.mk hr
        have hz := Keep.mk e7
        have hz2 : Keep ((2 : Int) ^ (7 * 6) = 4398046511104) := ⟨by decide⟩
        clear hr e7
        have hc3 : (c == 0) = false := by simpa using h0
        go_wp2
        refine ⟨⟨6, y + c % 128 * 2 ^ (7 * 5), by omega, by omega, ?_, rfl, ⟨HR.out⟩, ⟨?_⟩⟩, by simp [intOf]⟩
        · have hyb := hy.out
          rw [hz.out] at hyb ⊢
          refine congrArg (Value.int .u64) ?_
          first | omega | (rw [IntKind.wrap_u64]; omega)
        · have hyb := hy.out
          rw [hz.out] at hyb ⊢
          rw [hz2.out]
          omega
      · have e7 : (2 : Int) ^ (7 * 6) = 4398046511104 := by decide
        by_cases h0 : c = 0
        · have hr : fstG (lst s) 0 0 = (0, 0, 21) := by rw [← hF.out, HG.out, fstG, if_neg (by omega), if_pos ⟨h0, by omega⟩]
          clear HG hc
          subst h0
          clear e7
          have HR := Keep.mk hr
          clear hr
          go_wp2
          go_ret3
          refine ⟨?_, rfl⟩
          rw [HR.out]
          rfl
        by_cases h1 : c < 128
        · have hr : fstG (lst s) 0 0 = (y + c % 128 * 2 ^ (7 * 6), ((6 : Nat) : Int) + 1, 0) := by rw [← hF.out, HG.out, fstG, if_neg (by omega), if_neg (by omega), if_pos h1]
          have hz := Keep.mk e7
          clear e7
          have hc3 : (c == 0) = false := by simpa using h0
          have HR := Keep.mk hr
          clear hr
          go_wp2
          go_ret3
          refine ⟨?_, rfl⟩
          rw [HR.out]
          refine congrArg (fun z => Ending.returned (Value.tuple #[Value.int .u64 z, Value.int .i64 7, Value.int .i64 0])) ?_
          have hyb := hy.out
          rw [hz.out] at hyb ⊢
          first | omega | (rw [IntKind.wrap_u64]; omega)
        have hr : fstG ((lst s).drop 7) (6+1) (y + c % 128 * 2 ^ (7 * 6)) = fstG (lst s) 0 0 := by rw [← hF.out, HG.out, fstG, if_neg (by omega), if_neg (by omega), if_neg h1]
        have HR := Keep.mk hr
        have hz := Keep.mk e7
        have hz2 : Keep ((2 : Int) ^ (7 * 7) = 562949953421312) := ⟨by decide⟩
        clear hr e7
        have hc3 : (c == 0) = false := by simpa using h0
        go_wp2
        refine ⟨⟨7, y + c % 128 * 2 ^ (7 * 6), by omega, by omega, ?_, rfl, ⟨HR.out⟩, ⟨?_⟩⟩, by simp [intOf]⟩
        · have hyb := hy.out
          rw [hz.out] at hyb ⊢
          refine congrArg (Value.int .u64) ?_
          first | omega | (rw [IntKind.wrap_u64]; omega)
        · have hyb := hy.out
          rw [hz.out] at hyb ⊢
          rw [hz2.out]
          omega
      · have e7 : (2 : Int) ^ (7 * 7) = 562949953421312 := by decide
        by_cases h0 : c = 0
        · have hr : fstG (lst s) 0 0 = (0, 0, 21) := by rw [← hF.out, HG.out, fstG, if_neg (by omega), if_pos ⟨h0, by omega⟩]
          clear HG hc
          subst h0
          clear e7
          have HR := Keep.mk hr
          clear hr
          go_wp2
          go_ret3
          refine ⟨?_, rfl⟩
          rw [HR.out]
          rfl
        by_cases h1 : c < 128
        · have hr : fstG (lst s) 0 0 = (y + c % 128 * 2 ^ (7 * 7), ((7 : Nat) : Int) + 1, 0) := by rw [← hF.out, HG.out, fstG, if_neg (by omega), if_neg (by omega), if_pos h1]
          have hz := Keep.mk e7
          clear e7
          have hc3 : (c == 0) = false := by simpa using h0
          have HR := Keep.mk hr
          clear hr
          go_wp2
          go_ret3
          refine ⟨?_, rfl⟩
          rw [HR.out]
          refine congrArg (fun z => Ending.returned (Value.tuple #[Value.int .u64 z, Value.int .i64 8, Value.int .i64 0])) ?_
          have hyb := hy.out
          rw [hz.out] at hyb ⊢
          first | omega | (rw [IntKind.wrap_u64]; omega)
        have hr : fstG ((lst s).drop 8) (7+1) (y + c % 128 * 2 ^ (7 * 7)) = fstG (lst s) 0 0 := by rw [← hF.out, HG.out, fstG, if_neg (by omega), if_neg (by omega), if_neg h1]
        have HR := Keep.mk hr
        have hz := Keep.mk e7
        have hz2 : Keep ((2 : Int) ^ (7 * 8) = 72057594037927936) := ⟨by decide⟩
        clear hr e7
        have hc3 : (c == 0) = false := by simpa using h0
        go_wp2
        refine ⟨⟨8, y + c % 128 * 2 ^ (7 * 7), by omega, by omega, ?_, rfl, ⟨HR.out⟩, ⟨?_⟩⟩, by simp [intOf]⟩
        · have hyb := hy.out
          rw [hz.out] at hyb ⊢
          refine congrArg (Value.int .u64) ?_
          first | omega | (rw [IntKind.wrap_u64]; omega)
        · have hyb := hy.out
          rw [hz.out] at hyb ⊢
          rw [hz2.out]
          omega
      · have e7 : (2 : Int) ^ (7 * 8) = 72057594037927936 := by decide
        by_cases h0 : c = 0
        · have hr : fstG (lst s) 0 0 = (0, 0, 21) := by rw [← hF.out, HG.out, fstG, if_neg (by omega), if_pos ⟨h0, by omega⟩]
          clear HG hc
          subst h0
          clear e7
          have HR := Keep.mk hr
          clear hr
          go_wp2
          go_ret3
          refine ⟨?_, rfl⟩
          rw [HR.out]
          rfl
        by_cases h1 : c < 128
        · have hr : fstG (lst s) 0 0 = (y + c % 128 * 2 ^ (7 * 8), ((8 : Nat) : Int) + 1, 0) := by rw [← hF.out, HG.out, fstG, if_neg (by omega), if_neg (by omega), if_pos h1]
          have hz := Keep.mk e7
          clear e7
          have hc3 : (c == 0) = false := by simpa using h0
          have HR := Keep.mk hr
          clear hr
          go_wp2
          go_ret3
          refine ⟨?_, rfl⟩
          rw [HR.out]
          refine congrArg (fun z => Ending.returned (Value.tuple #[Value.int .u64 z, Value.int .i64 9, Value.int .i64 0])) ?_
          have hyb := hy.out
          rw [hz.out] at hyb ⊢
          first | omega | (rw [IntKind.wrap_u64]; omega)
        have hr : fstG ((lst s).drop 9) (8+1) (y + c % 128 * 2 ^ (7 * 8)) = fstG (lst s) 0 0 := by rw [← hF.out, HG.out, fstG, if_neg (by omega), if_neg (by omega), if_neg h1]
        have HR := Keep.mk hr
        have hz := Keep.mk e7
        have hz2 : Keep ((2 : Int) ^ (7 * 9) = 9223372036854775808) := ⟨by decide⟩
        clear hr e7
        have hc3 : (c == 0) = false := by simpa using h0
        go_wp2
        refine ⟨⟨9, y + c % 128 * 2 ^ (7 * 8), by omega, by omega, ?_, rfl, ⟨HR.out⟩, ⟨?_⟩⟩, by simp [intOf]⟩
        · have hyb := hy.out
          rw [hz.out] at hyb ⊢
          refine congrArg (Value.int .u64) ?_
          first | omega | (rw [IntKind.wrap_u64]; omega)
        · have hyb := hy.out
          rw [hz.out] at hyb ⊢
          rw [hz2.out]
          omega
      · have e7 : (2 : Int) ^ (7 * 9) = 9223372036854775808 := by decide
        by_cases h2 : 1 < c
        · have hr : fstG (lst s) 0 0 = (0, 0, 22) := by rw [← hF.out, HG.out, fstG, if_pos ⟨rfl, h2⟩]
          clear e7
          have HR := Keep.mk hr
          clear hr
          go_wp2
          go_ret3
          refine ⟨?_, rfl⟩
          rw [HR.out]
          rfl
        by_cases h0 : c = 0
        · have hr : fstG (lst s) 0 0 = (0, 0, 21) := by rw [← hF.out, HG.out, fstG, if_neg (by omega), if_pos ⟨h0, by omega⟩]
          clear HG hc
          subst h0
          clear e7
          have HR := Keep.mk hr
          clear hr
          go_wp2
          go_ret3
          refine ⟨?_, rfl⟩
          rw [HR.out]
          rfl
        have h1 : c < 128 := by omega
        have hr : fstG (lst s) 0 0 = (y + c % 128 * 2 ^ (7 * 9), ((9 : Nat) : Int) + 1, 0) := by rw [← hF.out, HG.out, fstG, if_neg (by omega), if_neg (by omega), if_pos h1]
        have hz := Keep.mk e7
        clear e7
        have hc3 : (c == 0) = false := by simpa using h0
        have HR := Keep.mk hr
        clear hr
        go_wp2
        go_ret3
        refine ⟨?_, rfl⟩
        rw [HR.out]
        refine congrArg (fun z => Ending.returned (Value.tuple #[Value.int .u64 z, Value.int .i64 10, Value.int .i64 0])) ?_
        have hyb := hy.out
        rw [hz.out] at hyb ⊢
        first | omega | (rw [IntKind.wrap_u64]; omega)
    · have hlt' : ¬ ((t : Int) < (s.size : Int)) := by omega
      have hr : fstG (lst s) 0 0 = (0, 0, 20) := by
        rw [← hF.out, List.drop_of_length_le (by rw [lst_len]; omega), fstG]
      have HR := Keep.mk hr
      clear hr
      go_wp2
      go_ret3
      refine ⟨?_, rfl⟩
      rw [HR.out]
      rfl
end Go.Proofs.Ytlogkojhcccogaa
namespace Go.Proofs.Ytlogkojhcccogaa
open Go.RowKit

theorem lst_extract (s : ByteArray) (a b : Nat) : lst (s.extract a b) = ((lst s).drop a).take (b - a) := by
  unfold lst
  rw [← List.map_drop, ← List.map_take]
  congr 1
  rw [ByteArray.data_extract, Array.toList_extract]
theorem lst_from (s : ByteArray) (a : Nat) : lst (s.extract a s.size) = (lst s).drop a := by
  rw [lst_extract, List.take_of_length_le (by rw [List.length_drop, lst_len]; omega)]
theorem fstG_shape (D : List Int) : ∀ (i : Nat) (x : Int), ((fstG D i x).2.2 ≠ 0 → (fstG D i x).1 = 0 ∧ (fstG D i x).2.1 = 0) ∧ ((fstG D i x).2.2 = 0 → (i : Int) < (fstG D i x).2.1 ∧ (fstG D i x).2.1 ≤ i + D.length) := by
  induction D with
  | nil => intro i x; simp [fstG]
  | cons c D ih =>
    intro i x
    rw [fstG]
    by_cases h1 : i = 9 ∧ 1 < c
    · rw [if_pos h1]; simp
    · rw [if_neg h1]
      by_cases h2 : c = 0 ∧ 0 < i
      · rw [if_pos h2]; simp
      · rw [if_neg h2]
        by_cases h3 : c < 128
        · rw [if_pos h3]; simp; omega
        · rw [if_neg h3]
          have h := ih (i + 1) (x + c % 128 * 2 ^ (7 * i))
          refine ⟨h.1, fun h0 => ?_⟩
          have := h.2 h0
          simp only [List.length_cons]
          omega
theorem fstM_shape (D : List Int) (most : Int) : ((fstM D most).2.2 ≠ 0 → (fstM D most).1 = 0 ∧ (fstM D most).2.1 = 0) ∧ 0 ≤ (fstM D most).2.1 ∧ (fstM D most).2.1 ≤ D.length := by
  have h := fstG_shape D 0 0
  unfold fstM
  split
  · simp
  · refine ⟨h.1, ?_⟩
    by_cases h0 : (fstG D 0 0).2.2 = 0
    · have := h.2 h0; omega
    · have := h.1 h0; omega

/-- How an error stands behind a call that began in w. -/
def ErrAs (w w' : World) (why : Int) (a : Nat) (bad : Option Nat) (er : Value) : Prop :=
  (why = 0 ∧ bad = none ∧ er = .nilIface) ∨ (why ≠ 0 ∧ ∃ q, w.heap.size ≤ q ∧ bad = some q ∧ er = err q ∧ BadAt w' q why a)
/-- What a call of a reader leaves. -/
def RdPost (p : Nat) (s : ByteArray) (why : Int) (a : Nat) (res : Value) (w : World) (e : Ending) (w' : World) : Prop :=
  ∃ bad er, e = .returned (.tuple #[res, er]) ∧ InAt w' p s a bad ∧ (Grown w w' fun k => k = p) ∧ ErrAs w w' why a bad er

set_option maxRecDepth 8000 in
set_option maxHeartbeats 1000000 in
theorem inum_good (p : Nat) (s : ByteArray) (a : Nat) (most : Nat) (w : World) (h : InAt w p s a none) (hb : s.size ≤ 140737488355328) :
    Calls Try.prog 105 #[ptr p, .int .u64 (most : Int)] w (RdPost p s (fstM ((lst s).drop a) most).2.2 (a + (fstM ((lst s).drop a) most).2.1.toNat) (.int .u64 (fstM ((lst s).drop a) most).1) w) := by
  have HI := Keep.mk h
  have c0 : w.cell? ⟨p, 0, none⟩ = some (.string s) := by rw [h.blk.cell]; rfl
  have c1 : w.cell? ⟨p, 1, none⟩ = some (.int .i64 (a : Int)) := by rw [h.blk.cell]; rfl
  have c2 : w.cell? ⟨p, 2, none⟩ = some (.pointer none) := by rw [h.blk.cell]; rfl
  have hle := h.le
  have h1 : (a : Int) ≤ (s.size : Int) := by omega
  have h2 : (s.size : Int) ≤ 140737488355328 := by omega
  have hS := Keep.mk (fstM_shape ((lst s).drop a) most)
  have HF := fun wx => first_any (s.extract a s.size) wx (by rw [← lst_len, lst_from, List.length_drop, lst_len]; omega)
  rw [lst_from] at HF
  have hM : Keep (fstM ((lst s).drop a) most = if (fstG ((lst s).drop a) 0 0).2.2 = 0 ∧ (most : Int) < (fstG ((lst s).drop a) 0 0).1 then (0, 0, 22) else fstG ((lst s).drop a) 0 0) := ⟨rfl⟩
  have hlen : Keep (((lst s).drop a).length = s.size - a) := ⟨by rw [List.length_drop, lst_len]⟩
  generalize fstM ((lst s).drop a) most = R at *
  generalize fstG ((lst s).drop a) 0 0 = G at *
  obtain ⟨x, k, y⟩ := G
  simp only at HF hM
  have HF2 := Keep.mk HF
  clear HF h hb hle
  go_enter Try.func105, Try.ntmps105
  go_wp2_with fail
  go_quiet (first | (go_at_call 115; refine Calls.quiet_of_same (HF2.out _)))
  obtain ⟨w1, hw1⟩ : ∃ w1, Keep (w1 = w.drewN nq) := ⟨_, ⟨rfl⟩⟩
  rw [← hw1.out]
  have hI1 : InAt w1 p s a none := by rw [hw1.out]; exact ⟨HI.out.blk.drewN nq, HI.out.le⟩
  have hG1 : Grown w w1 (fun k => k = p) := by rw [hw1.out]; exact (Grown.refl w _).drewN nq
  have d1 : w1.cell? ⟨p, 1, none⟩ = some (.int .i64 (a : Int)) := by rw [hI1.blk.cell]; rfl
  have f1 := hI1.blk.frozen 1
  have HI1 := Keep.mk hI1
  have HG1 := Keep.mk hG1
  clear c0 c1 c2 hI1 hG1 hw1
  by_cases hy : y = 0
  · subst hy
    by_cases hx : (most : Int) < x
    · have hR : Keep (R = (0, 0, 22)) := ⟨by rw [hM.out, if_pos ⟨rfl, hx⟩]⟩
      go_wp2_with fail
      refine (ifail_any p s a 22 w1 HI1.out).mono ?_
      rintro e w2 ⟨rfl, h3, h4, h5⟩
      have HP := Keep.mk (And.intro h3 (And.intro h4 h5))
      clear h3 h4 h5
      go_wp2
      go_ret2
      rw [hR.out]
      exact ⟨some w1.heap.size, err w1.heap.size, rfl, HP.out.1, HG1.out.trans HP.out.2.2, .inr ⟨by decide, w1.heap.size, HG1.out.size, rfl, rfl, HP.out.2.1⟩⟩
    · have hR : Keep (R = (x, k, 0)) := ⟨by rw [hM.out, if_neg (fun h => hx h.2)]⟩
      rw [hR.out] at hS
      have hk0 : 0 ≤ k := hS.out.2.1
      have hk1 : k ≤ (s.size : Int) - a := by have := hS.out.2.2; simp only at this; rw [hlen.out] at this; omega
      obtain ⟨kn, rfl⟩ : ∃ kn : Nat, k = (kn : Int) := ⟨k.toNat, by omega⟩
      have HI2 : Keep (InAt (w1.setCell ⟨p, 1, none⟩ (.int .i64 ((a : Int) + (kn : Int)))) p s (a + kn) none) := ⟨⟨HI1.out.blk.set 1 _, by omega⟩⟩
      clear hS
      go_wp2
      go_ret2
      rw [hR.out]
      exact ⟨none, .nilIface, rfl, HI2.out, HG1.out.trans (Grown.setCell w1 p 1 _ fun _ => rfl), .inl ⟨rfl, rfl, rfl⟩⟩
  · have hR : Keep (R = (x, k, y)) := ⟨by rw [hM.out, if_neg (fun h => hy h.1)]⟩
    rw [hR.out] at hS
    have hxk := hS.out.1 hy
    simp only at hxk
    obtain ⟨rfl, rfl⟩ := hxk
    have hy1 : (y == 0) = false := by simpa using hy
    have hy2 : (y != 0) = true := by simpa using hy
    clear hS
    go_wp2_with fail
    refine (ifail_any p s a y w1 HI1.out).mono ?_
    rintro e w2 ⟨rfl, h3, h4, h5⟩
    have HP := Keep.mk (And.intro h3 (And.intro h4 h5))
    clear h3 h4 h5
    go_wp2
    go_ret2
    rw [hR.out]
    exact ⟨some w1.heap.size, err w1.heap.size, rfl, HP.out.1, HG1.out.trans HP.out.2.2, .inr ⟨hy, w1.heap.size, HG1.out.size, rfl, rfl, HP.out.2.1⟩⟩

theorem below_drewN (w : World) (n : Nat) : Below w.heap.size w (w.drewN n) := ⟨rfl, rfl, rfl, Nat.le_refl _, fun _ _ => rfl⟩
/-- A reader that has met an error: whatever is asked, that error, and nothing else. -/
def StuckPost (q : Nat) (res : Value) (w : World) (e : Ending) (w' : World) : Prop :=
  e = .returned (.tuple #[res, err q]) ∧ Below w.heap.size w w'
set_option maxRecDepth 8000 in
set_option maxHeartbeats 1000000 in
theorem inum_bad (p : Nat) (s : ByteArray) (a q : Nat) (v : Value) (w : World) (h : InAt w p s a (some q)) :
    Calls Try.prog 105 #[ptr p, v] w (StuckPost q (.int .u64 0) w) := by
  have c2 : w.cell? ⟨p, 2, none⟩ = some (ptr q) := by rw [h.blk.cell]; rfl
  clear h
  go_enter Try.func105, Try.ntmps105
  go_wp2_with fail
  go_quiet (fail)
  go_wp2
  go_ret2
  exact ⟨rfl, below_drewN _ _⟩
set_option maxRecDepth 8000 in
set_option maxHeartbeats 1000000 in
theorem inext_bad (p : Nat) (s : ByteArray) (a q : Nat) (v : Value) (w : World) (h : InAt w p s a (some q)) :
    Calls Try.prog 99 #[ptr p, v] w (StuckPost q (.string ByteArray.empty) w) := by
  have c2 : w.cell? ⟨p, 2, none⟩ = some (ptr q) := by rw [h.blk.cell]; rfl
  clear h
  go_enter Try.func99, Try.ntmps99
  go_wp2_with fail
  go_quiet (fail)
  go_wp2
  go_ret2
  exact ⟨rfl, below_drewN _ _⟩

/-- What is wrong with the next n bytes. -/
def nextW (D : List Int) (n : Int) : Int := if n < 0 then 1 else if (D.length : Int) < n then 20 else 0
/-- How many are read. -/
def nextN (D : List Int) (n : Int) : Nat := if nextW D n = 0 then n.toNat else 0
set_option maxRecDepth 8000 in
set_option maxHeartbeats 1000000 in
theorem inext_good (p : Nat) (s : ByteArray) (a : Nat) (n : Int) (w : World) (h : InAt w p s a none) (hb : s.size ≤ 140737488355328) (hn1 : -9223372036854775808 ≤ n) (hn2 : n ≤ 9223372036854775807) :
    Calls Try.prog 99 #[ptr p, .int .i64 n] w (RdPost p s (nextW ((lst s).drop a) n) (a + nextN ((lst s).drop a) n) (.string (s.extract a (a + nextN ((lst s).drop a) n))) w) := by
  have HI := Keep.mk h
  have c0 : w.cell? ⟨p, 0, none⟩ = some (.string s) := by rw [h.blk.cell]; rfl
  have c1 : w.cell? ⟨p, 1, none⟩ = some (.int .i64 (a : Int)) := by rw [h.blk.cell]; rfl
  have c2 : w.cell? ⟨p, 2, none⟩ = some (.pointer none) := by rw [h.blk.cell]; rfl
  have hle := h.le
  have h1 : (a : Int) ≤ (s.size : Int) := by omega
  have h2 : (s.size : Int) ≤ 140737488355328 := by omega
  have hlen : ((lst s).drop a).length = s.size - a := by rw [List.length_drop, lst_len]
  have f1 := h.blk.frozen 1
  have hse : s.extract a a = ByteArray.empty := by
    rw [← nums_lst (s.extract a a), lst_extract]; simp [strOfNums]; rfl
  by_cases hneg : n < 0
  · have hW : nextW ((lst s).drop a) n = 1 := by unfold nextW; rw [if_pos hneg]
    have hN : nextN ((lst s).drop a) n = 0 := by unfold nextN; rw [hW]; rfl
    rw [hW, hN, Nat.add_zero, hse]
    clear hW hN hse hlen h hn1 hn2 hb hle
    go_enter Try.func99, Try.ntmps99
    go_wp2_with fail
    refine (ifail_any p s a 1 w HI.out).mono ?_
    rintro e w2 ⟨rfl, h3, h4, h5⟩
    have HP := Keep.mk (And.intro h3 (And.intro h4 h5))
    clear h3 h4 h5
    go_wp2
    go_ret2
    exact ⟨some w.heap.size, err w.heap.size, rfl, HP.out.1, HP.out.2.2, .inr ⟨by decide, w.heap.size, Nat.le_refl _, rfl, rfl, HP.out.2.1⟩⟩
  · by_cases hbig : (s.size : Int) - a < n
    · have hW : nextW ((lst s).drop a) n = 20 := by unfold nextW; rw [if_neg hneg, if_pos (by rw [hlen]; omega)]
      have hN : nextN ((lst s).drop a) n = 0 := by unfold nextN; rw [hW]; rfl
      rw [hW, hN, Nat.add_zero, hse]
      have HSz := Keep.mk hb
      clear hW hN hse hlen h hn1 hn2 hb hle
      go_enter Try.func99, Try.ntmps99
      go_wp2_with fail
      refine (ileft_any p s a none w HI.out HSz.out).mono ?_
      rintro e w1 ⟨rfl, q, hw1⟩
      have HI1 : Keep (InAt w1 p s a none) := ⟨by rw [hw1]; exact ⟨HI.out.blk.drewN q, HI.out.le⟩⟩
      have HG1 : Keep (Grown w w1 fun k => k = p) := ⟨by rw [hw1]; exact (Grown.refl w _).drewN q⟩
      clear hw1 c0 c1 c2
      go_wp2_with fail
      refine (ifail_any p s a 20 w1 HI1.out).mono ?_
      rintro e w2 ⟨rfl, h3, h4, h5⟩
      have HP := Keep.mk (And.intro h3 (And.intro h4 h5))
      clear h3 h4 h5
      go_wp2
      go_ret2
      exact ⟨some w1.heap.size, err w1.heap.size, rfl, HP.out.1, HG1.out.trans HP.out.2.2, .inr ⟨by decide, w1.heap.size, HG1.out.size, rfl, rfl, HP.out.2.1⟩⟩
    · obtain ⟨m, rfl⟩ : ∃ m : Nat, n = (m : Int) := ⟨n.toNat, by omega⟩
      have hW : nextW ((lst s).drop a) m = 0 := by unfold nextW; rw [if_neg hneg, if_neg (by rw [hlen]; omega)]
      have hN : nextN ((lst s).drop a) m = m := by unfold nextN; rw [hW]; simp
      rw [hW, hN]
      have HSz := Keep.mk hb
      have hm1 : (a : Int) + (m : Int) ≤ (s.size : Int) := by omega
      clear hW hN hse hlen h hn1 hn2 hb hle
      go_enter Try.func99, Try.ntmps99
      go_wp2_with fail
      refine (ileft_any p s a none w HI.out HSz.out).mono ?_
      rintro e w1 ⟨rfl, q, hw1⟩
      have hI1 : InAt w1 p s a none := by rw [hw1]; exact ⟨HI.out.blk.drewN q, HI.out.le⟩
      have HG1 : Keep (Grown w w1 fun k => k = p) := ⟨by rw [hw1]; exact (Grown.refl w _).drewN q⟩
      have c0 : w1.cell? ⟨p, 0, none⟩ = some (.string s) := by rw [hI1.blk.cell]; rfl
      have c1 : w1.cell? ⟨p, 1, none⟩ = some (.int .i64 (a : Int)) := by rw [hI1.blk.cell]; rfl
      have HI1 := Keep.mk hI1
      clear hw1 c2 f1 hI1
      go_wp2_with fail
      go_quiet (fail)
      obtain ⟨w2, hw2⟩ : ∃ w2, Keep (w2 = w1.drewN nq) := ⟨_, ⟨rfl⟩⟩
      rw [← hw2.out]
      have hI2 : InAt w2 p s a none := by rw [hw2.out]; exact ⟨HI1.out.blk.drewN nq, HI1.out.le⟩
      have hG2 : Grown w w2 (fun k => k = p) := by rw [hw2.out]; exact HG1.out.drewN nq
      have d1 : w2.cell? ⟨p, 1, none⟩ = some (.int .i64 (a : Int)) := by rw [hI2.blk.cell]; rfl
      have f1 := hI2.blk.frozen 1
      have HI2 : Keep (InAt (w2.setCell ⟨p, 1, none⟩ (.int .i64 ((a : Int) + (m : Int)))) p s (a + m) none) := ⟨⟨hI2.blk.set 1 _, by omega⟩⟩
      have HG2 := Keep.mk hG2
      clear c0 c1 hI2 hG2 hw2
      go_wp2
      go_ret2
      exact ⟨none, .nilIface, rfl, HI2.out, HG2.out.trans (Grown.setCell w2 p 1 _ fun _ => rfl), .inl ⟨rfl, rfl, rfl⟩⟩
end Go.Proofs.Ytlogkojhcccogaa
namespace Go.Proofs.Ytlogkojhcccogaa
open Go.RowKit

theorem lst_at0 (s : ByteArray) (h : 0 < s.size) : (s[0].toNat : Int) = (lst s).getD 0 0 := by
  have := lst_get s 0 h
  rw [List.drop_zero] at this
  rw [this]; rfl
theorem ext_size (s : ByteArray) (a n : Nat) (h : a + n ≤ s.size) : (s.extract a (a + n)).size = n := by
  rw [← lst_len, lst_extract, List.length_take, List.length_drop, lst_len]; omega
theorem nextW_1 (D : List Int) : nextW D 1 = if D.length = 0 then 20 else 0 := by
  unfold nextW
  rw [if_neg (by decide)]
  by_cases h : D.length = 0
  · rw [if_pos (by omega), if_pos h]
  · rw [if_neg (by omega), if_neg h]

/-- A call of a reader that tells bytes. -/
def RdPostB (p : Nat) (s : ByteArray) (why : Int) (a : Nat) (l : List Int) (w : World) (e : Ending) (w' : World) : Prop :=
  ∃ bad er res, e = .returned (.tuple #[res, er]) ∧ InAt w' p s a bad ∧ (Grown w w' fun k => k = p) ∧ ErrAs w w' why a bad er ∧
    ((why = 0 ∧ OwnT w' res l ∧ ∃ k, res.ownBlock = some k ∧ w.heap.size ≤ k ∧ bad = none) ∨ (why ≠ 0 ∧ res = .slice none 0 0))

theorem nextN_0 (D : List Int) (n : Int) (h : nextW D n = 0) : nextN D n = n.toNat ∧ 0 ≤ n ∧ n.toNat ≤ D.length := by
  unfold nextN
  rw [if_pos h]
  unfold nextW at h
  by_cases h1 : n < 0
  · rw [if_pos h1] at h; cases h
  · rw [if_neg h1] at h
    by_cases h2 : (D.length : Int) < n
    · rw [if_pos h2] at h; cases h
    · exact ⟨rfl, by omega, by omega⟩
theorem nextN_1 (D : List Int) (n : Int) (h : nextW D n ≠ 0) : nextN D n = 0 := by unfold nextN; rw [if_neg h]

set_option maxRecDepth 8000 in
set_option maxHeartbeats 1000000 in
theorem ibyte_good (p : Nat) (s : ByteArray) (a : Nat) (w : World) (h : InAt w p s a none) (hb : s.size ≤ 140737488355328) (D : List Int) (hD : D = (lst s).drop a) (W : Int) (hW : W = nextW D 1) (N : Nat) (hN : N = nextN D 1) (c : Int) (hc : c = if W = 0 then D.getD 0 0 else 0) :
    Calls Try.prog 65 #[ptr p] w (RdPost p s W (a + N) (.int .u8 c) w) := by
  have HC := Keep.mk (inext_good p s a 1 w h hb (by decide) (by decide))
  have HD : Keep (((lst s).drop a).length = s.size - a) := ⟨by rw [List.length_drop, lst_len]⟩
  have HL := Keep.mk h.le
  rw [← hD] at HC HD
  rw [← hW, ← hN] at HC
  have HDD := Keep.mk hD
  have HW := Keep.mk hW
  have HN := Keep.mk hN
  have Hc := Keep.mk hc
  clear h hb hD hW hN hc
  go_enter Try.func65, Try.ntmps65
  go_wp2_with fail
  refine HC.out.mono ?_
  rintro e w1 ⟨bad, er, rfl, h1, h2, h3⟩
  have H1 := Keep.mk h1
  have H2 := Keep.mk h2
  have H3 := Keep.mk h3
  clear h1 h2 HC
  rcases h3 with ⟨h0, rfl, rfl⟩ | ⟨h0, q, hq, rfl, rfl, hbad⟩
  · have hx := nextN_0 D 1 (by rw [← HW.out]; exact h0)
    have hN1 : N = 1 := by rw [HN.out, hx.1]; rfl
    subst hN1
    have hDl : 1 ≤ D.length := hx.2.2
    have hsz : (s.extract a (a + 1)).size = 1 := ext_size s a 1 (by have := HD.out; omega)
    have hz2 : 0 < (s.extract a (a + 1)).size := by omega
    have hv := lst_at0 (s.extract a (a + 1)) hz2
    have hl : (lst (s.extract a (a + 1))).getD 0 0 = c := by
      rw [lst_extract, ← HDD.out, Hc.out, if_pos h0]
      cases D with
      | nil => simp at hDl
      | cons c D => simp
    rw [hl] at hv
    have hz : (0 : Int) < ((s.extract a (a + 1)).size : Int) := by omega
    have H0 := Keep.mk h0
    clear hl h0 hx hDl hsz HN HDD
    generalize s.extract a (a + 1) = st at *
    go_wp2
    go_ret2
    exact ⟨none, .nilIface, rfl, H1.out, H2.out, H3.out⟩
  · have hc0 : c = 0 := by rw [Hc.out, if_neg h0]
    have H0 := Keep.mk h0
    have Hb := Keep.mk hbad
    subst hc0
    clear h0 hbad
    unfold err
    go_wp2
    go_ret2
    exact ⟨some q, err q, rfl, H1.out, H2.out, H3.out⟩
theorem stuck_in {p : Nat} {s : ByteArray} {a q : Nat} {w w' : World} (h : InAt w p s a (some q)) (hb : Below w.heap.size w w') : InAt w' p s a (some q) := ⟨h.blk.below hb h.blk.lt, h.le⟩
set_option maxRecDepth 8000 in
set_option maxHeartbeats 1000000 in
theorem ibyte_bad (p : Nat) (s : ByteArray) (a q : Nat) (w : World) (h : InAt w p s a (some q)) :
    Calls Try.prog 65 #[ptr p] w (StuckPost q (.int .u8 0) w) := by
  have HC := Keep.mk (inext_bad p s a q (.int .i64 1) w h)
  clear h
  go_enter Try.func65, Try.ntmps65
  go_wp2_with fail
  refine HC.out.mono ?_
  rintro e w1 ⟨rfl, h1⟩
  unfold err
  go_wp2
  go_ret2
  exact ⟨rfl, h1⟩

/-- The signed number that has the form of a number. -/
def zag (x : Int) : Int := if x % 2 = 1 then -(x / 2) - 1 else x / 2
set_option maxRecDepth 8000 in
set_option maxHeartbeats 1000000 in
theorem iraw_good (p : Nat) (s : ByteArray) (a : Nat) (n : Int) (w : World) (h : InAt w p s a none) (hb : s.size ≤ 140737488355328) (hn1 : -9223372036854775808 ≤ n) (hn2 : n ≤ 9223372036854775807) (D : List Int) (hD : D = (lst s).drop a) (W : Int) (hW : W = nextW D n) (N : Nat) (hN : N = nextN D n) :
    Calls Try.prog 109 #[ptr p, .int .i64 n] w (RdPostB p s W (a + N) (D.take N) w) := by
  have HC := Keep.mk (inext_good p s a n w h hb hn1 hn2)
  have HL := Keep.mk h.le
  have HLD : Keep (D.length = s.size - a) := ⟨by rw [hD, List.length_drop, lst_len]⟩
  have HS := Keep.mk hb
  rw [← hD, ← hW, ← hN] at HC
  have HDD := Keep.mk hD
  have HW := Keep.mk hW
  have HN := Keep.mk hN
  clear h hb hD hW hN hn1 hn2
  go_enter Try.func109, Try.ntmps109
  go_wp2_with fail
  refine HC.out.mono ?_
  rintro e w1 ⟨bad, er, rfl, h1, h2, h3⟩
  have H1 := Keep.mk h1
  have H2 := Keep.mk h2
  have H3 := Keep.mk h3
  clear h1 h2 HC
  rcases h3 with ⟨h0, rfl, rfl⟩ | ⟨h0, q, hq, rfl, rfl, hbad⟩
  · have hx := nextN_0 D n (by rw [← HW.out]; exact h0)
    have hNl : N ≤ D.length := by rw [HN.out, hx.1]; exact hx.2.2
    have hl : lst (s.extract a (a + N)) = D.take N := by rw [lst_extract, ← HDD.out, show a + N - a = N by omega]
    have hsz : (s.extract a (a + N)).size = N := ext_size s a N (by have := HLD.out; have := HL.out; omega)
    obtain ⟨v, w2, hr, hO, hk, hB⟩ := conv_bytes w1 (s.extract a (a + N)) (by rw [hsz]; have := HLD.out; have := HS.out; omega)
    rw [hl] at hO
    have HO := Keep.mk hO
    have HK := Keep.mk hk
    have HB := Keep.mk hB
    have H0 := Keep.mk h0
    clear hl hsz hx hNl h0 hO hk hB HN HW HDD HLD
    generalize s.extract a (a + N) = st at *
    go_wp2
    go_ret2
    refine ⟨none, .nilIface, v, rfl, ⟨H1.out.blk.below HB.out H1.out.blk.lt, H1.out.le⟩, H2.out.next (Grown.below (S := fun _ => False) HB.out) fun _ _ h => h.elim, .inl ⟨H0.out, rfl, rfl⟩, .inl ⟨H0.out, HO.out, _, HK.out, H2.out.size, rfl⟩⟩
  · have H0 := Keep.mk h0
    clear h0 hbad
    unfold err
    go_wp2
    go_ret2
    exact ⟨some q, err q, _, rfl, H1.out, H2.out, H3.out, .inr ⟨H0.out, rfl⟩⟩
set_option maxRecDepth 8000 in
set_option maxHeartbeats 1000000 in
theorem iraw_bad (p : Nat) (s : ByteArray) (a q : Nat) (v : Value) (w : World) (h : InAt w p s a (some q)) :
    Calls Try.prog 109 #[ptr p, v] w (StuckPost q (.slice none 0 0) w) := by
  have HC := Keep.mk (inext_bad p s a q v w h)
  clear h
  go_enter Try.func109, Try.ntmps109
  go_wp2_with fail
  refine HC.out.mono ?_
  rintro e w1 ⟨rfl, h1⟩
  unfold err
  go_wp2
  go_ret2
  exact ⟨rfl, h1⟩
end Go.Proofs.Ytlogkojhcccogaa
namespace Go.Proofs.Ytlogkojhcccogaa
open Go.RowKit

/-- Bytes read: what is wrong, how many were passed, they. -/
def byt (D : List Int) (mm : Int) : Int × Nat × List Int :=
  if (fstM D mm).2.2 = 0 then (nextW (D.drop (fstM D mm).2.1.toNat) (fstM D mm).1, (fstM D mm).2.1.toNat + nextN (D.drop (fstM D mm).2.1.toNat) (fstM D mm).1, (D.drop (fstM D mm).2.1.toNat).take (nextN (D.drop (fstM D mm).2.1.toNat) (fstM D mm).1)) else ((fstM D mm).2.2, 0, [])
theorem byt_eq (D : List Int) (mm : Int) : byt D mm = if (fstM D mm).2.2 = 0 then (nextW (D.drop (fstM D mm).2.1.toNat) (fstM D mm).1, (fstM D mm).2.1.toNat + nextN (D.drop (fstM D mm).2.1.toNat) (fstM D mm).1, (D.drop (fstM D mm).2.1.toNat).take (nextN (D.drop (fstM D mm).2.1.toNat) (fstM D mm).1)) else ((fstM D mm).2.2, 0, []) := rfl
theorem fstM_le (D : List Int) (mm : Int) (hB : Byts D) : (fstM D mm).2.2 = 0 → 0 ≤ (fstM D mm).1 ∧ (fstM D mm).1 ≤ mm := by
  unfold fstM
  split
  · intro h; cases h
  · rename_i h
    intro h0
    obtain ⟨x, h1, _⟩ := fstG_form D (fstG D 0 0).1 (fstG D 0 0).2.1 hB (Prod.ext rfl (Prod.ext rfl h0))
    refine ⟨by rw [h1]; omega, ?_⟩
    by_cases hle : (fstG D 0 0).1 ≤ mm
    · exact hle
    · exact absurd ⟨h0, by omega⟩ h

set_option maxRecDepth 8000 in
set_option maxHeartbeats 1000000 in
theorem ireadB_good (p : Nat) (s : ByteArray) (a : Nat) (most : Int) (mm : Nat) (hmm : (mm : Int) = max most 0) (w : World) (h : InAt w p s a none) (hb : s.size ≤ 140737488355328) (hm2 : mm ≤ 9223372036854775807) (D : List Int) (hD : D = (lst s).drop a) (W : Int) (hW : W = (byt D (mm : Int)).1) (N : Nat) (hN : N = (byt D (mm : Int)).2.1) (l : List Int) (hl : l = (byt D (mm : Int)).2.2) :
    Calls Try.prog 116 #[ptr p, .int .i64 most] w (RdPostB p s W (a + N) l w) := by
  have hc := inum_good p s a mm w h hb
  rw [← hD] at hc
  have HLD : Keep (D.length = s.size - a) := ⟨by rw [hD, List.length_drop, lst_len]⟩
  have HL := Keep.mk h.le
  have HS := Keep.mk hb
  have HDD := Keep.mk hD
  have HBy := Keep.mk (byt_eq D (mm : Int))
  have HSh := Keep.mk (fstM_shape D (mm : Int))
  have HLe := Keep.mk (fstM_le D (mm : Int) (by rw [hD]; exact (lst_byts s).drop a))
  have HW := Keep.mk hW
  have HN := Keep.mk hN
  have Hl := Keep.mk hl
  have hmx := hmm.symm
  have hwm : IntKind.u64.wrap (mm : Int) = (mm : Int) := by rw [IntKind.wrap_u64]; omega
  have Hm2 := Keep.mk hm2
  clear hW hN hl hD hmm h hb hm2
  generalize fstM D (mm : Int) = R at *
  obtain ⟨x, k, y⟩ := R
  simp only at hc HBy HSh HLe
  have HC := Keep.mk hc
  clear hc
  go_enter Try.func116, Try.ntmps116
  go_wp2_with fail
  refine HC.out.mono ?_
  rintro e w1 ⟨bad, er, rfl, h1, h2, h3⟩
  have H1 := Keep.mk h1
  have H2 := Keep.mk h2
  have H3 := Keep.mk h3
  clear h1 h2 HC hwm hmx
  rcases h3 with ⟨h0, rfl, rfl⟩ | ⟨h0, q, hq, rfl, rfl, hbad⟩
  · obtain ⟨hx0, hx1⟩ := HLe.out h0
    have hk0 : 0 ≤ k := HSh.out.2.1
    have hk1 : k ≤ D.length := HSh.out.2.2
    obtain ⟨kn, rfl⟩ : ∃ kn : Nat, k = (kn : Int) := ⟨k.toNat, by omega⟩
    rw [if_pos h0, Int.toNat_natCast] at HBy
    have hx2 : x ≤ 9223372036854775807 := by have := Hm2.out; omega
    have hak : Keep (a + kn ≤ s.size) := ⟨by have := HLD.out; have := HL.out; omega⟩
    rw [Int.toNat_natCast] at H1
    have hc2 := inext_good p s (a + kn) x w1 H1.out HS.out (by omega) hx2
    have hDk : (lst s).drop (a + kn) = D.drop kn := by rw [HDD.out, List.drop_drop]
    rw [hDk] at hc2
    obtain ⟨W2, hW2⟩ : ∃ W2, Keep (W2 = nextW (D.drop kn) x) := ⟨_, ⟨rfl⟩⟩
    obtain ⟨N2, hN2⟩ : ∃ N2, Keep (N2 = nextN (D.drop kn) x) := ⟨_, ⟨rfl⟩⟩
    rw [← hW2.out, ← hN2.out] at hc2 HBy
    have eW : W = W2 := by rw [HW.out, HBy.out]
    have eN : N = kn + N2 := by rw [HN.out, HBy.out]
    have el : l = (D.drop kn).take N2 := by rw [Hl.out, HBy.out]
    have HC2 := Keep.mk hc2
    subst eW
    have HeN := Keep.mk eN
    have Hel := Keep.mk el
    have HDk := Keep.mk hDk
    clear hc2 h0 eN el hDk HW HN Hl HBy HSh HLe H3 hk0 hk1
    go_wp2_with fail
    refine HC2.out.mono ?_
    rintro e w2 ⟨bad, er, rfl, h4, h5, h6⟩
    have H4 : Keep (InAt w2 p s (a + N) bad) := ⟨by rw [HeN.out, ← Nat.add_assoc]; exact h4⟩
    have H5 := Keep.mk (H2.out.trans h5)
    have hsz := H2.out.size
    have H6 : Keep (ErrAs w w2 W (a + N) bad er) := ⟨by
      rw [HeN.out, ← Nat.add_assoc]
      rcases h6 with h6 | ⟨h6, q, h7, h8⟩
      · exact .inl h6
      · exact .inr ⟨h6, q, by omega, h8⟩⟩
    have hNl : Keep (N2 ≤ (D.drop kn).length) := ⟨by
      by_cases hw : W = 0
      · have := nextN_0 (D.drop kn) x (by rw [← hW2.out]; exact hw); rw [hN2.out, this.1]; exact this.2.2
      · rw [hN2.out, nextN_1 (D.drop kn) x (by rw [← hW2.out]; exact hw)]; omega⟩
    have hls : lst (s.extract (a + kn) (a + kn + N2)) = l := by rw [lst_extract, HDk.out, Hel.out, show a + kn + N2 - (a + kn) = N2 by omega]
    have hsz2 : (s.extract (a + kn) (a + kn + N2)).size = N2 := ext_size s (a + kn) N2 (by have := HLD.out; have := HL.out; have := hNl.out; have h8 := hak.out; have h9 := hNl.out; rw [List.length_drop] at h9; omega)
    clear h4 h5 HC2 hsz
    rcases h6 with ⟨h0, rfl, rfl⟩ | ⟨h0, q, hq, rfl, rfl, hbad⟩
    · obtain ⟨v, w3, hr, hO, hk, hB⟩ := conv_bytes w2 (s.extract (a + kn) (a + kn + N2)) (by rw [hsz2]; have := HLD.out; have := HS.out; have := hNl.out; rw [List.length_drop] at this; omega)
      rw [hls] at hO
      have HO := Keep.mk hO
      have HK := Keep.mk hk
      have HB := Keep.mk hB
      have H0 := Keep.mk h0
      clear hls hsz2 h0 hO hk hB hNl
      generalize s.extract (a + kn) (a + kn + N2) = st at *
      go_wp2
      go_ret2
      refine ⟨none, .nilIface, v, rfl, ⟨H4.out.blk.below HB.out H4.out.blk.lt, H4.out.le⟩, H5.out.next (Grown.below (S := fun _ => False) HB.out) fun _ _ h => h.elim, .inl ⟨H0.out, rfl, rfl⟩, .inl ⟨H0.out, HO.out, _, HK.out, H5.out.size, rfl⟩⟩
    · have H0 := Keep.mk h0
      clear h0 hbad hls hsz2
      unfold err
      go_wp2
      go_ret2
      exact ⟨some q, err q, _, rfl, H4.out, H5.out, H6.out, .inr ⟨H0.out, rfl⟩⟩
  · rw [if_neg h0] at HBy
    have eW : W = y := by rw [HW.out, HBy.out]
    have eN : N = 0 := by rw [HN.out, HBy.out]
    subst eW eN
    obtain ⟨rfl, rfl⟩ := HSh.out.1 h0
    have H0 := Keep.mk h0
    clear h0 hbad HBy HSh HLe HW HN Hl
    unfold err
    go_wp2
    go_ret2
    exact ⟨some q, err q, _, rfl, H1.out, H2.out, H3.out, .inr ⟨H0.out, rfl⟩⟩
set_option maxRecDepth 8000 in
set_option maxHeartbeats 1000000 in
theorem ireadB_bad (p : Nat) (s : ByteArray) (a q : Nat) (most : Int) (mm : Nat) (hmm : (mm : Int) = max most 0) (hm2 : mm ≤ 9223372036854775807) (w : World) (h : InAt w p s a (some q)) :
    Calls Try.prog 116 #[ptr p, .int .i64 most] w (StuckPost q (.slice none 0 0) w) := by
  have HC := Keep.mk (inum_bad p s a q (.int .u64 (mm : Int)) w h)
  have hmx := hmm.symm
  have hwm : IntKind.u64.wrap (mm : Int) = (mm : Int) := by rw [IntKind.wrap_u64]; omega
  clear h hmm hm2
  go_enter Try.func116, Try.ntmps116
  go_wp2_with fail
  refine HC.out.mono ?_
  rintro e w1 ⟨rfl, h1⟩
  clear hmx hwm
  unfold err
  go_wp2
  go_ret2
  exact ⟨rfl, h1⟩

set_option maxRecDepth 8000 in
set_option maxHeartbeats 1000000 in
theorem ibytes_good (p : Nat) (s : ByteArray) (a : Nat) (most : Int) (mm : Nat) (hmm : (mm : Int) = max most 0) (w : World) (h : InAt w p s a none) (hb : s.size ≤ 140737488355328) (hm2 : mm ≤ 9223372036854775807) (D : List Int) (hD : D = (lst s).drop a) (W : Int) (hW : W = (byt D (mm : Int)).1) (N : Nat) (hN : N = (byt D (mm : Int)).2.1) (l : List Int) (hl : l = (byt D (mm : Int)).2.2) :
    Calls Try.prog 111 #[ptr p, .int .i64 most] w (RdPostB p s W (a + N) l w) := by
  have HC := Keep.mk (ireadB_good p s a most mm hmm w h hb hm2 D hD W hW N hN l hl)
  clear hmm h hb hm2 hD hW hN hl
  go_enter Try.func111, Try.ntmps111
  go_wp2_with fail
  refine HC.out.mono ?_
  rintro e w1 ⟨bad, er, res, rfl, h1⟩
  have H := Keep.mk h1
  clear h1 HC
  go_wp2
  go_ret2
  exact ⟨bad, er, res, rfl, H.out⟩
set_option maxRecDepth 8000 in
set_option maxHeartbeats 1000000 in
theorem ibytes_bad (p : Nat) (s : ByteArray) (a q : Nat) (most : Int) (mm : Nat) (hmm : (mm : Int) = max most 0) (hm2 : mm ≤ 9223372036854775807) (w : World) (h : InAt w p s a (some q)) :
    Calls Try.prog 111 #[ptr p, .int .i64 most] w (StuckPost q (.slice none 0 0) w) := by
  have HC := Keep.mk (ireadB_bad p s a q most mm hmm hm2 w h)
  clear h hmm hm2
  go_enter Try.func111, Try.ntmps111
  go_wp2_with fail
  refine HC.out.mono ?_
  rintro e w1 ⟨rfl, h1⟩
  go_wp2
  go_ret2
  exact ⟨rfl, h1⟩

end Go.Proofs.Ytlogkojhcccogaa
namespace Go.Proofs.Ytlogkojhcccogaa
open Go.RowKit

theorem results_cell_row2 {P : Program} {fn : Func} {p u : Tmp} {ty : TypeId} (h : fn.results = #[.cell p ty, .tmp u]) (tmps : Array Value) (w : World) (g : Nat) (t : TypeId) (cs : Array Value) (fr : Nat × Nat) (d : TypeDesc) (y : Value)
    (hp : tmps.getD p undef = .pointer (some ⟨g, 0, none⟩)) (hy : tmps.getD u undef = y) (hg : w.heap[g]? = some (.cells cs t fr))
    (hu : P.underlying ty = some d) (hd : (match d with | .struct _ | .array _ _ => true | _ => false) = true) (hi : (P.info? ty).map (·.size) = some cs.size) :
    (results fn tmps).run P w = .ok (.tuple #[.agg cs, y]) w := by
  rw [results_cell_tmp h, hp, hy]
  simp [asAddr, Result.andThen, run_loadVar_row w g t ty cs fr d hg hu hd hi]

/-- copy of a text over a whole array. -/
theorem run_copyS (w : World) (g : Nat) (T ty : TypeId) (st : ByteArray) (n : Nat) (cur : Array Value) (hg : Blk w g T cur) (hs : cur.size = n) (hn : st.size = n ∨ st.size = 0) :
    (Builtin.copy_ #[25, 9] ty #[.slice (some ⟨g, 0, none⟩) n n, .string st]).run Try.prog w = .ok (goInt st.size) (w.setRow g ((bv (lst st)) ++ cur.toList.drop st.size).toArray) := by
  have hst := run_storeCells_at Try.prog g 0 T (bv (lst st)) 0 cur w hg (by rw [bv_len, lst_len]; omega) (bv_one _)
  have hcur : (cur.toList.take (0 + 0) ++ bv (lst st) ++ cur.toList.drop (0 + 0 + (bv (lst st)).length)).toArray = ((bv (lst st)) ++ cur.toList.drop st.size).toArray := by
    rw [bv_len, lst_len]; simp
  rw [hcur] at hst
  obtain ⟨i, hi, hzz⟩ := Option.map_eq_some_iff.1 Try.info5
  simp only [Prod.mk.injEq] at hzz
  obtain ⟨_, hsz, _⟩ := hzz
  have hf := Lib.run_firstCells_string (P := Try.prog) w 1 st
  rw [lst_cells] at hf
  have hmin : Nat.min st.size n = st.size := by rcases hn with h | h <;> simp [h]
  simp [Builtin.copy_, run_underlying Try.underlying25, Builtin.lenOf, sizeOf, typeInfo, hi, hsz, hmin, hf, hst]

/-- A hash read. -/
def hrd (D : List Int) (W : Int) : Nat → Int := fun i => if W = 0 then D.getD i 0 else 0
theorem bytesA_of (l : List Int) (n : Nat) (h : l.length = n) : (bv l).toArray = bytesA n (fun i => l.getD i 0) := by
  apply Array.ext_getElem?
  intro i
  by_cases hi : i < n
  · rw [bytesA_get _ _ _ hi, List.getElem?_toArray, bv_get l i (by omega)]
  · rw [Array.getElem?_eq_none (by rw [List.size_toArray, bv_len]; omega), Array.getElem?_eq_none (by rw [bytesA_size]; omega)]
theorem copied (st : ByteArray) (D : List Int) (W : Int) (h : (W = 0 ∧ lst st = D.take 32 ∧ 32 ≤ D.length) ∨ (W ≠ 0 ∧ st.size = 0)) : ((bv (lst st)) ++ (bytesA 32 fun _ => 0).toList.drop st.size).toArray = bytesA 32 (hrd D W) := by
  rcases h with ⟨h0, h1, h2⟩ | ⟨h0, h1⟩
  · have hs : st.size = 32 := by rw [← lst_len, h1, List.length_take]; omega
    rw [hs, List.drop_of_length_le (by simp [bytesA_size]), List.append_nil, h1, bytesA_of _ 32 (by rw [List.length_take]; omega)]
    exact bytesA_congr fun i hi => by simp [hrd, h0, List.getD_eq_getElem?_getD, hi]
  · have hl : lst st = [] := List.eq_nil_of_length_eq_zero (by rw [lst_len]; exact h1)
    rw [hl, h1]
    simp only [bv, List.map_nil, List.nil_append, List.drop_zero, Array.toArray_toList]
    exact bytesA_congr fun i hi => by simp [hrd, h0]

/-- A call of a reader that tells a hash. -/
def RdPostH (p : Nat) (s : ByteArray) (why : Int) (a : Nat) (c : Nat → Int) (w : World) (e : Ending) (w' : World) : Prop := RdPost p s why a (.agg (bytesA 32 c)) w e w'

set_option maxRecDepth 8000 in
set_option maxHeartbeats 1000000 in
theorem ihash_good (p : Nat) (s : ByteArray) (a : Nat) (w : World) (h : InAt w p s a none) (hb : s.size ≤ 140737488355328) (D : List Int) (hD : D = (lst s).drop a) (W : Int) (hW : W = nextW D 32) (N : Nat) (hN : N = nextN D 32) :
    Calls Try.prog 107 #[ptr p] w (RdPost p s W (a + N) (.agg (bytesA 32 (hrd D W))) w) := by
  have HI := Keep.mk h
  have HL := Keep.mk h.le
  have HLD : Keep (D.length = s.size - a) := ⟨by rw [hD, List.length_drop, lst_len]⟩
  have HS := Keep.mk hb
  have HDD := Keep.mk hD
  have HW := Keep.mk hW
  have HN := Keep.mk hN
  have Hp := Keep.mk h.blk.lt
  have HR := Keep.mk (show Blk ((w.alloc (.cells (bytesA 32 fun _ => 0) 101)).alloc (.cells (bytesA 32 fun _ => 0) 101)) w.heap.size 101 (bytesA 32 fun _ => 0) from (Blk.new w 101 _).alloc _)
  have HH : Keep (Blk ((w.alloc (.cells (bytesA 32 fun _ => 0) 101)).alloc (.cells (bytesA 32 fun _ => 0) 101)) (w.heap.size + 1) 101 (bytesA 32 fun _ => 0)) := ⟨by
    have h := Blk.new (w.alloc (.cells (bytesA 32 fun _ => 0) 101)) 101 (bytesA 32 fun _ => 0)
    simp only [World.size_alloc] at h
    exact h⟩
  have HB : Keep (Below w.heap.size w ((w.alloc (.cells (bytesA 32 fun _ => 0) 101)).alloc (.cells (bytesA 32 fun _ => 0) 101))) := ⟨((Below.refl _ _).alloc (Nat.le_refl _) _).alloc (by simp) _⟩
  have HZ : Keep (((w.alloc (.cells (bytesA 32 fun _ => 0) 101)).alloc (.cells (bytesA 32 fun _ => 0) 101)).heap.size = w.heap.size + 2) := ⟨by simp⟩
  clear h hb hD hW hN
  go_enter Try.func107, Try.ntmps107
  go_wp2_with (first | (refine wpList_new rfl 101 rfl _ Try.new101 ?_))
  generalize (w.alloc (.cells (bytesA 32 fun _ => 0) 101)).alloc (.cells (bytesA 32 fun _ => 0) 101) = w0 at *
  have hI0 : InAt w0 p s a none := ⟨HI.out.blk.below HB.out HI.out.blk.lt, HI.out.le⟩
  have hc := inext_good p s a 32 w0 hI0 HS.out (by decide) (by decide)
  rw [← HDD.out, ← HW.out, ← HN.out] at hc
  refine hc.mono ?_
  rintro e w1 ⟨bad, er, rfl, h1, h2, h3⟩
  have hR1 := h2.blk HR.out (fun e => by have := Hp.out; omega)
  have hH1 := h2.blk HH.out (fun e => by have := Hp.out; omega)
  have hcp : (W = 0 ∧ lst (s.extract a (a + N)) = D.take 32 ∧ 32 ≤ D.length) ∨ (W ≠ 0 ∧ (s.extract a (a + N)).size = 0) := by
    by_cases h0 : W = 0
    · have hx := nextN_0 D 32 (by rw [← HW.out]; exact h0)
      have hN32 : N = 32 := by rw [HN.out, hx.1]; rfl
      exact .inl ⟨h0, by rw [lst_extract, ← HDD.out, hN32, show a + 32 - a = 32 by omega], hx.2.2⟩
    · have hN0 : N = 0 := by rw [HN.out, nextN_1 D 32 (by rw [← HW.out]; exact h0)]
      exact .inr ⟨h0, by rw [hN0, ← lst_len, lst_extract]; simp⟩
  have hcs := run_copyS w1 (w.heap.size + 1) 101 3 (s.extract a (a + N)) 32 _ hH1 (bytesA_size _ _) (by
    rcases hcp with ⟨_, h4, h5⟩ | ⟨_, h4⟩
    · left; rw [← lst_len, h4, List.length_take]; omega
    · exact .inr h4)
  rw [copied _ D W hcp] at hcs
  have hH2 := hH1.setRow (bytesA 32 (hrd D W))
  have hR2 := hR1.setRow_ne (b' := w.heap.size + 1) (by omega) (bytesA 32 (hrd D W))
  have hI2 : InAt (w1.setRow (w.heap.size + 1) (bytesA 32 (hrd D W))) p s (a + N) bad := ⟨h1.blk.setRow_ne (by have := Hp.out; omega) _, h1.le⟩
  have hG0 : Grown w w1 (fun k => k = p) := (Grown.below HB.out).next h2 fun _ _ h => h
  have HE := Keep.mk h3
  have HI1 := Keep.mk h1
  have HG0 := Keep.mk hG0
  have HI2 := Keep.mk hI2
  obtain ⟨c, hcd⟩ : ∃ c, Keep (c = hrd D W) := ⟨_, ⟨rfl⟩⟩
  rw [← hcd.out] at hcs hH2 hR2 HI2
  rw [← hcd.out]
  have HH2 := Keep.mk hH2
  have HR2 := Keep.mk hR2
  obtain ⟨z, hz⟩ : ∃ z, Keep (z = goInt (s.extract a (a + N)).size) := ⟨_, ⟨rfl⟩⟩
  rw [← hz.out] at hcs
  clear hc hI0 h1 h2 h3 hR1 hH1 hcp hH2 hR2 hI2 hG0 hz HN HDD HW
  generalize s.extract a (a + N) = st at *
  obtain ⟨w2, hw2⟩ : ∃ w2, Keep (w2 = w1.setRow (w.heap.size + 1) (bytesA 32 c)) := ⟨_, ⟨rfl⟩⟩
  rw [← hw2.out] at hcs HH2 HR2 HI2
  go_wp2_with (first | (refine wpList_load_row rfl 101 (.tmp 4) rfl (w.heap.size + 1) rfl 101 (bytesA 32 c) (0, 0) (.array 32 5) HH2.out Try.underlying101 rfl (Try.size101B _) ?_) | (refine wpList_store_row rfl 101 (.tmp 2) (.tmp 15) rfl w.heap.size (bytesA 32 c) rfl rfl 101 (bytesA 32 fun _ => 0) HR2.out (Try.size101B _) (bytesA_sizes _ _ _) (bytesA_one _ _) ?_))
  refine bodyPost_ret (v := .tuple #[.agg (bytesA 32 c), er]) (results_cell_row2 Try.results107 _ _ w.heap.size 101 _ (0, 0) _ _ rfl rfl (HR2.out.setRow _) Try.underlying101 rfl (Try.size101B _)) rfl ?_
  have hp := Hp.out
  have hz := HZ.out
  refine ⟨bad, er, by rw [hcd.out], ⟨HI2.out.blk.setRow_ne (by omega) _, HI2.out.le⟩, ?_, ?_⟩
  · rw [hw2.out]
    exact (HG0.out.next (Grown.setRow w1 (w.heap.size + 1) _ (S := fun k => k = w.heap.size + 1) fun _ => rfl) fun i hi e => by omega).next (Grown.setRow _ w.heap.size _ (S := fun k => k = w.heap.size) fun _ => rfl) fun i hi e => by omega
  · rcases HE.out with h6 | ⟨h6, q, h7, h8, h9, h10⟩
    · exact .inl h6
    · refine .inr ⟨h6, q, by omega, h8, h9, ?_⟩
      rw [hw2.out]
      exact (h10.setRow_ne (by omega) _).setRow_ne (by omega) _

set_option maxRecDepth 8000 in
set_option maxHeartbeats 1000000 in
theorem ihash_bad (p : Nat) (s : ByteArray) (a q : Nat) (w : World) (h : InAt w p s a (some q)) :
    Calls Try.prog 107 #[ptr p] w (StuckPost q (.agg (bytesA 32 fun _ => 0)) w) := by
  have HI := Keep.mk h
  have Hp := Keep.mk h.blk.lt
  have HR := Keep.mk (show Blk ((w.alloc (.cells (bytesA 32 fun _ => 0) 101)).alloc (.cells (bytesA 32 fun _ => 0) 101)) w.heap.size 101 (bytesA 32 fun _ => 0) from (Blk.new w 101 _).alloc _)
  have HH : Keep (Blk ((w.alloc (.cells (bytesA 32 fun _ => 0) 101)).alloc (.cells (bytesA 32 fun _ => 0) 101)) (w.heap.size + 1) 101 (bytesA 32 fun _ => 0)) := ⟨by
    have h := Blk.new (w.alloc (.cells (bytesA 32 fun _ => 0) 101)) 101 (bytesA 32 fun _ => 0)
    simp only [World.size_alloc] at h
    exact h⟩
  have HB : Keep (Below w.heap.size w ((w.alloc (.cells (bytesA 32 fun _ => 0) 101)).alloc (.cells (bytesA 32 fun _ => 0) 101))) := ⟨((Below.refl _ _).alloc (Nat.le_refl _) _).alloc (by simp) _⟩
  clear h
  go_enter Try.func107, Try.ntmps107
  go_wp2_with (first | (refine wpList_new rfl 101 rfl _ Try.new101 ?_))
  generalize (w.alloc (.cells (bytesA 32 fun _ => 0) 101)).alloc (.cells (bytesA 32 fun _ => 0) 101) = w0 at *
  have hI0 : InAt w0 p s a (some q) := stuck_in HI.out HB.out
  refine (inext_bad p s a q (.int .i64 32) w0 hI0).mono ?_
  rintro e w1 ⟨rfl, h2⟩
  have hR1 := HR.out.below h2 HR.out.lt
  have hH1 := HH.out.below h2 HH.out.lt
  have hcs := run_copyS w1 (w.heap.size + 1) 101 3 ByteArray.empty 32 _ hH1 (bytesA_size _ _) (.inr rfl)
  rw [copied ByteArray.empty [] 1 (.inr ⟨by decide, rfl⟩), show hrd [] 1 = fun _ => 0 from funext fun i => by simp [hrd]] at hcs
  have hH2 := hH1.setRow (bytesA 32 fun _ => 0)
  have hR2 := hR1.setRow_ne (b' := w.heap.size + 1) (by omega) (bytesA 32 fun _ => 0)
  have HB1 := Keep.mk (HB.out.trans (h2.mono HB.out.size))
  obtain ⟨c, hcd⟩ : ∃ c : Nat → Int, Keep (c = fun _ => 0) := ⟨_, ⟨rfl⟩⟩
  rw [← hcd.out] at hcs hH2 hR2
  have HH2 := Keep.mk hH2
  have HR2 := Keep.mk hR2
  clear hI0 h2 hR1 hH1 hH2 hR2
  obtain ⟨w2, hw2⟩ : ∃ w2, Keep (w2 = w1.setRow (w.heap.size + 1) (bytesA 32 c)) := ⟨_, ⟨rfl⟩⟩
  rw [← hw2.out] at hcs HH2 HR2
  obtain ⟨z, hz⟩ : ∃ z, Keep (z = goInt ByteArray.empty.size) := ⟨_, ⟨rfl⟩⟩
  rw [← hz.out] at hcs
  unfold err
  go_wp2_with (first | (refine wpList_load_row rfl 101 (.tmp 4) rfl (w.heap.size + 1) rfl 101 (bytesA 32 c) (0, 0) (.array 32 5) HH2.out Try.underlying101 rfl (Try.size101B _) ?_) | (refine wpList_store_row rfl 101 (.tmp 2) (.tmp 15) rfl w.heap.size (bytesA 32 c) rfl rfl 101 (bytesA 32 c) HR2.out (Try.size101B _) (bytesA_sizes _ _ _) (bytesA_one _ _) ?_))
  refine bodyPost_ret (v := .tuple #[.agg (bytesA 32 c), err q]) (results_cell_row2 Try.results107 _ _ w.heap.size 101 _ (0, 0) _ _ rfl rfl (HR2.out.setRow _) Try.underlying101 rfl (Try.size101B _)) rfl ?_
  refine ⟨by rw [hcd.out], ?_⟩
  rw [hw2.out]
  exact below_setRow (below_setRow HB1.out (by omega) _) (Nat.le_refl _) _

set_option maxRecDepth 8000 in
set_option maxHeartbeats 1000000 in
theorem iend_good (p : Nat) (s : ByteArray) (a : Nat) (w : World) (h : InAt w p s a none) (hb : s.size ≤ 140737488355328) (W : Int) (hW : W = if a < s.size then 23 else 0) :
    Calls Try.prog 67 #[ptr p] w fun e w' => ∃ bad er, e = .returned er ∧ InAt w' p s a bad ∧ (Grown w w' fun k => k = p) ∧ ErrAs w w' W a bad er := by
  have HI := Keep.mk h
  have HS := Keep.mk hb
  have c2 : w.cell? ⟨p, 2, none⟩ = some (.pointer none) := by rw [h.blk.cell]; rfl
  have hle := h.le
  by_cases hlt : a < s.size
  · have HW : W = 23 := by rw [hW, if_pos hlt]
    have h1 : (0 : Int) < (s.size : Int) - a := by omega
    subst HW
    clear h hb hW hle
    go_enter Try.func67, Try.ntmps67
    go_wp2_with fail
    refine (ileft_any p s a none w HI.out HS.out).mono ?_
    rintro e w1 ⟨rfl, q, hw1⟩
    have HI1 : Keep (InAt w1 p s a none) := ⟨by rw [hw1]; exact ⟨HI.out.blk.drewN q, HI.out.le⟩⟩
    have HG1 : Keep (Grown w w1 fun k => k = p) := ⟨by rw [hw1]; exact (Grown.refl w _).drewN q⟩
    clear hw1 c2
    go_wp2_with fail
    refine (ifail_any p s a 23 w1 HI1.out).mono ?_
    rintro e w2 ⟨rfl, h3, h4, h5⟩
    have HP := Keep.mk (And.intro h3 (And.intro h4 h5))
    clear h3 h4 h5
    go_wp2
    go_ret
    exact ⟨some w1.heap.size, err w1.heap.size, rfl, HP.out.1, HG1.out.trans HP.out.2.2, .inr ⟨by decide, w1.heap.size, HG1.out.size, rfl, rfl, HP.out.2.1⟩⟩
  · have HW : W = 0 := by rw [hW, if_neg hlt]
    have h1 : ¬ (0 : Int) < (s.size : Int) - a := by omega
    subst HW
    clear h hb hW hle
    go_enter Try.func67, Try.ntmps67
    go_wp2_with fail
    refine (ileft_any p s a none w HI.out HS.out).mono ?_
    rintro e w1 ⟨rfl, q, hw1⟩
    have HI1 : Keep (InAt w1 p s a none) := ⟨by rw [hw1]; exact ⟨HI.out.blk.drewN q, HI.out.le⟩⟩
    have HG1 : Keep (Grown w w1 fun k => k = p) := ⟨by rw [hw1]; exact (Grown.refl w _).drewN q⟩
    clear hw1 c2
    go_wp2
    go_ret
    exact ⟨none, .nilIface, rfl, HI1.out, HG1.out, .inl ⟨rfl, rfl, rfl⟩⟩
set_option maxRecDepth 8000 in
set_option maxHeartbeats 1000000 in
theorem iend_bad (p : Nat) (s : ByteArray) (a q : Nat) (w : World) (h : InAt w p s a (some q)) :
    Calls Try.prog 67 #[ptr p] w fun e w' => e = .returned (err q) ∧ w' = w := by
  have c2 : w.cell? ⟨p, 2, none⟩ = some (ptr q) := by rw [h.blk.cell]; rfl
  clear h
  go_enter Try.func67, Try.ntmps67
  go_wp2
  go_ret
  exact ⟨rfl, rfl⟩
set_option maxRecDepth 8000 in
set_option maxHeartbeats 1000000 in
theorem newIn_any (v : Value) (l : List Int) (w : World) (hr : RowAt w v l) :
    Calls Try.prog 36 #[v] w fun e w' => e = .returned (ptr w.heap.size) ∧ w' = w.alloc (.cells #[.string (strOfNums l), .int .i64 0, .pointer none] 118) := by
  have hc := conv_row v l w hr
  clear hr
  go_enter Try.func36, Try.ntmps36
  go_wp2
  go_ret
  exact ⟨rfl, rfl⟩
theorem inAt_new (w : World) (s : ByteArray) : InAt (w.alloc (.cells #[.string s, .int .i64 0, .pointer none] 118)) w.heap.size s 0 none := ⟨Blk.new _ _ _, Nat.zero_le _⟩
end Go.Proofs.Ytlogkojhcccogaa
namespace Go.Proofs.Ytlogkojhcccogaa
open Go.RowKit

theorem wp_val {P : Program} {Q : Exit → Act → World → Prop} {o : Oper} {a : Act} {w : World} {K : Act → World → Prop} (v : Value) (hrun : (execOp a.eval o).run P w = .ok (.value v) w) (h : K (a.put o.dst v) w) : o.wp P a w K Q := by
  unfold Oper.wp
  rw [hrun]
  exact h
theorem Try.enter28 (w : World) (vs : Array Value) : (callFunc 28 vs).run Try.prog w = .ok (.enter 28 vs) w := by kernel_rfl
theorem Try.enter63 (w : World) (vs : Array Value) : (callFunc 63 vs).run Try.prog w = .ok (.enter 63 vs) w := by kernel_rfl
theorem Try.elem25 : Try.prog.elem 25 = 5 := by kernel_rfl
theorem Try.sizeOf5 (w : World) : (sizeOf 5).run Try.prog w = .ok 1 w := by kernel_rfl
theorem yieldsIf_slice {P : Program} {ops : Array Oper} {S : World → Prop} {op : Oper} {a : Act} (hw : Region.wanted op (yielded ops a.tmps) = true) (t : TypeId) (x hi : Operand) (ho : op.op = .slice t x none (some hi) none)
    (vx vh vs : Value) (hx : a.eval x = vx) (hh : a.eval hi = vh) (hr : ∀ w : World, (Instr.sliceAt t vx none (some vh) none).run P w = .ok vs w) : YieldsIf P ops S op vs a :=
  .inl ⟨hw, fun w _ => by
    unfold execOp
    simp only [ho, hx, hh, Option.map_some, Option.map_none, Sem.run_bind, hr w, Result.andThen_ok, Sem.run_pure]⟩
theorem sl_run (base : Option Addr) (n cap a : Nat) (ha : a ≤ cap) (wx : World) : (Instr.sliceAt 25 (.slice base n cap) none (some (.int .i64 (a : Int))) none).run Try.prog wx = .ok (.slice base a cap) wx := by
  have hu : Try.prog.underlying 25 = some (.slice (Try.prog.elem 25)) := by rw [Try.elem25]; exact Try.underlying25
  have h1 := run_slice_h (P := Try.prog) (w := wx) 25 base n cap hu .i64 (a : Int) (by omega) (by omega)
  have h2 := run_sliceAt_slice (P := Try.prog) (w := wx) 25 (.slice base n cap) none (some (.int .i64 (a : Int))) none hu
  rw [Try.elem25] at h1
  have h3 : sliced base 0 (a : Int).toNat cap 1 = .slice base a cap := by
    have h4 : (if cap = 0 then base else base.map (·.add (0 * 1))) = base := by
      split
      · rfl
      · cases base <;> rfl
    unfold sliced
    rw [h4, Int.toNat_natCast, Nat.sub_zero, Nat.sub_zero]
  rw [h2, h1]
  refine (congrArg (fun z => Result.andThen z fun s w => Result.ok (sliced base 0 (a : Int).toNat cap s) w) (Try.sizeOf5 wx)).trans ?_
  show Result.ok (sliced base 0 (a : Int).toNat cap 1) wx = _
  rw [h3]
/-- The head of a row. -/
theorem sub_any (vb : Value) (lb : List Int) (w : World) (hr : RowAt w vb lb) (a : Nat) (ha : a ≤ lb.length) :
    ∃ vs, (∀ wx : World, (Instr.sliceAt 25 vb none (some (.int .i64 (a : Int))) none).run Try.prog wx = .ok vs wx) ∧ ∀ wx, RowAt wx vb lb → RowAt wx vs (lb.take a) := by
  rcases hr with ⟨rfl, rfl⟩ | ⟨ad, c, rfl, rfl⟩ | ⟨h, off, cap, rfl, hc, _⟩
  · obtain rfl : a = 0 := by simpa using ha
    exact ⟨_, sl_run none 0 0 0 (by omega), fun wx h => by simpa using h⟩
  · obtain rfl : a = 0 := by simpa using ha
    exact ⟨_, sl_run (some ad) 0 c 0 (by omega), fun wx h => by simpa using h⟩
  · refine ⟨_, sl_run (some ⟨h, off, none⟩) lb.length cap a (by omega), fun wx hx => ?_⟩
    rcases hx with ⟨e, _⟩ | ⟨ad, c, e, rfl⟩ | ⟨h', off', cap', e, _, h3⟩
    · cases e
    · obtain rfl : a = 0 := by simpa using ha
      exact .inr (.inl ⟨_, _, rfl, by simp⟩)
    · injection e with e1 e2 e3
      injection e1 with e1
      injection e1 with e1 e4
      subst e1 e3 e4
      have hl : (lb.take a).length = a := by rw [List.length_take]; omega
      refine .inr (.inr ⟨h, off, cap, by rw [hl], by omega, fun i hi => ?_⟩)
      rw [hl] at hi
      rw [h3 i (by omega)]
      simp [List.getD_eq_getElem?_getD, hi]
/-- Numbers in a slice. -/
structure IntsAt (w : World) (v : Value) (m : Nat) (K : Nat → Int) : Prop where
  form : (∃ a c, v = .slice a 0 c ∧ m = 0) ∨ ∃ q o cap, v = .slice (some ⟨q, o, none⟩) m cap ∧ ∀ i, i < m → w.cell? ⟨q, o + i, none⟩ = some (.int .i64 (K i))
theorem IntsAt.sl {w : World} {v : Value} {m : Nat} {K : Nat → Int} (h : IntsAt w v m K) : ∃ a c, v = .slice a m c := by
  rcases h.form with ⟨a, c, rfl, rfl⟩ | ⟨q, o, cap, rfl, _⟩
  · exact ⟨_, _, rfl⟩
  · exact ⟨_, _, rfl⟩
theorem IntsAt.at {w : World} {a : Option Addr} {m c : Nat} {K : Nat → Int} (h : IntsAt w (.slice a m c) m K) {t : Nat} (ht : t < m) : ∃ q o, a = some ⟨q, o, none⟩ ∧ w.cell? ⟨q, o + t, none⟩ = some (.int .i64 (K t)) := by
  rcases h.form with ⟨_, _, _, h2⟩ | ⟨q, o, cap, h1, h2⟩
  · omega
  · injection h1 with h1 h3 h4
    exact ⟨q, o, h1, h2 t ht⟩

end Go.Proofs.Ytlogkojhcccogaa
namespace Go.Proofs.Ytlogkojhcccogaa
open Go.RowKit

def ev (why at_ : Int) : Array Value := #[.int .i64 why, .int .i64 at_]
theorem Try.new41 (w : World) : (Instr.alloc 41 true (.tuple #[])).run Try.prog w = .ok (.pointer (some ⟨w.heap.size, 0, none⟩)) (w.alloc (.cells #[.int .i64 0, .int .i64 0] 41)) := by kernel_rfl
theorem Try.size41 : (Try.prog.info? 41).map (·.size) = some 2 := by kernel_rfl

theorem assert22 (v : Value) (W : World) : (Instr.typeAssert (.iface 116 v) 37 116 true).run Try.prog W = .ok (.tuple #[v, .bool true]) W := by kernel_rfl
/-- The facts of a fixed row. -/
theorem num300 : numL 300 = [172, 2] := by decide
theorem num1 : numL (zig (-1)) = [1] := by decide
theorem bfab : bform (lst { data := #[97, 98] }) = [2, 97, 98] := by decide
theorem fst300 : fstM [172, 2, 128] 300 = (300, 2, 0) := by decide
theorem fst9 : fstM [128] 9 = (0, 0, 20) := by decide
theorem row3 (w : World) (a b c : Int) : RowAt (w.alloc (.cells #[.int .u8 a, .int .u8 b, .int .u8 c] 5)) (.slice (some ⟨w.heap.size, 0, none⟩) 3 3) [a, b, c] := by
  refine .inr (.inr ⟨w.heap.size, 0, 3, rfl, by simp, fun i hi => ?_⟩)
  rw [Nat.zero_add, (Blk.new w 5 #[.int .u8 a, .int .u8 b, .int .u8 c]).cell]
  match i, hi with
  | 0, _ => rfl
  | 1, _ => rfl
  | 2, _ => rfl

end Go.Proofs.Ytlogkojhcccogaa
namespace Go.Proofs.Ytlogkojhcccogaa
open Go.RowKit

theorem results_cell1_row {P : Program} {fn : Func} {p : Tmp} {ty : TypeId} (h : fn.results = #[.cell p ty]) (tmps : Array Value) (w : World) (g : Nat) (t : TypeId) (cs : Array Value) (fr : Nat × Nat) (d : TypeDesc)
    (hp : tmps.getD p undef = .pointer (some ⟨g, 0, none⟩)) (hg : w.heap[g]? = some (.cells cs t fr))
    (hu : P.underlying ty = some d) (hd : (match d with | .struct _ | .array _ _ => true | _ => false) = true) (hi : (P.info? ty).map (·.size) = some cs.size) :
    (results fn tmps).run P w = .ok (.agg cs) w := by
  have hr := run_loadVar_row (P := P) w g t ty cs fr d hg hu hd hi
  simp only [results, h]
  simp only [Array.getD_eq_getD_getElem?] at hp
  simp [asAddr, hp, hr]
theorem results_tmp_cell_row {P : Program} {fn : Func} {p u : Tmp} {ty : TypeId} (h : fn.results = #[.tmp u, .cell p ty]) (tmps : Array Value) (w : World) (g : Nat) (t : TypeId) (cs : Array Value) (fr : Nat × Nat) (d : TypeDesc) (y : Value)
    (hp : tmps.getD p undef = .pointer (some ⟨g, 0, none⟩)) (hy : tmps.getD u undef = y) (hg : w.heap[g]? = some (.cells cs t fr))
    (hu : P.underlying ty = some d) (hd : (match d with | .struct _ | .array _ _ => true | _ => false) = true) (hi : (P.info? ty).map (·.size) = some cs.size) :
    (results fn tmps).run P w = .ok (.tuple #[y, .agg cs]) w := by
  have hr := run_loadVar_row (P := P) w g t ty cs fr d hg hu hd hi
  simp only [results, h]
  simp only [Array.getD_eq_getD_getElem?] at hp hy
  simp [Result.andThen, asAddr, hp, hy, hr]
theorem results_cell_cell_row {P : Program} {fn : Func} {p p' : Tmp} {ty ty' : TypeId} (h : fn.results = #[.cell p ty, .cell p' ty']) (tmps : Array Value) (w : World) (g g' : Nat) (t t' : TypeId) (cs cs' : Array Value) (fr fr' : Nat × Nat) (d d' : TypeDesc)
    (hp : tmps.getD p undef = .pointer (some ⟨g, 0, none⟩)) (hp' : tmps.getD p' undef = .pointer (some ⟨g', 0, none⟩)) (hg : w.heap[g]? = some (.cells cs t fr)) (hg' : w.heap[g']? = some (.cells cs' t' fr'))
    (hu : P.underlying ty = some d) (hd : (match d with | .struct _ | .array _ _ => true | _ => false) = true) (hi : (P.info? ty).map (·.size) = some cs.size)
    (hu' : P.underlying ty' = some d') (hd' : (match d' with | .struct _ | .array _ _ => true | _ => false) = true) (hi' : (P.info? ty').map (·.size) = some cs'.size) :
    (results fn tmps).run P w = .ok (.tuple #[.agg cs, .agg cs']) w := by
  have hr := run_loadVar_row (P := P) w g t ty cs fr d hg hu hd hi
  have hr' := run_loadVar_row (P := P) w g' t' ty' cs' fr' d' hg' hu' hd' hi'
  simp only [results, h]
  simp only [Array.getD_eq_getD_getElem?] at hp hp'
  simp [Result.andThen, asAddr, hp, hp', hr, hr']

/-- The document's reader at x: it stands at a; what is wrong, and where. -/
def RfAt (w : World) (x : Nat) (vB : Value) (a : Nat) (why b : Int) : Prop := Blk w x 83 #[vB, .int .i64 (a : Int), .int .i64 why, .int .i64 b]
theorem RfAt.c0 {w : World} {x : Nat} {vB : Value} {a : Nat} {why b : Int} (h : RfAt w x vB a why b) : w.cell? ⟨x, 0, none⟩ = some vB := by rw [Blk.cell h]; rfl
theorem RfAt.c1 {w : World} {x : Nat} {vB : Value} {a : Nat} {why b : Int} (h : RfAt w x vB a why b) : w.cell? ⟨x, 1, none⟩ = some (.int .i64 (a : Int)) := by rw [Blk.cell h]; rfl
theorem RfAt.c2 {w : World} {x : Nat} {vB : Value} {a : Nat} {why b : Int} (h : RfAt w x vB a why b) : w.cell? ⟨x, 2, none⟩ = some (.int .i64 why) := by rw [Blk.cell h]; rfl
theorem RfAt.c3 {w : World} {x : Nat} {vB : Value} {a : Nat} {why b : Int} (h : RfAt w x vB a why b) : w.cell? ⟨x, 3, none⟩ = some (.int .i64 b) := by rw [Blk.cell h]; rfl

set_option maxRecDepth 8000 in
set_option maxHeartbeats 400000 in
theorem xleft_any (x : Nat) (va : Option Addr) (n vc a : Nat) (why b : Int) (w : World) (h : RfAt w x (.slice va n vc) a why b) (ha : a ≤ n) (hb : n ≤ 140737488355328) :
    Calls Try.prog 69 #[ptr x] w fun e w' => e = .returned (.int .i64 ((n : Int) - a)) ∧ ∃ q, w' = w.drewN q := by
  have c0 := h.c0
  have c1 := h.c1
  have h1 : (a : Int) ≤ (n : Int) := by omega
  have h2 : (n : Int) ≤ 140737488355328 := by omega
  clear h hb ha
  go_enter Try.func69, Try.ntmps69
  go_wp2
  go_quiet (fail)
  go_wp2
  go_ret
  exact ⟨rfl, nq, rfl⟩

/-- A call of the document's reader under way: the cell of its answer lies at w's end. -/
structure RS (w : World) (x : Nat) (vB : Value) (a : Nat) (why b : Int) (w1 : World) : Prop where
  rf : RfAt w1 x vB a why b
  cell : Blk w1 w.heap.size 41 #[.int .i64 0, .int .i64 0]
  gr : Grown w w1 fun k => k = x
  lt : x < w.heap.size
theorem RS.start {w : World} {x : Nat} {vB : Value} {a : Nat} {why b : Int} (h : RfAt w x vB a why b) : RS w x vB a why b (w.alloc (.cells #[.int .i64 0, .int .i64 0] 41)) :=
  ⟨Blk.alloc h _, Blk.new _ _ _, Grown.alloc _ _ _, Blk.lt h⟩
theorem RS.later {w : World} {x : Nat} {vB : Value} {a : Nat} {why b : Int} {w1 w2 : World} (h : RS w x vB a why b w1) (hb : Below w1.heap.size w1 w2) : RS w x vB a why b w2 :=
  ⟨Blk.below h.rf hb (Blk.lt h.rf), h.cell.below hb h.cell.lt, h.gr.trans (Grown.below hb), h.lt⟩
theorem RS.turned {w : World} {x : Nat} {vB : Value} {a a' : Nat} {why b why' b' : Int} {w1 w2 : World} (h : RS w x vB a why b w1) (h1 : RfAt w2 x vB a' why' b') (h2 : Grown w1 w2 fun k => k = x) : RS w x vB a' why' b' w2 :=
  ⟨h1, h2.blk h.cell (by have := h.lt; omega), h.gr.trans h2, h.lt⟩
theorem RS.fin {w : World} {x : Nat} {vB : Value} {a : Nat} {why b : Int} {w1 : World} (h : RS w x vB a why b w1) (u v : Value) :
    Blk ((w1.setCell ⟨w.heap.size, 0, none⟩ u).setCell ⟨w.heap.size, 1, none⟩ v) w.heap.size 41 #[u, v] ∧ RfAt ((w1.setCell ⟨w.heap.size, 0, none⟩ u).setCell ⟨w.heap.size, 1, none⟩ v) x vB a why b ∧ Grown w ((w1.setCell ⟨w.heap.size, 0, none⟩ u).setCell ⟨w.heap.size, 1, none⟩ v) fun k => k = x := by
  have hne : x ≠ w.heap.size := by have := h.lt; omega
  refine ⟨(h.cell.set 0 u).set 1 v, (Blk.set_ne (Blk.set_ne h.rf hne u) hne v), ?_⟩
  refine (h.gr.next (Grown.setCell w1 w.heap.size 0 u (S := fun k => k = w.heap.size) fun _ => rfl) fun i hi e => ?_).next (Grown.setCell _ w.heap.size 1 v (S := fun k => k = w.heap.size) fun _ => rfl) fun i hi e => ?_
  · omega
  · omega
theorem RS.d0 {w : World} {x : Nat} {vB : Value} {a : Nat} {why b : Int} {w1 : World} (h : RS w x vB a why b w1) : w1.cell? ⟨w.heap.size, 0, none⟩ = some (.int .i64 0) := by rw [h.cell.cell]; rfl
theorem RS.d1 {w : World} {x : Nat} {vB : Value} {a : Nat} {why b : Int} {w1 : World} (h : RS w x vB a why b w1) : w1.cell? ⟨w.heap.size, 1, none⟩ = some (.int .i64 0) := by rw [h.cell.cell]; rfl
theorem RS.step {w : World} {x : Nat} {vB : Value} {a : Nat} {why b : Int} {w1 : World} (h : RS w x vB a why b w1) (a' : Nat) : RS w x vB a' why b (w1.setCell ⟨x, 1, none⟩ (.int .i64 (a' : Int))) :=
  h.turned (Blk.set h.rf 1 _) (Grown.setCell w1 x 1 _ fun _ => rfl)

set_option maxRecDepth 8000 in
set_option maxHeartbeats 1000000 in
theorem xwrong_any (x : Nat) (vB : Value) (a : Nat) (why : Int) (w : World) (h : RfAt w x vB a 0 0) :
    Calls Try.prog 38 #[ptr x, .int .i64 why, .int .i64 (a : Int)] w fun e w' => e = .returned (.agg #[.int .i64 why, .int .i64 (a : Int)]) ∧ RfAt w' x vB a why (a : Int) ∧ Grown w w' fun k => k = x := by
  have HS := Keep.mk (RS.start h)
  have hlt := Blk.lt h
  have hne : x ≠ w.heap.size := by omega
  have hne' : w.heap.size ≠ x := by omega
  clear h
  go_enter Try.func38, Try.ntmps38
  go_wp2_with (first | (refine wpList_new rfl 41 rfl _ Try.new41 ?_; refine Hid.out ?_))
  refine hid_in ?_
  generalize w.alloc (.cells #[.int .i64 0, .int .i64 0] 41) = w1 at *
  have c1 := RfAt.c1 HS.out.rf
  have c2 := RfAt.c2 HS.out.rf
  have c3 := RfAt.c3 HS.out.rf
  have f1 := Blk.frozen HS.out.rf 1
  have f2 := Blk.frozen HS.out.rf 2
  have f3 := Blk.frozen HS.out.rf 3
  have d0 := HS.out.d0
  have d1 := HS.out.d1
  have e0 := HS.out.cell.frozen 0
  have e1 := HS.out.cell.frozen 1
  go_wp2
  have hr : RfAt (((w1.setCell ⟨x, 2, none⟩ (.int .i64 why)).setCell ⟨x, 3, none⟩ (.int .i64 (a : Int))).setCell ⟨x, 1, none⟩ (.int .i64 (a : Int))) x vB a why (a : Int) := Blk.set (Blk.set (Blk.set HS.out.rf 2 _) 3 _) 1 _
  have hf := (HS.out.turned hr (((Grown.setCell w1 x 2 _ (S := fun k => k = x) fun _ => rfl).trans (Grown.setCell _ x 3 _ (S := fun k => k = x) fun _ => rfl)).trans (Grown.setCell _ x 1 _ (S := fun k => k = x) fun _ => rfl))).fin (.int .i64 why) (.int .i64 (a : Int))
  exact bodyPost_ret (results_cell1_row Try.results38 _ _ w.heap.size 41 _ (0, 0) _ rfl hf.1 Try.underlying41 rfl Try.size41) rfl ⟨rfl, hf.2.1, hf.2.2⟩

/-- Where the document's reader has its error. -/
def ErrB (why : Int) (a : Nat) (b : Int) : Prop := (why = 0 ∧ b = 0) ∨ (why ≠ 0 ∧ b = (a : Int))
/-- What a call of the document's reader leaves. -/
def RfPost (x : Nat) (vB : Value) (why : Int) (a : Nat) (res : Value) (w : World) (e : Ending) (w' : World) : Prop :=
  ∃ b, ErrB why a b ∧ e = .returned (.tuple #[res, .agg #[.int .i64 why, .int .i64 b]]) ∧ RfAt w' x vB a why b ∧ Grown w w' fun k => k = x
/-- Where it has met an error before. -/
def RfStuck (why b : Int) (res : Value) (w : World) (e : Ending) (w' : World) : Prop :=
  e = .returned (.tuple #[res, .agg #[.int .i64 why, .int .i64 b]]) ∧ Below w.heap.size w w'
theorem below_two {B : Nat} {w w1 : World} (h : Below B w w1) {g : Nat} (hg : B ≤ g) (u v : Value) : Below B w ((w1.setCell ⟨g, 0, none⟩ u).setCell ⟨g, 1, none⟩ v) := (h.setCell hg _).setCell hg _

set_option maxRecDepth 8000 in
set_option maxHeartbeats 1000000 in
theorem xbyte_bad (x : Nat) (vB : Value) (a : Nat) (why b : Int) (w : World) (h : RfAt w x vB a why b) (hw : why ≠ 0) :
    Calls Try.prog 37 #[ptr x] w (RfStuck why b (.int .u8 0) w) := by
  have HS := Keep.mk (RS.start h)
  have HB := Keep.mk (below_new w (.cells #[.int .i64 0, .int .i64 0] 41))
  have hy1 : (why == 0) = false := by simpa using hw
  clear h
  go_enter Try.func37, Try.ntmps37
  go_wp2_with (first | (refine wpList_new rfl 41 rfl _ Try.new41 ?_; refine Hid.out ?_))
  refine hid_in ?_
  generalize w.alloc (.cells #[.int .i64 0, .int .i64 0] 41) = w1 at *
  have c2 := RfAt.c2 HS.out.rf
  have c3 := RfAt.c3 HS.out.rf
  have d0 := HS.out.d0
  have d1 := HS.out.d1
  have e0 := HS.out.cell.frozen 0
  have e1 := HS.out.cell.frozen 1
  go_wp2_with fail
  go_region
  go_wp2
  exact bodyPost_ret (results_tmp_cell_row Try.results37 _ _ w.heap.size 41 _ (0, 0) _ _ rfl rfl (HS.out.fin (.int .i64 why) (.int .i64 b)).1.drew Try.underlying41 rfl Try.size41) rfl ⟨rfl, (below_two HB.out (Nat.le_refl _) _ _).drew⟩

set_option maxRecDepth 8000 in
set_option maxHeartbeats 1000000 in
theorem xbyte_good (x : Nat) (vB : Value) (l : List Int) (a : Nat) (w : World) (h : RfAt w x vB a 0 0) (hR : ∀ wx, (Grown w wx fun k => k = x) → RowAt wx vB l) (ha : a ≤ l.length) (hb : l.length ≤ 140737488355328) (D : List Int) (hD : D = l.drop a) (W : Int) (hW : W = nextW D 1) (N : Nat) (hN : N = nextN D 1) (c : Int) (hc : c = if W = 0 then D.getD 0 0 else 0) :
    Calls Try.prog 37 #[ptr x] w (RfPost x vB W (a + N) (.int .u8 c) w) := by
  have HS := Keep.mk (RS.start h)
  have HR := Keep.mk hR
  have hlen : D.length = l.length - a := by rw [hD, List.length_drop]
  obtain ⟨va, vc, hvB⟩ := row_form (hR w (Grown.refl _ _))
  subst hvB
  rw [nextW_1] at hW
  have Hb := Keep.mk hb
  have Ha := Keep.mk ha
  by_cases hl : a = l.length
  · have HW : W = 20 := by rw [hW, if_pos (by omega)]
    have HN : N = 0 := by rw [hN]; exact nextN_1 D 1 (by rw [nextW_1, if_pos (by omega)]; decide)
    have Hc : c = 0 := by rw [hc, HW]; rfl
    subst HN
    subst Hc
    rw [HW, Nat.add_zero]
    have hli : (l.length : Int) - (a : Int) < 1 := by omega
    clear h hR hW hN hc hlen ha hb hD HW hl
    go_enter Try.func37, Try.ntmps37
    go_wp2_with (first | (refine wpList_new rfl 41 rfl _ Try.new41 ?_; refine Hid.out ?_))
    refine hid_in ?_
    generalize w.alloc (.cells #[.int .i64 0, .int .i64 0] 41) = w1 at *
    have c2 := RfAt.c2 HS.out.rf
    go_wp2_with fail
    refine (xleft_any x va l.length vc a 0 0 w1 HS.out.rf Ha.out Hb.out).mono ?_
    rintro e w2 ⟨rfl, qd, hw2⟩
    have HS2 := Keep.mk (HS.out.later (w2 := w2) (by rw [hw2]; exact below_drewN _ _))
    clear hw2 c2 HS
    have c1 := RfAt.c1 HS2.out.rf
    go_wp2_with fail
    refine (xwrong_any x _ a 20 w2 HS2.out.rf).mono ?_
    rintro e w3 ⟨rfl, hr, hg⟩
    have HS3 := Keep.mk (HS2.out.turned hr hg)
    clear hr hg HS2 c1
    have d0 := HS3.out.d0
    have d1 := HS3.out.d1
    have e0 := HS3.out.cell.frozen 0
    have e1 := HS3.out.cell.frozen 1
    go_wp2
    have hf := HS3.out.fin (.int .i64 20) (.int .i64 (a : Int))
    exact bodyPost_ret (results_tmp_cell_row Try.results37 _ _ w.heap.size 41 _ (0, 0) _ _ rfl rfl hf.1 Try.underlying41 rfl Try.size41) rfl ⟨_, .inr ⟨by decide, rfl⟩, rfl, hf.2.1, hf.2.2⟩
  · have HW : W = 0 := by rw [hW, if_neg (by omega)]
    have HN : N = 1 := by rw [hN]; exact (nextN_0 D 1 (by rw [nextW_1, if_neg (by omega)])).1
    have Hc : c = l.getD a 0 := by rw [hc, HW, if_pos rfl, hD]; simp [List.getD_eq_getElem?_getD]
    subst HN
    rw [HW]
    have hli : ¬ ((l.length : Int) - (a : Int) < 1) := by omega
    have hai : (a : Int) < (l.length : Int) := by omega
    have hbi : (l.length : Int) ≤ 140737488355328 := by omega
    have Hlt : Keep (a < l.length) := ⟨by omega⟩
    obtain ⟨gb, go, rfl⟩ : ∃ gb go, va = some ⟨gb, go, none⟩ := by
      rcases hR w (Grown.refl _ _) with ⟨_, e⟩ | ⟨_, _, _, e⟩ | ⟨g, o, _, e, _, _⟩
      · have : l.length = 0 := by rw [e]; rfl
        omega
      · have : l.length = 0 := by rw [e]; rfl
        omega
      · injection e with e1; exact ⟨g, o, e1⟩
    have HRc : Keep (∀ wx, (Grown w wx fun k => k = x) → wx.cell? ⟨gb, go + a, none⟩ = some (.int .u8 c)) := ⟨fun wx hg => by
      rcases HR.out wx hg with ⟨_, e⟩ | ⟨_, _, _, e⟩ | ⟨g, o, _, e, _, h3⟩
      · have : l.length = 0 := by rw [e]; rfl
        omega
      · have : l.length = 0 := by rw [e]; rfl
        omega
      · injection e with e1 e2
        injection e1 with e1
        injection e1 with e3 e4
        rw [e3, e4, Hc]; exact h3 a Hlt.out⟩
    clear h hR hW hN hc hlen ha hb hD HW hl Hc
    go_enter Try.func37, Try.ntmps37
    go_wp2_with (first | (refine wpList_new rfl 41 rfl _ Try.new41 ?_; refine Hid.out ?_))
    refine hid_in ?_
    generalize w.alloc (.cells #[.int .i64 0, .int .i64 0] 41) = w1 at *
    have c2 := RfAt.c2 HS.out.rf
    go_wp2_with fail
    refine (xleft_any x _ l.length vc a 0 0 w1 HS.out.rf Ha.out Hb.out).mono ?_
    rintro e w2 ⟨rfl, qd, hw2⟩
    have HS2 := Keep.mk (HS.out.later (w2 := w2) (by rw [hw2]; exact below_drewN _ _))
    clear hw2 c2 HS
    have c1 := RfAt.c1 HS2.out.rf
    have f1 := Blk.frozen HS2.out.rf 1
    go_wp2_with fail
    have HS3 := Keep.mk (HS2.out.step (a + 1))
    rw [show (((a + 1 : Nat)) : Int) = (a : Int) + 1 from rfl] at HS3
    generalize w2.setCell ⟨x, 1, none⟩ (.int .i64 ((a : Int) + 1)) = w3 at *
    have g0 := RfAt.c0 HS3.out.rf
    have g1 := RfAt.c1 HS3.out.rf
    rw [show (((a + 1 : Nat)) : Int) = (a : Int) + 1 from rfl] at g1
    have hc := HRc.out w3 HS3.out.gr
    have d0 := HS3.out.d0
    have d1 := HS3.out.d1
    have e0 := HS3.out.cell.frozen 0
    have e1 := HS3.out.cell.frozen 1
    clear c1 f1
    go_region
    go_wp2
    have hf := HS3.out.fin (.int .i64 0) (.int .i64 0)
    exact bodyPost_ret (results_tmp_cell_row Try.results37 _ _ w.heap.size 41 _ (0, 0) _ _ rfl rfl hf.1.drew Try.underlying41 rfl Try.size41) rfl ⟨_, .inl ⟨rfl, rfl⟩, rfl, Blk.drew hf.2.1, hf.2.2.drew⟩
end Go.Proofs.Ytlogkojhcccogaa
namespace Go.Proofs.Ytlogkojhcccogaa
open Go.RowKit
set_option linter.unusedSimpArgs false
set_option linter.unusedVariables false

theorem blk_range {w : World} {b : Nat} {T : TypeId} {cs : Array Value} (h : Blk w b T cs) : w.rangeAt b 0 cs.toList := fun j v hv => by
  rw [Nat.zero_add, h.cell]; simpa using hv
theorem InAt.box {w : World} {p : Nat} {s : ByteArray} {a : Nat} {bad : Option Nat} (h : InAt w p s a bad) (o : Obj) : InAt (w.alloc o) p s a bad := ⟨h.blk.alloc o, h.le⟩

theorem wpList_wanted {P : Program} {ops : Array Oper} {rest : List Oper} {o : Oper} {a : Act} {w : World} {Q : Exit → Act → World → Prop} (hw : Region.wanted o (yielded ops a.tmps) = true)
    (h : ∀ K : Act → World → Prop, (∀ a w, wpList P ops Q rest a w → K a w) → o.wp P a w K Q) : wpList P ops Q (o :: rest) a w :=
  wpList_step fun K hK => by rw [if_pos hw]; exact h K hK
theorem wpList_load_midG {P : Program} {ops : Array Oper} {rest : List Oper} {op : Oper} {a : Act} {w : World} {Q : Exit → Act → World → Prop} (hw : Region.wanted op (yielded ops a.tmps) = true) (ty : TypeId) (x : Operand) (ho : op.op = .load ty x)
    (b o : Nat) (hx : a.eval x = .pointer (some ⟨b, o, none⟩)) (cs : List Value) (d : TypeDesc) (hc : w.rangeAt b o cs)
    (hu : P.underlying ty = some d) (hd : d.isRow = true) (hi : (P.info? ty).map (·.size) = some cs.length)
    (h : wpList P ops Q rest (a.put op.dst (.agg cs.toArray)) w) : wpList P ops Q (op :: rest) a w :=
  wpList_wanted hw fun _ hK => wp_load_mid ty x ho b o hx cs d hc hu hd hi (hK _ _ h)

theorem wp_bldG {P : Program} {o : Oper} {a : Act} {w : World} {K : Act → World → Prop} {Q : Exit → Act → World → Prop} (t : TypeId) (parts : Array (Nat × Operand)) (ho : o.op = .build t parts)
    (cells : Array Value) (hf : P.built t (parts.map fun (i, x) => (i, a.eval x)).toList = some cells) (h : K (a.put o.dst (.agg cells)) w) : o.wp P a w K Q :=
  wp_build t parts ho (by rw [hf]; rfl) (by rw [hf]; exact h)

/-- A list of operations yet to do, kept from every look behind its name. -/
structure WL (P : Program) (ops : Array Oper) (Q : Exit → Act → World → Prop) (l : List Oper) (a : Act) (w : World) : Prop where
  out : wpList P ops Q l a w
theorem WL.skip {P : Program} {ops : Array Oper} {rest : List Oper} {o : Oper} {a : Act} {w : World} {Q : Exit → Act → World → Prop} (hw : Region.wanted o (yielded ops a.tmps) = false)
    (h : WL P ops Q rest (a.put o.dst undef) w) : WL P ops Q (o :: rest) a w :=
  ⟨wpList_step fun K hK => by rw [if_neg (by rw [hw]; simp)]; exact hK _ _ h.out⟩
theorem WL.val {P : Program} {ops : Array Oper} {rest : List Oper} {o : Oper} {a : Act} {w : World} {Q : Exit → Act → World → Prop} (hw : Region.wanted o (yielded ops a.tmps) = true) (v : Value)
    (hrun : (execOp a.eval o).run P w = .ok (.value v) w) (h : WL P ops Q rest (a.put o.dst v) w) : WL P ops Q (o :: rest) a w :=
  ⟨wpList_wanted hw fun _ hK => wp_val v hrun (hK _ _ h.out)⟩
theorem WL.nil {P : Program} {ops : Array Oper} {a : Act} {w : World} {Q : Exit → Act → World → Prop} (h : Q .normal a w) : WL P ops Q [] a w := ⟨h⟩
theorem WL.mid {P : Program} {ops : Array Oper} {rest : List Oper} {op : Oper} {a : Act} {w : World} {Q : Exit → Act → World → Prop} (hw : Region.wanted op (yielded ops a.tmps) = true) (ty : TypeId) (x : Operand) (ho : op.op = .load ty x)
    (b o : Nat) (hx : a.eval x = .pointer (some ⟨b, o, none⟩)) (cs : List Value) (d : TypeDesc) (hc : w.rangeAt b o cs)
    (hu : P.underlying ty = some d) (hd : d.isRow = true) (hi : (P.info? ty).map (·.size) = some cs.length)
    (h : WL P ops Q rest (a.put op.dst (.agg cs.toArray)) w) : WL P ops Q (op :: rest) a w :=
  ⟨wpList_wanted hw fun _ hK => wp_load_mid ty x ho b o hx cs d hc hu hd hi (hK _ _ h.out)⟩
theorem WL.call {P : Program} {ops : Array Oper} {rest : List Oper} {o : Oper} {a : Act} {w : World} {Q : Exit → Act → World → Prop} (hw : Region.wanted o (yielded ops a.tmps) = true)
    (h : ∀ K : Act → World → Prop, (∀ a w, WL P ops Q rest a w → K a w) → o.wp P a w K Q) : WL P ops Q (o :: rest) a w :=
  ⟨wpList_wanted hw fun K hK => h K fun a w h => hK a w h.out⟩

section
variable {P : Program} {ops : Array Oper} {rest : List Oper} {o : Oper} {a : Act} {w : World} {Q : Exit → Act → World → Prop}
theorem WL.row (hw : Region.wanted o (yielded ops a.tmps) = true) (ty : TypeId) (x : Operand) (ho : o.op = .load ty x)
    (b : Nat) (hx : a.eval x = .pointer (some ⟨b, 0, none⟩)) (t : TypeId) (cs : Array Value) (d : TypeDesc) (hc : Blk w b t cs)
    (hu : P.underlying ty = some d) (hd : d.isRow = true) (hi : (P.info? ty).map (·.size) = some cs.size)
    (h : WL P ops Q rest (a.put o.dst (.agg cs)) w) : WL P ops Q (o :: rest) a w :=
  WL.mid hw ty x ho b 0 hx cs.toList d (blk_range hc) hu hd (by rw [Array.length_toList]; exact hi) (by rw [Array.toArray_toList]; exact h)
theorem WL.midA (hw : Region.wanted o (yielded ops a.tmps) = true) (ty : TypeId) (x : Operand) (ho : o.op = .load ty x)
    (b of : Nat) (hx : a.eval x = .pointer (some ⟨b, of, none⟩)) (cs : Array Value) (d : TypeDesc) (hc : w.rangeAt b of cs.toList)
    (hu : P.underlying ty = some d) (hd : d.isRow = true) (hi : (P.info? ty).map (·.size) = some cs.size)
    (h : WL P ops Q rest (a.put o.dst (.agg cs)) w) : WL P ops Q (o :: rest) a w :=
  WL.mid hw ty x ho b of hx cs.toList d hc hu hd (by rw [Array.length_toList]; exact hi) (by rw [Array.toArray_toList]; exact h)
theorem WL.new (hw : Region.wanted o (yielded ops a.tmps) = true) (t : TypeId) (ho : o.op = .alloc t) (cells : Array Value)
    (hf : ∀ w : World, (Instr.alloc t true (.tuple #[])).run P w = .ok (.pointer (some ⟨w.heap.size, 0, none⟩)) (w.alloc (.cells cells t)))
    (h : WL P ops Q rest (a.put o.dst (.pointer (some ⟨w.heap.size, 0, none⟩))) (w.alloc (.cells cells t))) : WL P ops Q (o :: rest) a w :=
  ⟨wpList_wanted hw fun K hK => by
    unfold Oper.wp execOp
    simp only [ho, Sem.run_bind, hf w, Result.andThen_ok]
    exact hK _ _ h.out⟩
theorem WL.box (hw : Region.wanted o (yielded ops a.tmps) = true) (t : TypeId) (x : Operand) (ho : o.op = .box t x) (cs : Array Value) (hx : a.eval x = .agg cs)
    (h : WL P ops Q rest (a.put o.dst (.pointer (some ⟨w.heap.size, 0, none⟩))) (w.alloc (.cells cs t))) : WL P ops Q (o :: rest) a w :=
  ⟨wpList_wanted hw fun K hK => by
    unfold Oper.wp execOp
    simp only [ho, hx, Sem.run_bind, run_box_agg, Result.andThen_ok]
    exact hK _ _ h.out⟩
theorem WL.storeR (hw : Region.wanted o (yielded ops a.tmps) = true) (ty : TypeId) (x y : Operand) (ho : o.op = .store ty x y)
    (g : Nat) (cells : Array Value) (hx : a.eval x = .pointer (some ⟨g, 0, none⟩)) (hy : a.eval y = .agg cells)
    (t : TypeId) (old : Array Value) (hg : Blk w g t old) (hi : (P.info? ty).map (·.size) = some cells.size) (hold : old.size = cells.size) (h1 : cells.all (·.oneCell') = true)
    (h : WL P ops Q rest (a.put o.dst undef) (w.setRow g cells)) : WL P ops Q (o :: rest) a w :=
  ⟨wpList_wanted hw fun _ hK => wp_store_row ty x y ho g cells hx hy t old hg hi hold h1 (hK _ _ h.out)⟩
theorem WL.cell (hw : Region.wanted o (yielded ops a.tmps) = true) (w' : World) (hrun : (execOp a.eval o).run P w = .ok .skip w')
    (h : WL P ops Q rest (a.put o.dst undef) w') : WL P ops Q (o :: rest) a w :=
  ⟨wpList_wanted hw fun _ hK => by unfold Oper.wp; rw [hrun, Oper.upon_skip]; exact hK _ _ h.out⟩
theorem WL.valW (hw : Region.wanted o (yielded ops a.tmps) = true) (v : Value) (w' : World) (hrun : (execOp a.eval o).run P w = .ok (.value v) w')
    (h : WL P ops Q rest (a.put o.dst v) w') : WL P ops Q (o :: rest) a w :=
  ⟨wpList_wanted hw fun _ hK => by unfold Oper.wp; rw [hrun, Oper.upon_value]; exact hK _ _ h.out⟩
theorem WL.bld (hw : Region.wanted o (yielded ops a.tmps) = true) (t : TypeId) (parts : Array (Nat × Operand)) (ho : o.op = .build t parts)
    (vs : List (Nat × Value)) (hv : (parts.map fun (i, x) => (i, a.eval x)).toList = vs) (cells : Array Value) (hf : P.built t vs = some cells)
    (h : WL P ops Q rest (a.put o.dst (.agg cells)) w) : WL P ops Q (o :: rest) a w :=
  ⟨wpList_wanted hw fun _ hK => wp_bldG t parts ho cells (by rw [hv]; exact hf) (hK _ _ h.out)⟩
theorem WL.bs (hw : Region.wanted o (yielded ops a.tmps) = true) (t : TypeId) (n : Nat) (parts : Array (Nat × Operand)) (ho : o.op = .buildSlice t n parts)
    (vs : Array (Nat × Value)) (hv : (parts.map fun (i, x) => (i, a.eval x)) = vs) (v : Value) (w' : World) (hrun : (Instr.buildSlice t n vs).run P w = .ok v w')
    (h : WL P ops Q rest (a.put o.dst v) w') : WL P ops Q (o :: rest) a w :=
  ⟨wpList_wanted hw fun K hK => by
    unfold Oper.wp execOp
    simp only [ho, hv, Sem.run_bind, hrun, Result.andThen_ok]
    exact hK _ _ h.out⟩
/-- A whole value into a part of a block. -/
theorem WL.part (hw : Region.wanted o (yielded ops a.tmps) = true) (ty : TypeId) (x y : Operand) (ho : o.op = .store ty x y)
    (g off : Nat) (cells : Array Value) (hx : a.eval x = .pointer (some ⟨g, off, none⟩)) (hy : a.eval y = .agg cells)
    (t : TypeId) (cur : Array Value) (hg : Blk w g t cur) (hi : (P.info? ty).map (·.size) = some cells.size) (hfit : off + cells.size ≤ cur.size) (h1 : cells.all (·.oneCell') = true)
    (new : Array Value) (hn : (cur.toList.take off ++ cells.toList ++ cur.toList.drop (off + cells.size)).toArray = new)
    (h : WL P ops Q rest (a.put o.dst undef) (w.setRow g new)) : WL P ops Q (o :: rest) a w := by
  subst hn
  refine ⟨wpList_wanted hw fun K hK => ?_⟩
  have hst := run_storeCells_at P g off t cells.toList 0 cur w hg (by simpa using hfit) (fun v hv => (Array.all_eq_true_iff_forall_mem.1 h1) v (by simpa using hv))
  have hrun : (storeVar ty ⟨g, off, none⟩ (.agg cells)).run P w = .ok () (w.setRow g (cur.toList.take off ++ cells.toList ++ cur.toList.drop (off + cells.size)).toArray) := by
    cases hq : P.info? ty with
    | none => simp [hq] at hi
    | some i =>
      have hs : cells.size = i.size := by simp [hq] at hi; omega
      simp only [Nat.add_zero, Array.length_toList] at hst
      simp [storeVar, sizeOf, typeInfo, hq, Value.cells, hs, hst]
  unfold Oper.wp execOp
  simp only [ho, hx, hy, Instr.storeAt, Instr.sureAddr, Sem.run_bind, Sem.run_pure, Result.andThen_ok, hrun]
  exact hK _ _ h.out
/-- The step into a call of a Go function of the text. -/
theorem run_callF (a : Act) (o : Oper) (f : FuncId) (args : Array Operand) (ts : Array TypeId) (ho : o.op = .call { callee := .value (.func f), args := args, argTypes := ts })
    (hf : ∀ (w : World) (vs : Array Value), (callFunc f vs).run P w = .ok (.enter f vs) w) (w : World) :
    (execOp a.eval o).run P w = .ok (.enter f (args.map a.eval)) w := by
  unfold execOp
  simp only [ho]
  simp [resolve, Act.eval, go_sem]
  exact hf w _
theorem run_callV (a : Act) (o : Oper) (f : FuncId) (x : Operand) (args : Array Operand) (ts : Array TypeId) (ho : o.op = .call { callee := .value x, args := args, argTypes := ts }) (hx : a.eval x = .func (.func f) #[] #[])
    (hf : ∀ (w : World) (vs : Array Value), (callFunc f vs).run P w = .ok (.enter f vs) w) (w : World) :
    (execOp a.eval o).run P w = .ok (.enter f (args.map a.eval)) w := by
  unfold execOp
  simp only [ho, resolve, hx]
  generalize Array.map a.eval args = vs
  simp [go_sem]
  exact hf w _
/-- A call, by its contract. -/
theorem WL.callF (hw : Region.wanted o (yielded ops a.tmps) = true) (f : FuncId) (args : Array Operand) (ts : Array TypeId) (ho : o.op = .call { callee := .value (.func f), args := args, argTypes := ts })
    (hf : ∀ (w : World) (vs : Array Value), (callFunc f vs).run P w = .ok (.enter f vs) w) (vs : Array Value) (hvs : args.map a.eval = vs)
    (hc : Calls P f vs w fun e w' => ∃ v, e = .returned v ∧ WL P ops Q rest (a.put o.dst v) w') : WL P ops Q (o :: rest) a w :=
  ⟨wpList_wanted hw fun K hK => by
    unfold Oper.wp
    rw [run_callF a o f args ts ho hf w, Oper.upon_enter, hvs]
    refine hc.mono ?_
    rintro e w' ⟨v, rfl, hr⟩
    exact hK _ _ hr.out⟩
theorem WL.callV (hw : Region.wanted o (yielded ops a.tmps) = true) (f : FuncId) (x : Operand) (args : Array Operand) (ts : Array TypeId) (ho : o.op = .call { callee := .value x, args := args, argTypes := ts }) (hx : a.eval x = .func (.func f) #[] #[])
    (hf : ∀ (w : World) (vs : Array Value), (callFunc f vs).run P w = .ok (.enter f vs) w) (vs : Array Value) (hvs : args.map a.eval = vs)
    (hc : Calls P f vs w fun e w' => ∃ v, e = .returned v ∧ WL P ops Q rest (a.put o.dst v) w') : WL P ops Q (o :: rest) a w :=
  ⟨wpList_wanted hw fun K hK => by
    unfold Oper.wp
    rw [run_callV a o f x args ts ho hx hf w, Oper.upon_enter, hvs]
    refine hc.mono ?_
    rintro e w' ⟨v, rfl, hr⟩
    exact hK _ _ hr.out⟩
end
theorem Blk.c {w : World} {b : Nat} {T : TypeId} {cs : Array Value} (h : Blk w b T cs) (j : Nat) {v : Value} (hv : cs[j]? = some v) : w.cell? ⟨b, j, none⟩ = some v := by rw [h.cell]; exact hv

/-- A call of function f at 'Oper.wp'. -/
theorem wp_callF {P : Program} {Q : Exit → Act → World → Prop} {o : Oper} {a : Act} {w : World} {K : Act → World → Prop} (f : FuncId) (args : Array Operand) (ts : Array TypeId) (ho : o.op = .call { callee := .value (.func f), args := args, argTypes := ts })
    (hf : ∀ (w : World) (vs : Array Value), (callFunc f vs).run P w = .ok (.enter f vs) w)
    (vs : Array Value) (hvs : args.map a.eval = vs)
    (R : Value → World → Prop) (hc : Calls P f vs w fun e w' => ∃ v, e = .returned v ∧ R v w')
    (h : ∀ v w', R v w' → K (a.put o.dst v) w') : o.wp P a w K Q := by
  unfold Oper.wp
  rw [run_callF a o f args ts ho hf w, Oper.upon_enter, hvs]
  refine hc.mono ?_
  rintro e w' ⟨v, rfl, hr⟩
  exact h v w' hr

theorem range_lt {w : World} {b o : Nat} {cs : List Value} (h : w.rangeAt b o cs) (h0 : 0 < cs.length) : b < w.heap.size := by
  have := h 0 cs[0] (by simp)
  exact cell_lt this
theorem range_grown {w w' : World} {b o : Nat} {cs : List Value} {S : Nat → Prop} (h : w.rangeAt b o cs) (hg : Grown w w' S) (hs : ¬ S b) : w'.rangeAt b o cs := fun j v hv => hg.cell (h j v hv) hs

section
variable {P : Program} {ops : Array Oper} {rest : List Oper} {o : Oper} {a : Act} {w : World} {Q : Exit → Act → World → Prop}
/-- A call that may panic. -/
theorem WL.callP (hw : Region.wanted o (yielded ops a.tmps) = true) (f : FuncId) (args : Array Operand) (ts : Array TypeId) (ho : o.op = .call { callee := .value (.func f), args := args, argTypes := ts })
    (hf : ∀ (w : World) (vs : Array Value), (callFunc f vs).run P w = .ok (.enter f vs) w) (vs : Array Value) (hvs : args.map a.eval = vs)
    (hc : Calls P f vs w fun e w' => (∃ v, e = .returned v ∧ WL P ops Q rest (a.put o.dst v) w') ∨ (∃ ch, e = .panicked ch ∧ Q (.panic ch) a w')) : WL P ops Q (o :: rest) a w :=
  ⟨wpList_wanted hw fun K hK => by
    unfold Oper.wp
    rw [run_callF a o f args ts ho hf w, Oper.upon_enter, hvs]
    refine hc.mono ?_
    rintro e w' (⟨v, rfl, hr⟩ | ⟨ch, rfl, hr⟩)
    · exact hK _ _ hr.out
    · exact hr⟩
theorem WL.panic (hw : Region.wanted o (yielded ops a.tmps) = true) (x : Operand) (ho : o.op = .panic x) (t : TypeId) (v : Value) (hx : a.eval x = .iface t v)
    (h : Q (.panic [{ v := .iface t v, recovered := false }]) a w) : WL P ops Q (o :: rest) a w :=
  ⟨wpList_wanted hw fun K hK => by
    unfold Oper.wp execOp
    simp only [ho, hx, Sem.run_bind, run_panic_iface]
    exact h⟩
end

theorem wpAnyH_weaken {P : Program} {md : Region.Mode} {ops : Array Oper} {Q : Exit → Act → World → Prop} {S S' : World → Prop} (h : ∀ w, S' w → S w) : ∀ (fuel : Nat) (listed : Array Bool) (a : Act) (w : World), wpAnyH P md ops Q S' fuel listed a w → wpAnyH P md ops Q S fuel listed a w
  | 0, _, _, _, h1 => h1
  | fuel + 1, _, _, _, h1 => ⟨h1.1, fun i hi => wpOp_mono (fun a' w' h2 => ⟨h w' h2.1, wpAnyH_weaken h fuel _ a' w' h2.2⟩) (h1.2 i hi)⟩
end Go.Proofs.Ytlogkojhcccogaa
namespace Go.Proofs.Ytlogkojhcccogaa
open Go.RowKit
set_option linter.unusedSimpArgs false
set_option linter.unusedVariables false

/-! ### Forms: there, and back. -/
theorem drop_next {L e r : List Int} {a : Nat} (h : L.drop a = e ++ r) : L.drop (a + e.length) = r := by
  rw [← List.drop_drop, h, List.drop_left]
/-- A proper beginning of two rows: of the first alone, or all of it and a beginning of the second. -/
theorem pre_split {D more A B : List Int} (h : D ++ more = A ++ B) : (∃ s, s ≠ [] ∧ D ++ s = A) ∨ (∃ E, D = A ++ E ∧ E ++ more = B) := by
  rcases List.append_eq_append_iff.1 h with ⟨s, h1, h2⟩ | ⟨E, h1, h2⟩
  · by_cases hs : s = []
    · subst hs
      exact .inr ⟨[], by rw [List.append_nil]; simpa using h1.symm, by simpa using h2⟩
    · exact .inl ⟨s, hs, h1.symm⟩
  · exact .inr ⟨E, h1, h2.symm⟩
theorem fst_num (X : Nat) (hX : X < 18446744073709551616) (rest : List Int) (most : Int) (h : (X : Int) ≤ most) : fstM (numL X ++ rest) most = ((X : Int), ((numL X).length : Int), 0) := by
  unfold fstM
  rw [fstG_numL X hX rest, if_neg]
  rintro ⟨_, h2⟩
  simp only at h2
  omega
theorem fst_form (D : List Int) (most : Int) (hB : Byts D) (h : (fstM D most).2.2 = 0) : ∃ x : Nat, x < 18446744073709551616 ∧ (x : Int) ≤ most ∧ (fstM D most).1 = x ∧ (fstM D most).2.1 = ((numL x).length : Int) ∧ ∃ r, D = numL x ++ r := by
  have hle := fstM_le D most hB h
  have h2 : fstM D most = fstG D 0 0 := by
    unfold fstM at h ⊢
    split at h
    · simp at h
    · rename_i hn; rw [if_neg hn]
  rw [h2] at h hle ⊢
  obtain ⟨x, h3, h4, h5, r, h6⟩ := fstG_form D _ _ hB (Prod.ext rfl (Prod.ext rfl h))
  exact ⟨x, h4, by rw [← h3]; exact hle.2, h3, h5, r, h6⟩
theorem fstG_short (f : Nat) : ∀ (i x : Nat) (y : Int) (D m : List Int), i + f = 9 → D ++ m = numF f x → m ≠ [] → fstG D i y = (0, 0, 20) := by
  induction f with
  | zero =>
    intro i x y D m _ h hm
    cases D with
    | nil => rfl
    | cons c D =>
      rw [numF, List.cons_append] at h
      injection h with h1 h2
      exact absurd (List.append_eq_nil_iff.1 h2).2 hm
  | succ f ih =>
    intro i x y D m hi h hm
    cases D with
    | nil => rfl
    | cons c D =>
      rw [numF] at h
      by_cases hx : x < 128
      · rw [if_pos hx, List.cons_append] at h
        injection h with h1 h2
        exact absurd (List.append_eq_nil_iff.1 h2).2 hm
      · rw [if_neg hx, List.cons_append] at h
        injection h with h1 h2
        rw [fstG, if_neg (by omega), if_neg (by rintro ⟨h3, _⟩; omega), if_neg (by omega)]
        exact ih (i + 1) (x / 128) _ D m (by omega) h2 hm
theorem fst_short (X : Nat) (D m : List Int) (most : Int) (h : D ++ m = numL X) (hm : m ≠ []) : fstM D most = (0, 0, 20) := by
  unfold fstM
  rw [fstG_short 9 0 X 0 D m rfl h hm, if_neg (by simp)]
theorem next_app (l rest : List Int) : nextW (l ++ rest) (l.length : Int) = 0 ∧ nextN (l ++ rest) (l.length : Int) = l.length := by
  have h : nextW (l ++ rest) (l.length : Int) = 0 := by unfold nextW; rw [if_neg (by omega), if_neg (by rw [List.length_append]; omega)]
  exact ⟨h, by rw [(nextN_0 _ _ h).1, Int.toNat_natCast]⟩
theorem next_short (D m l : List Int) (h : D ++ m = l) (hm : m ≠ []) : nextW D (l.length : Int) = 20 := by
  have : 0 < m.length := List.length_pos_iff.2 hm
  unfold nextW; rw [if_neg (by omega), if_pos (by rw [← h, List.length_append]; omega)]
theorem byt_form (m rest : List Int) (mm : Int) (h : (m.length : Int) ≤ mm) (hl : m.length < 18446744073709551616) : byt (bform m ++ rest) mm = (0, (bform m).length, m) := by
  have hf := fst_num m.length hl (m ++ rest) mm h
  rw [byt_eq, bform, List.append_assoc, hf]
  simp only [if_true, Int.toNat_natCast]
  rw [List.drop_left, (next_app m rest).1, (next_app m rest).2, List.take_left]
  simp
theorem byt_back (D : List Int) (mm : Int) (hB : Byts D) (h : (byt D mm).1 = 0) : ((byt D mm).2.2.length : Int) ≤ mm ∧ (byt D mm).2.1 = (bform (byt D mm).2.2).length ∧ ∃ r, D = bform (byt D mm).2.2 ++ r := by
  rw [byt_eq] at h ⊢
  by_cases h0 : (fstM D mm).2.2 = 0
  · rw [if_pos h0] at h ⊢
    obtain ⟨x, h1, h2, h3, h4, r, h5⟩ := fst_form D mm hB h0
    simp only at h ⊢
    rw [h3, h4, Int.toNat_natCast] at h ⊢
    have hd : D.drop (numL x).length = r := by rw [h5, List.drop_left]
    rw [hd] at h ⊢
    have hN := nextN_0 _ _ h
    rw [hN.1, Int.toNat_natCast]
    have hlx : (r.take x).length = x := by rw [List.length_take]; have := hN.2.2; rw [Int.toNat_natCast] at this; omega
    refine ⟨by rw [hlx]; exact h2, by rw [bform, hlx, List.length_append, hlx], r.drop x, ?_⟩
    rw [bform, hlx, List.append_assoc, List.take_append_drop, ← h5]
  · rw [if_neg h0] at h; exact absurd h h0
theorem byt_short (D more m : List Int) (mm : Int) (h : (m.length : Int) ≤ mm) (hl : m.length < 18446744073709551616) (hD : D ++ more = bform m) (hm : more ≠ []) : (byt D mm).1 = 20 ∧ (byt D mm).2.1 ≤ D.length := by
  rw [byt_eq]
  rcases pre_split (A := numL m.length) (B := m) hD with ⟨s, h1, h2⟩ | ⟨E, h1, h2⟩
  · rw [fst_short m.length D s mm h2 h1]; simp
  · subst h1
    rw [fst_num m.length hl E mm h]
    simp only [if_true, Int.toNat_natCast]
    rw [List.drop_left, next_short E more m h2 hm, nextN_1 _ _ (by rw [next_short E more m h2 hm]; decide)]
    refine ⟨rfl, ?_⟩
    rw [List.length_append]; omega
theorem zag_zig (x : Int) : zag (zig x) = x := by
  unfold zag zig
  by_cases h : 0 ≤ x
  · rw [if_pos h, if_neg (by omega)]; omega
  · rw [if_neg h, if_pos (by omega)]; omega
theorem zig_zag (x : Nat) : zig (zag (x : Int)) = x := by
  unfold zig zag
  by_cases h : (x : Int) % 2 = 1
  · rw [if_pos h, if_neg (by omega)]; omega
  · rw [if_neg h, if_pos (by omega)]; omega
theorem next_one (c : Int) (D : List Int) : nextW (c :: D) 1 = 0 := by unfold nextW; rw [if_neg (by decide), if_neg (by rw [List.length_cons]; omega)]
theorem str_nil : ({ data := #[] } : ByteArray) = ByteArray.empty := rfl
end Go.Proofs.Ytlogkojhcccogaa
