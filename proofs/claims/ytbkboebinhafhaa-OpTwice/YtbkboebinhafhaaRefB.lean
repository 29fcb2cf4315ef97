import Derived.Test.YtbkboebinhafhaaRefA
namespace Go.Proofs.Ytbkboebinhafhaa
open Go.RowKit

set_option maxRecDepth 8000 in
set_option maxHeartbeats 1000000 in
theorem rzig_any (x : Int) (w : World) (h1 : -9223372036854775808 ≤ x) (h2 : x ≤ 9223372036854775807) :
    Calls Try.prog 41 #[.int .i64 x] w fun e w' => e = .returned (.int .u64 (zig x : Int)) ∧ w' = w := by
  by_cases hx : 0 ≤ x
  · go_enter Try.func41, Try.ntmps41
    go_wp2
    go_ret
    refine ⟨?_, rfl⟩
    show Ending.returned (Value.int .u64 (2 * x)) = _
    congr 2
    unfold zig; rw [if_pos hx]; omega
  · have e1 : wrap64 (x + 1) = x + 1 := by unfold wrap64; omega
    have e2 : wrap64 (-(x + 1)) = -(x + 1) := by unfold wrap64; omega
    go_enter Try.func41, Try.ntmps41
    go_wp2
    go_ret
    refine ⟨?_, rfl⟩
    show Ending.returned (Value.int .u64 (2 * -(x + 1) + 1)) = _
    congr 2
    unfold zig; rw [if_neg (by omega)]; omega

set_option maxRecDepth 8000 in
set_option maxHeartbeats 1000000 in
theorem rbytes_any (v vx : Value) (l m : List Int) (w : World) (h : Own w v l) (hx : RowAt w vx m) (hsep : ∀ k, vx.ownBlock = some k → v.ownBlock ≠ some k) (hb : l.length + (bform m).length ≤ 200000000000000) :
    Calls Try.prog 39 #[v, vx] w (LayPost v (l ++ bform m) w) := by
  have HO : Keep (Own w v l) := ⟨h⟩
  have HX : Keep (RowAt w vx m) := ⟨hx⟩
  have HS := Keep.mk hsep
  have HB : Keep (l.length + (numL m.length).length + m.length ≤ 200000000000000) := ⟨by simpa [bform, Nat.add_assoc] using hb⟩
  obtain ⟨xa, xc, rfl⟩ := row_form hx
  have hw := wrap64_len m.length (by have := HB.out; omega)
  clear h hx hb hsep
  go_enter Try.func39, Try.ntmps39
  go_wp2_with fail
  refine (rnum_any v l m.length w HO.out (by have := HB.out; omega) (by have := HB.out; omega)).mono ?_
  rintro e w1 ⟨v1, rfl, hO1, hm1, hg1⟩
  have HX1 : Keep (RowAt w1 (.slice xa m.length xc) m) := ⟨HX.out.grown hg1 fun b hb _ => HS.out b hb⟩
  have HO1 := Keep.mk hO1
  have HB1 : Keep ((l ++ numL m.length).length + m.length ≤ 200000000000000) := ⟨by simpa using HB.out⟩
  clear hO1
  go_wp2_with (first | (at_builtin; refine wpList_app rfl (.tmp 10) (.tmp 11) rfl v1 _ (l ++ numL m.length) m rfl rfl HO1.out HX1.out HB1.out ?_; intro v' w' hp; refine Hid.out ?_))
  refine hid_in ?_
  have HP : Keep (AppPost w1 v1 (l ++ bform m) v' w') := ⟨by rw [List.append_assoc] at hp; exact hp⟩
  clear hp
  go_wp2
  go_ret
  exact HP.out.lay.trans hm1 hg1

theorem Try.new29 (w : World) : (Instr.alloc 29 true (.tuple #[])).run Try.prog w = .ok (.pointer (some ⟨w.heap.size, 0, none⟩)) (w.alloc (.cells (bytesA 32 fun _ => 0) 29)) := by kernel_rfl
/-- A built array, its cells said by the caller. -/
theorem wpList_bld {P : Program} {ops : Array Oper} {rest : List Oper} {o : Oper} {a : Act} {w : World} {Q : Exit → Act → World → Prop} (hg : o.guard = none) (t : TypeId) (parts : Array (Nat × Operand)) (ho : o.op = .build t parts)
    (cells : Array Value) (hf : P.built t (parts.map fun (i, x) => (i, a.eval x)).toList = some cells)
    (h : wpList P ops Q rest (a.put o.dst (.agg cells)) w) : wpList P ops Q (o :: rest) a w :=
  wpList_build hg t parts ho (by rw [hf]; rfl) (by rw [hf]; exact h)
/-- A new variable, its zero cells said by the caller. -/
theorem wpList_new {P : Program} {ops : Array Oper} {rest : List Oper} {o : Oper} {a : Act} {w : World} {Q : Exit → Act → World → Prop} (hg : o.guard = none) (t : TypeId) (ho : o.op = .alloc t)
    (cells : Array Value) (hf : ∀ w : World, (Instr.alloc t true (.tuple #[])).run P w = .ok (.pointer (some ⟨w.heap.size, 0, none⟩)) (w.alloc (.cells cells t)))
    (h : wpList P ops Q rest (a.put o.dst (.pointer (some ⟨w.heap.size, 0, none⟩))) (w.alloc (.cells cells t))) : wpList P ops Q (o :: rest) a w := by
  refine wpList_plain hg fun K hK => ?_
  unfold Oper.wp execOp
  simp only [ho, Sem.run_bind, hf w, Result.andThen_ok]
  exact hK _ _ h

/-- The hash out of bytes: the first 32, zeros behind them. -/
def hof (l : List Int) : Nat → Int := fun i => l.getD i 0
def hofT (l : List Int) (t : Nat) : Nat → Int := fun i => if i < t then l.getD i 0 else 0
theorem hofT_next (l : List Int) (t : Nat) : upd (hofT l t) t (l.getD t 0) = hofT l (t + 1) := by
  funext i
  simp only [upd, hofT]
  by_cases h : i = t
  · subst h; rw [if_pos rfl, if_pos (by omega)]
  · rw [if_neg h]
    by_cases h2 : i < t
    · rw [if_pos h2, if_pos (by omega)]
    · rw [if_neg h2, if_neg (by omega)]
theorem hofT_end (l : List Int) (t : Nat) (h : l.length ≤ t ∨ 32 ≤ t) : bytesA 32 (hofT l t) = bytesA 32 (hof l) := bytesA_congr fun i hi => by
  simp only [hofT, hof]
  by_cases h2 : i < t
  · rw [if_pos h2]
  · rw [if_neg h2, List.getD_eq_getElem?_getD, List.getElem?_eq_none (by omega)]; rfl

set_option maxRecDepth 8000 in
set_option maxHeartbeats 1000000 in
theorem rhash_any (v : Value) (l : List Int) (c : Nat → Int) (w : World) (h : Own w v l) (hb : l.length + 32 ≤ 200000000000000) :
    Calls Try.prog 43 #[v, .agg (bytesA 32 c)] w (LayPost v (l ++ hl 32 c) w) := by
  have HO := Keep.mk (h.box (.cells (bytesA 32 c) 29))
  have HBx := Keep.mk (Blk.new w 29 (bytesA 32 c))
  have HG := Keep.mk (Grown.alloc w (.cells (bytesA 32 c) 29) fun k => v.ownBlock = some k)
  have HB := Keep.mk hb
  have HN : Keep (v.ownBlock ≠ some w.heap.size) := ⟨fun e => by have := h.lt _ e; omega⟩
  clear h hb
  go_enter Try.func43, Try.ntmps43
  go_wp2_with (first | (refine wpList_boxA rfl 29 (.tmp 1) rfl (bytesA 32 c) rfl ?_))
  generalize w.alloc (.cells (bytesA 32 c) 29) = w0 at *
  go_loopw [0, 5] (fun b i wr => ∃ (t : Nat) (v1 : Value), t ≤ 32 ∧ b = v1 ∧ i = .int .i64 t ∧ Own wr v1 (l ++ hl t c) ∧ Blk wr w.heap.size 29 (bytesA 32 c) ∧ Moved w v v1 ∧ Grown w wr fun k => v.ownBlock = some k) (fun _ i _ => 32 - (intOf i).toNat)
  case atStart => exact ⟨0, v, by omega, rfl, rfl, by simpa [hl] using HO.out, HBx.out, Moved.refl _ _, HG.out⟩
  case round =>
    obtain ⟨t, v1, ht, rfl, rfl, hO1, hb1, hm1, hg1⟩ := hrel
    by_cases hlt : t < 32
    · have hlt' : (t : Int) < 32 := by omega
      have cc : wr.cell? ⟨w.heap.size, t, none⟩ = some (.int .u8 (c t)) := by rw [hb1.cell, bytesA_get _ _ _ hlt]
      have HO1 := Keep.mk (hO1.box (.cells #[.int .u8 (c t)] 5))
      have Hb := Keep.mk (hb1.alloc (.cells #[.int .u8 (c t)] 5))
      have Hne := Keep.mk (hO1.ne hb1 (by decide))
      have hlen : Keep ((l ++ hl t c).length + [c t].length ≤ 200000000000000) := ⟨by have := HB.out; simp [hl_len]; omega⟩
      clear hO1 hb1
      go_wp2_with (first | (at_builtin; refine wpList_app rfl (.tmp 10) (.tmp 14) rfl _ (.slice (some ⟨wr.heap.size, 0, none⟩) 1 1) (l ++ hl t c) [c t] rfl rfl HO1.out (row_one wr _) hlen.out ?_; intro v' w' hp; refine Hid.out ?_))
      refine hid_in ?_
      have HP := Keep.mk hp.box
      have HBn := Keep.mk (hp.grown.blk Hb.out Hne.out)
      clear hp cc
      go_wp2
      go_roundw
      case rel =>
        obtain ⟨hO2, hm2, hg2⟩ := HP.out
        refine ⟨t + 1, v', by omega, rfl, by go_num, ?_, HBn.out, hm1.trans hg1.size hm2, hg1.next hg2 fun i hi h => hm1.old hi h⟩
        have e : l ++ hl (t + 1) c = l ++ hl t c ++ [c t] := by simp [hl, List.range_succ]
        rw [e]; exact hO2
      case measure => simp only [intOf]; omega
    · obtain rfl : t = 32 := by omega
      have HO1 := Keep.mk hO1
      clear hO1
      go_wp2
      go_ret
      exact ⟨_, rfl, HO1.out, hm1, hg1⟩
end Go.Proofs.Ytbkboebinhafhaa
