import Derived.Test.YtanmbbckkfkhpaaRefA
namespace Go.Proofs.Ytanmbbckkfkhpaa
open Go.RowKit

set_option maxHeartbeats 1000000 in
theorem rzig_any (x : Int) (w : World) (h1 : -9223372036854775808 ≤ x) (h2 : x ≤ 9223372036854775807) :
    Calls Try.prog 36 #[.int .i64 x] w fun e w' => e = .returned (.int .u64 (zig x : Int)) ∧ w' = w := by
  by_cases hx : 0 ≤ x
  · go_enter Try.func36, Try.ntmps36
    go_wp2
    go_ret
    refine ⟨?_, rfl⟩
    show Ending.returned (Value.int .u64 (2 * x)) = _
    congr 2
    unfold zig; rw [if_pos hx]; omega
  · have e1 : wrap64 (x + 1) = x + 1 := by unfold wrap64; omega
    have e2 : wrap64 (-(x + 1)) = -(x + 1) := by unfold wrap64; omega
    go_enter Try.func36, Try.ntmps36
    go_wp2
    go_ret
    refine ⟨?_, rfl⟩
    show Ending.returned (Value.int .u64 (2 * -(x + 1) + 1)) = _
    congr 2
    unfold zig; rw [if_neg (by omega)]; omega

set_option maxHeartbeats 1000000 in
theorem rbytes_any (v vx : Value) (l m : List Int) (w : World) (h : Own w v l) (hx : RowAt w vx m) (hsep : ∀ k, vx.ownBlock = some k → v.ownBlock ≠ some k) (hb : l.length + (bform m).length ≤ 140737488355328) :
    Calls Try.prog 39 #[v, vx] w (LayPost v (l ++ bform m) w) := by
  have HO : Keep (Own w v l) := ⟨h⟩
  have HX : Keep (RowAt w vx m) := ⟨hx⟩
  have HS := Keep.mk hsep
  have HB : Keep (l.length + (numL m.length).length + m.length ≤ 140737488355328) := ⟨by simpa [bform, Nat.add_assoc] using hb⟩
  obtain ⟨xa, xc, rfl⟩ := row_form hx
  have hw := wrap64_len m.length (by have := HB.out; omega)
  clear h hx hb hsep
  go_enter Try.func39, Try.ntmps39
  go_wp2_with fail
  refine (rnum_any v l m.length w HO.out (by have := HB.out; omega) (by have := HB.out; omega)).mono ?_
  rintro e w1 ⟨v1, rfl, hO1, hm1, hg1⟩
  have HX1 : Keep (RowAt w1 (.slice xa m.length xc) m) := ⟨HX.out.grown hg1 fun b hb _ => HS.out b hb⟩
  have HO1 := Keep.mk hO1
  have HB1 : Keep ((l ++ numL m.length).length + m.length ≤ 140737488355328) := ⟨by simpa using HB.out⟩
  clear hO1
  go_wp2_with (first | (at_builtin; refine wpList_app rfl (.tmp 10) (.tmp 11) rfl v1 _ (l ++ numL m.length) m rfl rfl HO1.out HX1.out HB1.out ?_; intro v' w' hp; refine Hid.out ?_))
  refine hid_in ?_
  have HP : Keep (AppPost w1 v1 (l ++ bform m) v' w') := ⟨by rw [List.append_assoc] at hp; exact hp⟩
  clear hp
  go_wp2
  go_ret
  exact HP.out.lay.trans hm1 hg1

theorem Try.new84 (w : World) : (Instr.alloc 84 true (.tuple #[])).run Try.prog w = .ok (.pointer (some ⟨w.heap.size, 0, none⟩)) (w.alloc (.cells (bytesA 32 fun _ => 0) 84)) := by kernel_rfl
/-- A built array, its cells said by the caller. -/
theorem wpList_bld {P : Program} {ops : Array Oper} {rest : List Oper} {o : Oper} {a : Act} {w : World} {Q : Exit → Act → World → Prop} (hg : o.guard = none) (t : TypeId) (parts : Array (Nat × Operand)) (ho : o.op = .build t parts)
    (cells : Array Value) (hf : P.built t (parts.map fun (i, x) => (i, a.eval x)).toList = some cells)
    (h : wpList P ops Q rest (a.put o.dst (.agg cells)) w) : wpList P ops Q (o :: rest) a w :=
  wpList_build hg t parts ho (by rw [hf]; rfl) (by rw [hf]; exact h)
/-- A new variable, its zero cells said by the caller. -/
theorem wpList_new {P : Program} {ops : Array Oper} {rest : List Oper} {o : Oper} {a : Act} {w : World} {Q : Exit → Act → World → Prop} (hg : o.guard = none) (t : TypeId) (ho : o.op = .alloc t)
    (cells : Array Value) (hf : ∀ w : World, (Instr.alloc t true (.tuple #[])).run P w = .ok (.pointer (some ⟨w.heap.size, 0, none⟩)) (w.alloc (.cells cells t)))
    (h : wpList P ops Q rest (a.put o.dst (.pointer (some ⟨w.heap.size, 0, none⟩))) (w.alloc (.cells cells t))) : wpList P ops Q (o :: rest) a w := by
  refine wpList_plain hg fun K hK => ?_
  unfold Oper.wp execOp
  simp only [ho, Sem.run_bind, hf w, Result.andThen_ok]
  exact hK _ _ h

/-- The hash out of bytes: the first 32, zeros behind them. -/
def hof (l : List Int) : Nat → Int := fun i => l.getD i 0
def hofT (l : List Int) (t : Nat) : Nat → Int := fun i => if i < t then l.getD i 0 else 0
theorem hofT_next (l : List Int) (t : Nat) : upd (hofT l t) t (l.getD t 0) = hofT l (t + 1) := by
  funext i
  simp only [upd, hofT]
  by_cases h : i = t
  · subst h; rw [if_pos rfl, if_pos (by omega)]
  · rw [if_neg h]
    by_cases h2 : i < t
    · rw [if_pos h2, if_pos (by omega)]
    · rw [if_neg h2, if_neg (by omega)]
theorem hofT_end (l : List Int) (t : Nat) (h : l.length ≤ t ∨ 32 ≤ t) : bytesA 32 (hofT l t) = bytesA 32 (hof l) := bytesA_congr fun i hi => by
  simp only [hofT, hof]
  by_cases h2 : i < t
  · rw [if_pos h2]
  · rw [if_neg h2, List.getD_eq_getElem?_getD, List.getElem?_eq_none (by omega)]; rfl

set_option maxHeartbeats 1000000 in
theorem hashOf_any (v : Value) (l : List Int) (w : World) (hr : RowAt w v l) (hb : l.length ≤ 140737488355328) :
    Calls Try.prog 41 #[v] w fun e w' => e = .returned (.agg (bytesA 32 (hof l))) ∧ Below w.heap.size w w' := by
  have HR := Keep.mk hr
  have HB : (l.length : Int) ≤ 9223372036854775807 := by omega
  obtain ⟨xa, xc, rfl⟩ := row_form hr
  have HH : Keep (Blk ((w.alloc (.cells (bytesA 32 fun _ => 0) 84)).alloc (.cells (bytesA 32 fun _ => 0) 84)) (w.heap.size + 1) 84 (bytesA 32 fun _ => 0)) := ⟨by
    have h := Blk.new (w.alloc (.cells (bytesA 32 fun _ => 0) 84)) 84 (bytesA 32 fun _ => 0)
    simp only [World.size_alloc] at h
    exact h⟩
  clear hr hb
  go_enter Try.func41, Try.ntmps41
  go_wp2_with (first | (refine wpList_new rfl 84 rfl _ Try.new84 ?_) | (refine wpList_bld rfl 84 _ rfl (bytesA 32 fun _ => 0) (by kernel_rfl) ?_; refine wpList_new rfl 84 rfl _ Try.new84 ?_; refine wpList_store_row rfl 84 (.tmp 3) (.tmp 5) rfl (w.heap.size + 1) (bytesA 32 fun _ => 0) (by simp [Act.put, Act.eval]) rfl 84 (bytesA 32 fun _ => 0) HH.out (Try.size84B _) (bytesA_sizes _ _ _) (bytesA_one _ _) ?_))
  have hR := ((Blk.new w 84 (bytesA 32 fun _ => 0)).alloc (.cells (bytesA 32 fun _ => 0) 84)).setRow_ne (b' := w.heap.size + 1) (by omega) (bytesA 32 fun _ => 0)
  have hH := HH.out.setRow (bytesA 32 fun _ => 0)
  have hB : Below w.heap.size w (((w.alloc (.cells (bytesA 32 fun _ => 0) 84)).alloc (.cells (bytesA 32 fun _ => 0) 84)).setRow (w.heap.size + 1) (bytesA 32 fun _ => 0)) :=
    below_setRow (((Below.refl _ _).alloc (Nat.le_refl _) _).alloc (by simp) _) (by omega) _
  generalize (((w.alloc (.cells (bytesA 32 fun _ => 0) 84)).alloc (.cells (bytesA 32 fun _ => 0) 84)).setRow (w.heap.size + 1) (bytesA 32 fun _ => 0)) = w0 at *
  clear HH
  go_loopw [4] (fun i wr => ∃ t : Nat, t ≤ 32 ∧ t ≤ l.length ∧ i = .int .i64 t ∧ Blk wr w.heap.size 84 (bytesA 32 fun _ => 0) ∧ Blk wr (w.heap.size + 1) 84 (bytesA 32 (hofT l t)) ∧ Below w.heap.size w wr) (fun i _ => 32 - (intOf i).toNat)
  case atStart => exact ⟨0, by omega, by omega, rfl, hR, by rw [show hofT l 0 = fun _ => 0 from funext fun j => by simp [hofT]]; exact hH, hB⟩
  case round =>
    clear hR hH hB
    obtain ⟨t, ht, htl, rfl, hR, hH, hB⟩ := hrel
    by_cases h1 : t < l.length
    · have h1' : (t : Int) < (l.length : Int) := by omega
      by_cases h2 : t < 32
      · have h2' : (t : Int) < 32 := by omega
        rcases HR.out.below (w' := wr) hB with ⟨e1, e2⟩ | ⟨_, _, e1, e2⟩ | ⟨b, off, cap, e1, hcap, hc⟩
        · subst e2; simp at h1
        · subst e2; simp at h1
        · injection e1 with e1 e2 e3
          subst e1
          have hct := hc t h1
          have c1 : wr.cell? ⟨w.heap.size + 1, t, none⟩ = some (.int .u8 (hofT l t t)) := by rw [hH.cell, bytesA_get _ _ _ h2]
          have f1 := hH.frozen t
          have H2 := Keep.mk hH
          have HRw := Keep.mk hR
          clear hc e2 e3 hH hR
          go_wp2
          go_roundw
          case rel =>
            refine ⟨t + 1, by omega, by omega, by go_num, HRw.out.set_ne (by omega) _, ?_, hB.setCell (by show w.heap.size ≤ w.heap.size + 1; omega) _⟩
            have h := H2.out.set t (.int .u8 (l.getD t 0))
            rw [bytesA_set, hofT_next, show l.getD t 0 = l[t]'h1 by simp [List.getD_eq_getElem?_getD, h1]] at h
            exact h
          case measure => simp only [intOf]; omega
      · have h2' : ¬ (t : Int) < 32 := by omega
        have HE := Keep.mk (hofT_end l t (.inr (by omega)))
        obtain ⟨c, hc⟩ : ∃ c, Keep (c = hofT l t) := ⟨_, ⟨rfl⟩⟩
        rw [← hc.out] at hH HE
        go_wp2_with (refine wpList_load_row rfl 84 (.tmp 3) rfl (w.heap.size + 1) rfl 84 (bytesA 32 c) (0, 0) (.array 32 5) hH Try.underlying84 rfl (Try.size84B _) ?_; refine wpList_store_row rfl 84 (.tmp 2) (.tmp 22) rfl w.heap.size (bytesA 32 c) rfl rfl 84 (bytesA 32 fun _ => 0) hR (Try.size84B _) (bytesA_sizes _ _ _) (bytesA_one _ _) ?_)
        exact bodyPost_ret (v := .agg (bytesA 32 c)) (results_cell_row Try.results41 _ _ w.heap.size 84 _ (0, 0) _ rfl (hR.setRow _) Try.underlying84 rfl (Try.size84B _)) rfl ⟨by rw [HE.out], below_setRow hB (Nat.le_refl _) _⟩
    · have h1' : ¬ (t : Int) < (l.length : Int) := by omega
      have HE := Keep.mk (hofT_end l t (.inl (by omega)))
      obtain ⟨c, hc⟩ : ∃ c, Keep (c = hofT l t) := ⟨_, ⟨rfl⟩⟩
      rw [← hc.out] at hH HE
      go_wp2_with (refine wpList_load_row rfl 84 (.tmp 3) rfl (w.heap.size + 1) rfl 84 (bytesA 32 c) (0, 0) (.array 32 5) hH Try.underlying84 rfl (Try.size84B _) ?_; refine wpList_store_row rfl 84 (.tmp 2) (.tmp 22) rfl w.heap.size (bytesA 32 c) rfl rfl 84 (bytesA 32 fun _ => 0) hR (Try.size84B _) (bytesA_sizes _ _ _) (bytesA_one _ _) ?_)
      exact bodyPost_ret (v := .agg (bytesA 32 c)) (results_cell_row Try.results41 _ _ w.heap.size 84 _ (0, 0) _ rfl (hR.setRow _) Try.underlying84 rfl (Try.size84B _)) rfl ⟨by rw [HE.out], below_setRow hB (Nat.le_refl _) _⟩

set_option maxHeartbeats 1000000 in
theorem rhash_any (v : Value) (l : List Int) (c : Nat → Int) (w : World) (h : Own w v l) (hb : l.length + 32 ≤ 140737488355328) :
    Calls Try.prog 42 #[v, .agg (bytesA 32 c)] w (LayPost v (l ++ hl 32 c) w) := by
  have HO := Keep.mk (h.box (.cells (bytesA 32 c) 84))
  have HBx := Keep.mk (Blk.new w 84 (bytesA 32 c))
  have HG := Keep.mk (Grown.alloc w (.cells (bytesA 32 c) 84) fun k => v.ownBlock = some k)
  have HB := Keep.mk hb
  have HN : Keep (v.ownBlock ≠ some w.heap.size) := ⟨fun e => by have := h.lt _ e; omega⟩
  clear h hb
  go_enter Try.func42, Try.ntmps42
  go_wp2_with (first | (refine wpList_boxA rfl 84 (.tmp 1) rfl (bytesA 32 c) rfl ?_))
  generalize w.alloc (.cells (bytesA 32 c) 84) = w0 at *
  go_loopw [0, 5] (fun b i wr => ∃ (t : Nat) (v1 : Value), t ≤ 32 ∧ b = v1 ∧ i = .int .i64 t ∧ Own wr v1 (l ++ hl t c) ∧ Blk wr w.heap.size 84 (bytesA 32 c) ∧ Moved w v v1 ∧ Grown w wr fun k => v.ownBlock = some k) (fun _ i _ => 32 - (intOf i).toNat)
  case atStart => exact ⟨0, v, by omega, rfl, rfl, by simpa [hl] using HO.out, HBx.out, Moved.refl _ _, HG.out⟩
  case round =>
    obtain ⟨t, v1, ht, rfl, rfl, hO1, hb1, hm1, hg1⟩ := hrel
    by_cases hlt : t < 32
    · have hlt' : (t : Int) < 32 := by omega
      have cc : wr.cell? ⟨w.heap.size, t, none⟩ = some (.int .u8 (c t)) := by rw [hb1.cell, bytesA_get _ _ _ hlt]
      have HO1 := Keep.mk (hO1.box (.cells #[.int .u8 (c t)] 5))
      have Hb := Keep.mk (hb1.alloc (.cells #[.int .u8 (c t)] 5))
      have Hne := Keep.mk (hO1.ne hb1 (by decide))
      have hlen : Keep ((l ++ hl t c).length + [c t].length ≤ 140737488355328) := ⟨by have := HB.out; simp [hl_len]; omega⟩
      clear hO1 hb1
      go_wp2_with (first | (at_builtin; refine wpList_app rfl (.tmp 10) (.tmp 14) rfl _ (.slice (some ⟨wr.heap.size, 0, none⟩) 1 1) (l ++ hl t c) [c t] rfl rfl HO1.out (row_one wr _) hlen.out ?_; intro v' w' hp; refine Hid.out ?_))
      refine hid_in ?_
      have HP := Keep.mk hp.box
      have HBn := Keep.mk (hp.grown.blk Hb.out Hne.out)
      clear hp cc
      go_wp2
      go_roundw
      case rel =>
        obtain ⟨hO2, hm2, hg2⟩ := HP.out
        refine ⟨t + 1, v', by omega, rfl, by go_num, ?_, HBn.out, hm1.trans hg1.size hm2, hg1.next hg2 fun i hi h => hm1.old hi h⟩
        have e : l ++ hl (t + 1) c = l ++ hl t c ++ [c t] := by simp [hl, List.range_succ]
        rw [e]; exact hO2
      case measure => simp only [intOf]; omega
    · obtain rfl : t = 32 := by omega
      have HO1 := Keep.mk hO1
      clear hO1
      go_wp2
      go_ret
      exact ⟨_, rfl, HO1.out, hm1, hg1⟩
end Go.Proofs.Ytanmbbckkfkhpaa
