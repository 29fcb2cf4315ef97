import Derived.Test.YtlogkojhcccogaaB04
namespace Go.Proofs.Ytlogkojhcccogaa
open Go.RowKit
set_option linter.unusedSimpArgs false
set_option linter.unusedVariables false

structure MsgV where
  k : Int
  hd : List Hs
  sa : Int
  bl : List Int
  wt : List Hs
  bk : List (List Int)
def zeroM : MsgV := ⟨0, [], 0, [], [], []⟩
def noS : Value := .slice none 0 0
structure MC where
  k : Int
  h : Value
  s : Int
  b : Value
  w : Value
  x : Value
def msA (c : MC) : Array Value := #[.int .i64 c.k, c.h, .int .u64 c.s, c.b, c.w, c.x]
def zeroC : MC := ⟨0, noS, 0, noS, noS, noS⟩
theorem Try.new28M (w : World) : (Instr.alloc 28 true (.tuple #[])).run Try.prog w = .ok (.pointer (some ⟨w.heap.size, 0, none⟩)) (w.alloc (.cells (msA zeroC) 28)) := by kernel_rfl
theorem Try.size28 : (Try.prog.info? 28).map (·.size) = some 6 := by kernel_rfl
theorem Try.size28B (c : MC) : (Try.prog.info? 28).map (·.size) = some (msA c).size := Try.size28
theorem ms_built0 : Try.prog.built 28 [] = some (msA zeroC) := by kernel_rfl
theorem ms_built1 (a : Int) : Try.prog.built 28 [(0, .int .i64 a)] = some (msA ⟨a, noS, 0, noS, noS, noS⟩) := by kernel_rfl
structure SlC (c : MC) : Prop where
  h : ∃ a n k, c.h = .slice a n k
  b : ∃ a n k, c.b = .slice a n k
  w : ∃ a n k, c.w = .slice a n k
  x : ∃ a n k, c.x = .slice a n k
theorem SlC.zero : SlC zeroC := ⟨⟨_, _, _, rfl⟩, ⟨_, _, _, rfl⟩, ⟨_, _, _, rfl⟩, ⟨_, _, _, rfl⟩⟩
theorem SlC.one {c : MC} (h : SlC c) : (msA c).all (·.oneCell') = true := by
  obtain ⟨k, vh, s, vb, vw, vx⟩ := c
  obtain ⟨⟨_, _, _, h1⟩, ⟨_, _, _, h2⟩, ⟨_, _, _, h3⟩, ⟨_, _, _, h4⟩⟩ := h
  simp only at h1 h2 h3 h4
  subst h1 h2 h3 h4
  simp [msA, Value.oneCell']
theorem ms_0 (c : MC) : (msA c)[0]? = some (.int .i64 c.k) := rfl
theorem ms_1 (c : MC) : (msA c)[1]? = some c.h := rfl
theorem ms_2 (c : MC) : (msA c)[2]? = some (.int .u64 c.s) := rfl
theorem ms_3 (c : MC) : (msA c)[3]? = some c.b := rfl
theorem ms_4 (c : MC) : (msA c)[4]? = some c.w := rfl
theorem ms_5 (c : MC) : (msA c)[5]? = some c.x := rfl
def RwsAt (w : World) (v : Value) (ls : List (List Int)) : Prop :=
  ∃ V : Nat → Value, ((∃ a c, v = .slice a 0 c ∧ ls = []) ∨ ∃ q o cap, v = .slice (some ⟨q, o, none⟩) ls.length cap ∧ ls.length ≤ cap ∧ ∀ i, i < ls.length → w.cell? ⟨q, o + i, none⟩ = some (V i)) ∧ ∀ i, i < ls.length → RowAt w (V i) (ls.getD i [])
theorem RwsAt.form {w : World} {v : Value} {ls : List (List Int)} (h : RwsAt w v ls) : ∃ a c, v = .slice a ls.length c := by
  obtain ⟨V, ⟨a, c, rfl, rfl⟩ | ⟨q, o, cap, rfl, _⟩, _⟩ := h
  · exact ⟨_, _, rfl⟩
  · exact ⟨_, _, rfl⟩
theorem RwsAt.nil (w : World) : RwsAt w noS [] := ⟨fun _ => noS, .inl ⟨_, _, rfl, rfl⟩, fun i hi => by simp at hi⟩
theorem RwsAt.below {w w' : World} {v : Value} {ls : List (List Int)} (h : RwsAt w v ls) (hb : Below w.heap.size w w') : RwsAt w' v ls := by
  obtain ⟨V, h1, h2⟩ := h
  refine ⟨V, ?_, fun i hi => (h2 i hi).below hb⟩
  rcases h1 with h1 | ⟨q, o, cap, h1, h3, h4⟩
  · exact .inl h1
  · exact .inr ⟨q, o, cap, h1, h3, fun i hi => by rw [hb.cell (p := ⟨q, o + i, none⟩) (cell_lt (h4 i hi))]; exact h4 i hi⟩
theorem RwsAt.at {w : World} {a : Option Addr} {n c : Nat} {ls : List (List Int)} (h : RwsAt w (.slice a n c) ls) (t : Nat) (ht : t < ls.length) : ∃ q o pa pc, a = some ⟨q, o, none⟩ ∧ n = ls.length ∧ w.cell? ⟨q, o + t, none⟩ = some (.slice pa (ls.getD t []).length pc) ∧ RowAt w (.slice pa (ls.getD t []).length pc) (ls.getD t []) := by
  obtain ⟨V, ⟨a', c', h1, rfl⟩ | ⟨q, o, cap, h1, _, h4⟩, h2⟩ := h
  · simp at ht
  · injection h1 with h1 h3 h5
    subst h1 h3
    obtain ⟨pa, pc, hv⟩ := row_form (h2 t ht)
    exact ⟨q, o, pa, pc, rfl, rfl, by rw [h4 t ht, hv], by rw [← hv]; exact h2 t ht⟩
def okR (ls : List (List Int)) : Bool := ls.all fun r => decide (0 < r.length ∧ r.length ≤ 1048576)
theorem okR_iff (ls : List (List Int)) : okR ls = true ↔ ∀ i, i < ls.length → 0 < (ls.getD i []).length ∧ (ls.getD i []).length ≤ 1048576 := by
  unfold okR
  rw [List.all_eq_true]
  constructor
  · intro h i hi
    have := h (ls.getD i []) (by rw [List.getD_eq_getElem?_getD, List.getElem?_eq_getElem hi]; exact List.getElem_mem hi)
    simpa using this
  · intro h r hr
    obtain ⟨i, hi, rfl⟩ := List.getElem_of_mem hr
    have := h i hi
    rw [List.getD_eq_getElem?_getD, List.getElem?_eq_getElem hi] at this
    simpa using this
theorem Try.in24 (w : World) (vs : Array Value) : (callFunc 24 vs).run Try.prog w = .ok (.enter 24 vs) w := by kernel_rfl
theorem Try.in25 (w : World) (vs : Array Value) : (callFunc 25 vs).run Try.prog w = .ok (.enter 25 vs) w := by kernel_rfl
theorem Try.in21 (w : World) (vs : Array Value) : (callFunc 21 vs).run Try.prog w = .ok (.enter 21 vs) w := by kernel_rfl
set_option maxRecDepth 8000 in
set_option maxHeartbeats 1000000 in
theorem areBlocks_any (v : Value) (ls : List (List Int)) (w : World) (hr : RwsAt w v ls) (hm : (ls.length : Int) ≤ 9223372036854775807) (hrl : ∀ i, i < ls.length → ((ls.getD i []).length : Int) ≤ 9223372036854775807) :
    Calls Try.prog 24 #[v] w fun e w' => e = .returned (.bool (okR ls)) ∧ w' = w := by
  have HR := Keep.mk hr
  have HL := Keep.mk hrl
  obtain ⟨R, hR⟩ : ∃ R, Keep (R = okR ls) := ⟨_, ⟨rfl⟩⟩
  rw [← hR.out]
  obtain ⟨pa, pc, rfl⟩ := hr.form
  clear hr hrl
  obtain ⟨m, hmm⟩ : ∃ m, m = ls.length := ⟨_, rfl⟩
  rw [← hmm] at HR HL hm ⊢
  have Hm := Keep.mk hmm
  clear hmm
  go_enter Try.func24, Try.ntmps24
  go_wp2
  go_loopw [7] (fun i wr => ∃ t : Nat, t ≤ m ∧ i = .int .i64 (t : Int) ∧ Keep (∀ j, j < t → 0 < (ls.getD j []).length ∧ (ls.getD j []).length ≤ 1048576) ∧ wr = w) (fun i _ => m - (intOf i).toNat)
  case atStart => exact ⟨0, by omega, rfl, ⟨fun j hj => by omega⟩, rfl⟩
  case round =>
    obtain ⟨t, ht, rfl, HK, rfl⟩ := hrel
    by_cases hlt : t < m
    · obtain ⟨q, o, xa, xc, rfl, hmq, hc, _⟩ := HR.out.at t (by rw [← Hm.out]; exact hlt)
      clear hmq
      have hlt' : (t : Int) < (m : Int) := by omega
      have hll := HL.out t hlt
      have HF : Keep (¬ (0 < (ls.getD t []).length ∧ (ls.getD t []).length ≤ 1048576) → R = false) := ⟨fun h => by
        rw [hR.out, Bool.eq_false_iff]; intro h2
        exact h ((okR_iff ls).1 h2 t (by rw [← Hm.out]; exact hlt))⟩
      have HG : Keep ((0 < (ls.getD t []).length ∧ (ls.getD t []).length ≤ 1048576) → ∀ j, j < t + 1 → 0 < (ls.getD j []).length ∧ (ls.getD j []).length ≤ 1048576) := ⟨fun h j hj => by
        rcases Nat.lt_or_eq_of_le (Nat.le_of_lt_succ hj) with h2 | h2
        · exact HK.out j h2
        · subst h2; exact h⟩
      generalize (ls.getD t []).length = n at *
      by_cases h0 : n = 0
      · subst h0
        go_wp2
        go_ret
        exact ⟨by rw [HF.out (by omega)]; rfl, rfl⟩
      · have h0' : ¬ (n : Int) = 0 := by omega
        by_cases h1 : (1048576 : Int) < (n : Int)
        · go_wp2
          go_ret
          exact ⟨by rw [HF.out (by omega)]; rfl, rfl⟩
        · go_wp2
          go_roundw
          case rel => exact ⟨t + 1, by omega, by go_num, ⟨HG.out (by omega)⟩, trivial⟩
          case measure => simp [intOf]; omega
    · obtain rfl : t = m := by omega
      go_wp2
      go_ret
      exact ⟨by rw [hR.out, (okR_iff ls).2 fun i hi => HK.out i (by rw [Hm.out]; exact hi)]; rfl, rfl⟩
def fitG : List (List Int) → Nat → Nat → Nat
  | [], i, _ => i
  | r :: rs, i, a => if i = 256 ∨ 2097152 < 1 + (numL (i + 1)).length + (a + (bform r).length) then i else fitG rs (i + 1) (a + (bform r).length)
def fit (ls : List (List Int)) : Nat := fitG ls 0 0
theorem num_len (x : Nat) : (numL x).length ≤ 10 := numL_len x
set_option maxRecDepth 8000 in
set_option maxHeartbeats 2000000 in
theorem fitting_any (v : Value) (ls : List (List Int)) (w : World) (hr : RwsAt w v ls) (hm : (ls.length : Int) ≤ 9223372036854775807) (hrl : ∀ i, i < ls.length → (ls.getD i []).length ≤ 1048576) :
    Calls Try.prog 25 #[v] w fun e w' => e = .returned (.int .i64 (fit ls : Int)) ∧ w' = w := by
  have HR := Keep.mk hr
  have HL := Keep.mk hrl
  obtain ⟨R, hR⟩ : ∃ R, R = fit ls := ⟨_, rfl⟩
  rw [← hR]
  obtain ⟨pa, pc, rfl⟩ := hr.form
  clear hr hrl
  obtain ⟨m, hmm⟩ : ∃ m, m = ls.length := ⟨_, rfl⟩
  rw [← hmm] at HR HL hm ⊢
  have Hm := Keep.mk hmm
  have HSz := Keep.mk (fun (x : Nat) (hx : x < 18446744073709551616) => size_any x w hx)
  have H0 : Keep (R = fitG (ls.drop 0) 0 0) := ⟨by rw [hR]; rfl⟩
  clear hmm hR
  go_enter Try.func25, Try.ntmps25
  go_wp2
  go_loopw [3, 9] (fun l i wr => ∃ t a : Nat, t ≤ m ∧ t ≤ 256 ∧ i = .int .i64 (t : Int) ∧ l = .int .i64 (a : Int) ∧ a ≤ t * 1048586 ∧ Keep (R = fitG (ls.drop t) t a) ∧ wr = w) (fun _ i _ => m - (intOf i).toNat)
  case atStart => exact ⟨0, 0, by omega, by omega, rfl, rfl, by omega, H0, rfl⟩
  case round =>
    obtain ⟨t, a, ht, ht2, rfl, rfl, hal, HK, rfl⟩ := hrel
    by_cases hlt : t < m
    · obtain ⟨q, o, xa, xc, rfl, hmq, hc, _⟩ := HR.out.at t (by rw [← Hm.out]; exact hlt)
      have hlt' : (t : Int) < (m : Int) := by omega
      have hll := HL.out t hlt
      clear hmq
      have HS1 := Keep.mk (HSz.out (ls.getD t []).length (by omega))
      have HS2 := Keep.mk (HSz.out (t + 1) (by omega))
      have hn1 := num_len (ls.getD t []).length
      have hn2 := num_len (t + 1)
      have HD : Keep (R = if t = 256 ∨ 2097152 < 1 + (numL (t + 1)).length + (a + ((numL (ls.getD t []).length).length + (ls.getD t []).length)) then t else fitG (ls.drop (t + 1)) (t + 1) (a + ((numL (ls.getD t []).length).length + (ls.getD t []).length))) := ⟨by
        have hl : t < ls.length := by rw [← Hm.out]; exact hlt
        rw [HK.out, List.drop_eq_getElem_cons hl, fitG, List.getD_eq_getElem?_getD, List.getElem?_eq_getElem hl, Option.getD_some]
        simp only [bform, List.length_append]⟩
      generalize (ls.getD t []).length = n at *
      generalize (numL n).length = s1 at *
      generalize (numL (t + 1)).length = s2 at *
      go_wp2_with fail
      refine HS1.out.mono ?_
      rintro e w' ⟨rfl, rfl⟩
      go_wp2_with fail
      rw [show (t : Int) + 1 = ((t + 1 : Nat) : Int) by push_cast; rfl]
      refine HS2.out.mono ?_
      rintro e w' ⟨rfl, rfl⟩
      by_cases h1 : t = 256
      · have h1' : (t : Int) = 256 := by omega
        go_wp2
        go_ret
        exact ⟨by rw [HD.out, if_pos (.inl h1), h1]; rfl, rfl⟩
      · have h1' : ¬ (t : Int) = 256 := by omega
        by_cases h2 : (2097152 : Int) < 1 + (s2 : Int) + ((a : Int) + ((s1 : Int) + (n : Int)))
        · go_wp2
          go_ret
          exact ⟨by rw [HD.out, if_pos (.inr (by omega))]; rfl, rfl⟩
        · go_wp2
          case roundEnd => exact ⟨⟨t + 1, a + (s1 + n), by omega, by omega, by go_num, by go_num, by omega, ⟨by rw [HD.out, if_neg (by omega)]⟩, trivial⟩, by simp [intOf]; omega⟩
          all_goals (exfalso; rename_i hx; rcases hx with hx | hx; exact h1' (by simpa using hx); omega)
    · obtain rfl : t = m := by omega
      go_wp2
      go_ret
      exact ⟨by rw [HK.out, Hm.out, List.drop_length, fitG, ← Hm.out]; rfl, rfl⟩
def wipeC (i : Nat) (c : MC) : MC := if i = 0 then { c with h := noS } else if i = 1 then { c with s := 0 } else if i = 2 then { c with b := noS } else if i = 3 then { c with w := noS } else { c with x := noS }
def wfn (i : Nat) : Nat := if i = 0 then 74 else if i = 1 then 79 else if i = 2 then 84 else if i = 3 then 89 else 92
theorem wfn_in (i : Nat) (w : World) (vs : Array Value) : (callFunc (wfn i) vs).run Try.prog w = .ok (.enter (wfn i) vs) w := by
  unfold wfn
  repeat' split
  all_goals kernel_rfl
theorem fldA_w (i : Nat) : (fldA i)[0]? = some (.func (.func (wfn i)) #[] #[]) := by
  unfold fldA wfn
  repeat' split
  all_goals rfl
theorem SlC.wipe {c : MC} (h : SlC c) (i : Nat) : SlC (wipeC i c) := by
  unfold wipeC
  repeat' split
  · exact ⟨⟨_, _, _, rfl⟩, h.b, h.w, h.x⟩
  · exact ⟨h.h, h.b, h.w, h.x⟩
  · exact ⟨h.h, ⟨_, _, _, rfl⟩, h.w, h.x⟩
  · exact ⟨h.h, h.b, ⟨_, _, _, rfl⟩, h.x⟩
  · exact ⟨h.h, h.b, h.w, ⟨_, _, _, rfl⟩⟩
theorem wipe0_any (c : MC) (hc : SlC c) (g : Nat) (w : World) (h : Blk w g 28 (msA c)) : Calls Try.prog 74 #[ptr g] w fun e w' => e = .returned (.tuple #[]) ∧ Blk w' g 28 (msA (wipeC 0 c)) ∧ Grown w w' fun k => k = g := by
  obtain ⟨⟨_, _, _, e1⟩, ⟨_, _, _, e2⟩, ⟨_, _, _, e3⟩, ⟨_, _, _, e4⟩⟩ := hc
  obtain ⟨k, vh, s, vb, vw, vx⟩ := c
  simp only at e1 e2 e3 e4
  subst e1 e2 e3 e4
  have c0 := h.c 1 (ms_1 _)
  have f0 := h.frozen 1
  have HB := Keep.mk (h.set 1 (.slice none 0 0))
  have HG := Keep.mk (Grown.setCell w g 1 (.slice none 0 0) (S := fun k => k = g) fun _ => rfl)
  clear h
  go_enter Try.func74, Try.ntmps74
  go_wp2
  go_end0
  exact ⟨rfl, HB.out, HG.out⟩
theorem wipe1_any (c : MC) (hc : SlC c) (g : Nat) (w : World) (h : Blk w g 28 (msA c)) : Calls Try.prog 79 #[ptr g] w fun e w' => e = .returned (.tuple #[]) ∧ Blk w' g 28 (msA (wipeC 1 c)) ∧ Grown w w' fun k => k = g := by
  obtain ⟨⟨_, _, _, e1⟩, ⟨_, _, _, e2⟩, ⟨_, _, _, e3⟩, ⟨_, _, _, e4⟩⟩ := hc
  obtain ⟨k, vh, s, vb, vw, vx⟩ := c
  simp only at e1 e2 e3 e4
  subst e1 e2 e3 e4
  have c0 := h.c 2 (ms_2 _)
  have f0 := h.frozen 2
  have HB := Keep.mk (h.set 2 (.int .u64 0))
  have HG := Keep.mk (Grown.setCell w g 2 (.int .u64 0) (S := fun k => k = g) fun _ => rfl)
  clear h
  go_enter Try.func79, Try.ntmps79
  go_wp2
  go_end0
  exact ⟨rfl, HB.out, HG.out⟩
theorem wipe2_any (c : MC) (hc : SlC c) (g : Nat) (w : World) (h : Blk w g 28 (msA c)) : Calls Try.prog 84 #[ptr g] w fun e w' => e = .returned (.tuple #[]) ∧ Blk w' g 28 (msA (wipeC 2 c)) ∧ Grown w w' fun k => k = g := by
  obtain ⟨⟨_, _, _, e1⟩, ⟨_, _, _, e2⟩, ⟨_, _, _, e3⟩, ⟨_, _, _, e4⟩⟩ := hc
  obtain ⟨k, vh, s, vb, vw, vx⟩ := c
  simp only at e1 e2 e3 e4
  subst e1 e2 e3 e4
  have c0 := h.c 3 (ms_3 _)
  have f0 := h.frozen 3
  have HB := Keep.mk (h.set 3 (.slice none 0 0))
  have HG := Keep.mk (Grown.setCell w g 3 (.slice none 0 0) (S := fun k => k = g) fun _ => rfl)
  clear h
  go_enter Try.func84, Try.ntmps84
  go_wp2
  go_end0
  exact ⟨rfl, HB.out, HG.out⟩
theorem wipe3_any (c : MC) (hc : SlC c) (g : Nat) (w : World) (h : Blk w g 28 (msA c)) : Calls Try.prog 89 #[ptr g] w fun e w' => e = .returned (.tuple #[]) ∧ Blk w' g 28 (msA (wipeC 3 c)) ∧ Grown w w' fun k => k = g := by
  obtain ⟨⟨_, _, _, e1⟩, ⟨_, _, _, e2⟩, ⟨_, _, _, e3⟩, ⟨_, _, _, e4⟩⟩ := hc
  obtain ⟨k, vh, s, vb, vw, vx⟩ := c
  simp only at e1 e2 e3 e4
  subst e1 e2 e3 e4
  have c0 := h.c 4 (ms_4 _)
  have f0 := h.frozen 4
  have HB := Keep.mk (h.set 4 (.slice none 0 0))
  have HG := Keep.mk (Grown.setCell w g 4 (.slice none 0 0) (S := fun k => k = g) fun _ => rfl)
  clear h
  go_enter Try.func89, Try.ntmps89
  go_wp2
  go_end0
  exact ⟨rfl, HB.out, HG.out⟩
theorem wipe4_any (c : MC) (hc : SlC c) (g : Nat) (w : World) (h : Blk w g 28 (msA c)) : Calls Try.prog 92 #[ptr g] w fun e w' => e = .returned (.tuple #[]) ∧ Blk w' g 28 (msA (wipeC 4 c)) ∧ Grown w w' fun k => k = g := by
  obtain ⟨⟨_, _, _, e1⟩, ⟨_, _, _, e2⟩, ⟨_, _, _, e3⟩, ⟨_, _, _, e4⟩⟩ := hc
  obtain ⟨k, vh, s, vb, vw, vx⟩ := c
  simp only at e1 e2 e3 e4
  subst e1 e2 e3 e4
  have c0 := h.c 5 (ms_5 _)
  have f0 := h.frozen 5
  have HB := Keep.mk (h.set 5 (.slice none 0 0))
  have HG := Keep.mk (Grown.setCell w g 5 (.slice none 0 0) (S := fun k => k = g) fun _ => rfl)
  clear h
  go_enter Try.func92, Try.ntmps92
  go_wp2
  go_end0
  exact ⟨rfl, HB.out, HG.out⟩
theorem wipe_any (i : Nat) (c : MC) (hc : SlC c) (g : Nat) (w : World) (h : Blk w g 28 (msA c)) : Calls Try.prog (wfn i) #[ptr g] w fun e w' => e = .returned (.tuple #[]) ∧ Blk w' g 28 (msA (wipeC i c)) ∧ Grown w w' fun k => k = g := by
  unfold wfn
  by_cases h0 : i = 0
  · subst h0; exact wipe0_any c hc g w h
  rw [if_neg h0]
  by_cases h1 : i = 1
  · subst h1; exact wipe1_any c hc g w h
  rw [if_neg h1]
  by_cases h2 : i = 2
  · subst h2; exact wipe2_any c hc g w h
  rw [if_neg h2]
  by_cases h3 : i = 3
  · subst h3; exact wipe3_any c hc g w h
  rw [if_neg h3]
  have e : wipeC i c = wipeC 4 c := by unfold wipeC; simp [h0, h1, h2, h3]
  rw [e]
  exact wipe4_any c hc g w h
def wipesC (is : List Nat) (c : MC) : MC := is.foldl (fun c i => wipeC i c) c
theorem wipesC_step (is : List Nat) (t i : Nat) (c : MC) (h : is[t]? = some i) : wipesC (is.take (t + 1)) c = wipeC i (wipesC (is.take t) c) := by
  unfold wipesC
  rw [List.take_add_one, h]
  simp
theorem SlC.wipes {c : MC} (h : SlC c) : ∀ (is : List Nat), SlC (wipesC is c) := fun is => by
  unfold wipesC
  induction is generalizing c with
  | nil => exact h
  | cons i is ih => exact ih (h.wipe i)
def leftB (hn : Nat) (s : Int) (bn wn xn : Nat) : Bool := decide (0 < hn) || (!decide (s = 0)) || decide (0 < bn) || decide (0 < wn) || decide (0 < xn)
set_option maxRecDepth 8000 in
set_option maxHeartbeats 2000000 in
theorem hasMore_any (c : MC) (hc : SlC c) (gf : Nat) (is : List Nat) (w : World) (hf : Blk w gf 71 (flatF is)) (hl : is.length ≤ 4) (R : Bool)
    (hR : ∀ ha hn hk, (wipesC is c).h = .slice ha hn hk → ∀ ba bn bk, (wipesC is c).b = .slice ba bn bk → ∀ wa wn wk, (wipesC is c).w = .slice wa wn wk → ∀ xa xn xk, (wipesC is c).x = .slice xa xn xk → R = leftB hn (wipesC is c).s bn wn xn) :
    Calls Try.prog 21 #[.agg (msA c), .slice (some ⟨gf, 0, none⟩) is.length is.length] w fun e w' => e = .returned (.bool R) ∧ Below w.heap.size w w' := by
  unfold leftB at hR
  have HF := Keep.mk hf
  have Hc := Keep.mk hc
  have HRs := Keep.mk hR
  have HNn := Keep.mk hl
  have Hgne : Keep (gf ≠ w.heap.size) := ⟨by have := hf.lt; omega⟩
  clear hf hc hR
  go_enter Try.func21, Try.ntmps21
  refine wp_seq_k fun K1 hK1 => ?_
  refine wp_region_list (WL.out ?_)
  refine WL.box (by kernel_rfl) 28 (.tmp 0) rfl _ rfl ?_
  have HM := Keep.mk (Blk.new w 28 (msA c))
  have B1 := Keep.mk (below_new w (.cells (msA c) 28))
  have HF1 := Keep.mk (HF.out.alloc (.cells (msA c) 28))
  have Hgf := Keep.mk HF.out.lt
  generalize w.alloc (.cells (msA c) 28) = w1 at *
  obtain ⟨g, hg⟩ : ∃ g, g = w.heap.size := ⟨_, rfl⟩
  rw [← hg] at HM B1 Hgf Hgne ⊢
  have HgE := Keep.mk hg
  clear hg
  simp only [Act.put, List.setIfInBounds_toArray, List.set_cons_zero, List.set_cons_succ]
  refine WL.val (by kernel_rfl) (.bool false) (by go_simp) ?_
  simp only [Act.put, List.setIfInBounds_toArray, List.set_cons_zero, List.set_cons_succ]
  refine WL.nil ?_
  refine hK1 _ _ ?_
  refine wp_seq_k fun K2 hK2 => ?_
  refine wp_seq_k fun K3 hK3 => ?_
  refine wp_region_list (WL.out ?_)
  refine WL.val (by kernel_rfl) (.slice (some ⟨gf, 0, none⟩) is.length is.length) (by go_simp) ?_
  simp only [Act.put, List.setIfInBounds_toArray, List.set_cons_zero, List.set_cons_succ]
  refine WL.val (by kernel_rfl) (.int .i64 (is.length : Int)) (by go_simp) ?_
  simp only [Act.put, List.setIfInBounds_toArray, List.set_cons_zero, List.set_cons_succ]
  refine WL.val (by kernel_rfl) (.int .i64 0) (by go_simp) ?_
  simp only [Act.put, List.setIfInBounds_toArray, List.set_cons_zero, List.set_cons_succ]
  refine WL.nil ?_
  refine hK3 _ _ ?_
  refine wp_block ?_
  refine wp_loop (fun ac wr => ∃ (t : Nat) (u6 u10 u11 u12 u13 u14 u15 u16 : Value), ac = { tmps := #[.agg (msA c), .slice (some ⟨gf, 0, none⟩) is.length is.length, .pointer (some ⟨g, 0, none⟩), undef, .bool false, undef, u6, .slice (some ⟨gf, 0, none⟩) is.length is.length, .int .i64 (is.length : Int), .int .i64 (t : Int), u10, u11, u12, u13, u14, u15, u16, undef, undef, undef, undef, undef, undef, undef, undef, undef, undef, undef, undef, undef, undef, undef, undef, undef, undef, undef, undef, undef, undef, undef, undef, undef, undef, undef], defers := [] } ∧ t ≤ is.length ∧ Keep (Blk wr g 28 (msA (wipesC (is.take t) c))) ∧ Keep (Blk wr gf 71 (flatF is)) ∧ Keep (Below g w wr)) (fun a _ => is.length - (intOf (a.tmps.getD 9 undef)).toNat) ⟨0, undef, undef, undef, undef, undef, undef, undef, undef, rfl, by omega, HM, HF1, B1⟩ ?_
  rintro ac wr ⟨t, u6, u10, u11, u12, u13, u14, u15, u16, rfl, ht, HMr, HFr, Hgr⟩
  by_cases hlt : t < is.length
  · have hlt' : (t : Int) < (is.length : Int) := by omega
    obtain ⟨i, hi⟩ : ∃ i, is[t]? = some i := ⟨_, List.getElem?_eq_getElem hlt⟩
    have Hi := Keep.mk hi
    clear hi
    have hwt : IntKind.i64.wrap ((t : Int) + 1) = (t : Int) + 1 := by rw [IntKind.wrap_i64]; omega
    refine wp_seq_k fun K4 hK4 => ?_
    refine wp_region_list (WL.out ?_)
    refine WL.val (by kernel_rfl) (.bool true) (by go_simp) ?_
    simp only [Act.put, List.setIfInBounds_toArray, List.set_cons_zero, List.set_cons_succ]
    refine WL.nil ?_
    refine hK4 _ _ ?_
    refine wp_seq_k fun K5 hK5 => ?_
    refine wp_cond_true rfl ?_
    refine wp_skip ?_
    refine hK5 _ _ ?_
    refine wp_seq_k fun K6 hK6 => ?_
    refine wp_block ?_
    refine wp_seq_k fun K7 hK7 => ?_
    refine wp_region_list (WL.out ?_)
    refine WL.val (by kernel_rfl) (.pointer (some ⟨gf, t * 3, none⟩)) (by go_simp) ?_
    simp only [Act.put, List.setIfInBounds_toArray, List.set_cons_zero, List.set_cons_succ]
    refine WL.mid (by kernel_rfl) 71 (.tmp 11) rfl gf (t * 3) rfl (fldA i).toList _ (fld_range HFr.out t i Hi.out) Try.underlying71 rfl (Try.size71L i) ?_
    rw [Array.toArray_toList]
    simp only [Act.put, List.setIfInBounds_toArray, List.set_cons_zero, List.set_cons_succ]
    refine WL.new (by kernel_rfl) 71 rfl _ Try.new71 ?_
    have HN := Keep.mk (Blk.new wr 71 noF)
    have HMn := Keep.mk (HMr.out.alloc (.cells noF 71))
    have HFn := Keep.mk (HFr.out.alloc (.cells noF 71))
    have Gn : Keep (Below g w (wr.alloc (.cells noF 71))) := ⟨Hgr.out.trans ((below_new wr _).mono (by rw [HgE.out]; exact Hgr.out.size))⟩
    have Hne : Keep (wr.heap.size ≠ g ∧ wr.heap.size ≠ gf ∧ g ≤ wr.heap.size) := ⟨by have := HMr.out.lt; have := HFr.out.lt; omega⟩
    generalize wr.alloc (.cells noF 71) = wn at *
    generalize wr.heap.size = gn at *
    simp only [Act.put, List.setIfInBounds_toArray, List.set_cons_zero, List.set_cons_succ]
    refine WL.storeR (by kernel_rfl) 71 (.tmp 6) (.tmp 12) rfl gn (fldA i) rfl rfl 71 noF HN.out (Try.size71B i) (noF_sizes i) (fldA_one i) ?_
    have HN2 := Keep.mk (HN.out.setRow (fldA i))
    have HM2 := Keep.mk (HMn.out.setRow_ne (b' := gn) (fun e => Hne.out.1 e.symm) (fldA i))
    have HF2 := Keep.mk (HFn.out.setRow_ne (b' := gn) (fun e => Hne.out.2.1 e.symm) (fldA i))
    have G2 : Keep (Below g w (wn.setRow gn (fldA i))) := ⟨below_setRow Gn.out Hne.out.2.2 _⟩
    generalize wn.setRow gn (fldA i) = w2 at *
    have c0 := HN2.out.c 0 (fldA_w i)
    simp only [Act.put]
    refine WL.nil ?_
    refine hK7 _ _ ?_
    refine wp_region_list (WL.out ?_)
    refine WL.val (by kernel_rfl) (.pointer (some ⟨gn, 0, none⟩)) (by go_simp) ?_
    simp only [Act.put, List.setIfInBounds_toArray, List.set_cons_zero, List.set_cons_succ]
    refine WL.val (by kernel_rfl) (.func (.func (wfn i)) #[] #[]) (by go_simp) ?_
    simp only [Act.put, List.setIfInBounds_toArray, List.set_cons_zero, List.set_cons_succ]
    refine WL.callV (by kernel_rfl) (wfn i) (.tmp 14) _ _ rfl rfl (wfn_in i) #[ptr g] (by simp [Act.eval]) ?_
    refine (wipe_any i _ (Hc.out.wipes _) g w2 HM2.out).mono ?_
    rintro e w3 ⟨rfl, h1, h2⟩
    refine ⟨_, rfl, ?_⟩
    rw [← wipesC_step is t i c Hi.out] at h1
    have HM3 := Keep.mk h1
    have HF3 := Keep.mk (h2.blk HF2.out (fun e => Hgne.out e))
    have G3 : Keep (Below g w w3) := ⟨G2.out.trans (h2.to_below (B := g) (fun k hk e => by omega) (by rw [HgE.out]; exact G2.out.size))⟩
    clear h1 h2
    simp only [Act.put, List.setIfInBounds_toArray, List.set_cons_zero, List.set_cons_succ]
    refine WL.nil ?_
    refine hK6 _ _ ?_
    refine wp_region_list (WL.out ?_)
    refine WL.val (by kernel_rfl) (.int .i64 ((t : Int) + 1)) (by go_simp) ?_
    simp only [Act.put, List.setIfInBounds_toArray, List.set_cons_zero, List.set_cons_succ]
    refine WL.val (by kernel_rfl) (.int .i64 ((t : Int) + 1)) (by go_simp) ?_
    simp only [Act.put, List.setIfInBounds_toArray, List.set_cons_zero, List.set_cons_succ]
    refine WL.nil ?_
    refine ⟨⟨t + 1, .pointer (some ⟨gn, 0, none⟩), .bool true, .pointer (some ⟨gf, t * 3, none⟩), .agg (fldA i), .pointer (some ⟨gn, 0, none⟩), .func (.func (wfn i)) #[] #[], .tuple #[], .int .i64 ((t : Int) + 1), rfl, by omega, HM3, HF3, G3⟩, by simp [intOf]; omega⟩
  · obtain rfl : t = is.length := by omega
    have HMe := HMr.out
    rw [List.take_length] at HMe
    have Hce := Hc.out.wipes is
    obtain ⟨D, hD⟩ : ∃ D, D = wipesC is c := ⟨_, rfl⟩
    rw [← hD] at HMe Hce HRs
    obtain ⟨⟨ha, hn, hk, e1⟩, ⟨ba, bn, bk, e2⟩, ⟨wa, wn, wk, e3⟩, ⟨xa, xn, xk, e4⟩⟩ := Hce
    have HV := Keep.mk (HRs.out ha hn hk e1 ba bn bk e2 wa wn wk e3 xa xn xk e4)
    have d1 := HMe.c 1 (ms_1 D)
    have d2 := HMe.c 2 (ms_2 D)
    have d3 := HMe.c 3 (ms_3 D)
    have d4 := HMe.c 4 (ms_4 D)
    have d5 := HMe.c 5 (ms_5 D)
    rw [e1] at d1
    rw [e2] at d3
    rw [e3] at d4
    rw [e4] at d5
    obtain ⟨s0, hs0⟩ : ∃ s0, s0 = D.s := ⟨_, rfl⟩
    rw [← hs0] at d2 HV
    clear hD e1 e2 e3 e4 hs0 HMe
    have hxn := HNn.out
    refine wp_seq_k fun K8 hK8 => ?_
    refine wp_region_list (WL.out ?_)
    refine WL.val (by kernel_rfl) (.bool false) (by go_simp) ?_
    simp only [Act.put, List.setIfInBounds_toArray, List.set_cons_zero, List.set_cons_succ]
    refine WL.nil ?_
    refine hK8 _ _ ?_
    refine wp_seq_k fun K9 hK9 => ?_
    refine wp_cond_false rfl ?_
    refine wp_exit ?_
    refine hK2 _ _ ?_
    refine wp_seq_k fun K10 hK10 => ?_
    refine wp_region_list (WL.out ?_)
    refine WL.val (by kernel_rfl) (.pointer (some ⟨g, 1, none⟩)) (by go_simp) ?_
    simp only [Act.put, List.setIfInBounds_toArray, List.set_cons_zero, List.set_cons_succ]
    refine WL.val (by kernel_rfl) (.slice ha hn hk) (by go_simp) ?_
    simp only [Act.put, List.setIfInBounds_toArray, List.set_cons_zero, List.set_cons_succ]
    refine WL.val (by kernel_rfl) (.int .i64 (hn : Int)) (by go_simp) ?_
    simp only [Act.put, List.setIfInBounds_toArray, List.set_cons_zero, List.set_cons_succ]
    by_cases h6_3 : 0 < hn
    · have h6_3i : (0 : Int) < (hn : Int) := by omega
      refine WL.val (by kernel_rfl) (.bool true) (by go_simp) ?_
      simp only [Act.put, List.setIfInBounds_toArray, List.set_cons_zero, List.set_cons_succ]
      refine WL.val (by kernel_rfl) (.bool true) (by go_simp) ?_
      simp only [Act.put, List.setIfInBounds_toArray, List.set_cons_zero, List.set_cons_succ]
      refine WL.skip (by kernel_rfl) ?_
      simp only [Act.put, List.setIfInBounds_toArray, List.set_cons_zero, List.set_cons_succ]
      refine WL.skip (by kernel_rfl) ?_
      simp only [Act.put, List.setIfInBounds_toArray, List.set_cons_zero, List.set_cons_succ]
      refine WL.skip (by kernel_rfl) ?_
      simp only [Act.put, List.setIfInBounds_toArray, List.set_cons_zero, List.set_cons_succ]
      refine WL.val (by kernel_rfl) (.bool true) (by go_simp) ?_
      simp only [Act.put, List.setIfInBounds_toArray, List.set_cons_zero, List.set_cons_succ]
      refine WL.val (by kernel_rfl) (.bool true) (by go_simp) ?_
      simp only [Act.put, List.setIfInBounds_toArray, List.set_cons_zero, List.set_cons_succ]
      refine WL.skip (by kernel_rfl) ?_
      simp only [Act.put, List.setIfInBounds_toArray, List.set_cons_zero, List.set_cons_succ]
      refine WL.skip (by kernel_rfl) ?_
      simp only [Act.put, List.setIfInBounds_toArray, List.set_cons_zero, List.set_cons_succ]
      refine WL.skip (by kernel_rfl) ?_
      simp only [Act.put, List.setIfInBounds_toArray, List.set_cons_zero, List.set_cons_succ]
      refine WL.skip (by kernel_rfl) ?_
      simp only [Act.put, List.setIfInBounds_toArray, List.set_cons_zero, List.set_cons_succ]
      refine WL.val (by kernel_rfl) (.bool true) (by go_simp) ?_
      simp only [Act.put, List.setIfInBounds_toArray, List.set_cons_zero, List.set_cons_succ]
      refine WL.val (by kernel_rfl) (.bool true) (by go_simp) ?_
      simp only [Act.put, List.setIfInBounds_toArray, List.set_cons_zero, List.set_cons_succ]
      refine WL.skip (by kernel_rfl) ?_
      simp only [Act.put, List.setIfInBounds_toArray, List.set_cons_zero, List.set_cons_succ]
      refine WL.skip (by kernel_rfl) ?_
      simp only [Act.put, List.setIfInBounds_toArray, List.set_cons_zero, List.set_cons_succ]
      refine WL.skip (by kernel_rfl) ?_
      simp only [Act.put, List.setIfInBounds_toArray, List.set_cons_zero, List.set_cons_succ]
      refine WL.skip (by kernel_rfl) ?_
      simp only [Act.put, List.setIfInBounds_toArray, List.set_cons_zero, List.set_cons_succ]
      refine WL.val (by kernel_rfl) (.bool true) (by go_simp) ?_
      simp only [Act.put, List.setIfInBounds_toArray, List.set_cons_zero, List.set_cons_succ]
      refine WL.val (by kernel_rfl) (.bool true) (by go_simp) ?_
      simp only [Act.put, List.setIfInBounds_toArray, List.set_cons_zero, List.set_cons_succ]
      refine WL.skip (by kernel_rfl) ?_
      simp only [Act.put, List.setIfInBounds_toArray, List.set_cons_zero, List.set_cons_succ]
      refine WL.skip (by kernel_rfl) ?_
      simp only [Act.put, List.setIfInBounds_toArray, List.set_cons_zero, List.set_cons_succ]
      refine WL.skip (by kernel_rfl) ?_
      simp only [Act.put, List.setIfInBounds_toArray, List.set_cons_zero, List.set_cons_succ]
      refine WL.skip (by kernel_rfl) ?_
      simp only [Act.put, List.setIfInBounds_toArray, List.set_cons_zero, List.set_cons_succ]
      refine WL.val (by kernel_rfl) (.bool true) (by go_simp) ?_
      simp only [Act.put, List.setIfInBounds_toArray, List.set_cons_zero, List.set_cons_succ]
      refine WL.val (by kernel_rfl) (.bool true) (by go_simp) ?_
      simp only [Act.put, List.setIfInBounds_toArray, List.set_cons_zero, List.set_cons_succ]
      refine WL.nil ?_
      refine hK10 _ _ ?_
      refine wp_ret ?_
      go_ret
      exact ⟨by rw [HV.out]; simp [*], by rw [← HgE.out]; exact Hgr.out⟩
    · have h6_3i : ¬ (0 : Int) < (hn : Int) := by omega
      refine WL.val (by kernel_rfl) (.bool false) (by go_simp) ?_
      simp only [Act.put, List.setIfInBounds_toArray, List.set_cons_zero, List.set_cons_succ]
      refine WL.val (by kernel_rfl) (.bool false) (by go_simp) ?_
      simp only [Act.put, List.setIfInBounds_toArray, List.set_cons_zero, List.set_cons_succ]
      refine WL.val (by kernel_rfl) (.pointer (some ⟨g, 2, none⟩)) (by go_simp) ?_
      simp only [Act.put, List.setIfInBounds_toArray, List.set_cons_zero, List.set_cons_succ]
      refine WL.val (by kernel_rfl) (.int .u64 s0) (by go_simp) ?_
      simp only [Act.put, List.setIfInBounds_toArray, List.set_cons_zero, List.set_cons_succ]
      by_cases h6_7 : s0 = 0
      · skip
        refine WL.val (by kernel_rfl) (.bool false) (by go_simp) ?_
        simp only [Act.put, List.setIfInBounds_toArray, List.set_cons_zero, List.set_cons_succ]
        refine WL.val (by kernel_rfl) (.bool false) (by go_simp) ?_
        simp only [Act.put, List.setIfInBounds_toArray, List.set_cons_zero, List.set_cons_succ]
        refine WL.val (by kernel_rfl) (.bool false) (by go_simp) ?_
        simp only [Act.put, List.setIfInBounds_toArray, List.set_cons_zero, List.set_cons_succ]
        refine WL.val (by kernel_rfl) (.pointer (some ⟨g, 3, none⟩)) (by go_simp) ?_
        simp only [Act.put, List.setIfInBounds_toArray, List.set_cons_zero, List.set_cons_succ]
        refine WL.val (by kernel_rfl) (.slice ba bn bk) (by go_simp) ?_
        simp only [Act.put, List.setIfInBounds_toArray, List.set_cons_zero, List.set_cons_succ]
        refine WL.val (by kernel_rfl) (.int .i64 (bn : Int)) (by go_simp) ?_
        simp only [Act.put, List.setIfInBounds_toArray, List.set_cons_zero, List.set_cons_succ]
        by_cases h6_13 : 0 < bn
        · have h6_13i : (0 : Int) < (bn : Int) := by omega
          refine WL.val (by kernel_rfl) (.bool true) (by go_simp) ?_
          simp only [Act.put, List.setIfInBounds_toArray, List.set_cons_zero, List.set_cons_succ]
          refine WL.val (by kernel_rfl) (.bool true) (by go_simp) ?_
          simp only [Act.put, List.setIfInBounds_toArray, List.set_cons_zero, List.set_cons_succ]
          refine WL.val (by kernel_rfl) (.bool true) (by go_simp) ?_
          simp only [Act.put, List.setIfInBounds_toArray, List.set_cons_zero, List.set_cons_succ]
          refine WL.skip (by kernel_rfl) ?_
          simp only [Act.put, List.setIfInBounds_toArray, List.set_cons_zero, List.set_cons_succ]
          refine WL.skip (by kernel_rfl) ?_
          simp only [Act.put, List.setIfInBounds_toArray, List.set_cons_zero, List.set_cons_succ]
          refine WL.skip (by kernel_rfl) ?_
          simp only [Act.put, List.setIfInBounds_toArray, List.set_cons_zero, List.set_cons_succ]
          refine WL.skip (by kernel_rfl) ?_
          simp only [Act.put, List.setIfInBounds_toArray, List.set_cons_zero, List.set_cons_succ]
          refine WL.val (by kernel_rfl) (.bool true) (by go_simp) ?_
          simp only [Act.put, List.setIfInBounds_toArray, List.set_cons_zero, List.set_cons_succ]
          refine WL.val (by kernel_rfl) (.bool true) (by go_simp) ?_
          simp only [Act.put, List.setIfInBounds_toArray, List.set_cons_zero, List.set_cons_succ]
          refine WL.skip (by kernel_rfl) ?_
          simp only [Act.put, List.setIfInBounds_toArray, List.set_cons_zero, List.set_cons_succ]
          refine WL.skip (by kernel_rfl) ?_
          simp only [Act.put, List.setIfInBounds_toArray, List.set_cons_zero, List.set_cons_succ]
          refine WL.skip (by kernel_rfl) ?_
          simp only [Act.put, List.setIfInBounds_toArray, List.set_cons_zero, List.set_cons_succ]
          refine WL.skip (by kernel_rfl) ?_
          simp only [Act.put, List.setIfInBounds_toArray, List.set_cons_zero, List.set_cons_succ]
          refine WL.val (by kernel_rfl) (.bool true) (by go_simp) ?_
          simp only [Act.put, List.setIfInBounds_toArray, List.set_cons_zero, List.set_cons_succ]
          refine WL.val (by kernel_rfl) (.bool true) (by go_simp) ?_
          simp only [Act.put, List.setIfInBounds_toArray, List.set_cons_zero, List.set_cons_succ]
          refine WL.nil ?_
          refine hK10 _ _ ?_
          refine wp_ret ?_
          go_ret
          exact ⟨by rw [HV.out]; simp [*], by rw [← HgE.out]; exact Hgr.out⟩
        · have h6_13i : ¬ (0 : Int) < (bn : Int) := by omega
          refine WL.val (by kernel_rfl) (.bool false) (by go_simp) ?_
          simp only [Act.put, List.setIfInBounds_toArray, List.set_cons_zero, List.set_cons_succ]
          refine WL.val (by kernel_rfl) (.bool false) (by go_simp) ?_
          simp only [Act.put, List.setIfInBounds_toArray, List.set_cons_zero, List.set_cons_succ]
          refine WL.val (by kernel_rfl) (.bool false) (by go_simp) ?_
          simp only [Act.put, List.setIfInBounds_toArray, List.set_cons_zero, List.set_cons_succ]
          refine WL.val (by kernel_rfl) (.pointer (some ⟨g, 4, none⟩)) (by go_simp) ?_
          simp only [Act.put, List.setIfInBounds_toArray, List.set_cons_zero, List.set_cons_succ]
          refine WL.val (by kernel_rfl) (.slice wa wn wk) (by go_simp) ?_
          simp only [Act.put, List.setIfInBounds_toArray, List.set_cons_zero, List.set_cons_succ]
          refine WL.val (by kernel_rfl) (.int .i64 (wn : Int)) (by go_simp) ?_
          simp only [Act.put, List.setIfInBounds_toArray, List.set_cons_zero, List.set_cons_succ]
          by_cases h6_19 : 0 < wn
          · have h6_19i : (0 : Int) < (wn : Int) := by omega
            refine WL.val (by kernel_rfl) (.bool true) (by go_simp) ?_
            simp only [Act.put, List.setIfInBounds_toArray, List.set_cons_zero, List.set_cons_succ]
            refine WL.val (by kernel_rfl) (.bool true) (by go_simp) ?_
            simp only [Act.put, List.setIfInBounds_toArray, List.set_cons_zero, List.set_cons_succ]
            refine WL.val (by kernel_rfl) (.bool true) (by go_simp) ?_
            simp only [Act.put, List.setIfInBounds_toArray, List.set_cons_zero, List.set_cons_succ]
            refine WL.skip (by kernel_rfl) ?_
            simp only [Act.put, List.setIfInBounds_toArray, List.set_cons_zero, List.set_cons_succ]
            refine WL.skip (by kernel_rfl) ?_
            simp only [Act.put, List.setIfInBounds_toArray, List.set_cons_zero, List.set_cons_succ]
            refine WL.skip (by kernel_rfl) ?_
            simp only [Act.put, List.setIfInBounds_toArray, List.set_cons_zero, List.set_cons_succ]
            refine WL.skip (by kernel_rfl) ?_
            simp only [Act.put, List.setIfInBounds_toArray, List.set_cons_zero, List.set_cons_succ]
            refine WL.val (by kernel_rfl) (.bool true) (by go_simp) ?_
            simp only [Act.put, List.setIfInBounds_toArray, List.set_cons_zero, List.set_cons_succ]
            refine WL.val (by kernel_rfl) (.bool true) (by go_simp) ?_
            simp only [Act.put, List.setIfInBounds_toArray, List.set_cons_zero, List.set_cons_succ]
            refine WL.nil ?_
            refine hK10 _ _ ?_
            refine wp_ret ?_
            go_ret
            exact ⟨by rw [HV.out]; simp [*], by rw [← HgE.out]; exact Hgr.out⟩
          · have h6_19i : ¬ (0 : Int) < (wn : Int) := by omega
            refine WL.val (by kernel_rfl) (.bool false) (by go_simp) ?_
            simp only [Act.put, List.setIfInBounds_toArray, List.set_cons_zero, List.set_cons_succ]
            refine WL.val (by kernel_rfl) (.bool false) (by go_simp) ?_
            simp only [Act.put, List.setIfInBounds_toArray, List.set_cons_zero, List.set_cons_succ]
            refine WL.val (by kernel_rfl) (.bool false) (by go_simp) ?_
            simp only [Act.put, List.setIfInBounds_toArray, List.set_cons_zero, List.set_cons_succ]
            refine WL.val (by kernel_rfl) (.pointer (some ⟨g, 5, none⟩)) (by go_simp) ?_
            simp only [Act.put, List.setIfInBounds_toArray, List.set_cons_zero, List.set_cons_succ]
            refine WL.val (by kernel_rfl) (.slice xa xn xk) (by go_simp) ?_
            simp only [Act.put, List.setIfInBounds_toArray, List.set_cons_zero, List.set_cons_succ]
            refine WL.val (by kernel_rfl) (.int .i64 (xn : Int)) (by go_simp) ?_
            simp only [Act.put, List.setIfInBounds_toArray, List.set_cons_zero, List.set_cons_succ]
            by_cases h6_25 : 0 < xn
            · have h6_25i : (0 : Int) < (xn : Int) := by omega
              refine WL.val (by kernel_rfl) (.bool true) (by go_simp) ?_
              simp only [Act.put, List.setIfInBounds_toArray, List.set_cons_zero, List.set_cons_succ]
              refine WL.val (by kernel_rfl) (.bool true) (by go_simp) ?_
              simp only [Act.put, List.setIfInBounds_toArray, List.set_cons_zero, List.set_cons_succ]
              refine WL.val (by kernel_rfl) (.bool true) (by go_simp) ?_
              simp only [Act.put, List.setIfInBounds_toArray, List.set_cons_zero, List.set_cons_succ]
              refine WL.nil ?_
              refine hK10 _ _ ?_
              refine wp_ret ?_
              go_ret
              exact ⟨by rw [HV.out]; simp [*], by rw [← HgE.out]; exact Hgr.out⟩
            · have h6_25i : ¬ (0 : Int) < (xn : Int) := by omega
              refine WL.val (by kernel_rfl) (.bool false) (by go_simp) ?_
              simp only [Act.put, List.setIfInBounds_toArray, List.set_cons_zero, List.set_cons_succ]
              refine WL.val (by kernel_rfl) (.bool false) (by go_simp) ?_
              simp only [Act.put, List.setIfInBounds_toArray, List.set_cons_zero, List.set_cons_succ]
              refine WL.val (by kernel_rfl) (.bool false) (by go_simp) ?_
              simp only [Act.put, List.setIfInBounds_toArray, List.set_cons_zero, List.set_cons_succ]
              refine WL.nil ?_
              refine hK10 _ _ ?_
              refine wp_ret ?_
              go_ret
              exact ⟨by rw [HV.out]; simp [*], by rw [← HgE.out]; exact Hgr.out⟩
      · skip
        refine WL.val (by kernel_rfl) (.bool true) (by go_simp) ?_
        simp only [Act.put, List.setIfInBounds_toArray, List.set_cons_zero, List.set_cons_succ]
        refine WL.val (by kernel_rfl) (.bool true) (by go_simp) ?_
        simp only [Act.put, List.setIfInBounds_toArray, List.set_cons_zero, List.set_cons_succ]
        refine WL.val (by kernel_rfl) (.bool true) (by go_simp) ?_
        simp only [Act.put, List.setIfInBounds_toArray, List.set_cons_zero, List.set_cons_succ]
        refine WL.skip (by kernel_rfl) ?_
        simp only [Act.put, List.setIfInBounds_toArray, List.set_cons_zero, List.set_cons_succ]
        refine WL.skip (by kernel_rfl) ?_
        simp only [Act.put, List.setIfInBounds_toArray, List.set_cons_zero, List.set_cons_succ]
        refine WL.skip (by kernel_rfl) ?_
        simp only [Act.put, List.setIfInBounds_toArray, List.set_cons_zero, List.set_cons_succ]
        refine WL.skip (by kernel_rfl) ?_
        simp only [Act.put, List.setIfInBounds_toArray, List.set_cons_zero, List.set_cons_succ]
        refine WL.val (by kernel_rfl) (.bool true) (by go_simp) ?_
        simp only [Act.put, List.setIfInBounds_toArray, List.set_cons_zero, List.set_cons_succ]
        refine WL.val (by kernel_rfl) (.bool true) (by go_simp) ?_
        simp only [Act.put, List.setIfInBounds_toArray, List.set_cons_zero, List.set_cons_succ]
        refine WL.skip (by kernel_rfl) ?_
        simp only [Act.put, List.setIfInBounds_toArray, List.set_cons_zero, List.set_cons_succ]
        refine WL.skip (by kernel_rfl) ?_
        simp only [Act.put, List.setIfInBounds_toArray, List.set_cons_zero, List.set_cons_succ]
        refine WL.skip (by kernel_rfl) ?_
        simp only [Act.put, List.setIfInBounds_toArray, List.set_cons_zero, List.set_cons_succ]
        refine WL.skip (by kernel_rfl) ?_
        simp only [Act.put, List.setIfInBounds_toArray, List.set_cons_zero, List.set_cons_succ]
        refine WL.val (by kernel_rfl) (.bool true) (by go_simp) ?_
        simp only [Act.put, List.setIfInBounds_toArray, List.set_cons_zero, List.set_cons_succ]
        refine WL.val (by kernel_rfl) (.bool true) (by go_simp) ?_
        simp only [Act.put, List.setIfInBounds_toArray, List.set_cons_zero, List.set_cons_succ]
        refine WL.skip (by kernel_rfl) ?_
        simp only [Act.put, List.setIfInBounds_toArray, List.set_cons_zero, List.set_cons_succ]
        refine WL.skip (by kernel_rfl) ?_
        simp only [Act.put, List.setIfInBounds_toArray, List.set_cons_zero, List.set_cons_succ]
        refine WL.skip (by kernel_rfl) ?_
        simp only [Act.put, List.setIfInBounds_toArray, List.set_cons_zero, List.set_cons_succ]
        refine WL.skip (by kernel_rfl) ?_
        simp only [Act.put, List.setIfInBounds_toArray, List.set_cons_zero, List.set_cons_succ]
        refine WL.val (by kernel_rfl) (.bool true) (by go_simp) ?_
        simp only [Act.put, List.setIfInBounds_toArray, List.set_cons_zero, List.set_cons_succ]
        refine WL.val (by kernel_rfl) (.bool true) (by go_simp) ?_
        simp only [Act.put, List.setIfInBounds_toArray, List.set_cons_zero, List.set_cons_succ]
        refine WL.nil ?_
        refine hK10 _ _ ?_
        refine wp_ret ?_
        go_ret
        exact ⟨by rw [HV.out]; simp [*], by rw [← HgE.out]; exact Hgr.out⟩
theorem TabAt.look2 {w : World} {m : Nat} (h : TabAt w m) (k : Int) : ∃ v, FieldsAt w v (hasI k) ∧ ∀ wx, Below w.heap.size w wx →
    (Instr.lookup 59 (.map (some m)) (.int .i64 k) false).run Try.prog wx = .ok v wx ∧ (Instr.lookup 59 (.map (some m)) (.int .i64 k) true).run Try.prog wx = .ok (.tuple #[v, .bool (!(hasI k).isEmpty)]) wx := by
  obtain ⟨V, h1, h2⟩ := h.ex
  have h3 := fun wx (hb : Below w.heap.size w wx) => run_look wx m _ k (h1.grown (Grown.below (S := fun _ => False) hb) (fun h => h))
  simp only [find_tab] at h3
  by_cases hk : k ∈ ([1, 2, 3] : List Int)
  · refine ⟨V k, h2 k hk, fun wx hb => ⟨by rw [h3 wx hb, if_pos hk]; rfl, ?_⟩⟩
    have : (hasI k).isEmpty = false := by simpa using hasI_some k hk
    rw [h3 wx hb, if_pos hk, this]; rfl
  · refine ⟨.slice none 0 0, .inl ⟨rfl, hasI_none k hk⟩, fun wx hb => ⟨by rw [h3 wx hb, if_neg hk]; rfl, ?_⟩⟩
    rw [h3 wx hb, if_neg hk, hasI_none k hk]; rfl
theorem hasI_len (k : Int) : (hasI k).length ≤ 4 := by
  unfold hasI
  repeat' split
  all_goals decide
theorem hasI_lt (k : Int) : ∀ i ∈ hasI k, i < 5 := by
  unfold hasI
  repeat' split
  all_goals decide
theorem hasI_cases {k : Int} (h : ¬ hasI k = []) : k = 1 ∨ k = 2 ∨ k = 3 := by
  unfold hasI at h
  by_cases h1 : k = 1
  · exact .inl h1
  · by_cases h2 : k = 2
    · exact .inr (.inl h2)
    · by_cases h3 : k = 3
      · exact .inr (.inr h3)
      · simp [h1, h2, h3] at h
theorem FieldsAt.some {w : World} {v : Value} {is : List Nat} (h : FieldsAt w v is) (hn : ¬ is = []) : ∃ g, v = .slice (.some ⟨g, 0, none⟩) is.length is.length ∧ Blk w g 71 (flatF is) := by
  rcases h with h | h
  · exact absurd h.2 hn
  · exact h
structure MsAt (w : World) (M : MsgV) (c : MC) : Prop where
  k : c.k = M.k
  s : c.s = M.sa
  hd : Sh.HRow w c.h M.hd
  bl : RowAt w c.b M.bl
  wt : Sh.HRow w c.w M.wt
  bk : RwsAt w c.x M.bk
theorem MsAt.below {w w' : World} {M : MsgV} {c : MC} (h : MsAt w M c) (hb : Below w.heap.size w w') : MsAt w' M c := ⟨h.k, h.s, h.hd.below hb, h.bl.below hb, h.wt.below hb, h.bk.below hb⟩
theorem MsAt.sl {w : World} {M : MsgV} {c : MC} (h : MsAt w M c) : SlC c := by
  obtain ⟨a1, c1, e1⟩ := h.hd.form
  obtain ⟨a2, c2, e2⟩ := row_form h.bl
  obtain ⟨a3, c3, e3⟩ := h.wt.form
  obtain ⟨a4, c4, e4⟩ := h.bk.form
  exact ⟨⟨_, _, _, e1⟩, ⟨_, _, _, e2⟩, ⟨_, _, _, e3⟩, ⟨_, _, _, e4⟩⟩
structure MsOk (M : MsgV) : Prop where
  k : -9223372036854775808 ≤ M.k ∧ M.k ≤ 9223372036854775807
  s : 0 ≤ M.sa ∧ M.sa < 18446744073709551616
  hd : M.hd.length ≤ 140737488355328
  bl : M.bl.length ≤ 140737488355328
  wt : M.wt.length ≤ 140737488355328
  bk : M.bk.length ≤ 140737488355328
  blB : Byts M.bl
  rows : ∀ i, i < M.bk.length → (M.bk.getD i []).length ≤ 140737488355328
  bkB : ∀ r ∈ M.bk, Byts r
def moreB (M : MsgV) : Bool :=
  if M.k = 1 then decide (0 < M.bk.length)
  else if M.k = 2 then leftB M.hd.length M.sa M.bl.length 0 M.bk.length
  else leftB M.hd.length M.sa M.bl.length M.wt.length 0
theorem more_of {w : World} {M : MsgV} {c : MC} (h : MsAt w M c) (hk : ¬ hasI M.k = []) : ∀ ha hn hk, (wipesC (hasI M.k) c).h = .slice ha hn hk → ∀ ba bn bk, (wipesC (hasI M.k) c).b = .slice ba bn bk → ∀ wa wn wk, (wipesC (hasI M.k) c).w = .slice wa wn wk → ∀ xa xn xk, (wipesC (hasI M.k) c).x = .slice xa xn xk → moreB M = leftB hn (wipesC (hasI M.k) c).s bn wn xn := by
  intro ha hn hk1 e1 ba bn bk1 e2 wa wn wk1 e3 xa xn xk1 e4
  obtain ⟨a1, c1, f1⟩ := h.hd.form
  obtain ⟨a2, c2, f2⟩ := row_form h.bl
  obtain ⟨a3, c3, f3⟩ := h.wt.form
  obtain ⟨a4, c4, f4⟩ := h.bk.form
  have fs := h.s
  unfold moreB
  rcases hasI_cases hk with e | e | e
  · rw [e] at e1 e2 e3 e4 ⊢
    simp [wipesC, hasI, wipeC, noS] at e1 e2 e3 e4 ⊢
    rw [f4] at e4
    injection e4 with _ e4 _
    simp [leftB, ← e1.2.1, ← e2.2.1, ← e3.2.1, e4]
  · rw [e] at e1 e2 e3 e4 ⊢
    simp [wipesC, hasI, wipeC, noS] at e1 e2 e3 e4 ⊢
    rw [f1] at e1
    rw [f2] at e2
    rw [f4] at e4
    injection e1 with _ e1 _
    injection e2 with _ e2 _
    injection e4 with _ e4 _
    rw [← e1, ← e2, ← e3.2.1, ← e4, fs]
  · rw [e] at e1 e2 e3 e4 ⊢
    simp [wipesC, hasI, wipeC, noS] at e1 e2 e3 e4 ⊢
    rw [f1] at e1
    rw [f2] at e2
    rw [f3] at e3
    injection e1 with _ e1 _
    injection e2 with _ e2 _
    injection e3 with _ e3 _
    rw [← e1, ← e2, ← e3, ← e4.2.1, fs]
def chkM (M : MsgV) : Int :=
  if hasI M.k = [] then 40 else if moreB M = true then 41 else if 4096 < M.hd.length then 3 else if 4096 < M.wt.length then 3 else if 256 < M.bk.length then 3
  else if M.k = 3 ∧ M.bk.length = 0 then 1 else if Sh.risesB M.hd = false then 130 else if Sh.risesB M.wt = false then 130 else if M.k = 1 ∧ isP (M.bl.length : Int) = false then 60
  else if okR M.bk = false then 4 else if fit M.bk < M.bk.length then 4 else 0
theorem Try.in10 (w : World) (vs : Array Value) : (callFunc 10 vs).run Try.prog w = .ok (.enter 10 vs) w := by kernel_rfl
set_option maxRecDepth 8000 in
set_option maxHeartbeats 4000000 in
theorem check_any (M : MsgV) (c : MC) (w : World) (hA : MsAt w M c) (hok : MsOk M) : Calls Try.prog 10 #[.agg (msA c)] w fun e w' => e = .returned (.int .i64 (chkM M)) ∧ Below w.heap.size w w' := by
  obtain ⟨ha, hk, e1⟩ := hA.hd.form
  obtain ⟨ba, bk, e2⟩ := row_form hA.bl
  obtain ⟨wa, wk, e3⟩ := hA.wt.form
  obtain ⟨xa, xk, e4⟩ := hA.bk.form
  have E1 := Keep.mk e1
  have E3 := Keep.mk e2
  have E4 := Keep.mk e3
  have E5 := Keep.mk e4
  have Ek := Keep.mk hA.k
  have HOk := Keep.mk hok
  obtain ⟨R, hR⟩ : ∃ R, R = chkM M := ⟨_, rfl⟩
  rw [← hR]
  unfold chkM at hR
  have HR := Keep.mk hR
  have HA := Keep.mk hA
  have n1 : (M.hd.length : Int) ≤ 9223372036854775807 := by have := hok.hd; omega
  have n3 : (M.wt.length : Int) ≤ 9223372036854775807 := by have := hok.wt; omega
  have n4 : (M.bk.length : Int) ≤ 9223372036854775807 := by have := hok.bk; omega
  have n5 : (M.bl.length : Int) ≤ 9223372036854775807 := by have := hok.bl; omega
  clear hA hok hR e1 e2 e3 e4
  go_enter Try.func10, Try.ntmps10
  refine wp_seq_k fun K1 hK1 => ?_
  refine wp_region_list (WL.out ?_)
  refine WL.box (by kernel_rfl) 28 (.tmp 0) rfl _ rfl ?_
  have HM := Keep.mk (Blk.new w 28 (msA c))
  have B1 := Keep.mk (below_new w (.cells (msA c) 28))
  have HA1 := Keep.mk (HA.out.below (below_new w (.cells (msA c) 28)))
  generalize w.alloc (.cells (msA c) 28) = w1 at *
  obtain ⟨g, hg⟩ : ∃ g, g = w.heap.size := ⟨_, rfl⟩
  rw [← hg] at HM B1 ⊢
  have HgE := Keep.mk hg
  clear hg
  simp only [Act.put, List.setIfInBounds_toArray, List.set_cons_zero, List.set_cons_succ]
  refine WL.val (by kernel_rfl) (.int .i64 0) (by go_simp) ?_
  simp only [Act.put, List.setIfInBounds_toArray, List.set_cons_zero, List.set_cons_succ]
  refine WL.nil ?_
  refine hK1 _ _ ?_
  refine wp_seq_k fun K2 hK2 => ?_
  have d0 := HM.out.c 0 (ms_0 c)
  rw [Ek.out] at d0
  refine wp_region_held_drew (S := fun wx => wx.cell? ⟨g, 0, none⟩ = some (.int .i64 M.k)) (by kernel_rfl) (d0) (fun hHeld => ?_)
  refine wpAnyH_take (i := 1) (oi := ⟨some 7, Op.fieldAddr 28 (Operand.tmp 1) 0, 0, _, _, none⟩) (v := .pointer (some ⟨g, 0, none⟩)) rfl (by kernel_rfl) (by kernel_rfl) (by kernel_rfl) (fun _ _ _ h => h) (Or.inl ⟨by rfl, fun w hS => by go_simp⟩) hHeld ?_
  simp only [Act.put, List.setIfInBounds_toArray, List.set_cons_zero, List.set_cons_succ]
  refine wpAnyH_take (i := 2) (oi := ⟨some 8, Op.load 3 (Operand.tmp 7), 3, _, _, none⟩) (v := .int .i64 M.k) rfl (by kernel_rfl) (by kernel_rfl) (by kernel_rfl) (fun _ _ _ h => h) (Or.inl ⟨by rfl, fun w hS => by go_simp⟩) hHeld ?_
  simp only [Act.put, List.setIfInBounds_toArray, List.set_cons_zero, List.set_cons_succ]
  refine wpAnyH_ready (rs := [0]) (by kernel_rfl) (by simp) ?_
  refine AllReadyH.cons (o := ⟨some 6, Op.call { callee := Callee.value (Operand.func 20), args := #[], argTypes := #[] }, 59, _, _, none⟩) rfl (fun K hK => ?_) AllReadyH.nil
  rw [if_pos (by rfl)]
  refine wp_callF 20 _ _ rfl Try.in20 #[] (by simp [Act.eval]) (fun v w' => ∃ m, v = .map (some m) ∧ TabAt w' m ∧ Below w1.drew.heap.size w1.drew w') ((tab_any w1.drew).mono fun e w' h => by obtain ⟨m, h1, h2, h3, h4⟩ := h; exact ⟨_, h1, m, rfl, h2, h4⟩) ?_
  rintro v w2 ⟨m, rfl, hT2, hb2⟩
  have B2w : Keep (Below w1.heap.size w1 w2) := ⟨(Below.refl _ _).drew.trans hb2⟩
  have HM2 := Keep.mk (HM.out.below B2w.out HM.out.lt)
  have HA2 := Keep.mk (HA1.out.below B2w.out)
  have B2 : Keep (Below g w w2) := ⟨B1.out.trans (B2w.out.mono (by rw [HgE.out]; exact B1.out.size))⟩
  have e0 := HM2.out.c 0 (ms_0 c)
  rw [Ek.out] at e0
  obtain ⟨vF, hvF, hlk⟩ := hT2.look2 M.k
  have HvF := Keep.mk hvF
  have hlk2 := (hlk w2 (Below.refl _ _)).2
  clear hvF hlk hb2 hT2
  refine hK.out _ _ e0 fun hHeld5 => ?_
  clear hK
  simp only [Act.put, List.setIfInBounds_toArray, List.set_cons_zero, List.set_cons_succ]
  refine wpAnyH_weaken (S' := fun wx => wx.cell? ⟨g, 0, none⟩ = some (.int .i64 M.k) ∧ (Instr.lookup 59 (.map (some m)) (.int .i64 M.k) true).run Try.prog wx = .ok (.tuple #[vF, .bool (!(hasI M.k).isEmpty)]) wx) (fun _ h => h.1) _ _ _ _ ?_
  have hH6 := And.intro hHeld5 hlk2
  refine wpAnyH_take (i := 3) (oi := ⟨some 9, Op.lookup 59 (Operand.tmp 6) (Operand.tmp 8) true, 58, _, _, none⟩) (v := .tuple #[vF, .bool (!(hasI M.k).isEmpty)]) rfl (by kernel_rfl) (by kernel_rfl) (by kernel_rfl) (fun _ _ _ h => h) (Or.inl ⟨by rfl, fun w hS => by have h := hS.2; go_simp⟩) hH6 ?_
  simp only [Act.put, List.setIfInBounds_toArray, List.set_cons_zero, List.set_cons_succ]
  refine wpAnyH_take (i := 4) (oi := ⟨some 5, Op.move (Operand.tmp 9), 58, _, _, none⟩) (v := .tuple #[vF, .bool (!(hasI M.k).isEmpty)]) rfl (by kernel_rfl) (by kernel_rfl) (by kernel_rfl) (fun _ _ _ h => h) (Or.inl ⟨by rfl, fun w hS => by go_simp⟩) hH6 ?_
  simp only [Act.put, List.setIfInBounds_toArray, List.set_cons_zero, List.set_cons_succ]
  refine wpAnyH_take (i := 5) (oi := ⟨some 10, Op.extract (Operand.tmp 5) 0, 57, _, _, none⟩) (v := vF) rfl (by kernel_rfl) (by kernel_rfl) (by kernel_rfl) (fun _ _ _ h => h) (Or.inl ⟨by rfl, fun w hS => by go_simp⟩) hH6 ?_
  simp only [Act.put, List.setIfInBounds_toArray, List.set_cons_zero, List.set_cons_succ]
  refine wpAnyH_take (i := 6) (oi := ⟨some 11, Op.extract (Operand.tmp 5) 1, 4, _, _, none⟩) (v := .bool (!(hasI M.k).isEmpty)) rfl (by kernel_rfl) (by kernel_rfl) (by kernel_rfl) (fun _ _ _ h => h) (Or.inl ⟨by rfl, fun w hS => by go_simp⟩) hH6 ?_
  simp only [Act.put, List.setIfInBounds_toArray, List.set_cons_zero, List.set_cons_succ]
  refine wpAnyH_take (i := 7) (oi := ⟨some 3, Op.assign (Operand.tmp 10), 57, _, _, none⟩) (v := vF) rfl (by kernel_rfl) (by kernel_rfl) (by kernel_rfl) (fun _ _ _ h => h) (Or.inl ⟨by rfl, fun w hS => by go_simp⟩) hH6 ?_
  simp only [Act.put, List.setIfInBounds_toArray, List.set_cons_zero, List.set_cons_succ]
  refine wpAnyH_take (i := 8) (oi := ⟨some 4, Op.assign (Operand.tmp 11), 4, _, _, none⟩) (v := .bool (!(hasI M.k).isEmpty)) rfl (by kernel_rfl) (by kernel_rfl) (by kernel_rfl) (fun _ _ _ h => h) (Or.inl ⟨by rfl, fun w hS => by go_simp⟩) hH6 ?_
  simp only [Act.put, List.setIfInBounds_toArray, List.set_cons_zero, List.set_cons_succ]
  refine wpAnyH_done (by kernel_rfl) ?_ _
  refine hK2 _ _ ?_
  refine wp_seq_k fun K3 hK3 => ?_
  refine wp_block ?_
  refine wp_seq_k fun K4 hK4 => ?_
  by_cases hA : hasI M.k = []
  · rw [show (!(hasI M.k).isEmpty) = false by rw [hA]; rfl]
    refine wp_region_list (WL.out ?_)
    refine WL.val (by kernel_rfl) (.bool false) (by go_simp) ?_
    simp only [Act.put, List.setIfInBounds_toArray, List.set_cons_zero, List.set_cons_succ]
    refine WL.val (by kernel_rfl) (.bool true) (by go_simp) ?_
    simp only [Act.put, List.setIfInBounds_toArray, List.set_cons_zero, List.set_cons_succ]
    refine WL.val (by kernel_rfl) (.bool true) (by go_simp) ?_
    simp only [Act.put, List.setIfInBounds_toArray, List.set_cons_zero, List.set_cons_succ]
    refine WL.nil ?_
    refine hK4 _ _ ?_
    refine wp_cond_true rfl ?_
    refine wp_seq_k fun K5 hK5 => ?_
    refine wp_region_list (WL.out ?_)
    refine WL.val (by kernel_rfl) (.int .i64 40) (by go_simp) ?_
    simp only [Act.put, List.setIfInBounds_toArray, List.set_cons_zero, List.set_cons_succ]
    refine WL.nil ?_
    refine hK5 _ _ ?_
    refine wp_ret ?_
    go_ret
    first | exact ⟨by rw [HR.out]; (simp [*] <;> simp [hasI]), by rw [← HgE.out]; exact B2.out⟩ | exact ⟨by rw [HR.out]; (simp [*] <;> simp [hasI]), by rw [← HgE.out]; exact B3.out⟩ | exact ⟨by rw [HR.out]; (simp [*] <;> simp [hasI]), by rw [← HgE.out]; exact B4.out⟩ | exact ⟨by rw [HR.out]; (simp [*] <;> simp [hasI]), by rw [← HgE.out]; exact B5.out⟩ | exact ⟨by rw [HR.out]; (simp [*] <;> simp [hasI]), by rw [← HgE.out]; exact B5.out.drew⟩
  · rw [show (!(hasI M.k).isEmpty) = true by simpa using hA]
    obtain ⟨gf, hgf, HFb⟩ := HvF.out.some hA
    subst hgf
    have HF := Keep.mk HFb
    clear HFb
    refine wp_region_list (WL.out ?_)
    refine WL.val (by kernel_rfl) (.bool true) (by go_simp) ?_
    simp only [Act.put, List.setIfInBounds_toArray, List.set_cons_zero, List.set_cons_succ]
    refine WL.val (by kernel_rfl) (.bool false) (by go_simp) ?_
    simp only [Act.put, List.setIfInBounds_toArray, List.set_cons_zero, List.set_cons_succ]
    refine WL.val (by kernel_rfl) (.bool false) (by go_simp) ?_
    simp only [Act.put, List.setIfInBounds_toArray, List.set_cons_zero, List.set_cons_succ]
    refine WL.nil ?_
    refine hK4 _ _ ?_
    refine wp_cond_false rfl ?_
    refine wp_seq_k fun K6 hK6 => ?_
    rcases Bool.eq_false_or_eq_true (moreB M) with hB | hB
    · have HC := Keep.mk (hasMore_any c HA2.out.sl gf (hasI M.k) w2 HF.out (hasI_len _) true (by have h := more_of HA2.out hA; rw [hB] at h; exact h))
      refine wp_region_list (WL.out ?_)
      refine WL.row (by kernel_rfl) 28 (.tmp 1) rfl g rfl 28 (msA c) _ HM2.out Try.underlying28 rfl (Try.size28B _) ?_
      simp only [Act.put, List.setIfInBounds_toArray, List.set_cons_zero, List.set_cons_succ]
      refine WL.val (by kernel_rfl) (.slice (some ⟨gf, 0, none⟩) (hasI M.k).length (hasI M.k).length) (by go_simp) ?_
      simp only [Act.put, List.setIfInBounds_toArray, List.set_cons_zero, List.set_cons_succ]
      refine WL.callF (by kernel_rfl) 21 _ _ rfl Try.in21 #[.agg (msA c), .slice (some ⟨gf, 0, none⟩) (hasI M.k).length (hasI M.k).length] (by simp [Act.eval]) ?_
      refine (HC.out).mono ?_
      rintro e w3 ⟨rfl, hb3⟩
      refine ⟨_, rfl, ?_⟩
      clear HC
      have HM3 := Keep.mk (HM2.out.below hb3 HM2.out.lt)
      have HA3 := Keep.mk (HA2.out.below hb3)
      have B3 : Keep (Below g w w3) := ⟨B2.out.trans (hb3.mono (by rw [HgE.out]; exact B2.out.size))⟩
      have g0 := HM3.out.c 0 (ms_0 c)
      have g1 := HM3.out.c 1 (ms_1 c)
      have g3 := HM3.out.c 3 (ms_3 c)
      have g4 := HM3.out.c 4 (ms_4 c)
      have g5 := HM3.out.c 5 (ms_5 c)
      rw [Ek.out] at g0
      rw [E1.out] at g1
      rw [E3.out] at g3
      rw [E4.out] at g4
      rw [E5.out] at g5
      clear hb3
      simp only [Act.put, List.setIfInBounds_toArray, List.set_cons_zero, List.set_cons_succ]
      refine WL.val (by kernel_rfl) (.bool true) (by go_simp) ?_
      simp only [Act.put, List.setIfInBounds_toArray, List.set_cons_zero, List.set_cons_succ]
      refine WL.nil ?_
      refine hK6 _ _ ?_
      refine wp_cond_true rfl ?_
      refine wp_seq_k fun K7 hK7 => ?_
      refine wp_region_list (WL.out ?_)
      refine WL.val (by kernel_rfl) (.int .i64 41) (by go_simp) ?_
      simp only [Act.put, List.setIfInBounds_toArray, List.set_cons_zero, List.set_cons_succ]
      refine WL.nil ?_
      refine hK7 _ _ ?_
      refine wp_ret ?_
      go_ret
      first | exact ⟨by rw [HR.out]; (simp [*] <;> simp [hasI]), by rw [← HgE.out]; exact B2.out⟩ | exact ⟨by rw [HR.out]; (simp [*] <;> simp [hasI]), by rw [← HgE.out]; exact B3.out⟩ | exact ⟨by rw [HR.out]; (simp [*] <;> simp [hasI]), by rw [← HgE.out]; exact B4.out⟩ | exact ⟨by rw [HR.out]; (simp [*] <;> simp [hasI]), by rw [← HgE.out]; exact B5.out⟩ | exact ⟨by rw [HR.out]; (simp [*] <;> simp [hasI]), by rw [← HgE.out]; exact B5.out.drew⟩
    · have HC := Keep.mk (hasMore_any c HA2.out.sl gf (hasI M.k) w2 HF.out (hasI_len _) false (by have h := more_of HA2.out hA; rw [hB] at h; exact h))
      refine wp_region_list (WL.out ?_)
      refine WL.row (by kernel_rfl) 28 (.tmp 1) rfl g rfl 28 (msA c) _ HM2.out Try.underlying28 rfl (Try.size28B _) ?_
      simp only [Act.put, List.setIfInBounds_toArray, List.set_cons_zero, List.set_cons_succ]
      refine WL.val (by kernel_rfl) (.slice (some ⟨gf, 0, none⟩) (hasI M.k).length (hasI M.k).length) (by go_simp) ?_
      simp only [Act.put, List.setIfInBounds_toArray, List.set_cons_zero, List.set_cons_succ]
      refine WL.callF (by kernel_rfl) 21 _ _ rfl Try.in21 #[.agg (msA c), .slice (some ⟨gf, 0, none⟩) (hasI M.k).length (hasI M.k).length] (by simp [Act.eval]) ?_
      refine (HC.out).mono ?_
      rintro e w3 ⟨rfl, hb3⟩
      refine ⟨_, rfl, ?_⟩
      clear HC
      have HM3 := Keep.mk (HM2.out.below hb3 HM2.out.lt)
      have HA3 := Keep.mk (HA2.out.below hb3)
      have B3 : Keep (Below g w w3) := ⟨B2.out.trans (hb3.mono (by rw [HgE.out]; exact B2.out.size))⟩
      have g0 := HM3.out.c 0 (ms_0 c)
      have g1 := HM3.out.c 1 (ms_1 c)
      have g3 := HM3.out.c 3 (ms_3 c)
      have g4 := HM3.out.c 4 (ms_4 c)
      have g5 := HM3.out.c 5 (ms_5 c)
      rw [Ek.out] at g0
      rw [E1.out] at g1
      rw [E3.out] at g3
      rw [E4.out] at g4
      rw [E5.out] at g5
      clear hb3
      simp only [Act.put, List.setIfInBounds_toArray, List.set_cons_zero, List.set_cons_succ]
      refine WL.val (by kernel_rfl) (.bool false) (by go_simp) ?_
      simp only [Act.put, List.setIfInBounds_toArray, List.set_cons_zero, List.set_cons_succ]
      refine WL.nil ?_
      refine hK6 _ _ ?_
      refine wp_cond_false rfl ?_
      refine wp_seq_k fun K8 hK8 => ?_
      refine wp_region_list (WL.out ?_)
      refine WL.val (by kernel_rfl) (.pointer (some ⟨g, 1, none⟩)) (by go_simp) ?_
      simp only [Act.put, List.setIfInBounds_toArray, List.set_cons_zero, List.set_cons_succ]
      refine WL.val (by kernel_rfl) (.slice ha M.hd.length hk) (by go_simp) ?_
      simp only [Act.put, List.setIfInBounds_toArray, List.set_cons_zero, List.set_cons_succ]
      refine WL.val (by kernel_rfl) (.int .i64 (M.hd.length : Int)) (by go_simp) ?_
      simp only [Act.put, List.setIfInBounds_toArray, List.set_cons_zero, List.set_cons_succ]
      by_cases h6_3 : 4096 < M.hd.length
      · have h6_3i : (4096 : Int) < (M.hd.length : Int) := by omega
        refine WL.val (by kernel_rfl) (.bool true) (by go_simp) ?_
        simp only [Act.put, List.setIfInBounds_toArray, List.set_cons_zero, List.set_cons_succ]
        refine WL.val (by kernel_rfl) (.bool true) (by go_simp) ?_
        simp only [Act.put, List.setIfInBounds_toArray, List.set_cons_zero, List.set_cons_succ]
        refine WL.skip (by kernel_rfl) ?_
        simp only [Act.put, List.setIfInBounds_toArray, List.set_cons_zero, List.set_cons_succ]
        refine WL.skip (by kernel_rfl) ?_
        simp only [Act.put, List.setIfInBounds_toArray, List.set_cons_zero, List.set_cons_succ]
        refine WL.skip (by kernel_rfl) ?_
        simp only [Act.put, List.setIfInBounds_toArray, List.set_cons_zero, List.set_cons_succ]
        refine WL.skip (by kernel_rfl) ?_
        simp only [Act.put, List.setIfInBounds_toArray, List.set_cons_zero, List.set_cons_succ]
        refine WL.val (by kernel_rfl) (.bool true) (by go_simp) ?_
        simp only [Act.put, List.setIfInBounds_toArray, List.set_cons_zero, List.set_cons_succ]
        refine WL.val (by kernel_rfl) (.bool true) (by go_simp) ?_
        simp only [Act.put, List.setIfInBounds_toArray, List.set_cons_zero, List.set_cons_succ]
        refine WL.skip (by kernel_rfl) ?_
        simp only [Act.put, List.setIfInBounds_toArray, List.set_cons_zero, List.set_cons_succ]
        refine WL.skip (by kernel_rfl) ?_
        simp only [Act.put, List.setIfInBounds_toArray, List.set_cons_zero, List.set_cons_succ]
        refine WL.skip (by kernel_rfl) ?_
        simp only [Act.put, List.setIfInBounds_toArray, List.set_cons_zero, List.set_cons_succ]
        refine WL.skip (by kernel_rfl) ?_
        simp only [Act.put, List.setIfInBounds_toArray, List.set_cons_zero, List.set_cons_succ]
        refine WL.val (by kernel_rfl) (.bool true) (by go_simp) ?_
        simp only [Act.put, List.setIfInBounds_toArray, List.set_cons_zero, List.set_cons_succ]
        refine WL.val (by kernel_rfl) (.bool true) (by go_simp) ?_
        simp only [Act.put, List.setIfInBounds_toArray, List.set_cons_zero, List.set_cons_succ]
        refine WL.nil ?_
        refine hK8 _ _ ?_
        refine wp_cond_true rfl ?_
        refine wp_seq_k fun K9 hK9 => ?_
        refine wp_region_list (WL.out ?_)
        refine WL.val (by kernel_rfl) (.int .i64 3) (by go_simp) ?_
        simp only [Act.put, List.setIfInBounds_toArray, List.set_cons_zero, List.set_cons_succ]
        refine WL.nil ?_
        refine hK9 _ _ ?_
        refine wp_ret ?_
        go_ret
        first | exact ⟨by rw [HR.out]; (simp [*] <;> simp [hasI]), by rw [← HgE.out]; exact B2.out⟩ | exact ⟨by rw [HR.out]; (simp [*] <;> simp [hasI]), by rw [← HgE.out]; exact B3.out⟩ | exact ⟨by rw [HR.out]; (simp [*] <;> simp [hasI]), by rw [← HgE.out]; exact B4.out⟩ | exact ⟨by rw [HR.out]; (simp [*] <;> simp [hasI]), by rw [← HgE.out]; exact B5.out⟩ | exact ⟨by rw [HR.out]; (simp [*] <;> simp [hasI]), by rw [← HgE.out]; exact B5.out.drew⟩
      · have h6_3i : ¬ (4096 : Int) < (M.hd.length : Int) := by omega
        refine WL.val (by kernel_rfl) (.bool false) (by go_simp) ?_
        simp only [Act.put, List.setIfInBounds_toArray, List.set_cons_zero, List.set_cons_succ]
        refine WL.val (by kernel_rfl) (.bool false) (by go_simp) ?_
        simp only [Act.put, List.setIfInBounds_toArray, List.set_cons_zero, List.set_cons_succ]
        refine WL.val (by kernel_rfl) (.pointer (some ⟨g, 4, none⟩)) (by go_simp) ?_
        simp only [Act.put, List.setIfInBounds_toArray, List.set_cons_zero, List.set_cons_succ]
        refine WL.val (by kernel_rfl) (.slice wa M.wt.length wk) (by go_simp) ?_
        simp only [Act.put, List.setIfInBounds_toArray, List.set_cons_zero, List.set_cons_succ]
        refine WL.val (by kernel_rfl) (.int .i64 (M.wt.length : Int)) (by go_simp) ?_
        simp only [Act.put, List.setIfInBounds_toArray, List.set_cons_zero, List.set_cons_succ]
        by_cases h6_8 : 4096 < M.wt.length
        · have h6_8i : (4096 : Int) < (M.wt.length : Int) := by omega
          refine WL.val (by kernel_rfl) (.bool true) (by go_simp) ?_
          simp only [Act.put, List.setIfInBounds_toArray, List.set_cons_zero, List.set_cons_succ]
          refine WL.val (by kernel_rfl) (.bool true) (by go_simp) ?_
          simp only [Act.put, List.setIfInBounds_toArray, List.set_cons_zero, List.set_cons_succ]
          refine WL.val (by kernel_rfl) (.bool true) (by go_simp) ?_
          simp only [Act.put, List.setIfInBounds_toArray, List.set_cons_zero, List.set_cons_succ]
          refine WL.skip (by kernel_rfl) ?_
          simp only [Act.put, List.setIfInBounds_toArray, List.set_cons_zero, List.set_cons_succ]
          refine WL.skip (by kernel_rfl) ?_
          simp only [Act.put, List.setIfInBounds_toArray, List.set_cons_zero, List.set_cons_succ]
          refine WL.skip (by kernel_rfl) ?_
          simp only [Act.put, List.setIfInBounds_toArray, List.set_cons_zero, List.set_cons_succ]
          refine WL.skip (by kernel_rfl) ?_
          simp only [Act.put, List.setIfInBounds_toArray, List.set_cons_zero, List.set_cons_succ]
          refine WL.val (by kernel_rfl) (.bool true) (by go_simp) ?_
          simp only [Act.put, List.setIfInBounds_toArray, List.set_cons_zero, List.set_cons_succ]
          refine WL.val (by kernel_rfl) (.bool true) (by go_simp) ?_
          simp only [Act.put, List.setIfInBounds_toArray, List.set_cons_zero, List.set_cons_succ]
          refine WL.nil ?_
          refine hK8 _ _ ?_
          refine wp_cond_true rfl ?_
          refine wp_seq_k fun K10 hK10 => ?_
          refine wp_region_list (WL.out ?_)
          refine WL.val (by kernel_rfl) (.int .i64 3) (by go_simp) ?_
          simp only [Act.put, List.setIfInBounds_toArray, List.set_cons_zero, List.set_cons_succ]
          refine WL.nil ?_
          refine hK10 _ _ ?_
          refine wp_ret ?_
          go_ret
          first | exact ⟨by rw [HR.out]; (simp [*] <;> simp [hasI]), by rw [← HgE.out]; exact B2.out⟩ | exact ⟨by rw [HR.out]; (simp [*] <;> simp [hasI]), by rw [← HgE.out]; exact B3.out⟩ | exact ⟨by rw [HR.out]; (simp [*] <;> simp [hasI]), by rw [← HgE.out]; exact B4.out⟩ | exact ⟨by rw [HR.out]; (simp [*] <;> simp [hasI]), by rw [← HgE.out]; exact B5.out⟩ | exact ⟨by rw [HR.out]; (simp [*] <;> simp [hasI]), by rw [← HgE.out]; exact B5.out.drew⟩
        · have h6_8i : ¬ (4096 : Int) < (M.wt.length : Int) := by omega
          refine WL.val (by kernel_rfl) (.bool false) (by go_simp) ?_
          simp only [Act.put, List.setIfInBounds_toArray, List.set_cons_zero, List.set_cons_succ]
          refine WL.val (by kernel_rfl) (.bool false) (by go_simp) ?_
          simp only [Act.put, List.setIfInBounds_toArray, List.set_cons_zero, List.set_cons_succ]
          refine WL.val (by kernel_rfl) (.bool false) (by go_simp) ?_
          simp only [Act.put, List.setIfInBounds_toArray, List.set_cons_zero, List.set_cons_succ]
          refine WL.val (by kernel_rfl) (.pointer (some ⟨g, 5, none⟩)) (by go_simp) ?_
          simp only [Act.put, List.setIfInBounds_toArray, List.set_cons_zero, List.set_cons_succ]
          refine WL.val (by kernel_rfl) (.slice xa M.bk.length xk) (by go_simp) ?_
          simp only [Act.put, List.setIfInBounds_toArray, List.set_cons_zero, List.set_cons_succ]
          refine WL.val (by kernel_rfl) (.int .i64 (M.bk.length : Int)) (by go_simp) ?_
          simp only [Act.put, List.setIfInBounds_toArray, List.set_cons_zero, List.set_cons_succ]
          by_cases h6_14 : 256 < M.bk.length
          · have h6_14i : (256 : Int) < (M.bk.length : Int) := by omega
            refine WL.val (by kernel_rfl) (.bool true) (by go_simp) ?_
            simp only [Act.put, List.setIfInBounds_toArray, List.set_cons_zero, List.set_cons_succ]
            refine WL.val (by kernel_rfl) (.bool true) (by go_simp) ?_
            simp only [Act.put, List.setIfInBounds_toArray, List.set_cons_zero, List.set_cons_succ]
            refine WL.val (by kernel_rfl) (.bool true) (by go_simp) ?_
            simp only [Act.put, List.setIfInBounds_toArray, List.set_cons_zero, List.set_cons_succ]
            refine WL.nil ?_
            refine hK8 _ _ ?_
            refine wp_cond_true rfl ?_
            refine wp_seq_k fun K11 hK11 => ?_
            refine wp_region_list (WL.out ?_)
            refine WL.val (by kernel_rfl) (.int .i64 3) (by go_simp) ?_
            simp only [Act.put, List.setIfInBounds_toArray, List.set_cons_zero, List.set_cons_succ]
            refine WL.nil ?_
            refine hK11 _ _ ?_
            refine wp_ret ?_
            go_ret
            first | exact ⟨by rw [HR.out]; (simp [*] <;> simp [hasI]), by rw [← HgE.out]; exact B2.out⟩ | exact ⟨by rw [HR.out]; (simp [*] <;> simp [hasI]), by rw [← HgE.out]; exact B3.out⟩ | exact ⟨by rw [HR.out]; (simp [*] <;> simp [hasI]), by rw [← HgE.out]; exact B4.out⟩ | exact ⟨by rw [HR.out]; (simp [*] <;> simp [hasI]), by rw [← HgE.out]; exact B5.out⟩ | exact ⟨by rw [HR.out]; (simp [*] <;> simp [hasI]), by rw [← HgE.out]; exact B5.out.drew⟩
          · have h6_14i : ¬ (256 : Int) < (M.bk.length : Int) := by omega
            refine WL.val (by kernel_rfl) (.bool false) (by go_simp) ?_
            simp only [Act.put, List.setIfInBounds_toArray, List.set_cons_zero, List.set_cons_succ]
            refine WL.val (by kernel_rfl) (.bool false) (by go_simp) ?_
            simp only [Act.put, List.setIfInBounds_toArray, List.set_cons_zero, List.set_cons_succ]
            refine WL.val (by kernel_rfl) (.bool false) (by go_simp) ?_
            simp only [Act.put, List.setIfInBounds_toArray, List.set_cons_zero, List.set_cons_succ]
            refine WL.nil ?_
            refine hK8 _ _ ?_
            refine wp_cond_false rfl ?_
            refine wp_seq_k fun K12 hK12 => ?_
            refine wp_region_list (WL.out ?_)
            refine WL.val (by kernel_rfl) (.pointer (some ⟨g, 0, none⟩)) (by go_simp) ?_
            simp only [Act.put, List.setIfInBounds_toArray, List.set_cons_zero, List.set_cons_succ]
            refine WL.val (by kernel_rfl) (.int .i64 M.k) (by go_simp) ?_
            simp only [Act.put, List.setIfInBounds_toArray, List.set_cons_zero, List.set_cons_succ]
            by_cases h8_2 : M.k = 3
            · skip
              refine WL.val (by kernel_rfl) (.bool true) (by go_simp) ?_
              simp only [Act.put, List.setIfInBounds_toArray, List.set_cons_zero, List.set_cons_succ]
              refine WL.val (by kernel_rfl) (.bool true) (by go_simp) ?_
              simp only [Act.put, List.setIfInBounds_toArray, List.set_cons_zero, List.set_cons_succ]
              refine WL.val (by kernel_rfl) (.pointer (some ⟨g, 5, none⟩)) (by go_simp) ?_
              simp only [Act.put, List.setIfInBounds_toArray, List.set_cons_zero, List.set_cons_succ]
              refine WL.val (by kernel_rfl) (.slice xa M.bk.length xk) (by go_simp) ?_
              simp only [Act.put, List.setIfInBounds_toArray, List.set_cons_zero, List.set_cons_succ]
              refine WL.val (by kernel_rfl) (.int .i64 (M.bk.length : Int)) (by go_simp) ?_
              simp only [Act.put, List.setIfInBounds_toArray, List.set_cons_zero, List.set_cons_succ]
              by_cases h8_7 : M.bk.length = 0
              · have h8_7i : (M.bk.length : Int) = 0 := by omega
                refine WL.val (by kernel_rfl) (.bool true) (by go_simp) ?_
                simp only [Act.put, List.setIfInBounds_toArray, List.set_cons_zero, List.set_cons_succ]
                refine WL.val (by kernel_rfl) (.bool true) (by go_simp) ?_
                simp only [Act.put, List.setIfInBounds_toArray, List.set_cons_zero, List.set_cons_succ]
                refine WL.val (by kernel_rfl) (.bool true) (by go_simp) ?_
                simp only [Act.put, List.setIfInBounds_toArray, List.set_cons_zero, List.set_cons_succ]
                refine WL.nil ?_
                refine hK12 _ _ ?_
                refine wp_cond_true rfl ?_
                refine wp_seq_k fun K13 hK13 => ?_
                refine wp_region_list (WL.out ?_)
                refine WL.val (by kernel_rfl) (.int .i64 1) (by go_simp) ?_
                simp only [Act.put, List.setIfInBounds_toArray, List.set_cons_zero, List.set_cons_succ]
                refine WL.nil ?_
                refine hK13 _ _ ?_
                refine wp_ret ?_
                go_ret
                first | exact ⟨by rw [HR.out]; (simp [*] <;> simp [hasI]), by rw [← HgE.out]; exact B2.out⟩ | exact ⟨by rw [HR.out]; (simp [*] <;> simp [hasI]), by rw [← HgE.out]; exact B3.out⟩ | exact ⟨by rw [HR.out]; (simp [*] <;> simp [hasI]), by rw [← HgE.out]; exact B4.out⟩ | exact ⟨by rw [HR.out]; (simp [*] <;> simp [hasI]), by rw [← HgE.out]; exact B5.out⟩ | exact ⟨by rw [HR.out]; (simp [*] <;> simp [hasI]), by rw [← HgE.out]; exact B5.out.drew⟩
              · have h8_7i : ¬ (M.bk.length : Int) = 0 := by omega
                refine WL.val (by kernel_rfl) (.bool false) (by go_simp) ?_
                simp only [Act.put, List.setIfInBounds_toArray, List.set_cons_zero, List.set_cons_succ]
                refine WL.val (by kernel_rfl) (.bool false) (by go_simp) ?_
                simp only [Act.put, List.setIfInBounds_toArray, List.set_cons_zero, List.set_cons_succ]
                refine WL.val (by kernel_rfl) (.bool false) (by go_simp) ?_
                simp only [Act.put, List.setIfInBounds_toArray, List.set_cons_zero, List.set_cons_succ]
                refine WL.nil ?_
                refine hK12 _ _ ?_
                refine wp_cond_false rfl ?_
                refine wp_seq_k fun K14 hK14 => ?_
                rcases Bool.eq_false_or_eq_true (Sh.risesB M.hd) with hC | hC
                · have HC4 := Keep.mk (rising_any (.slice ha M.hd.length hk) M.hd w3 (by have h := HA3.out.hd; rw [E1.out] at h; exact h) (by have := HOk.out.hd; omega))
                  rw [hC] at HC4
                  rcases Bool.eq_false_or_eq_true (Sh.risesB M.wt) with hD | hD
                  · skip
                    refine wp_region_list (WL.out ?_)
                    refine WL.val (by kernel_rfl) (.pointer (some ⟨g, 1, none⟩)) (by go_simp) ?_
                    simp only [Act.put, List.setIfInBounds_toArray, List.set_cons_zero, List.set_cons_succ]
                    refine WL.val (by kernel_rfl) (.slice ha M.hd.length hk) (by go_simp) ?_
                    simp only [Act.put, List.setIfInBounds_toArray, List.set_cons_zero, List.set_cons_succ]
                    refine WL.callF (by kernel_rfl) 22 _ _ rfl Try.in22 #[.slice ha M.hd.length hk] (by simp [Act.eval]) ?_
                    refine (HC4.out).mono ?_
                    rintro e w4 ⟨rfl, hb4⟩
                    refine ⟨_, rfl, ?_⟩
                    clear HC4
                    have HM4 := Keep.mk (HM3.out.below hb4 HM3.out.lt)
                    have HA4 := Keep.mk (HA3.out.below hb4)
                    have B4 : Keep (Below g w w4) := ⟨B3.out.trans (hb4.mono (by rw [HgE.out]; exact B3.out.size))⟩
                    clear g0 g1 g3 g4 g5
                    have g0 := HM4.out.c 0 (ms_0 c)
                    have g1 := HM4.out.c 1 (ms_1 c)
                    have g3 := HM4.out.c 3 (ms_3 c)
                    have g4 := HM4.out.c 4 (ms_4 c)
                    have g5 := HM4.out.c 5 (ms_5 c)
                    rw [Ek.out] at g0
                    rw [E1.out] at g1
                    rw [E3.out] at g3
                    rw [E4.out] at g4
                    rw [E5.out] at g5
                    clear hb4
                    simp only [Act.put, List.setIfInBounds_toArray, List.set_cons_zero, List.set_cons_succ]
                    refine WL.val (by kernel_rfl) (.bool false) (by go_simp) ?_
                    simp only [Act.put, List.setIfInBounds_toArray, List.set_cons_zero, List.set_cons_succ]
                    refine WL.val (by kernel_rfl) (.bool false) (by go_simp) ?_
                    simp only [Act.put, List.setIfInBounds_toArray, List.set_cons_zero, List.set_cons_succ]
                    refine WL.val (by kernel_rfl) (.pointer (some ⟨g, 4, none⟩)) (by go_simp) ?_
                    simp only [Act.put, List.setIfInBounds_toArray, List.set_cons_zero, List.set_cons_succ]
                    refine WL.val (by kernel_rfl) (.slice wa M.wt.length wk) (by go_simp) ?_
                    simp only [Act.put, List.setIfInBounds_toArray, List.set_cons_zero, List.set_cons_succ]
                    have HC5 := Keep.mk (rising_any (.slice wa M.wt.length wk) M.wt w4 (by have h := HA4.out.wt; rw [E4.out] at h; exact h) (by have := HOk.out.wt; omega))
                    rw [hD] at HC5
                    refine WL.callF (by kernel_rfl) 22 _ _ rfl Try.in22 #[.slice wa M.wt.length wk] (by simp [Act.eval]) ?_
                    refine (HC5.out).mono ?_
                    rintro e w5 ⟨rfl, hb5⟩
                    refine ⟨_, rfl, ?_⟩
                    clear HC5
                    have HM5 := Keep.mk (HM4.out.below hb5 HM4.out.lt)
                    have HA5 := Keep.mk (HA4.out.below hb5)
                    have B5 : Keep (Below g w w5) := ⟨B4.out.trans (hb5.mono (by rw [HgE.out]; exact B4.out.size))⟩
                    clear g0 g1 g3 g4 g5
                    have g0 := HM5.out.c 0 (ms_0 c)
                    have g1 := HM5.out.c 1 (ms_1 c)
                    have g3 := HM5.out.c 3 (ms_3 c)
                    have g4 := HM5.out.c 4 (ms_4 c)
                    have g5 := HM5.out.c 5 (ms_5 c)
                    rw [Ek.out] at g0
                    rw [E1.out] at g1
                    rw [E3.out] at g3
                    rw [E4.out] at g4
                    rw [E5.out] at g5
                    clear hb5
                    simp only [Act.put, List.setIfInBounds_toArray, List.set_cons_zero, List.set_cons_succ]
                    refine WL.val (by kernel_rfl) (.bool false) (by go_simp) ?_
                    simp only [Act.put, List.setIfInBounds_toArray, List.set_cons_zero, List.set_cons_succ]
                    refine WL.val (by kernel_rfl) (.bool false) (by go_simp) ?_
                    simp only [Act.put, List.setIfInBounds_toArray, List.set_cons_zero, List.set_cons_succ]
                    refine WL.val (by kernel_rfl) (.bool false) (by go_simp) ?_
                    simp only [Act.put, List.setIfInBounds_toArray, List.set_cons_zero, List.set_cons_succ]
                    refine WL.nil ?_
                    refine hK14 _ _ ?_
                    refine wp_cond_false rfl ?_
                    refine wp_seq_k fun K15 hK15 => ?_
                    have hk1 : ¬ M.k = 1 := by omega
                    rcases Bool.eq_false_or_eq_true (isP (M.bl.length : Int)) with hP | hP
                    · have HC6 := Keep.mk (right_any (.slice ba M.bl.length bk) M.bl w5 (by have h := HA5.out.bl; rw [E3.out] at h; exact h))
                      rw [hP] at HC6
                      refine wp_region_list (WL.out ?_)
                      refine WL.val (by kernel_rfl) (.pointer (some ⟨g, 0, none⟩)) (by go_simp) ?_
                      simp only [Act.put, List.setIfInBounds_toArray, List.set_cons_zero, List.set_cons_succ]
                      refine WL.val (by kernel_rfl) (.int .i64 M.k) (by go_simp) ?_
                      simp only [Act.put, List.setIfInBounds_toArray, List.set_cons_zero, List.set_cons_succ]
                      refine WL.val (by kernel_rfl) (.bool false) (by go_simp) ?_
                      simp only [Act.put, List.setIfInBounds_toArray, List.set_cons_zero, List.set_cons_succ]
                      refine WL.val (by kernel_rfl) (.bool false) (by go_simp) ?_
                      simp only [Act.put, List.setIfInBounds_toArray, List.set_cons_zero, List.set_cons_succ]
                      refine WL.skip (by kernel_rfl) ?_
                      simp only [Act.put, List.setIfInBounds_toArray, List.set_cons_zero, List.set_cons_succ]
                      refine WL.skip (by kernel_rfl) ?_
                      simp only [Act.put, List.setIfInBounds_toArray, List.set_cons_zero, List.set_cons_succ]
                      refine WL.skip (by kernel_rfl) ?_
                      simp only [Act.put, List.setIfInBounds_toArray, List.set_cons_zero, List.set_cons_succ]
                      refine WL.skip (by kernel_rfl) ?_
                      simp only [Act.put, List.setIfInBounds_toArray, List.set_cons_zero, List.set_cons_succ]
                      refine WL.val (by kernel_rfl) (.bool false) (by go_simp) ?_
                      simp only [Act.put, List.setIfInBounds_toArray, List.set_cons_zero, List.set_cons_succ]
                      refine WL.val (by kernel_rfl) (.bool false) (by go_simp) ?_
                      simp only [Act.put, List.setIfInBounds_toArray, List.set_cons_zero, List.set_cons_succ]
                      refine WL.nil ?_
                      refine hK15 _ _ ?_
                      refine wp_cond_false rfl ?_
                      refine wp_seq_k fun K16 hK16 => ?_
                      rcases Bool.eq_false_or_eq_true (okR M.bk) with hO | hO
                      · have HC7 := Keep.mk (areBlocks_any (.slice xa M.bk.length xk) M.bk w5.drew (by have h := HA5.out.bk; rw [E5.out] at h; exact h.below (Below.refl _ _).drew) (by have := HOk.out.bk; omega) (fun i hi => by have := HOk.out.rows i hi; omega))
                        rw [hO] at HC7
                        have hD0 : w5.drew.cell? ⟨g, 5, none⟩ = some (.slice xa M.bk.length xk) := g5
                        have HC8 := Keep.mk (fitting_any (.slice xa M.bk.length xk) M.bk w5.drew (by have h := HA5.out.bk; rw [E5.out] at h; exact h.below (Below.refl _ _).drew) (by have := HOk.out.bk; omega) (fun i hi => ((okR_iff _).1 hO i hi).2))
                        by_cases hF : fit M.bk < M.bk.length
                        · have hFi : (fit M.bk : Int) < (M.bk.length : Int) := by omega
                          refine wp_region_held_drew (S := fun wx => wx.cell? ⟨g, 5, none⟩ = some (.slice xa M.bk.length xk)) (by kernel_rfl) (hD0) (fun hHeld => ?_)
                          refine wpAnyH_take (i := 0) (oi := ⟨some 68, Op.fieldAddr 28 (Operand.tmp 1) 5, 0, _, _, none⟩) (v := .pointer (some ⟨g, 5, none⟩)) rfl (by kernel_rfl) (by kernel_rfl) (by kernel_rfl) (fun _ _ _ h => h) (Or.inl ⟨by rfl, fun w hS => by go_simp⟩) hHeld ?_
                          simp only [Act.put, List.setIfInBounds_toArray, List.set_cons_zero, List.set_cons_succ]
                          refine wpAnyH_take (i := 1) (oi := ⟨some 69, Op.load 26 (Operand.tmp 68), 26, _, _, none⟩) (v := .slice xa M.bk.length xk) rfl (by kernel_rfl) (by kernel_rfl) (by kernel_rfl) (fun _ _ _ h => h) (Or.inl ⟨by rfl, fun w hS => by go_simp⟩) hHeld ?_
                          simp only [Act.put, List.setIfInBounds_toArray, List.set_cons_zero, List.set_cons_succ]
                          refine wpAnyH_ready (rs := [2]) (by kernel_rfl) (by simp) ?_
                          refine AllReadyH.cons (o := ⟨some 70, Op.call { callee := Callee.value (Operand.func 24), args := #[Operand.tmp 69], argTypes := #[26] }, 4, _, _, none⟩) rfl (fun K hK => ?_) AllReadyH.nil
                          rw [if_pos (by rfl)]
                          refine wp_callF 24 _ _ rfl Try.in24 #[.slice xa M.bk.length xk] (by simp [Act.eval]) (fun v w' => v = .bool true ∧ w' = w5.drew) (HC7.out.mono fun e w' h => ⟨_, h.1, rfl, h.2⟩) ?_
                          rintro v w6 ⟨rfl, rfl⟩
                          refine hK.out _ _ hD0 fun hHeld6 => ?_
                          clear hK HC7
                          simp only [Act.put, List.setIfInBounds_toArray, List.set_cons_zero, List.set_cons_succ]
                          refine wpAnyH_take (i := 3) (oi := ⟨some 71, Op.unOp UnOp.not 4 (Operand.tmp 70), 4, _, _, none⟩) (v := .bool false) rfl (by kernel_rfl) (by kernel_rfl) (by kernel_rfl) (fun _ _ _ h => h) (Or.inl ⟨by rfl, fun w hS => by go_simp⟩) hHeld6 ?_
                          simp only [Act.put, List.setIfInBounds_toArray, List.set_cons_zero, List.set_cons_succ]
                          refine wpAnyH_take (i := 4) (oi := ⟨some 72, Op.move (Operand.tmp 71), 4, _, _, none⟩) (v := .bool false) rfl (by kernel_rfl) (by kernel_rfl) (by kernel_rfl) (fun _ _ _ h => h) (Or.inl ⟨by rfl, fun w hS => by go_simp⟩) hHeld6 ?_
                          simp only [Act.put, List.setIfInBounds_toArray, List.set_cons_zero, List.set_cons_succ]
                          refine wpAnyH_take (i := 5) (oi := ⟨some 73, Op.fieldAddr 28 (Operand.tmp 1) 5, 0, _, _, some (4, false)⟩) (v := .pointer (some ⟨g, 5, none⟩)) rfl (by kernel_rfl) (by kernel_rfl) (by kernel_rfl) (fun _ _ _ h => h) (Or.inl ⟨by rfl, fun w hS => by go_simp⟩) hHeld6 ?_
                          simp only [Act.put, List.setIfInBounds_toArray, List.set_cons_zero, List.set_cons_succ]
                          refine wpAnyH_take (i := 6) (oi := ⟨some 74, Op.load 26 (Operand.tmp 73), 26, _, _, some (4, false)⟩) (v := .slice xa M.bk.length xk) rfl (by kernel_rfl) (by kernel_rfl) (by kernel_rfl) (fun _ _ _ h => h) (Or.inl ⟨by rfl, fun w hS => by go_simp⟩) hHeld6 ?_
                          simp only [Act.put, List.setIfInBounds_toArray, List.set_cons_zero, List.set_cons_succ]
                          refine wpAnyH_take (i := 8) (oi := ⟨some 76, Op.fieldAddr 28 (Operand.tmp 1) 5, 0, _, _, some (4, false)⟩) (v := .pointer (some ⟨g, 5, none⟩)) rfl (by kernel_rfl) (by kernel_rfl) (by kernel_rfl) (fun _ _ _ h => h) (Or.inl ⟨by rfl, fun w hS => by go_simp⟩) hHeld6 ?_
                          simp only [Act.put, List.setIfInBounds_toArray, List.set_cons_zero, List.set_cons_succ]
                          refine wpAnyH_take (i := 9) (oi := ⟨some 77, Op.load 26 (Operand.tmp 76), 26, _, _, some (4, false)⟩) (v := .slice xa M.bk.length xk) rfl (by kernel_rfl) (by kernel_rfl) (by kernel_rfl) (fun _ _ _ h => h) (Or.inl ⟨by rfl, fun w hS => by go_simp⟩) hHeld6 ?_
                          simp only [Act.put, List.setIfInBounds_toArray, List.set_cons_zero, List.set_cons_succ]
                          refine wpAnyH_take (i := 10) (oi := ⟨some 78, Op.call { callee := Callee.builtin Builtin.len, args := #[Operand.tmp 77], argTypes := #[26] }, 3, _, _, some (4, false)⟩) (v := .int .i64 (M.bk.length : Int)) rfl (by kernel_rfl) (by kernel_rfl) (by kernel_rfl) (fun _ _ _ h => h) (Or.inl ⟨by rfl, fun w hS => by go_simp⟩) hHeld6 ?_
                          simp only [Act.put, List.setIfInBounds_toArray, List.set_cons_zero, List.set_cons_succ]
                          refine wpAnyH_ready (rs := [7]) (by kernel_rfl) (by simp) ?_
                          refine AllReadyH.cons (o := ⟨some 75, Op.call { callee := Callee.value (Operand.func 25), args := #[Operand.tmp 74], argTypes := #[26] }, 3, _, _, some (4, false)⟩) rfl (fun K hK => ?_) AllReadyH.nil
                          rw [if_pos (by rfl)]
                          refine wp_callF 25 _ _ rfl Try.in25 #[.slice xa M.bk.length xk] (by simp [Act.eval]) (fun v w' => v = .int .i64 (fit M.bk : Int) ∧ w' = w5.drew) (HC8.out.mono fun e w' h => ⟨_, h.1, rfl, h.2⟩) ?_
                          rintro v w6 ⟨rfl, rfl⟩
                          refine hK.out _ _ hD0 fun hHeld7 => ?_
                          clear hK HC8
                          simp only [Act.put, List.setIfInBounds_toArray, List.set_cons_zero, List.set_cons_succ]
                          refine wpAnyH_take (i := 11) (oi := ⟨some 79, Op.binOp BinOp.lss 3 (Operand.tmp 75) (Operand.tmp 78) 3, 4, _, _, some (4, false)⟩) (v := .bool true) rfl (by kernel_rfl) (by kernel_rfl) (by kernel_rfl) (fun _ _ _ h => h) (Or.inl ⟨by rfl, fun w hS => by go_simp⟩) hHeld7 ?_
                          simp only [Act.put, List.setIfInBounds_toArray, List.set_cons_zero, List.set_cons_succ]
                          refine wpAnyH_take (i := 12) (oi := ⟨some 80, Op.pick (Operand.tmp 72) (Operand.const (Value.bool true)) (Operand.tmp 79), 4, _, _, none⟩) (v := .bool true) rfl (by kernel_rfl) (by kernel_rfl) (by kernel_rfl) (fun _ _ _ h => h) (Or.inl ⟨by rfl, fun w hS => by go_simp⟩) hHeld7 ?_
                          simp only [Act.put, List.setIfInBounds_toArray, List.set_cons_zero, List.set_cons_succ]
                          refine wpAnyH_take (i := 13) (oi := ⟨some 67, Op.assign (Operand.tmp 80), 4, _, _, none⟩) (v := .bool true) rfl (by kernel_rfl) (by kernel_rfl) (by kernel_rfl) (fun _ _ _ h => h) (Or.inl ⟨by rfl, fun w hS => by go_simp⟩) hHeld7 ?_
                          simp only [Act.put, List.setIfInBounds_toArray, List.set_cons_zero, List.set_cons_succ]
                          refine wpAnyH_done (by kernel_rfl) ?_ _
                          refine hK16 _ _ ?_
                          refine wp_cond_true rfl ?_
                          refine wp_seq_k fun K17 hK17 => ?_
                          refine wp_region_list (WL.out ?_)
                          refine WL.val (by kernel_rfl) (.int .i64 4) (by go_simp) ?_
                          simp only [Act.put, List.setIfInBounds_toArray, List.set_cons_zero, List.set_cons_succ]
                          refine WL.nil ?_
                          refine hK17 _ _ ?_
                          refine wp_ret ?_
                          go_ret
                          first | exact ⟨by rw [HR.out]; (simp [*] <;> simp [hasI]), by rw [← HgE.out]; exact B2.out⟩ | exact ⟨by rw [HR.out]; (simp [*] <;> simp [hasI]), by rw [← HgE.out]; exact B3.out⟩ | exact ⟨by rw [HR.out]; (simp [*] <;> simp [hasI]), by rw [← HgE.out]; exact B4.out⟩ | exact ⟨by rw [HR.out]; (simp [*] <;> simp [hasI]), by rw [← HgE.out]; exact B5.out⟩ | exact ⟨by rw [HR.out]; (simp [*] <;> simp [hasI]), by rw [← HgE.out]; exact B5.out.drew⟩
                        · have hFi : ¬ (fit M.bk : Int) < (M.bk.length : Int) := by omega
                          refine wp_region_held_drew (S := fun wx => wx.cell? ⟨g, 5, none⟩ = some (.slice xa M.bk.length xk)) (by kernel_rfl) (hD0) (fun hHeld => ?_)
                          refine wpAnyH_take (i := 0) (oi := ⟨some 68, Op.fieldAddr 28 (Operand.tmp 1) 5, 0, _, _, none⟩) (v := .pointer (some ⟨g, 5, none⟩)) rfl (by kernel_rfl) (by kernel_rfl) (by kernel_rfl) (fun _ _ _ h => h) (Or.inl ⟨by rfl, fun w hS => by go_simp⟩) hHeld ?_
                          simp only [Act.put, List.setIfInBounds_toArray, List.set_cons_zero, List.set_cons_succ]
                          refine wpAnyH_take (i := 1) (oi := ⟨some 69, Op.load 26 (Operand.tmp 68), 26, _, _, none⟩) (v := .slice xa M.bk.length xk) rfl (by kernel_rfl) (by kernel_rfl) (by kernel_rfl) (fun _ _ _ h => h) (Or.inl ⟨by rfl, fun w hS => by go_simp⟩) hHeld ?_
                          simp only [Act.put, List.setIfInBounds_toArray, List.set_cons_zero, List.set_cons_succ]
                          refine wpAnyH_ready (rs := [2]) (by kernel_rfl) (by simp) ?_
                          refine AllReadyH.cons (o := ⟨some 70, Op.call { callee := Callee.value (Operand.func 24), args := #[Operand.tmp 69], argTypes := #[26] }, 4, _, _, none⟩) rfl (fun K hK => ?_) AllReadyH.nil
                          rw [if_pos (by rfl)]
                          refine wp_callF 24 _ _ rfl Try.in24 #[.slice xa M.bk.length xk] (by simp [Act.eval]) (fun v w' => v = .bool true ∧ w' = w5.drew) (HC7.out.mono fun e w' h => ⟨_, h.1, rfl, h.2⟩) ?_
                          rintro v w6 ⟨rfl, rfl⟩
                          refine hK.out _ _ hD0 fun hHeld6 => ?_
                          clear hK HC7
                          simp only [Act.put, List.setIfInBounds_toArray, List.set_cons_zero, List.set_cons_succ]
                          refine wpAnyH_take (i := 3) (oi := ⟨some 71, Op.unOp UnOp.not 4 (Operand.tmp 70), 4, _, _, none⟩) (v := .bool false) rfl (by kernel_rfl) (by kernel_rfl) (by kernel_rfl) (fun _ _ _ h => h) (Or.inl ⟨by rfl, fun w hS => by go_simp⟩) hHeld6 ?_
                          simp only [Act.put, List.setIfInBounds_toArray, List.set_cons_zero, List.set_cons_succ]
                          refine wpAnyH_take (i := 4) (oi := ⟨some 72, Op.move (Operand.tmp 71), 4, _, _, none⟩) (v := .bool false) rfl (by kernel_rfl) (by kernel_rfl) (by kernel_rfl) (fun _ _ _ h => h) (Or.inl ⟨by rfl, fun w hS => by go_simp⟩) hHeld6 ?_
                          simp only [Act.put, List.setIfInBounds_toArray, List.set_cons_zero, List.set_cons_succ]
                          refine wpAnyH_take (i := 5) (oi := ⟨some 73, Op.fieldAddr 28 (Operand.tmp 1) 5, 0, _, _, some (4, false)⟩) (v := .pointer (some ⟨g, 5, none⟩)) rfl (by kernel_rfl) (by kernel_rfl) (by kernel_rfl) (fun _ _ _ h => h) (Or.inl ⟨by rfl, fun w hS => by go_simp⟩) hHeld6 ?_
                          simp only [Act.put, List.setIfInBounds_toArray, List.set_cons_zero, List.set_cons_succ]
                          refine wpAnyH_take (i := 6) (oi := ⟨some 74, Op.load 26 (Operand.tmp 73), 26, _, _, some (4, false)⟩) (v := .slice xa M.bk.length xk) rfl (by kernel_rfl) (by kernel_rfl) (by kernel_rfl) (fun _ _ _ h => h) (Or.inl ⟨by rfl, fun w hS => by go_simp⟩) hHeld6 ?_
                          simp only [Act.put, List.setIfInBounds_toArray, List.set_cons_zero, List.set_cons_succ]
                          refine wpAnyH_take (i := 8) (oi := ⟨some 76, Op.fieldAddr 28 (Operand.tmp 1) 5, 0, _, _, some (4, false)⟩) (v := .pointer (some ⟨g, 5, none⟩)) rfl (by kernel_rfl) (by kernel_rfl) (by kernel_rfl) (fun _ _ _ h => h) (Or.inl ⟨by rfl, fun w hS => by go_simp⟩) hHeld6 ?_
                          simp only [Act.put, List.setIfInBounds_toArray, List.set_cons_zero, List.set_cons_succ]
                          refine wpAnyH_take (i := 9) (oi := ⟨some 77, Op.load 26 (Operand.tmp 76), 26, _, _, some (4, false)⟩) (v := .slice xa M.bk.length xk) rfl (by kernel_rfl) (by kernel_rfl) (by kernel_rfl) (fun _ _ _ h => h) (Or.inl ⟨by rfl, fun w hS => by go_simp⟩) hHeld6 ?_
                          simp only [Act.put, List.setIfInBounds_toArray, List.set_cons_zero, List.set_cons_succ]
                          refine wpAnyH_take (i := 10) (oi := ⟨some 78, Op.call { callee := Callee.builtin Builtin.len, args := #[Operand.tmp 77], argTypes := #[26] }, 3, _, _, some (4, false)⟩) (v := .int .i64 (M.bk.length : Int)) rfl (by kernel_rfl) (by kernel_rfl) (by kernel_rfl) (fun _ _ _ h => h) (Or.inl ⟨by rfl, fun w hS => by go_simp⟩) hHeld6 ?_
                          simp only [Act.put, List.setIfInBounds_toArray, List.set_cons_zero, List.set_cons_succ]
                          refine wpAnyH_ready (rs := [7]) (by kernel_rfl) (by simp) ?_
                          refine AllReadyH.cons (o := ⟨some 75, Op.call { callee := Callee.value (Operand.func 25), args := #[Operand.tmp 74], argTypes := #[26] }, 3, _, _, some (4, false)⟩) rfl (fun K hK => ?_) AllReadyH.nil
                          rw [if_pos (by rfl)]
                          refine wp_callF 25 _ _ rfl Try.in25 #[.slice xa M.bk.length xk] (by simp [Act.eval]) (fun v w' => v = .int .i64 (fit M.bk : Int) ∧ w' = w5.drew) (HC8.out.mono fun e w' h => ⟨_, h.1, rfl, h.2⟩) ?_
                          rintro v w6 ⟨rfl, rfl⟩
                          refine hK.out _ _ hD0 fun hHeld7 => ?_
                          clear hK HC8
                          simp only [Act.put, List.setIfInBounds_toArray, List.set_cons_zero, List.set_cons_succ]
                          refine wpAnyH_take (i := 11) (oi := ⟨some 79, Op.binOp BinOp.lss 3 (Operand.tmp 75) (Operand.tmp 78) 3, 4, _, _, some (4, false)⟩) (v := .bool false) rfl (by kernel_rfl) (by kernel_rfl) (by kernel_rfl) (fun _ _ _ h => h) (Or.inl ⟨by rfl, fun w hS => by go_simp⟩) hHeld7 ?_
                          simp only [Act.put, List.setIfInBounds_toArray, List.set_cons_zero, List.set_cons_succ]
                          refine wpAnyH_take (i := 12) (oi := ⟨some 80, Op.pick (Operand.tmp 72) (Operand.const (Value.bool true)) (Operand.tmp 79), 4, _, _, none⟩) (v := .bool false) rfl (by kernel_rfl) (by kernel_rfl) (by kernel_rfl) (fun _ _ _ h => h) (Or.inl ⟨by rfl, fun w hS => by go_simp⟩) hHeld7 ?_
                          simp only [Act.put, List.setIfInBounds_toArray, List.set_cons_zero, List.set_cons_succ]
                          refine wpAnyH_take (i := 13) (oi := ⟨some 67, Op.assign (Operand.tmp 80), 4, _, _, none⟩) (v := .bool false) rfl (by kernel_rfl) (by kernel_rfl) (by kernel_rfl) (fun _ _ _ h => h) (Or.inl ⟨by rfl, fun w hS => by go_simp⟩) hHeld7 ?_
                          simp only [Act.put, List.setIfInBounds_toArray, List.set_cons_zero, List.set_cons_succ]
                          refine wpAnyH_done (by kernel_rfl) ?_ _
                          refine hK16 _ _ ?_
                          refine wp_cond_false rfl ?_
                          refine wp_skip ?_
                          refine hK3 _ _ ?_
                          refine wp_seq_k fun K18 hK18 => ?_
                          refine wp_region_list (WL.out ?_)
                          refine WL.val (by kernel_rfl) (.int .i64 0) (by go_simp) ?_
                          simp only [Act.put, List.setIfInBounds_toArray, List.set_cons_zero, List.set_cons_succ]
                          refine WL.nil ?_
                          refine hK18 _ _ ?_
                          refine wp_ret ?_
                          go_ret
                          first | exact ⟨by rw [HR.out]; (simp [*] <;> simp [hasI]), by rw [← HgE.out]; exact B2.out⟩ | exact ⟨by rw [HR.out]; (simp [*] <;> simp [hasI]), by rw [← HgE.out]; exact B3.out⟩ | exact ⟨by rw [HR.out]; (simp [*] <;> simp [hasI]), by rw [← HgE.out]; exact B4.out⟩ | exact ⟨by rw [HR.out]; (simp [*] <;> simp [hasI]), by rw [← HgE.out]; exact B5.out⟩ | exact ⟨by rw [HR.out]; (simp [*] <;> simp [hasI]), by rw [← HgE.out]; exact B5.out.drew⟩
                      · have HC7 := Keep.mk (areBlocks_any (.slice xa M.bk.length xk) M.bk w5.drew (by have h := HA5.out.bk; rw [E5.out] at h; exact h.below (Below.refl _ _).drew) (by have := HOk.out.bk; omega) (fun i hi => by have := HOk.out.rows i hi; omega))
                        rw [hO] at HC7
                        have hD0 : w5.drew.cell? ⟨g, 5, none⟩ = some (.slice xa M.bk.length xk) := g5
                        refine wp_region_held_drew (S := fun wx => wx.cell? ⟨g, 5, none⟩ = some (.slice xa M.bk.length xk)) (by kernel_rfl) (hD0) (fun hHeld => ?_)
                        refine wpAnyH_take (i := 0) (oi := ⟨some 68, Op.fieldAddr 28 (Operand.tmp 1) 5, 0, _, _, none⟩) (v := .pointer (some ⟨g, 5, none⟩)) rfl (by kernel_rfl) (by kernel_rfl) (by kernel_rfl) (fun _ _ _ h => h) (Or.inl ⟨by rfl, fun w hS => by go_simp⟩) hHeld ?_
                        simp only [Act.put, List.setIfInBounds_toArray, List.set_cons_zero, List.set_cons_succ]
                        refine wpAnyH_take (i := 1) (oi := ⟨some 69, Op.load 26 (Operand.tmp 68), 26, _, _, none⟩) (v := .slice xa M.bk.length xk) rfl (by kernel_rfl) (by kernel_rfl) (by kernel_rfl) (fun _ _ _ h => h) (Or.inl ⟨by rfl, fun w hS => by go_simp⟩) hHeld ?_
                        simp only [Act.put, List.setIfInBounds_toArray, List.set_cons_zero, List.set_cons_succ]
                        refine wpAnyH_ready (rs := [2]) (by kernel_rfl) (by simp) ?_
                        refine AllReadyH.cons (o := ⟨some 70, Op.call { callee := Callee.value (Operand.func 24), args := #[Operand.tmp 69], argTypes := #[26] }, 4, _, _, none⟩) rfl (fun K hK => ?_) AllReadyH.nil
                        rw [if_pos (by rfl)]
                        refine wp_callF 24 _ _ rfl Try.in24 #[.slice xa M.bk.length xk] (by simp [Act.eval]) (fun v w' => v = .bool false ∧ w' = w5.drew) (HC7.out.mono fun e w' h => ⟨_, h.1, rfl, h.2⟩) ?_
                        rintro v w6 ⟨rfl, rfl⟩
                        refine hK.out _ _ hD0 fun hHeld6 => ?_
                        clear hK HC7
                        simp only [Act.put, List.setIfInBounds_toArray, List.set_cons_zero, List.set_cons_succ]
                        refine wpAnyH_take (i := 3) (oi := ⟨some 71, Op.unOp UnOp.not 4 (Operand.tmp 70), 4, _, _, none⟩) (v := .bool true) rfl (by kernel_rfl) (by kernel_rfl) (by kernel_rfl) (fun _ _ _ h => h) (Or.inl ⟨by rfl, fun w hS => by go_simp⟩) hHeld6 ?_
                        simp only [Act.put, List.setIfInBounds_toArray, List.set_cons_zero, List.set_cons_succ]
                        refine wpAnyH_take (i := 4) (oi := ⟨some 72, Op.move (Operand.tmp 71), 4, _, _, none⟩) (v := .bool true) rfl (by kernel_rfl) (by kernel_rfl) (by kernel_rfl) (fun _ _ _ h => h) (Or.inl ⟨by rfl, fun w hS => by go_simp⟩) hHeld6 ?_
                        simp only [Act.put, List.setIfInBounds_toArray, List.set_cons_zero, List.set_cons_succ]
                        refine wpAnyH_take (i := 5) (oi := ⟨some 73, Op.fieldAddr 28 (Operand.tmp 1) 5, 0, _, _, some (4, false)⟩) (v := undef) rfl (by kernel_rfl) (by kernel_rfl) (by kernel_rfl) (fun _ _ _ h => h) (Or.inr ⟨by rfl, rfl⟩) hHeld6 ?_
                        simp only [Act.put, List.setIfInBounds_toArray, List.set_cons_zero, List.set_cons_succ]
                        refine wpAnyH_take (i := 6) (oi := ⟨some 74, Op.load 26 (Operand.tmp 73), 26, _, _, some (4, false)⟩) (v := undef) rfl (by kernel_rfl) (by kernel_rfl) (by kernel_rfl) (fun _ _ _ h => h) (Or.inr ⟨by rfl, rfl⟩) hHeld6 ?_
                        simp only [Act.put, List.setIfInBounds_toArray, List.set_cons_zero, List.set_cons_succ]
                        refine wpAnyH_take (i := 7) (oi := ⟨some 75, Op.call { callee := Callee.value (Operand.func 25), args := #[Operand.tmp 74], argTypes := #[26] }, 3, _, _, some (4, false)⟩) (v := undef) rfl (by kernel_rfl) (by kernel_rfl) (by kernel_rfl) (fun _ _ _ h => h) (Or.inr ⟨by rfl, rfl⟩) hHeld6 ?_
                        simp only [Act.put, List.setIfInBounds_toArray, List.set_cons_zero, List.set_cons_succ]
                        refine wpAnyH_take (i := 8) (oi := ⟨some 76, Op.fieldAddr 28 (Operand.tmp 1) 5, 0, _, _, some (4, false)⟩) (v := undef) rfl (by kernel_rfl) (by kernel_rfl) (by kernel_rfl) (fun _ _ _ h => h) (Or.inr ⟨by rfl, rfl⟩) hHeld6 ?_
                        simp only [Act.put, List.setIfInBounds_toArray, List.set_cons_zero, List.set_cons_succ]
                        refine wpAnyH_take (i := 9) (oi := ⟨some 77, Op.load 26 (Operand.tmp 76), 26, _, _, some (4, false)⟩) (v := undef) rfl (by kernel_rfl) (by kernel_rfl) (by kernel_rfl) (fun _ _ _ h => h) (Or.inr ⟨by rfl, rfl⟩) hHeld6 ?_
                        simp only [Act.put, List.setIfInBounds_toArray, List.set_cons_zero, List.set_cons_succ]
                        refine wpAnyH_take (i := 10) (oi := ⟨some 78, Op.call { callee := Callee.builtin Builtin.len, args := #[Operand.tmp 77], argTypes := #[26] }, 3, _, _, some (4, false)⟩) (v := undef) rfl (by kernel_rfl) (by kernel_rfl) (by kernel_rfl) (fun _ _ _ h => h) (Or.inr ⟨by rfl, rfl⟩) hHeld6 ?_
                        simp only [Act.put, List.setIfInBounds_toArray, List.set_cons_zero, List.set_cons_succ]
                        refine wpAnyH_take (i := 11) (oi := ⟨some 79, Op.binOp BinOp.lss 3 (Operand.tmp 75) (Operand.tmp 78) 3, 4, _, _, some (4, false)⟩) (v := undef) rfl (by kernel_rfl) (by kernel_rfl) (by kernel_rfl) (fun _ _ _ h => h) (Or.inr ⟨by rfl, rfl⟩) hHeld6 ?_
                        simp only [Act.put, List.setIfInBounds_toArray, List.set_cons_zero, List.set_cons_succ]
                        refine wpAnyH_take (i := 12) (oi := ⟨some 80, Op.pick (Operand.tmp 72) (Operand.const (Value.bool true)) (Operand.tmp 79), 4, _, _, none⟩) (v := .bool true) rfl (by kernel_rfl) (by kernel_rfl) (by kernel_rfl) (fun _ _ _ h => h) (Or.inl ⟨by rfl, fun w hS => by go_simp⟩) hHeld6 ?_
                        simp only [Act.put, List.setIfInBounds_toArray, List.set_cons_zero, List.set_cons_succ]
                        refine wpAnyH_take (i := 13) (oi := ⟨some 67, Op.assign (Operand.tmp 80), 4, _, _, none⟩) (v := .bool true) rfl (by kernel_rfl) (by kernel_rfl) (by kernel_rfl) (fun _ _ _ h => h) (Or.inl ⟨by rfl, fun w hS => by go_simp⟩) hHeld6 ?_
                        simp only [Act.put, List.setIfInBounds_toArray, List.set_cons_zero, List.set_cons_succ]
                        refine wpAnyH_done (by kernel_rfl) ?_ _
                        refine hK16 _ _ ?_
                        refine wp_cond_true rfl ?_
                        refine wp_seq_k fun K19 hK19 => ?_
                        refine wp_region_list (WL.out ?_)
                        refine WL.val (by kernel_rfl) (.int .i64 4) (by go_simp) ?_
                        simp only [Act.put, List.setIfInBounds_toArray, List.set_cons_zero, List.set_cons_succ]
                        refine WL.nil ?_
                        refine hK19 _ _ ?_
                        refine wp_ret ?_
                        go_ret
                        first | exact ⟨by rw [HR.out]; (simp [*] <;> simp [hasI]), by rw [← HgE.out]; exact B2.out⟩ | exact ⟨by rw [HR.out]; (simp [*] <;> simp [hasI]), by rw [← HgE.out]; exact B3.out⟩ | exact ⟨by rw [HR.out]; (simp [*] <;> simp [hasI]), by rw [← HgE.out]; exact B4.out⟩ | exact ⟨by rw [HR.out]; (simp [*] <;> simp [hasI]), by rw [← HgE.out]; exact B5.out⟩ | exact ⟨by rw [HR.out]; (simp [*] <;> simp [hasI]), by rw [← HgE.out]; exact B5.out.drew⟩
                    · have HC6 := Keep.mk (right_any (.slice ba M.bl.length bk) M.bl w5 (by have h := HA5.out.bl; rw [E3.out] at h; exact h))
                      rw [hP] at HC6
                      refine wp_region_list (WL.out ?_)
                      refine WL.val (by kernel_rfl) (.pointer (some ⟨g, 0, none⟩)) (by go_simp) ?_
                      simp only [Act.put, List.setIfInBounds_toArray, List.set_cons_zero, List.set_cons_succ]
                      refine WL.val (by kernel_rfl) (.int .i64 M.k) (by go_simp) ?_
                      simp only [Act.put, List.setIfInBounds_toArray, List.set_cons_zero, List.set_cons_succ]
                      refine WL.val (by kernel_rfl) (.bool false) (by go_simp) ?_
                      simp only [Act.put, List.setIfInBounds_toArray, List.set_cons_zero, List.set_cons_succ]
                      refine WL.val (by kernel_rfl) (.bool false) (by go_simp) ?_
                      simp only [Act.put, List.setIfInBounds_toArray, List.set_cons_zero, List.set_cons_succ]
                      refine WL.skip (by kernel_rfl) ?_
                      simp only [Act.put, List.setIfInBounds_toArray, List.set_cons_zero, List.set_cons_succ]
                      refine WL.skip (by kernel_rfl) ?_
                      simp only [Act.put, List.setIfInBounds_toArray, List.set_cons_zero, List.set_cons_succ]
                      refine WL.skip (by kernel_rfl) ?_
                      simp only [Act.put, List.setIfInBounds_toArray, List.set_cons_zero, List.set_cons_succ]
                      refine WL.skip (by kernel_rfl) ?_
                      simp only [Act.put, List.setIfInBounds_toArray, List.set_cons_zero, List.set_cons_succ]
                      refine WL.val (by kernel_rfl) (.bool false) (by go_simp) ?_
                      simp only [Act.put, List.setIfInBounds_toArray, List.set_cons_zero, List.set_cons_succ]
                      refine WL.val (by kernel_rfl) (.bool false) (by go_simp) ?_
                      simp only [Act.put, List.setIfInBounds_toArray, List.set_cons_zero, List.set_cons_succ]
                      refine WL.nil ?_
                      refine hK15 _ _ ?_
                      refine wp_cond_false rfl ?_
                      refine wp_seq_k fun K20 hK20 => ?_
                      rcases Bool.eq_false_or_eq_true (okR M.bk) with hO | hO
                      · have HC7 := Keep.mk (areBlocks_any (.slice xa M.bk.length xk) M.bk w5.drew (by have h := HA5.out.bk; rw [E5.out] at h; exact h.below (Below.refl _ _).drew) (by have := HOk.out.bk; omega) (fun i hi => by have := HOk.out.rows i hi; omega))
                        rw [hO] at HC7
                        have hD0 : w5.drew.cell? ⟨g, 5, none⟩ = some (.slice xa M.bk.length xk) := g5
                        have HC8 := Keep.mk (fitting_any (.slice xa M.bk.length xk) M.bk w5.drew (by have h := HA5.out.bk; rw [E5.out] at h; exact h.below (Below.refl _ _).drew) (by have := HOk.out.bk; omega) (fun i hi => ((okR_iff _).1 hO i hi).2))
                        by_cases hF : fit M.bk < M.bk.length
                        · have hFi : (fit M.bk : Int) < (M.bk.length : Int) := by omega
                          refine wp_region_held_drew (S := fun wx => wx.cell? ⟨g, 5, none⟩ = some (.slice xa M.bk.length xk)) (by kernel_rfl) (hD0) (fun hHeld => ?_)
                          refine wpAnyH_take (i := 0) (oi := ⟨some 68, Op.fieldAddr 28 (Operand.tmp 1) 5, 0, _, _, none⟩) (v := .pointer (some ⟨g, 5, none⟩)) rfl (by kernel_rfl) (by kernel_rfl) (by kernel_rfl) (fun _ _ _ h => h) (Or.inl ⟨by rfl, fun w hS => by go_simp⟩) hHeld ?_
                          simp only [Act.put, List.setIfInBounds_toArray, List.set_cons_zero, List.set_cons_succ]
                          refine wpAnyH_take (i := 1) (oi := ⟨some 69, Op.load 26 (Operand.tmp 68), 26, _, _, none⟩) (v := .slice xa M.bk.length xk) rfl (by kernel_rfl) (by kernel_rfl) (by kernel_rfl) (fun _ _ _ h => h) (Or.inl ⟨by rfl, fun w hS => by go_simp⟩) hHeld ?_
                          simp only [Act.put, List.setIfInBounds_toArray, List.set_cons_zero, List.set_cons_succ]
                          refine wpAnyH_ready (rs := [2]) (by kernel_rfl) (by simp) ?_
                          refine AllReadyH.cons (o := ⟨some 70, Op.call { callee := Callee.value (Operand.func 24), args := #[Operand.tmp 69], argTypes := #[26] }, 4, _, _, none⟩) rfl (fun K hK => ?_) AllReadyH.nil
                          rw [if_pos (by rfl)]
                          refine wp_callF 24 _ _ rfl Try.in24 #[.slice xa M.bk.length xk] (by simp [Act.eval]) (fun v w' => v = .bool true ∧ w' = w5.drew) (HC7.out.mono fun e w' h => ⟨_, h.1, rfl, h.2⟩) ?_
                          rintro v w6 ⟨rfl, rfl⟩
                          refine hK.out _ _ hD0 fun hHeld6 => ?_
                          clear hK HC7
                          simp only [Act.put, List.setIfInBounds_toArray, List.set_cons_zero, List.set_cons_succ]
                          refine wpAnyH_take (i := 3) (oi := ⟨some 71, Op.unOp UnOp.not 4 (Operand.tmp 70), 4, _, _, none⟩) (v := .bool false) rfl (by kernel_rfl) (by kernel_rfl) (by kernel_rfl) (fun _ _ _ h => h) (Or.inl ⟨by rfl, fun w hS => by go_simp⟩) hHeld6 ?_
                          simp only [Act.put, List.setIfInBounds_toArray, List.set_cons_zero, List.set_cons_succ]
                          refine wpAnyH_take (i := 4) (oi := ⟨some 72, Op.move (Operand.tmp 71), 4, _, _, none⟩) (v := .bool false) rfl (by kernel_rfl) (by kernel_rfl) (by kernel_rfl) (fun _ _ _ h => h) (Or.inl ⟨by rfl, fun w hS => by go_simp⟩) hHeld6 ?_
                          simp only [Act.put, List.setIfInBounds_toArray, List.set_cons_zero, List.set_cons_succ]
                          refine wpAnyH_take (i := 5) (oi := ⟨some 73, Op.fieldAddr 28 (Operand.tmp 1) 5, 0, _, _, some (4, false)⟩) (v := .pointer (some ⟨g, 5, none⟩)) rfl (by kernel_rfl) (by kernel_rfl) (by kernel_rfl) (fun _ _ _ h => h) (Or.inl ⟨by rfl, fun w hS => by go_simp⟩) hHeld6 ?_
                          simp only [Act.put, List.setIfInBounds_toArray, List.set_cons_zero, List.set_cons_succ]
                          refine wpAnyH_take (i := 6) (oi := ⟨some 74, Op.load 26 (Operand.tmp 73), 26, _, _, some (4, false)⟩) (v := .slice xa M.bk.length xk) rfl (by kernel_rfl) (by kernel_rfl) (by kernel_rfl) (fun _ _ _ h => h) (Or.inl ⟨by rfl, fun w hS => by go_simp⟩) hHeld6 ?_
                          simp only [Act.put, List.setIfInBounds_toArray, List.set_cons_zero, List.set_cons_succ]
                          refine wpAnyH_take (i := 8) (oi := ⟨some 76, Op.fieldAddr 28 (Operand.tmp 1) 5, 0, _, _, some (4, false)⟩) (v := .pointer (some ⟨g, 5, none⟩)) rfl (by kernel_rfl) (by kernel_rfl) (by kernel_rfl) (fun _ _ _ h => h) (Or.inl ⟨by rfl, fun w hS => by go_simp⟩) hHeld6 ?_
                          simp only [Act.put, List.setIfInBounds_toArray, List.set_cons_zero, List.set_cons_succ]
                          refine wpAnyH_take (i := 9) (oi := ⟨some 77, Op.load 26 (Operand.tmp 76), 26, _, _, some (4, false)⟩) (v := .slice xa M.bk.length xk) rfl (by kernel_rfl) (by kernel_rfl) (by kernel_rfl) (fun _ _ _ h => h) (Or.inl ⟨by rfl, fun w hS => by go_simp⟩) hHeld6 ?_
                          simp only [Act.put, List.setIfInBounds_toArray, List.set_cons_zero, List.set_cons_succ]
                          refine wpAnyH_take (i := 10) (oi := ⟨some 78, Op.call { callee := Callee.builtin Builtin.len, args := #[Operand.tmp 77], argTypes := #[26] }, 3, _, _, some (4, false)⟩) (v := .int .i64 (M.bk.length : Int)) rfl (by kernel_rfl) (by kernel_rfl) (by kernel_rfl) (fun _ _ _ h => h) (Or.inl ⟨by rfl, fun w hS => by go_simp⟩) hHeld6 ?_
                          simp only [Act.put, List.setIfInBounds_toArray, List.set_cons_zero, List.set_cons_succ]
                          refine wpAnyH_ready (rs := [7]) (by kernel_rfl) (by simp) ?_
                          refine AllReadyH.cons (o := ⟨some 75, Op.call { callee := Callee.value (Operand.func 25), args := #[Operand.tmp 74], argTypes := #[26] }, 3, _, _, some (4, false)⟩) rfl (fun K hK => ?_) AllReadyH.nil
                          rw [if_pos (by rfl)]
                          refine wp_callF 25 _ _ rfl Try.in25 #[.slice xa M.bk.length xk] (by simp [Act.eval]) (fun v w' => v = .int .i64 (fit M.bk : Int) ∧ w' = w5.drew) (HC8.out.mono fun e w' h => ⟨_, h.1, rfl, h.2⟩) ?_
                          rintro v w6 ⟨rfl, rfl⟩
                          refine hK.out _ _ hD0 fun hHeld7 => ?_
                          clear hK HC8
                          simp only [Act.put, List.setIfInBounds_toArray, List.set_cons_zero, List.set_cons_succ]
                          refine wpAnyH_take (i := 11) (oi := ⟨some 79, Op.binOp BinOp.lss 3 (Operand.tmp 75) (Operand.tmp 78) 3, 4, _, _, some (4, false)⟩) (v := .bool true) rfl (by kernel_rfl) (by kernel_rfl) (by kernel_rfl) (fun _ _ _ h => h) (Or.inl ⟨by rfl, fun w hS => by go_simp⟩) hHeld7 ?_
                          simp only [Act.put, List.setIfInBounds_toArray, List.set_cons_zero, List.set_cons_succ]
                          refine wpAnyH_take (i := 12) (oi := ⟨some 80, Op.pick (Operand.tmp 72) (Operand.const (Value.bool true)) (Operand.tmp 79), 4, _, _, none⟩) (v := .bool true) rfl (by kernel_rfl) (by kernel_rfl) (by kernel_rfl) (fun _ _ _ h => h) (Or.inl ⟨by rfl, fun w hS => by go_simp⟩) hHeld7 ?_
                          simp only [Act.put, List.setIfInBounds_toArray, List.set_cons_zero, List.set_cons_succ]
                          refine wpAnyH_take (i := 13) (oi := ⟨some 67, Op.assign (Operand.tmp 80), 4, _, _, none⟩) (v := .bool true) rfl (by kernel_rfl) (by kernel_rfl) (by kernel_rfl) (fun _ _ _ h => h) (Or.inl ⟨by rfl, fun w hS => by go_simp⟩) hHeld7 ?_
                          simp only [Act.put, List.setIfInBounds_toArray, List.set_cons_zero, List.set_cons_succ]
                          refine wpAnyH_done (by kernel_rfl) ?_ _
                          refine hK20 _ _ ?_
                          refine wp_cond_true rfl ?_
                          refine wp_seq_k fun K21 hK21 => ?_
                          refine wp_region_list (WL.out ?_)
                          refine WL.val (by kernel_rfl) (.int .i64 4) (by go_simp) ?_
                          simp only [Act.put, List.setIfInBounds_toArray, List.set_cons_zero, List.set_cons_succ]
                          refine WL.nil ?_
                          refine hK21 _ _ ?_
                          refine wp_ret ?_
                          go_ret
                          first | exact ⟨by rw [HR.out]; (simp [*] <;> simp [hasI]), by rw [← HgE.out]; exact B2.out⟩ | exact ⟨by rw [HR.out]; (simp [*] <;> simp [hasI]), by rw [← HgE.out]; exact B3.out⟩ | exact ⟨by rw [HR.out]; (simp [*] <;> simp [hasI]), by rw [← HgE.out]; exact B4.out⟩ | exact ⟨by rw [HR.out]; (simp [*] <;> simp [hasI]), by rw [← HgE.out]; exact B5.out⟩ | exact ⟨by rw [HR.out]; (simp [*] <;> simp [hasI]), by rw [← HgE.out]; exact B5.out.drew⟩
                        · have hFi : ¬ (fit M.bk : Int) < (M.bk.length : Int) := by omega
                          refine wp_region_held_drew (S := fun wx => wx.cell? ⟨g, 5, none⟩ = some (.slice xa M.bk.length xk)) (by kernel_rfl) (hD0) (fun hHeld => ?_)
                          refine wpAnyH_take (i := 0) (oi := ⟨some 68, Op.fieldAddr 28 (Operand.tmp 1) 5, 0, _, _, none⟩) (v := .pointer (some ⟨g, 5, none⟩)) rfl (by kernel_rfl) (by kernel_rfl) (by kernel_rfl) (fun _ _ _ h => h) (Or.inl ⟨by rfl, fun w hS => by go_simp⟩) hHeld ?_
                          simp only [Act.put, List.setIfInBounds_toArray, List.set_cons_zero, List.set_cons_succ]
                          refine wpAnyH_take (i := 1) (oi := ⟨some 69, Op.load 26 (Operand.tmp 68), 26, _, _, none⟩) (v := .slice xa M.bk.length xk) rfl (by kernel_rfl) (by kernel_rfl) (by kernel_rfl) (fun _ _ _ h => h) (Or.inl ⟨by rfl, fun w hS => by go_simp⟩) hHeld ?_
                          simp only [Act.put, List.setIfInBounds_toArray, List.set_cons_zero, List.set_cons_succ]
                          refine wpAnyH_ready (rs := [2]) (by kernel_rfl) (by simp) ?_
                          refine AllReadyH.cons (o := ⟨some 70, Op.call { callee := Callee.value (Operand.func 24), args := #[Operand.tmp 69], argTypes := #[26] }, 4, _, _, none⟩) rfl (fun K hK => ?_) AllReadyH.nil
                          rw [if_pos (by rfl)]
                          refine wp_callF 24 _ _ rfl Try.in24 #[.slice xa M.bk.length xk] (by simp [Act.eval]) (fun v w' => v = .bool true ∧ w' = w5.drew) (HC7.out.mono fun e w' h => ⟨_, h.1, rfl, h.2⟩) ?_
                          rintro v w6 ⟨rfl, rfl⟩
                          refine hK.out _ _ hD0 fun hHeld6 => ?_
                          clear hK HC7
                          simp only [Act.put, List.setIfInBounds_toArray, List.set_cons_zero, List.set_cons_succ]
                          refine wpAnyH_take (i := 3) (oi := ⟨some 71, Op.unOp UnOp.not 4 (Operand.tmp 70), 4, _, _, none⟩) (v := .bool false) rfl (by kernel_rfl) (by kernel_rfl) (by kernel_rfl) (fun _ _ _ h => h) (Or.inl ⟨by rfl, fun w hS => by go_simp⟩) hHeld6 ?_
                          simp only [Act.put, List.setIfInBounds_toArray, List.set_cons_zero, List.set_cons_succ]
                          refine wpAnyH_take (i := 4) (oi := ⟨some 72, Op.move (Operand.tmp 71), 4, _, _, none⟩) (v := .bool false) rfl (by kernel_rfl) (by kernel_rfl) (by kernel_rfl) (fun _ _ _ h => h) (Or.inl ⟨by rfl, fun w hS => by go_simp⟩) hHeld6 ?_
                          simp only [Act.put, List.setIfInBounds_toArray, List.set_cons_zero, List.set_cons_succ]
                          refine wpAnyH_take (i := 5) (oi := ⟨some 73, Op.fieldAddr 28 (Operand.tmp 1) 5, 0, _, _, some (4, false)⟩) (v := .pointer (some ⟨g, 5, none⟩)) rfl (by kernel_rfl) (by kernel_rfl) (by kernel_rfl) (fun _ _ _ h => h) (Or.inl ⟨by rfl, fun w hS => by go_simp⟩) hHeld6 ?_
                          simp only [Act.put, List.setIfInBounds_toArray, List.set_cons_zero, List.set_cons_succ]
                          refine wpAnyH_take (i := 6) (oi := ⟨some 74, Op.load 26 (Operand.tmp 73), 26, _, _, some (4, false)⟩) (v := .slice xa M.bk.length xk) rfl (by kernel_rfl) (by kernel_rfl) (by kernel_rfl) (fun _ _ _ h => h) (Or.inl ⟨by rfl, fun w hS => by go_simp⟩) hHeld6 ?_
                          simp only [Act.put, List.setIfInBounds_toArray, List.set_cons_zero, List.set_cons_succ]
                          refine wpAnyH_take (i := 8) (oi := ⟨some 76, Op.fieldAddr 28 (Operand.tmp 1) 5, 0, _, _, some (4, false)⟩) (v := .pointer (some ⟨g, 5, none⟩)) rfl (by kernel_rfl) (by kernel_rfl) (by kernel_rfl) (fun _ _ _ h => h) (Or.inl ⟨by rfl, fun w hS => by go_simp⟩) hHeld6 ?_
                          simp only [Act.put, List.setIfInBounds_toArray, List.set_cons_zero, List.set_cons_succ]
                          refine wpAnyH_take (i := 9) (oi := ⟨some 77, Op.load 26 (Operand.tmp 76), 26, _, _, some (4, false)⟩) (v := .slice xa M.bk.length xk) rfl (by kernel_rfl) (by kernel_rfl) (by kernel_rfl) (fun _ _ _ h => h) (Or.inl ⟨by rfl, fun w hS => by go_simp⟩) hHeld6 ?_
                          simp only [Act.put, List.setIfInBounds_toArray, List.set_cons_zero, List.set_cons_succ]
                          refine wpAnyH_take (i := 10) (oi := ⟨some 78, Op.call { callee := Callee.builtin Builtin.len, args := #[Operand.tmp 77], argTypes := #[26] }, 3, _, _, some (4, false)⟩) (v := .int .i64 (M.bk.length : Int)) rfl (by kernel_rfl) (by kernel_rfl) (by kernel_rfl) (fun _ _ _ h => h) (Or.inl ⟨by rfl, fun w hS => by go_simp⟩) hHeld6 ?_
                          simp only [Act.put, List.setIfInBounds_toArray, List.set_cons_zero, List.set_cons_succ]
                          refine wpAnyH_ready (rs := [7]) (by kernel_rfl) (by simp) ?_
                          refine AllReadyH.cons (o := ⟨some 75, Op.call { callee := Callee.value (Operand.func 25), args := #[Operand.tmp 74], argTypes := #[26] }, 3, _, _, some (4, false)⟩) rfl (fun K hK => ?_) AllReadyH.nil
                          rw [if_pos (by rfl)]
                          refine wp_callF 25 _ _ rfl Try.in25 #[.slice xa M.bk.length xk] (by simp [Act.eval]) (fun v w' => v = .int .i64 (fit M.bk : Int) ∧ w' = w5.drew) (HC8.out.mono fun e w' h => ⟨_, h.1, rfl, h.2⟩) ?_
                          rintro v w6 ⟨rfl, rfl⟩
                          refine hK.out _ _ hD0 fun hHeld7 => ?_
                          clear hK HC8
                          simp only [Act.put, List.setIfInBounds_toArray, List.set_cons_zero, List.set_cons_succ]
                          refine wpAnyH_take (i := 11) (oi := ⟨some 79, Op.binOp BinOp.lss 3 (Operand.tmp 75) (Operand.tmp 78) 3, 4, _, _, some (4, false)⟩) (v := .bool false) rfl (by kernel_rfl) (by kernel_rfl) (by kernel_rfl) (fun _ _ _ h => h) (Or.inl ⟨by rfl, fun w hS => by go_simp⟩) hHeld7 ?_
                          simp only [Act.put, List.setIfInBounds_toArray, List.set_cons_zero, List.set_cons_succ]
                          refine wpAnyH_take (i := 12) (oi := ⟨some 80, Op.pick (Operand.tmp 72) (Operand.const (Value.bool true)) (Operand.tmp 79), 4, _, _, none⟩) (v := .bool false) rfl (by kernel_rfl) (by kernel_rfl) (by kernel_rfl) (fun _ _ _ h => h) (Or.inl ⟨by rfl, fun w hS => by go_simp⟩) hHeld7 ?_
                          simp only [Act.put, List.setIfInBounds_toArray, List.set_cons_zero, List.set_cons_succ]
                          refine wpAnyH_take (i := 13) (oi := ⟨some 67, Op.assign (Operand.tmp 80), 4, _, _, none⟩) (v := .bool false) rfl (by kernel_rfl) (by kernel_rfl) (by kernel_rfl) (fun _ _ _ h => h) (Or.inl ⟨by rfl, fun w hS => by go_simp⟩) hHeld7 ?_
                          simp only [Act.put, List.setIfInBounds_toArray, List.set_cons_zero, List.set_cons_succ]
                          refine wpAnyH_done (by kernel_rfl) ?_ _
                          refine hK20 _ _ ?_
                          refine wp_cond_false rfl ?_
                          refine wp_skip ?_
                          refine hK3 _ _ ?_
                          refine wp_seq_k fun K22 hK22 => ?_
                          refine wp_region_list (WL.out ?_)
                          refine WL.val (by kernel_rfl) (.int .i64 0) (by go_simp) ?_
                          simp only [Act.put, List.setIfInBounds_toArray, List.set_cons_zero, List.set_cons_succ]
                          refine WL.nil ?_
                          refine hK22 _ _ ?_
                          refine wp_ret ?_
                          go_ret
                          first | exact ⟨by rw [HR.out]; (simp [*] <;> simp [hasI]), by rw [← HgE.out]; exact B2.out⟩ | exact ⟨by rw [HR.out]; (simp [*] <;> simp [hasI]), by rw [← HgE.out]; exact B3.out⟩ | exact ⟨by rw [HR.out]; (simp [*] <;> simp [hasI]), by rw [← HgE.out]; exact B4.out⟩ | exact ⟨by rw [HR.out]; (simp [*] <;> simp [hasI]), by rw [← HgE.out]; exact B5.out⟩ | exact ⟨by rw [HR.out]; (simp [*] <;> simp [hasI]), by rw [← HgE.out]; exact B5.out.drew⟩
                      · have HC7 := Keep.mk (areBlocks_any (.slice xa M.bk.length xk) M.bk w5.drew (by have h := HA5.out.bk; rw [E5.out] at h; exact h.below (Below.refl _ _).drew) (by have := HOk.out.bk; omega) (fun i hi => by have := HOk.out.rows i hi; omega))
                        rw [hO] at HC7
                        have hD0 : w5.drew.cell? ⟨g, 5, none⟩ = some (.slice xa M.bk.length xk) := g5
                        refine wp_region_held_drew (S := fun wx => wx.cell? ⟨g, 5, none⟩ = some (.slice xa M.bk.length xk)) (by kernel_rfl) (hD0) (fun hHeld => ?_)
                        refine wpAnyH_take (i := 0) (oi := ⟨some 68, Op.fieldAddr 28 (Operand.tmp 1) 5, 0, _, _, none⟩) (v := .pointer (some ⟨g, 5, none⟩)) rfl (by kernel_rfl) (by kernel_rfl) (by kernel_rfl) (fun _ _ _ h => h) (Or.inl ⟨by rfl, fun w hS => by go_simp⟩) hHeld ?_
                        simp only [Act.put, List.setIfInBounds_toArray, List.set_cons_zero, List.set_cons_succ]
                        refine wpAnyH_take (i := 1) (oi := ⟨some 69, Op.load 26 (Operand.tmp 68), 26, _, _, none⟩) (v := .slice xa M.bk.length xk) rfl (by kernel_rfl) (by kernel_rfl) (by kernel_rfl) (fun _ _ _ h => h) (Or.inl ⟨by rfl, fun w hS => by go_simp⟩) hHeld ?_
                        simp only [Act.put, List.setIfInBounds_toArray, List.set_cons_zero, List.set_cons_succ]
                        refine wpAnyH_ready (rs := [2]) (by kernel_rfl) (by simp) ?_
                        refine AllReadyH.cons (o := ⟨some 70, Op.call { callee := Callee.value (Operand.func 24), args := #[Operand.tmp 69], argTypes := #[26] }, 4, _, _, none⟩) rfl (fun K hK => ?_) AllReadyH.nil
                        rw [if_pos (by rfl)]
                        refine wp_callF 24 _ _ rfl Try.in24 #[.slice xa M.bk.length xk] (by simp [Act.eval]) (fun v w' => v = .bool false ∧ w' = w5.drew) (HC7.out.mono fun e w' h => ⟨_, h.1, rfl, h.2⟩) ?_
                        rintro v w6 ⟨rfl, rfl⟩
                        refine hK.out _ _ hD0 fun hHeld6 => ?_
                        clear hK HC7
                        simp only [Act.put, List.setIfInBounds_toArray, List.set_cons_zero, List.set_cons_succ]
                        refine wpAnyH_take (i := 3) (oi := ⟨some 71, Op.unOp UnOp.not 4 (Operand.tmp 70), 4, _, _, none⟩) (v := .bool true) rfl (by kernel_rfl) (by kernel_rfl) (by kernel_rfl) (fun _ _ _ h => h) (Or.inl ⟨by rfl, fun w hS => by go_simp⟩) hHeld6 ?_
                        simp only [Act.put, List.setIfInBounds_toArray, List.set_cons_zero, List.set_cons_succ]
                        refine wpAnyH_take (i := 4) (oi := ⟨some 72, Op.move (Operand.tmp 71), 4, _, _, none⟩) (v := .bool true) rfl (by kernel_rfl) (by kernel_rfl) (by kernel_rfl) (fun _ _ _ h => h) (Or.inl ⟨by rfl, fun w hS => by go_simp⟩) hHeld6 ?_
                        simp only [Act.put, List.setIfInBounds_toArray, List.set_cons_zero, List.set_cons_succ]
                        refine wpAnyH_take (i := 5) (oi := ⟨some 73, Op.fieldAddr 28 (Operand.tmp 1) 5, 0, _, _, some (4, false)⟩) (v := undef) rfl (by kernel_rfl) (by kernel_rfl) (by kernel_rfl) (fun _ _ _ h => h) (Or.inr ⟨by rfl, rfl⟩) hHeld6 ?_
                        simp only [Act.put, List.setIfInBounds_toArray, List.set_cons_zero, List.set_cons_succ]
                        refine wpAnyH_take (i := 6) (oi := ⟨some 74, Op.load 26 (Operand.tmp 73), 26, _, _, some (4, false)⟩) (v := undef) rfl (by kernel_rfl) (by kernel_rfl) (by kernel_rfl) (fun _ _ _ h => h) (Or.inr ⟨by rfl, rfl⟩) hHeld6 ?_
                        simp only [Act.put, List.setIfInBounds_toArray, List.set_cons_zero, List.set_cons_succ]
                        refine wpAnyH_take (i := 7) (oi := ⟨some 75, Op.call { callee := Callee.value (Operand.func 25), args := #[Operand.tmp 74], argTypes := #[26] }, 3, _, _, some (4, false)⟩) (v := undef) rfl (by kernel_rfl) (by kernel_rfl) (by kernel_rfl) (fun _ _ _ h => h) (Or.inr ⟨by rfl, rfl⟩) hHeld6 ?_
                        simp only [Act.put, List.setIfInBounds_toArray, List.set_cons_zero, List.set_cons_succ]
                        refine wpAnyH_take (i := 8) (oi := ⟨some 76, Op.fieldAddr 28 (Operand.tmp 1) 5, 0, _, _, some (4, false)⟩) (v := undef) rfl (by kernel_rfl) (by kernel_rfl) (by kernel_rfl) (fun _ _ _ h => h) (Or.inr ⟨by rfl, rfl⟩) hHeld6 ?_
                        simp only [Act.put, List.setIfInBounds_toArray, List.set_cons_zero, List.set_cons_succ]
                        refine wpAnyH_take (i := 9) (oi := ⟨some 77, Op.load 26 (Operand.tmp 76), 26, _, _, some (4, false)⟩) (v := undef) rfl (by kernel_rfl) (by kernel_rfl) (by kernel_rfl) (fun _ _ _ h => h) (Or.inr ⟨by rfl, rfl⟩) hHeld6 ?_
                        simp only [Act.put, List.setIfInBounds_toArray, List.set_cons_zero, List.set_cons_succ]
                        refine wpAnyH_take (i := 10) (oi := ⟨some 78, Op.call { callee := Callee.builtin Builtin.len, args := #[Operand.tmp 77], argTypes := #[26] }, 3, _, _, some (4, false)⟩) (v := undef) rfl (by kernel_rfl) (by kernel_rfl) (by kernel_rfl) (fun _ _ _ h => h) (Or.inr ⟨by rfl, rfl⟩) hHeld6 ?_
                        simp only [Act.put, List.setIfInBounds_toArray, List.set_cons_zero, List.set_cons_succ]
                        refine wpAnyH_take (i := 11) (oi := ⟨some 79, Op.binOp BinOp.lss 3 (Operand.tmp 75) (Operand.tmp 78) 3, 4, _, _, some (4, false)⟩) (v := undef) rfl (by kernel_rfl) (by kernel_rfl) (by kernel_rfl) (fun _ _ _ h => h) (Or.inr ⟨by rfl, rfl⟩) hHeld6 ?_
                        simp only [Act.put, List.setIfInBounds_toArray, List.set_cons_zero, List.set_cons_succ]
                        refine wpAnyH_take (i := 12) (oi := ⟨some 80, Op.pick (Operand.tmp 72) (Operand.const (Value.bool true)) (Operand.tmp 79), 4, _, _, none⟩) (v := .bool true) rfl (by kernel_rfl) (by kernel_rfl) (by kernel_rfl) (fun _ _ _ h => h) (Or.inl ⟨by rfl, fun w hS => by go_simp⟩) hHeld6 ?_
                        simp only [Act.put, List.setIfInBounds_toArray, List.set_cons_zero, List.set_cons_succ]
                        refine wpAnyH_take (i := 13) (oi := ⟨some 67, Op.assign (Operand.tmp 80), 4, _, _, none⟩) (v := .bool true) rfl (by kernel_rfl) (by kernel_rfl) (by kernel_rfl) (fun _ _ _ h => h) (Or.inl ⟨by rfl, fun w hS => by go_simp⟩) hHeld6 ?_
                        simp only [Act.put, List.setIfInBounds_toArray, List.set_cons_zero, List.set_cons_succ]
                        refine wpAnyH_done (by kernel_rfl) ?_ _
                        refine hK20 _ _ ?_
                        refine wp_cond_true rfl ?_
                        refine wp_seq_k fun K23 hK23 => ?_
                        refine wp_region_list (WL.out ?_)
                        refine WL.val (by kernel_rfl) (.int .i64 4) (by go_simp) ?_
                        simp only [Act.put, List.setIfInBounds_toArray, List.set_cons_zero, List.set_cons_succ]
                        refine WL.nil ?_
                        refine hK23 _ _ ?_
                        refine wp_ret ?_
                        go_ret
                        first | exact ⟨by rw [HR.out]; (simp [*] <;> simp [hasI]), by rw [← HgE.out]; exact B2.out⟩ | exact ⟨by rw [HR.out]; (simp [*] <;> simp [hasI]), by rw [← HgE.out]; exact B3.out⟩ | exact ⟨by rw [HR.out]; (simp [*] <;> simp [hasI]), by rw [← HgE.out]; exact B4.out⟩ | exact ⟨by rw [HR.out]; (simp [*] <;> simp [hasI]), by rw [← HgE.out]; exact B5.out⟩ | exact ⟨by rw [HR.out]; (simp [*] <;> simp [hasI]), by rw [← HgE.out]; exact B5.out.drew⟩
                  · skip
                    refine wp_region_list (WL.out ?_)
                    refine WL.val (by kernel_rfl) (.pointer (some ⟨g, 1, none⟩)) (by go_simp) ?_
                    simp only [Act.put, List.setIfInBounds_toArray, List.set_cons_zero, List.set_cons_succ]
                    refine WL.val (by kernel_rfl) (.slice ha M.hd.length hk) (by go_simp) ?_
                    simp only [Act.put, List.setIfInBounds_toArray, List.set_cons_zero, List.set_cons_succ]
                    refine WL.callF (by kernel_rfl) 22 _ _ rfl Try.in22 #[.slice ha M.hd.length hk] (by simp [Act.eval]) ?_
                    refine (HC4.out).mono ?_
                    rintro e w4 ⟨rfl, hb4⟩
                    refine ⟨_, rfl, ?_⟩
                    clear HC4
                    have HM4 := Keep.mk (HM3.out.below hb4 HM3.out.lt)
                    have HA4 := Keep.mk (HA3.out.below hb4)
                    have B4 : Keep (Below g w w4) := ⟨B3.out.trans (hb4.mono (by rw [HgE.out]; exact B3.out.size))⟩
                    clear g0 g1 g3 g4 g5
                    have g0 := HM4.out.c 0 (ms_0 c)
                    have g1 := HM4.out.c 1 (ms_1 c)
                    have g3 := HM4.out.c 3 (ms_3 c)
                    have g4 := HM4.out.c 4 (ms_4 c)
                    have g5 := HM4.out.c 5 (ms_5 c)
                    rw [Ek.out] at g0
                    rw [E1.out] at g1
                    rw [E3.out] at g3
                    rw [E4.out] at g4
                    rw [E5.out] at g5
                    clear hb4
                    simp only [Act.put, List.setIfInBounds_toArray, List.set_cons_zero, List.set_cons_succ]
                    refine WL.val (by kernel_rfl) (.bool false) (by go_simp) ?_
                    simp only [Act.put, List.setIfInBounds_toArray, List.set_cons_zero, List.set_cons_succ]
                    refine WL.val (by kernel_rfl) (.bool false) (by go_simp) ?_
                    simp only [Act.put, List.setIfInBounds_toArray, List.set_cons_zero, List.set_cons_succ]
                    refine WL.val (by kernel_rfl) (.pointer (some ⟨g, 4, none⟩)) (by go_simp) ?_
                    simp only [Act.put, List.setIfInBounds_toArray, List.set_cons_zero, List.set_cons_succ]
                    refine WL.val (by kernel_rfl) (.slice wa M.wt.length wk) (by go_simp) ?_
                    simp only [Act.put, List.setIfInBounds_toArray, List.set_cons_zero, List.set_cons_succ]
                    have HC5 := Keep.mk (rising_any (.slice wa M.wt.length wk) M.wt w4 (by have h := HA4.out.wt; rw [E4.out] at h; exact h) (by have := HOk.out.wt; omega))
                    rw [hD] at HC5
                    refine WL.callF (by kernel_rfl) 22 _ _ rfl Try.in22 #[.slice wa M.wt.length wk] (by simp [Act.eval]) ?_
                    refine (HC5.out).mono ?_
                    rintro e w5 ⟨rfl, hb5⟩
                    refine ⟨_, rfl, ?_⟩
                    clear HC5
                    have HM5 := Keep.mk (HM4.out.below hb5 HM4.out.lt)
                    have HA5 := Keep.mk (HA4.out.below hb5)
                    have B5 : Keep (Below g w w5) := ⟨B4.out.trans (hb5.mono (by rw [HgE.out]; exact B4.out.size))⟩
                    clear g0 g1 g3 g4 g5
                    have g0 := HM5.out.c 0 (ms_0 c)
                    have g1 := HM5.out.c 1 (ms_1 c)
                    have g3 := HM5.out.c 3 (ms_3 c)
                    have g4 := HM5.out.c 4 (ms_4 c)
                    have g5 := HM5.out.c 5 (ms_5 c)
                    rw [Ek.out] at g0
                    rw [E1.out] at g1
                    rw [E3.out] at g3
                    rw [E4.out] at g4
                    rw [E5.out] at g5
                    clear hb5
                    simp only [Act.put, List.setIfInBounds_toArray, List.set_cons_zero, List.set_cons_succ]
                    refine WL.val (by kernel_rfl) (.bool true) (by go_simp) ?_
                    simp only [Act.put, List.setIfInBounds_toArray, List.set_cons_zero, List.set_cons_succ]
                    refine WL.val (by kernel_rfl) (.bool true) (by go_simp) ?_
                    simp only [Act.put, List.setIfInBounds_toArray, List.set_cons_zero, List.set_cons_succ]
                    refine WL.val (by kernel_rfl) (.bool true) (by go_simp) ?_
                    simp only [Act.put, List.setIfInBounds_toArray, List.set_cons_zero, List.set_cons_succ]
                    refine WL.nil ?_
                    refine hK14 _ _ ?_
                    refine wp_cond_true rfl ?_
                    refine wp_seq_k fun K24 hK24 => ?_
                    refine wp_region_list (WL.out ?_)
                    refine WL.val (by kernel_rfl) (.int .i64 130) (by go_simp) ?_
                    simp only [Act.put, List.setIfInBounds_toArray, List.set_cons_zero, List.set_cons_succ]
                    refine WL.nil ?_
                    refine hK24 _ _ ?_
                    refine wp_ret ?_
                    go_ret
                    first | exact ⟨by rw [HR.out]; (simp [*] <;> simp [hasI]), by rw [← HgE.out]; exact B2.out⟩ | exact ⟨by rw [HR.out]; (simp [*] <;> simp [hasI]), by rw [← HgE.out]; exact B3.out⟩ | exact ⟨by rw [HR.out]; (simp [*] <;> simp [hasI]), by rw [← HgE.out]; exact B4.out⟩ | exact ⟨by rw [HR.out]; (simp [*] <;> simp [hasI]), by rw [← HgE.out]; exact B5.out⟩ | exact ⟨by rw [HR.out]; (simp [*] <;> simp [hasI]), by rw [← HgE.out]; exact B5.out.drew⟩
                · have HC4 := Keep.mk (rising_any (.slice ha M.hd.length hk) M.hd w3 (by have h := HA3.out.hd; rw [E1.out] at h; exact h) (by have := HOk.out.hd; omega))
                  rw [hC] at HC4
                  refine wp_region_list (WL.out ?_)
                  refine WL.val (by kernel_rfl) (.pointer (some ⟨g, 1, none⟩)) (by go_simp) ?_
                  simp only [Act.put, List.setIfInBounds_toArray, List.set_cons_zero, List.set_cons_succ]
                  refine WL.val (by kernel_rfl) (.slice ha M.hd.length hk) (by go_simp) ?_
                  simp only [Act.put, List.setIfInBounds_toArray, List.set_cons_zero, List.set_cons_succ]
                  refine WL.callF (by kernel_rfl) 22 _ _ rfl Try.in22 #[.slice ha M.hd.length hk] (by simp [Act.eval]) ?_
                  refine (HC4.out).mono ?_
                  rintro e w4 ⟨rfl, hb4⟩
                  refine ⟨_, rfl, ?_⟩
                  clear HC4
                  have HM4 := Keep.mk (HM3.out.below hb4 HM3.out.lt)
                  have HA4 := Keep.mk (HA3.out.below hb4)
                  have B4 : Keep (Below g w w4) := ⟨B3.out.trans (hb4.mono (by rw [HgE.out]; exact B3.out.size))⟩
                  clear g0 g1 g3 g4 g5
                  have g0 := HM4.out.c 0 (ms_0 c)
                  have g1 := HM4.out.c 1 (ms_1 c)
                  have g3 := HM4.out.c 3 (ms_3 c)
                  have g4 := HM4.out.c 4 (ms_4 c)
                  have g5 := HM4.out.c 5 (ms_5 c)
                  rw [Ek.out] at g0
                  rw [E1.out] at g1
                  rw [E3.out] at g3
                  rw [E4.out] at g4
                  rw [E5.out] at g5
                  clear hb4
                  simp only [Act.put, List.setIfInBounds_toArray, List.set_cons_zero, List.set_cons_succ]
                  refine WL.val (by kernel_rfl) (.bool true) (by go_simp) ?_
                  simp only [Act.put, List.setIfInBounds_toArray, List.set_cons_zero, List.set_cons_succ]
                  refine WL.val (by kernel_rfl) (.bool true) (by go_simp) ?_
                  simp only [Act.put, List.setIfInBounds_toArray, List.set_cons_zero, List.set_cons_succ]
                  refine WL.skip (by kernel_rfl) ?_
                  simp only [Act.put, List.setIfInBounds_toArray, List.set_cons_zero, List.set_cons_succ]
                  refine WL.skip (by kernel_rfl) ?_
                  simp only [Act.put, List.setIfInBounds_toArray, List.set_cons_zero, List.set_cons_succ]
                  refine WL.skip (by kernel_rfl) ?_
                  simp only [Act.put, List.setIfInBounds_toArray, List.set_cons_zero, List.set_cons_succ]
                  refine WL.skip (by kernel_rfl) ?_
                  simp only [Act.put, List.setIfInBounds_toArray, List.set_cons_zero, List.set_cons_succ]
                  refine WL.val (by kernel_rfl) (.bool true) (by go_simp) ?_
                  simp only [Act.put, List.setIfInBounds_toArray, List.set_cons_zero, List.set_cons_succ]
                  refine WL.val (by kernel_rfl) (.bool true) (by go_simp) ?_
                  simp only [Act.put, List.setIfInBounds_toArray, List.set_cons_zero, List.set_cons_succ]
                  refine WL.nil ?_
                  refine hK14 _ _ ?_
                  refine wp_cond_true rfl ?_
                  refine wp_seq_k fun K25 hK25 => ?_
                  refine wp_region_list (WL.out ?_)
                  refine WL.val (by kernel_rfl) (.int .i64 130) (by go_simp) ?_
                  simp only [Act.put, List.setIfInBounds_toArray, List.set_cons_zero, List.set_cons_succ]
                  refine WL.nil ?_
                  refine hK25 _ _ ?_
                  refine wp_ret ?_
                  go_ret
                  first | exact ⟨by rw [HR.out]; (simp [*] <;> simp [hasI]), by rw [← HgE.out]; exact B2.out⟩ | exact ⟨by rw [HR.out]; (simp [*] <;> simp [hasI]), by rw [← HgE.out]; exact B3.out⟩ | exact ⟨by rw [HR.out]; (simp [*] <;> simp [hasI]), by rw [← HgE.out]; exact B4.out⟩ | exact ⟨by rw [HR.out]; (simp [*] <;> simp [hasI]), by rw [← HgE.out]; exact B5.out⟩ | exact ⟨by rw [HR.out]; (simp [*] <;> simp [hasI]), by rw [← HgE.out]; exact B5.out.drew⟩
            · skip
              refine WL.val (by kernel_rfl) (.bool false) (by go_simp) ?_
              simp only [Act.put, List.setIfInBounds_toArray, List.set_cons_zero, List.set_cons_succ]
              refine WL.val (by kernel_rfl) (.bool false) (by go_simp) ?_
              simp only [Act.put, List.setIfInBounds_toArray, List.set_cons_zero, List.set_cons_succ]
              refine WL.skip (by kernel_rfl) ?_
              simp only [Act.put, List.setIfInBounds_toArray, List.set_cons_zero, List.set_cons_succ]
              refine WL.skip (by kernel_rfl) ?_
              simp only [Act.put, List.setIfInBounds_toArray, List.set_cons_zero, List.set_cons_succ]
              refine WL.skip (by kernel_rfl) ?_
              simp only [Act.put, List.setIfInBounds_toArray, List.set_cons_zero, List.set_cons_succ]
              refine WL.skip (by kernel_rfl) ?_
              simp only [Act.put, List.setIfInBounds_toArray, List.set_cons_zero, List.set_cons_succ]
              refine WL.val (by kernel_rfl) (.bool false) (by go_simp) ?_
              simp only [Act.put, List.setIfInBounds_toArray, List.set_cons_zero, List.set_cons_succ]
              refine WL.val (by kernel_rfl) (.bool false) (by go_simp) ?_
              simp only [Act.put, List.setIfInBounds_toArray, List.set_cons_zero, List.set_cons_succ]
              refine WL.nil ?_
              refine hK12 _ _ ?_
              refine wp_cond_false rfl ?_
              refine wp_seq_k fun K26 hK26 => ?_
              rcases Bool.eq_false_or_eq_true (Sh.risesB M.hd) with hC | hC
              · have HC4 := Keep.mk (rising_any (.slice ha M.hd.length hk) M.hd w3 (by have h := HA3.out.hd; rw [E1.out] at h; exact h) (by have := HOk.out.hd; omega))
                rw [hC] at HC4
                rcases Bool.eq_false_or_eq_true (Sh.risesB M.wt) with hD | hD
                · skip
                  refine wp_region_list (WL.out ?_)
                  refine WL.val (by kernel_rfl) (.pointer (some ⟨g, 1, none⟩)) (by go_simp) ?_
                  simp only [Act.put, List.setIfInBounds_toArray, List.set_cons_zero, List.set_cons_succ]
                  refine WL.val (by kernel_rfl) (.slice ha M.hd.length hk) (by go_simp) ?_
                  simp only [Act.put, List.setIfInBounds_toArray, List.set_cons_zero, List.set_cons_succ]
                  refine WL.callF (by kernel_rfl) 22 _ _ rfl Try.in22 #[.slice ha M.hd.length hk] (by simp [Act.eval]) ?_
                  refine (HC4.out).mono ?_
                  rintro e w4 ⟨rfl, hb4⟩
                  refine ⟨_, rfl, ?_⟩
                  clear HC4
                  have HM4 := Keep.mk (HM3.out.below hb4 HM3.out.lt)
                  have HA4 := Keep.mk (HA3.out.below hb4)
                  have B4 : Keep (Below g w w4) := ⟨B3.out.trans (hb4.mono (by rw [HgE.out]; exact B3.out.size))⟩
                  clear g0 g1 g3 g4 g5
                  have g0 := HM4.out.c 0 (ms_0 c)
                  have g1 := HM4.out.c 1 (ms_1 c)
                  have g3 := HM4.out.c 3 (ms_3 c)
                  have g4 := HM4.out.c 4 (ms_4 c)
                  have g5 := HM4.out.c 5 (ms_5 c)
                  rw [Ek.out] at g0
                  rw [E1.out] at g1
                  rw [E3.out] at g3
                  rw [E4.out] at g4
                  rw [E5.out] at g5
                  clear hb4
                  simp only [Act.put, List.setIfInBounds_toArray, List.set_cons_zero, List.set_cons_succ]
                  refine WL.val (by kernel_rfl) (.bool false) (by go_simp) ?_
                  simp only [Act.put, List.setIfInBounds_toArray, List.set_cons_zero, List.set_cons_succ]
                  refine WL.val (by kernel_rfl) (.bool false) (by go_simp) ?_
                  simp only [Act.put, List.setIfInBounds_toArray, List.set_cons_zero, List.set_cons_succ]
                  refine WL.val (by kernel_rfl) (.pointer (some ⟨g, 4, none⟩)) (by go_simp) ?_
                  simp only [Act.put, List.setIfInBounds_toArray, List.set_cons_zero, List.set_cons_succ]
                  refine WL.val (by kernel_rfl) (.slice wa M.wt.length wk) (by go_simp) ?_
                  simp only [Act.put, List.setIfInBounds_toArray, List.set_cons_zero, List.set_cons_succ]
                  have HC5 := Keep.mk (rising_any (.slice wa M.wt.length wk) M.wt w4 (by have h := HA4.out.wt; rw [E4.out] at h; exact h) (by have := HOk.out.wt; omega))
                  rw [hD] at HC5
                  refine WL.callF (by kernel_rfl) 22 _ _ rfl Try.in22 #[.slice wa M.wt.length wk] (by simp [Act.eval]) ?_
                  refine (HC5.out).mono ?_
                  rintro e w5 ⟨rfl, hb5⟩
                  refine ⟨_, rfl, ?_⟩
                  clear HC5
                  have HM5 := Keep.mk (HM4.out.below hb5 HM4.out.lt)
                  have HA5 := Keep.mk (HA4.out.below hb5)
                  have B5 : Keep (Below g w w5) := ⟨B4.out.trans (hb5.mono (by rw [HgE.out]; exact B4.out.size))⟩
                  clear g0 g1 g3 g4 g5
                  have g0 := HM5.out.c 0 (ms_0 c)
                  have g1 := HM5.out.c 1 (ms_1 c)
                  have g3 := HM5.out.c 3 (ms_3 c)
                  have g4 := HM5.out.c 4 (ms_4 c)
                  have g5 := HM5.out.c 5 (ms_5 c)
                  rw [Ek.out] at g0
                  rw [E1.out] at g1
                  rw [E3.out] at g3
                  rw [E4.out] at g4
                  rw [E5.out] at g5
                  clear hb5
                  simp only [Act.put, List.setIfInBounds_toArray, List.set_cons_zero, List.set_cons_succ]
                  refine WL.val (by kernel_rfl) (.bool false) (by go_simp) ?_
                  simp only [Act.put, List.setIfInBounds_toArray, List.set_cons_zero, List.set_cons_succ]
                  refine WL.val (by kernel_rfl) (.bool false) (by go_simp) ?_
                  simp only [Act.put, List.setIfInBounds_toArray, List.set_cons_zero, List.set_cons_succ]
                  refine WL.val (by kernel_rfl) (.bool false) (by go_simp) ?_
                  simp only [Act.put, List.setIfInBounds_toArray, List.set_cons_zero, List.set_cons_succ]
                  refine WL.nil ?_
                  refine hK26 _ _ ?_
                  refine wp_cond_false rfl ?_
                  refine wp_seq_k fun K27 hK27 => ?_
                  rcases Bool.eq_false_or_eq_true (isP (M.bl.length : Int)) with hP | hP
                  · have HC6 := Keep.mk (right_any (.slice ba M.bl.length bk) M.bl w5 (by have h := HA5.out.bl; rw [E3.out] at h; exact h))
                    rw [hP] at HC6
                    refine wp_region_list (WL.out ?_)
                    refine WL.val (by kernel_rfl) (.pointer (some ⟨g, 0, none⟩)) (by go_simp) ?_
                    simp only [Act.put, List.setIfInBounds_toArray, List.set_cons_zero, List.set_cons_succ]
                    refine WL.val (by kernel_rfl) (.int .i64 M.k) (by go_simp) ?_
                    simp only [Act.put, List.setIfInBounds_toArray, List.set_cons_zero, List.set_cons_succ]
                    by_cases h12_2 : M.k = 1
                    · skip
                      refine WL.val (by kernel_rfl) (.bool true) (by go_simp) ?_
                      simp only [Act.put, List.setIfInBounds_toArray, List.set_cons_zero, List.set_cons_succ]
                      refine WL.val (by kernel_rfl) (.bool true) (by go_simp) ?_
                      simp only [Act.put, List.setIfInBounds_toArray, List.set_cons_zero, List.set_cons_succ]
                      refine WL.val (by kernel_rfl) (.pointer (some ⟨g, 3, none⟩)) (by go_simp) ?_
                      simp only [Act.put, List.setIfInBounds_toArray, List.set_cons_zero, List.set_cons_succ]
                      refine WL.val (by kernel_rfl) (.slice ba M.bl.length bk) (by go_simp) ?_
                      simp only [Act.put, List.setIfInBounds_toArray, List.set_cons_zero, List.set_cons_succ]
                      refine WL.callF (by kernel_rfl) 23 _ _ rfl Try.in23 #[.slice ba M.bl.length bk] (by simp [Act.eval]) ?_
                      refine (HC6.out).mono ?_
                      rintro e w0 ⟨rfl, hw0⟩
                      rw [hw0]
                      clear hw0 w0
                      refine ⟨_, rfl, ?_⟩
                      simp only [Act.put, List.setIfInBounds_toArray, List.set_cons_zero, List.set_cons_succ]
                      refine WL.val (by kernel_rfl) (.bool false) (by go_simp) ?_
                      simp only [Act.put, List.setIfInBounds_toArray, List.set_cons_zero, List.set_cons_succ]
                      refine WL.val (by kernel_rfl) (.bool false) (by go_simp) ?_
                      simp only [Act.put, List.setIfInBounds_toArray, List.set_cons_zero, List.set_cons_succ]
                      refine WL.val (by kernel_rfl) (.bool false) (by go_simp) ?_
                      simp only [Act.put, List.setIfInBounds_toArray, List.set_cons_zero, List.set_cons_succ]
                      refine WL.nil ?_
                      refine hK27 _ _ ?_
                      refine wp_cond_false rfl ?_
                      refine wp_seq_k fun K28 hK28 => ?_
                      rcases Bool.eq_false_or_eq_true (okR M.bk) with hO | hO
                      · have HC7 := Keep.mk (areBlocks_any (.slice xa M.bk.length xk) M.bk w5.drew (by have h := HA5.out.bk; rw [E5.out] at h; exact h.below (Below.refl _ _).drew) (by have := HOk.out.bk; omega) (fun i hi => by have := HOk.out.rows i hi; omega))
                        rw [hO] at HC7
                        have hD0 : w5.drew.cell? ⟨g, 5, none⟩ = some (.slice xa M.bk.length xk) := g5
                        have HC8 := Keep.mk (fitting_any (.slice xa M.bk.length xk) M.bk w5.drew (by have h := HA5.out.bk; rw [E5.out] at h; exact h.below (Below.refl _ _).drew) (by have := HOk.out.bk; omega) (fun i hi => ((okR_iff _).1 hO i hi).2))
                        by_cases hF : fit M.bk < M.bk.length
                        · have hFi : (fit M.bk : Int) < (M.bk.length : Int) := by omega
                          refine wp_region_held_drew (S := fun wx => wx.cell? ⟨g, 5, none⟩ = some (.slice xa M.bk.length xk)) (by kernel_rfl) (hD0) (fun hHeld => ?_)
                          refine wpAnyH_take (i := 0) (oi := ⟨some 68, Op.fieldAddr 28 (Operand.tmp 1) 5, 0, _, _, none⟩) (v := .pointer (some ⟨g, 5, none⟩)) rfl (by kernel_rfl) (by kernel_rfl) (by kernel_rfl) (fun _ _ _ h => h) (Or.inl ⟨by rfl, fun w hS => by go_simp⟩) hHeld ?_
                          simp only [Act.put, List.setIfInBounds_toArray, List.set_cons_zero, List.set_cons_succ]
                          refine wpAnyH_take (i := 1) (oi := ⟨some 69, Op.load 26 (Operand.tmp 68), 26, _, _, none⟩) (v := .slice xa M.bk.length xk) rfl (by kernel_rfl) (by kernel_rfl) (by kernel_rfl) (fun _ _ _ h => h) (Or.inl ⟨by rfl, fun w hS => by go_simp⟩) hHeld ?_
                          simp only [Act.put, List.setIfInBounds_toArray, List.set_cons_zero, List.set_cons_succ]
                          refine wpAnyH_ready (rs := [2]) (by kernel_rfl) (by simp) ?_
                          refine AllReadyH.cons (o := ⟨some 70, Op.call { callee := Callee.value (Operand.func 24), args := #[Operand.tmp 69], argTypes := #[26] }, 4, _, _, none⟩) rfl (fun K hK => ?_) AllReadyH.nil
                          rw [if_pos (by rfl)]
                          refine wp_callF 24 _ _ rfl Try.in24 #[.slice xa M.bk.length xk] (by simp [Act.eval]) (fun v w' => v = .bool true ∧ w' = w5.drew) (HC7.out.mono fun e w' h => ⟨_, h.1, rfl, h.2⟩) ?_
                          rintro v w6 ⟨rfl, rfl⟩
                          refine hK.out _ _ hD0 fun hHeld6 => ?_
                          clear hK HC7
                          simp only [Act.put, List.setIfInBounds_toArray, List.set_cons_zero, List.set_cons_succ]
                          refine wpAnyH_take (i := 3) (oi := ⟨some 71, Op.unOp UnOp.not 4 (Operand.tmp 70), 4, _, _, none⟩) (v := .bool false) rfl (by kernel_rfl) (by kernel_rfl) (by kernel_rfl) (fun _ _ _ h => h) (Or.inl ⟨by rfl, fun w hS => by go_simp⟩) hHeld6 ?_
                          simp only [Act.put, List.setIfInBounds_toArray, List.set_cons_zero, List.set_cons_succ]
                          refine wpAnyH_take (i := 4) (oi := ⟨some 72, Op.move (Operand.tmp 71), 4, _, _, none⟩) (v := .bool false) rfl (by kernel_rfl) (by kernel_rfl) (by kernel_rfl) (fun _ _ _ h => h) (Or.inl ⟨by rfl, fun w hS => by go_simp⟩) hHeld6 ?_
                          simp only [Act.put, List.setIfInBounds_toArray, List.set_cons_zero, List.set_cons_succ]
                          refine wpAnyH_take (i := 5) (oi := ⟨some 73, Op.fieldAddr 28 (Operand.tmp 1) 5, 0, _, _, some (4, false)⟩) (v := .pointer (some ⟨g, 5, none⟩)) rfl (by kernel_rfl) (by kernel_rfl) (by kernel_rfl) (fun _ _ _ h => h) (Or.inl ⟨by rfl, fun w hS => by go_simp⟩) hHeld6 ?_
                          simp only [Act.put, List.setIfInBounds_toArray, List.set_cons_zero, List.set_cons_succ]
                          refine wpAnyH_take (i := 6) (oi := ⟨some 74, Op.load 26 (Operand.tmp 73), 26, _, _, some (4, false)⟩) (v := .slice xa M.bk.length xk) rfl (by kernel_rfl) (by kernel_rfl) (by kernel_rfl) (fun _ _ _ h => h) (Or.inl ⟨by rfl, fun w hS => by go_simp⟩) hHeld6 ?_
                          simp only [Act.put, List.setIfInBounds_toArray, List.set_cons_zero, List.set_cons_succ]
                          refine wpAnyH_take (i := 8) (oi := ⟨some 76, Op.fieldAddr 28 (Operand.tmp 1) 5, 0, _, _, some (4, false)⟩) (v := .pointer (some ⟨g, 5, none⟩)) rfl (by kernel_rfl) (by kernel_rfl) (by kernel_rfl) (fun _ _ _ h => h) (Or.inl ⟨by rfl, fun w hS => by go_simp⟩) hHeld6 ?_
                          simp only [Act.put, List.setIfInBounds_toArray, List.set_cons_zero, List.set_cons_succ]
                          refine wpAnyH_take (i := 9) (oi := ⟨some 77, Op.load 26 (Operand.tmp 76), 26, _, _, some (4, false)⟩) (v := .slice xa M.bk.length xk) rfl (by kernel_rfl) (by kernel_rfl) (by kernel_rfl) (fun _ _ _ h => h) (Or.inl ⟨by rfl, fun w hS => by go_simp⟩) hHeld6 ?_
                          simp only [Act.put, List.setIfInBounds_toArray, List.set_cons_zero, List.set_cons_succ]
                          refine wpAnyH_take (i := 10) (oi := ⟨some 78, Op.call { callee := Callee.builtin Builtin.len, args := #[Operand.tmp 77], argTypes := #[26] }, 3, _, _, some (4, false)⟩) (v := .int .i64 (M.bk.length : Int)) rfl (by kernel_rfl) (by kernel_rfl) (by kernel_rfl) (fun _ _ _ h => h) (Or.inl ⟨by rfl, fun w hS => by go_simp⟩) hHeld6 ?_
                          simp only [Act.put, List.setIfInBounds_toArray, List.set_cons_zero, List.set_cons_succ]
                          refine wpAnyH_ready (rs := [7]) (by kernel_rfl) (by simp) ?_
                          refine AllReadyH.cons (o := ⟨some 75, Op.call { callee := Callee.value (Operand.func 25), args := #[Operand.tmp 74], argTypes := #[26] }, 3, _, _, some (4, false)⟩) rfl (fun K hK => ?_) AllReadyH.nil
                          rw [if_pos (by rfl)]
                          refine wp_callF 25 _ _ rfl Try.in25 #[.slice xa M.bk.length xk] (by simp [Act.eval]) (fun v w' => v = .int .i64 (fit M.bk : Int) ∧ w' = w5.drew) (HC8.out.mono fun e w' h => ⟨_, h.1, rfl, h.2⟩) ?_
                          rintro v w6 ⟨rfl, rfl⟩
                          refine hK.out _ _ hD0 fun hHeld7 => ?_
                          clear hK HC8
                          simp only [Act.put, List.setIfInBounds_toArray, List.set_cons_zero, List.set_cons_succ]
                          refine wpAnyH_take (i := 11) (oi := ⟨some 79, Op.binOp BinOp.lss 3 (Operand.tmp 75) (Operand.tmp 78) 3, 4, _, _, some (4, false)⟩) (v := .bool true) rfl (by kernel_rfl) (by kernel_rfl) (by kernel_rfl) (fun _ _ _ h => h) (Or.inl ⟨by rfl, fun w hS => by go_simp⟩) hHeld7 ?_
                          simp only [Act.put, List.setIfInBounds_toArray, List.set_cons_zero, List.set_cons_succ]
                          refine wpAnyH_take (i := 12) (oi := ⟨some 80, Op.pick (Operand.tmp 72) (Operand.const (Value.bool true)) (Operand.tmp 79), 4, _, _, none⟩) (v := .bool true) rfl (by kernel_rfl) (by kernel_rfl) (by kernel_rfl) (fun _ _ _ h => h) (Or.inl ⟨by rfl, fun w hS => by go_simp⟩) hHeld7 ?_
                          simp only [Act.put, List.setIfInBounds_toArray, List.set_cons_zero, List.set_cons_succ]
                          refine wpAnyH_take (i := 13) (oi := ⟨some 67, Op.assign (Operand.tmp 80), 4, _, _, none⟩) (v := .bool true) rfl (by kernel_rfl) (by kernel_rfl) (by kernel_rfl) (fun _ _ _ h => h) (Or.inl ⟨by rfl, fun w hS => by go_simp⟩) hHeld7 ?_
                          simp only [Act.put, List.setIfInBounds_toArray, List.set_cons_zero, List.set_cons_succ]
                          refine wpAnyH_done (by kernel_rfl) ?_ _
                          refine hK28 _ _ ?_
                          refine wp_cond_true rfl ?_
                          refine wp_seq_k fun K29 hK29 => ?_
                          refine wp_region_list (WL.out ?_)
                          refine WL.val (by kernel_rfl) (.int .i64 4) (by go_simp) ?_
                          simp only [Act.put, List.setIfInBounds_toArray, List.set_cons_zero, List.set_cons_succ]
                          refine WL.nil ?_
                          refine hK29 _ _ ?_
                          refine wp_ret ?_
                          go_ret
                          first | exact ⟨by rw [HR.out]; (simp [*] <;> simp [hasI]), by rw [← HgE.out]; exact B2.out⟩ | exact ⟨by rw [HR.out]; (simp [*] <;> simp [hasI]), by rw [← HgE.out]; exact B3.out⟩ | exact ⟨by rw [HR.out]; (simp [*] <;> simp [hasI]), by rw [← HgE.out]; exact B4.out⟩ | exact ⟨by rw [HR.out]; (simp [*] <;> simp [hasI]), by rw [← HgE.out]; exact B5.out⟩ | exact ⟨by rw [HR.out]; (simp [*] <;> simp [hasI]), by rw [← HgE.out]; exact B5.out.drew⟩
                        · have hFi : ¬ (fit M.bk : Int) < (M.bk.length : Int) := by omega
                          refine wp_region_held_drew (S := fun wx => wx.cell? ⟨g, 5, none⟩ = some (.slice xa M.bk.length xk)) (by kernel_rfl) (hD0) (fun hHeld => ?_)
                          refine wpAnyH_take (i := 0) (oi := ⟨some 68, Op.fieldAddr 28 (Operand.tmp 1) 5, 0, _, _, none⟩) (v := .pointer (some ⟨g, 5, none⟩)) rfl (by kernel_rfl) (by kernel_rfl) (by kernel_rfl) (fun _ _ _ h => h) (Or.inl ⟨by rfl, fun w hS => by go_simp⟩) hHeld ?_
                          simp only [Act.put, List.setIfInBounds_toArray, List.set_cons_zero, List.set_cons_succ]
                          refine wpAnyH_take (i := 1) (oi := ⟨some 69, Op.load 26 (Operand.tmp 68), 26, _, _, none⟩) (v := .slice xa M.bk.length xk) rfl (by kernel_rfl) (by kernel_rfl) (by kernel_rfl) (fun _ _ _ h => h) (Or.inl ⟨by rfl, fun w hS => by go_simp⟩) hHeld ?_
                          simp only [Act.put, List.setIfInBounds_toArray, List.set_cons_zero, List.set_cons_succ]
                          refine wpAnyH_ready (rs := [2]) (by kernel_rfl) (by simp) ?_
                          refine AllReadyH.cons (o := ⟨some 70, Op.call { callee := Callee.value (Operand.func 24), args := #[Operand.tmp 69], argTypes := #[26] }, 4, _, _, none⟩) rfl (fun K hK => ?_) AllReadyH.nil
                          rw [if_pos (by rfl)]
                          refine wp_callF 24 _ _ rfl Try.in24 #[.slice xa M.bk.length xk] (by simp [Act.eval]) (fun v w' => v = .bool true ∧ w' = w5.drew) (HC7.out.mono fun e w' h => ⟨_, h.1, rfl, h.2⟩) ?_
                          rintro v w6 ⟨rfl, rfl⟩
                          refine hK.out _ _ hD0 fun hHeld6 => ?_
                          clear hK HC7
                          simp only [Act.put, List.setIfInBounds_toArray, List.set_cons_zero, List.set_cons_succ]
                          refine wpAnyH_take (i := 3) (oi := ⟨some 71, Op.unOp UnOp.not 4 (Operand.tmp 70), 4, _, _, none⟩) (v := .bool false) rfl (by kernel_rfl) (by kernel_rfl) (by kernel_rfl) (fun _ _ _ h => h) (Or.inl ⟨by rfl, fun w hS => by go_simp⟩) hHeld6 ?_
                          simp only [Act.put, List.setIfInBounds_toArray, List.set_cons_zero, List.set_cons_succ]
                          refine wpAnyH_take (i := 4) (oi := ⟨some 72, Op.move (Operand.tmp 71), 4, _, _, none⟩) (v := .bool false) rfl (by kernel_rfl) (by kernel_rfl) (by kernel_rfl) (fun _ _ _ h => h) (Or.inl ⟨by rfl, fun w hS => by go_simp⟩) hHeld6 ?_
                          simp only [Act.put, List.setIfInBounds_toArray, List.set_cons_zero, List.set_cons_succ]
                          refine wpAnyH_take (i := 5) (oi := ⟨some 73, Op.fieldAddr 28 (Operand.tmp 1) 5, 0, _, _, some (4, false)⟩) (v := .pointer (some ⟨g, 5, none⟩)) rfl (by kernel_rfl) (by kernel_rfl) (by kernel_rfl) (fun _ _ _ h => h) (Or.inl ⟨by rfl, fun w hS => by go_simp⟩) hHeld6 ?_
                          simp only [Act.put, List.setIfInBounds_toArray, List.set_cons_zero, List.set_cons_succ]
                          refine wpAnyH_take (i := 6) (oi := ⟨some 74, Op.load 26 (Operand.tmp 73), 26, _, _, some (4, false)⟩) (v := .slice xa M.bk.length xk) rfl (by kernel_rfl) (by kernel_rfl) (by kernel_rfl) (fun _ _ _ h => h) (Or.inl ⟨by rfl, fun w hS => by go_simp⟩) hHeld6 ?_
                          simp only [Act.put, List.setIfInBounds_toArray, List.set_cons_zero, List.set_cons_succ]
                          refine wpAnyH_take (i := 8) (oi := ⟨some 76, Op.fieldAddr 28 (Operand.tmp 1) 5, 0, _, _, some (4, false)⟩) (v := .pointer (some ⟨g, 5, none⟩)) rfl (by kernel_rfl) (by kernel_rfl) (by kernel_rfl) (fun _ _ _ h => h) (Or.inl ⟨by rfl, fun w hS => by go_simp⟩) hHeld6 ?_
                          simp only [Act.put, List.setIfInBounds_toArray, List.set_cons_zero, List.set_cons_succ]
                          refine wpAnyH_take (i := 9) (oi := ⟨some 77, Op.load 26 (Operand.tmp 76), 26, _, _, some (4, false)⟩) (v := .slice xa M.bk.length xk) rfl (by kernel_rfl) (by kernel_rfl) (by kernel_rfl) (fun _ _ _ h => h) (Or.inl ⟨by rfl, fun w hS => by go_simp⟩) hHeld6 ?_
                          simp only [Act.put, List.setIfInBounds_toArray, List.set_cons_zero, List.set_cons_succ]
                          refine wpAnyH_take (i := 10) (oi := ⟨some 78, Op.call { callee := Callee.builtin Builtin.len, args := #[Operand.tmp 77], argTypes := #[26] }, 3, _, _, some (4, false)⟩) (v := .int .i64 (M.bk.length : Int)) rfl (by kernel_rfl) (by kernel_rfl) (by kernel_rfl) (fun _ _ _ h => h) (Or.inl ⟨by rfl, fun w hS => by go_simp⟩) hHeld6 ?_
                          simp only [Act.put, List.setIfInBounds_toArray, List.set_cons_zero, List.set_cons_succ]
                          refine wpAnyH_ready (rs := [7]) (by kernel_rfl) (by simp) ?_
                          refine AllReadyH.cons (o := ⟨some 75, Op.call { callee := Callee.value (Operand.func 25), args := #[Operand.tmp 74], argTypes := #[26] }, 3, _, _, some (4, false)⟩) rfl (fun K hK => ?_) AllReadyH.nil
                          rw [if_pos (by rfl)]
                          refine wp_callF 25 _ _ rfl Try.in25 #[.slice xa M.bk.length xk] (by simp [Act.eval]) (fun v w' => v = .int .i64 (fit M.bk : Int) ∧ w' = w5.drew) (HC8.out.mono fun e w' h => ⟨_, h.1, rfl, h.2⟩) ?_
                          rintro v w6 ⟨rfl, rfl⟩
                          refine hK.out _ _ hD0 fun hHeld7 => ?_
                          clear hK HC8
                          simp only [Act.put, List.setIfInBounds_toArray, List.set_cons_zero, List.set_cons_succ]
                          refine wpAnyH_take (i := 11) (oi := ⟨some 79, Op.binOp BinOp.lss 3 (Operand.tmp 75) (Operand.tmp 78) 3, 4, _, _, some (4, false)⟩) (v := .bool false) rfl (by kernel_rfl) (by kernel_rfl) (by kernel_rfl) (fun _ _ _ h => h) (Or.inl ⟨by rfl, fun w hS => by go_simp⟩) hHeld7 ?_
                          simp only [Act.put, List.setIfInBounds_toArray, List.set_cons_zero, List.set_cons_succ]
                          refine wpAnyH_take (i := 12) (oi := ⟨some 80, Op.pick (Operand.tmp 72) (Operand.const (Value.bool true)) (Operand.tmp 79), 4, _, _, none⟩) (v := .bool false) rfl (by kernel_rfl) (by kernel_rfl) (by kernel_rfl) (fun _ _ _ h => h) (Or.inl ⟨by rfl, fun w hS => by go_simp⟩) hHeld7 ?_
                          simp only [Act.put, List.setIfInBounds_toArray, List.set_cons_zero, List.set_cons_succ]
                          refine wpAnyH_take (i := 13) (oi := ⟨some 67, Op.assign (Operand.tmp 80), 4, _, _, none⟩) (v := .bool false) rfl (by kernel_rfl) (by kernel_rfl) (by kernel_rfl) (fun _ _ _ h => h) (Or.inl ⟨by rfl, fun w hS => by go_simp⟩) hHeld7 ?_
                          simp only [Act.put, List.setIfInBounds_toArray, List.set_cons_zero, List.set_cons_succ]
                          refine wpAnyH_done (by kernel_rfl) ?_ _
                          refine hK28 _ _ ?_
                          refine wp_cond_false rfl ?_
                          refine wp_skip ?_
                          refine hK3 _ _ ?_
                          refine wp_seq_k fun K30 hK30 => ?_
                          refine wp_region_list (WL.out ?_)
                          refine WL.val (by kernel_rfl) (.int .i64 0) (by go_simp) ?_
                          simp only [Act.put, List.setIfInBounds_toArray, List.set_cons_zero, List.set_cons_succ]
                          refine WL.nil ?_
                          refine hK30 _ _ ?_
                          refine wp_ret ?_
                          go_ret
                          first | exact ⟨by rw [HR.out]; (simp [*] <;> simp [hasI]), by rw [← HgE.out]; exact B2.out⟩ | exact ⟨by rw [HR.out]; (simp [*] <;> simp [hasI]), by rw [← HgE.out]; exact B3.out⟩ | exact ⟨by rw [HR.out]; (simp [*] <;> simp [hasI]), by rw [← HgE.out]; exact B4.out⟩ | exact ⟨by rw [HR.out]; (simp [*] <;> simp [hasI]), by rw [← HgE.out]; exact B5.out⟩ | exact ⟨by rw [HR.out]; (simp [*] <;> simp [hasI]), by rw [← HgE.out]; exact B5.out.drew⟩
                      · have HC7 := Keep.mk (areBlocks_any (.slice xa M.bk.length xk) M.bk w5.drew (by have h := HA5.out.bk; rw [E5.out] at h; exact h.below (Below.refl _ _).drew) (by have := HOk.out.bk; omega) (fun i hi => by have := HOk.out.rows i hi; omega))
                        rw [hO] at HC7
                        have hD0 : w5.drew.cell? ⟨g, 5, none⟩ = some (.slice xa M.bk.length xk) := g5
                        refine wp_region_held_drew (S := fun wx => wx.cell? ⟨g, 5, none⟩ = some (.slice xa M.bk.length xk)) (by kernel_rfl) (hD0) (fun hHeld => ?_)
                        refine wpAnyH_take (i := 0) (oi := ⟨some 68, Op.fieldAddr 28 (Operand.tmp 1) 5, 0, _, _, none⟩) (v := .pointer (some ⟨g, 5, none⟩)) rfl (by kernel_rfl) (by kernel_rfl) (by kernel_rfl) (fun _ _ _ h => h) (Or.inl ⟨by rfl, fun w hS => by go_simp⟩) hHeld ?_
                        simp only [Act.put, List.setIfInBounds_toArray, List.set_cons_zero, List.set_cons_succ]
                        refine wpAnyH_take (i := 1) (oi := ⟨some 69, Op.load 26 (Operand.tmp 68), 26, _, _, none⟩) (v := .slice xa M.bk.length xk) rfl (by kernel_rfl) (by kernel_rfl) (by kernel_rfl) (fun _ _ _ h => h) (Or.inl ⟨by rfl, fun w hS => by go_simp⟩) hHeld ?_
                        simp only [Act.put, List.setIfInBounds_toArray, List.set_cons_zero, List.set_cons_succ]
                        refine wpAnyH_ready (rs := [2]) (by kernel_rfl) (by simp) ?_
                        refine AllReadyH.cons (o := ⟨some 70, Op.call { callee := Callee.value (Operand.func 24), args := #[Operand.tmp 69], argTypes := #[26] }, 4, _, _, none⟩) rfl (fun K hK => ?_) AllReadyH.nil
                        rw [if_pos (by rfl)]
                        refine wp_callF 24 _ _ rfl Try.in24 #[.slice xa M.bk.length xk] (by simp [Act.eval]) (fun v w' => v = .bool false ∧ w' = w5.drew) (HC7.out.mono fun e w' h => ⟨_, h.1, rfl, h.2⟩) ?_
                        rintro v w6 ⟨rfl, rfl⟩
                        refine hK.out _ _ hD0 fun hHeld6 => ?_
                        clear hK HC7
                        simp only [Act.put, List.setIfInBounds_toArray, List.set_cons_zero, List.set_cons_succ]
                        refine wpAnyH_take (i := 3) (oi := ⟨some 71, Op.unOp UnOp.not 4 (Operand.tmp 70), 4, _, _, none⟩) (v := .bool true) rfl (by kernel_rfl) (by kernel_rfl) (by kernel_rfl) (fun _ _ _ h => h) (Or.inl ⟨by rfl, fun w hS => by go_simp⟩) hHeld6 ?_
                        simp only [Act.put, List.setIfInBounds_toArray, List.set_cons_zero, List.set_cons_succ]
                        refine wpAnyH_take (i := 4) (oi := ⟨some 72, Op.move (Operand.tmp 71), 4, _, _, none⟩) (v := .bool true) rfl (by kernel_rfl) (by kernel_rfl) (by kernel_rfl) (fun _ _ _ h => h) (Or.inl ⟨by rfl, fun w hS => by go_simp⟩) hHeld6 ?_
                        simp only [Act.put, List.setIfInBounds_toArray, List.set_cons_zero, List.set_cons_succ]
                        refine wpAnyH_take (i := 5) (oi := ⟨some 73, Op.fieldAddr 28 (Operand.tmp 1) 5, 0, _, _, some (4, false)⟩) (v := undef) rfl (by kernel_rfl) (by kernel_rfl) (by kernel_rfl) (fun _ _ _ h => h) (Or.inr ⟨by rfl, rfl⟩) hHeld6 ?_
                        simp only [Act.put, List.setIfInBounds_toArray, List.set_cons_zero, List.set_cons_succ]
                        refine wpAnyH_take (i := 6) (oi := ⟨some 74, Op.load 26 (Operand.tmp 73), 26, _, _, some (4, false)⟩) (v := undef) rfl (by kernel_rfl) (by kernel_rfl) (by kernel_rfl) (fun _ _ _ h => h) (Or.inr ⟨by rfl, rfl⟩) hHeld6 ?_
                        simp only [Act.put, List.setIfInBounds_toArray, List.set_cons_zero, List.set_cons_succ]
                        refine wpAnyH_take (i := 7) (oi := ⟨some 75, Op.call { callee := Callee.value (Operand.func 25), args := #[Operand.tmp 74], argTypes := #[26] }, 3, _, _, some (4, false)⟩) (v := undef) rfl (by kernel_rfl) (by kernel_rfl) (by kernel_rfl) (fun _ _ _ h => h) (Or.inr ⟨by rfl, rfl⟩) hHeld6 ?_
                        simp only [Act.put, List.setIfInBounds_toArray, List.set_cons_zero, List.set_cons_succ]
                        refine wpAnyH_take (i := 8) (oi := ⟨some 76, Op.fieldAddr 28 (Operand.tmp 1) 5, 0, _, _, some (4, false)⟩) (v := undef) rfl (by kernel_rfl) (by kernel_rfl) (by kernel_rfl) (fun _ _ _ h => h) (Or.inr ⟨by rfl, rfl⟩) hHeld6 ?_
                        simp only [Act.put, List.setIfInBounds_toArray, List.set_cons_zero, List.set_cons_succ]
                        refine wpAnyH_take (i := 9) (oi := ⟨some 77, Op.load 26 (Operand.tmp 76), 26, _, _, some (4, false)⟩) (v := undef) rfl (by kernel_rfl) (by kernel_rfl) (by kernel_rfl) (fun _ _ _ h => h) (Or.inr ⟨by rfl, rfl⟩) hHeld6 ?_
                        simp only [Act.put, List.setIfInBounds_toArray, List.set_cons_zero, List.set_cons_succ]
                        refine wpAnyH_take (i := 10) (oi := ⟨some 78, Op.call { callee := Callee.builtin Builtin.len, args := #[Operand.tmp 77], argTypes := #[26] }, 3, _, _, some (4, false)⟩) (v := undef) rfl (by kernel_rfl) (by kernel_rfl) (by kernel_rfl) (fun _ _ _ h => h) (Or.inr ⟨by rfl, rfl⟩) hHeld6 ?_
                        simp only [Act.put, List.setIfInBounds_toArray, List.set_cons_zero, List.set_cons_succ]
                        refine wpAnyH_take (i := 11) (oi := ⟨some 79, Op.binOp BinOp.lss 3 (Operand.tmp 75) (Operand.tmp 78) 3, 4, _, _, some (4, false)⟩) (v := undef) rfl (by kernel_rfl) (by kernel_rfl) (by kernel_rfl) (fun _ _ _ h => h) (Or.inr ⟨by rfl, rfl⟩) hHeld6 ?_
                        simp only [Act.put, List.setIfInBounds_toArray, List.set_cons_zero, List.set_cons_succ]
                        refine wpAnyH_take (i := 12) (oi := ⟨some 80, Op.pick (Operand.tmp 72) (Operand.const (Value.bool true)) (Operand.tmp 79), 4, _, _, none⟩) (v := .bool true) rfl (by kernel_rfl) (by kernel_rfl) (by kernel_rfl) (fun _ _ _ h => h) (Or.inl ⟨by rfl, fun w hS => by go_simp⟩) hHeld6 ?_
                        simp only [Act.put, List.setIfInBounds_toArray, List.set_cons_zero, List.set_cons_succ]
                        refine wpAnyH_take (i := 13) (oi := ⟨some 67, Op.assign (Operand.tmp 80), 4, _, _, none⟩) (v := .bool true) rfl (by kernel_rfl) (by kernel_rfl) (by kernel_rfl) (fun _ _ _ h => h) (Or.inl ⟨by rfl, fun w hS => by go_simp⟩) hHeld6 ?_
                        simp only [Act.put, List.setIfInBounds_toArray, List.set_cons_zero, List.set_cons_succ]
                        refine wpAnyH_done (by kernel_rfl) ?_ _
                        refine hK28 _ _ ?_
                        refine wp_cond_true rfl ?_
                        refine wp_seq_k fun K31 hK31 => ?_
                        refine wp_region_list (WL.out ?_)
                        refine WL.val (by kernel_rfl) (.int .i64 4) (by go_simp) ?_
                        simp only [Act.put, List.setIfInBounds_toArray, List.set_cons_zero, List.set_cons_succ]
                        refine WL.nil ?_
                        refine hK31 _ _ ?_
                        refine wp_ret ?_
                        go_ret
                        first | exact ⟨by rw [HR.out]; (simp [*] <;> simp [hasI]), by rw [← HgE.out]; exact B2.out⟩ | exact ⟨by rw [HR.out]; (simp [*] <;> simp [hasI]), by rw [← HgE.out]; exact B3.out⟩ | exact ⟨by rw [HR.out]; (simp [*] <;> simp [hasI]), by rw [← HgE.out]; exact B4.out⟩ | exact ⟨by rw [HR.out]; (simp [*] <;> simp [hasI]), by rw [← HgE.out]; exact B5.out⟩ | exact ⟨by rw [HR.out]; (simp [*] <;> simp [hasI]), by rw [← HgE.out]; exact B5.out.drew⟩
                    · skip
                      refine WL.val (by kernel_rfl) (.bool false) (by go_simp) ?_
                      simp only [Act.put, List.setIfInBounds_toArray, List.set_cons_zero, List.set_cons_succ]
                      refine WL.val (by kernel_rfl) (.bool false) (by go_simp) ?_
                      simp only [Act.put, List.setIfInBounds_toArray, List.set_cons_zero, List.set_cons_succ]
                      refine WL.skip (by kernel_rfl) ?_
                      simp only [Act.put, List.setIfInBounds_toArray, List.set_cons_zero, List.set_cons_succ]
                      refine WL.skip (by kernel_rfl) ?_
                      simp only [Act.put, List.setIfInBounds_toArray, List.set_cons_zero, List.set_cons_succ]
                      refine WL.skip (by kernel_rfl) ?_
                      simp only [Act.put, List.setIfInBounds_toArray, List.set_cons_zero, List.set_cons_succ]
                      refine WL.skip (by kernel_rfl) ?_
                      simp only [Act.put, List.setIfInBounds_toArray, List.set_cons_zero, List.set_cons_succ]
                      refine WL.val (by kernel_rfl) (.bool false) (by go_simp) ?_
                      simp only [Act.put, List.setIfInBounds_toArray, List.set_cons_zero, List.set_cons_succ]
                      refine WL.val (by kernel_rfl) (.bool false) (by go_simp) ?_
                      simp only [Act.put, List.setIfInBounds_toArray, List.set_cons_zero, List.set_cons_succ]
                      refine WL.nil ?_
                      refine hK27 _ _ ?_
                      refine wp_cond_false rfl ?_
                      refine wp_seq_k fun K32 hK32 => ?_
                      rcases Bool.eq_false_or_eq_true (okR M.bk) with hO | hO
                      · have HC7 := Keep.mk (areBlocks_any (.slice xa M.bk.length xk) M.bk w5.drew (by have h := HA5.out.bk; rw [E5.out] at h; exact h.below (Below.refl _ _).drew) (by have := HOk.out.bk; omega) (fun i hi => by have := HOk.out.rows i hi; omega))
                        rw [hO] at HC7
                        have hD0 : w5.drew.cell? ⟨g, 5, none⟩ = some (.slice xa M.bk.length xk) := g5
                        have HC8 := Keep.mk (fitting_any (.slice xa M.bk.length xk) M.bk w5.drew (by have h := HA5.out.bk; rw [E5.out] at h; exact h.below (Below.refl _ _).drew) (by have := HOk.out.bk; omega) (fun i hi => ((okR_iff _).1 hO i hi).2))
                        by_cases hF : fit M.bk < M.bk.length
                        · have hFi : (fit M.bk : Int) < (M.bk.length : Int) := by omega
                          refine wp_region_held_drew (S := fun wx => wx.cell? ⟨g, 5, none⟩ = some (.slice xa M.bk.length xk)) (by kernel_rfl) (hD0) (fun hHeld => ?_)
                          refine wpAnyH_take (i := 0) (oi := ⟨some 68, Op.fieldAddr 28 (Operand.tmp 1) 5, 0, _, _, none⟩) (v := .pointer (some ⟨g, 5, none⟩)) rfl (by kernel_rfl) (by kernel_rfl) (by kernel_rfl) (fun _ _ _ h => h) (Or.inl ⟨by rfl, fun w hS => by go_simp⟩) hHeld ?_
                          simp only [Act.put, List.setIfInBounds_toArray, List.set_cons_zero, List.set_cons_succ]
                          refine wpAnyH_take (i := 1) (oi := ⟨some 69, Op.load 26 (Operand.tmp 68), 26, _, _, none⟩) (v := .slice xa M.bk.length xk) rfl (by kernel_rfl) (by kernel_rfl) (by kernel_rfl) (fun _ _ _ h => h) (Or.inl ⟨by rfl, fun w hS => by go_simp⟩) hHeld ?_
                          simp only [Act.put, List.setIfInBounds_toArray, List.set_cons_zero, List.set_cons_succ]
                          refine wpAnyH_ready (rs := [2]) (by kernel_rfl) (by simp) ?_
                          refine AllReadyH.cons (o := ⟨some 70, Op.call { callee := Callee.value (Operand.func 24), args := #[Operand.tmp 69], argTypes := #[26] }, 4, _, _, none⟩) rfl (fun K hK => ?_) AllReadyH.nil
                          rw [if_pos (by rfl)]
                          refine wp_callF 24 _ _ rfl Try.in24 #[.slice xa M.bk.length xk] (by simp [Act.eval]) (fun v w' => v = .bool true ∧ w' = w5.drew) (HC7.out.mono fun e w' h => ⟨_, h.1, rfl, h.2⟩) ?_
                          rintro v w6 ⟨rfl, rfl⟩
                          refine hK.out _ _ hD0 fun hHeld6 => ?_
                          clear hK HC7
                          simp only [Act.put, List.setIfInBounds_toArray, List.set_cons_zero, List.set_cons_succ]
                          refine wpAnyH_take (i := 3) (oi := ⟨some 71, Op.unOp UnOp.not 4 (Operand.tmp 70), 4, _, _, none⟩) (v := .bool false) rfl (by kernel_rfl) (by kernel_rfl) (by kernel_rfl) (fun _ _ _ h => h) (Or.inl ⟨by rfl, fun w hS => by go_simp⟩) hHeld6 ?_
                          simp only [Act.put, List.setIfInBounds_toArray, List.set_cons_zero, List.set_cons_succ]
                          refine wpAnyH_take (i := 4) (oi := ⟨some 72, Op.move (Operand.tmp 71), 4, _, _, none⟩) (v := .bool false) rfl (by kernel_rfl) (by kernel_rfl) (by kernel_rfl) (fun _ _ _ h => h) (Or.inl ⟨by rfl, fun w hS => by go_simp⟩) hHeld6 ?_
                          simp only [Act.put, List.setIfInBounds_toArray, List.set_cons_zero, List.set_cons_succ]
                          refine wpAnyH_take (i := 5) (oi := ⟨some 73, Op.fieldAddr 28 (Operand.tmp 1) 5, 0, _, _, some (4, false)⟩) (v := .pointer (some ⟨g, 5, none⟩)) rfl (by kernel_rfl) (by kernel_rfl) (by kernel_rfl) (fun _ _ _ h => h) (Or.inl ⟨by rfl, fun w hS => by go_simp⟩) hHeld6 ?_
                          simp only [Act.put, List.setIfInBounds_toArray, List.set_cons_zero, List.set_cons_succ]
                          refine wpAnyH_take (i := 6) (oi := ⟨some 74, Op.load 26 (Operand.tmp 73), 26, _, _, some (4, false)⟩) (v := .slice xa M.bk.length xk) rfl (by kernel_rfl) (by kernel_rfl) (by kernel_rfl) (fun _ _ _ h => h) (Or.inl ⟨by rfl, fun w hS => by go_simp⟩) hHeld6 ?_
                          simp only [Act.put, List.setIfInBounds_toArray, List.set_cons_zero, List.set_cons_succ]
                          refine wpAnyH_take (i := 8) (oi := ⟨some 76, Op.fieldAddr 28 (Operand.tmp 1) 5, 0, _, _, some (4, false)⟩) (v := .pointer (some ⟨g, 5, none⟩)) rfl (by kernel_rfl) (by kernel_rfl) (by kernel_rfl) (fun _ _ _ h => h) (Or.inl ⟨by rfl, fun w hS => by go_simp⟩) hHeld6 ?_
                          simp only [Act.put, List.setIfInBounds_toArray, List.set_cons_zero, List.set_cons_succ]
                          refine wpAnyH_take (i := 9) (oi := ⟨some 77, Op.load 26 (Operand.tmp 76), 26, _, _, some (4, false)⟩) (v := .slice xa M.bk.length xk) rfl (by kernel_rfl) (by kernel_rfl) (by kernel_rfl) (fun _ _ _ h => h) (Or.inl ⟨by rfl, fun w hS => by go_simp⟩) hHeld6 ?_
                          simp only [Act.put, List.setIfInBounds_toArray, List.set_cons_zero, List.set_cons_succ]
                          refine wpAnyH_take (i := 10) (oi := ⟨some 78, Op.call { callee := Callee.builtin Builtin.len, args := #[Operand.tmp 77], argTypes := #[26] }, 3, _, _, some (4, false)⟩) (v := .int .i64 (M.bk.length : Int)) rfl (by kernel_rfl) (by kernel_rfl) (by kernel_rfl) (fun _ _ _ h => h) (Or.inl ⟨by rfl, fun w hS => by go_simp⟩) hHeld6 ?_
                          simp only [Act.put, List.setIfInBounds_toArray, List.set_cons_zero, List.set_cons_succ]
                          refine wpAnyH_ready (rs := [7]) (by kernel_rfl) (by simp) ?_
                          refine AllReadyH.cons (o := ⟨some 75, Op.call { callee := Callee.value (Operand.func 25), args := #[Operand.tmp 74], argTypes := #[26] }, 3, _, _, some (4, false)⟩) rfl (fun K hK => ?_) AllReadyH.nil
                          rw [if_pos (by rfl)]
                          refine wp_callF 25 _ _ rfl Try.in25 #[.slice xa M.bk.length xk] (by simp [Act.eval]) (fun v w' => v = .int .i64 (fit M.bk : Int) ∧ w' = w5.drew) (HC8.out.mono fun e w' h => ⟨_, h.1, rfl, h.2⟩) ?_
                          rintro v w6 ⟨rfl, rfl⟩
                          refine hK.out _ _ hD0 fun hHeld7 => ?_
                          clear hK HC8
                          simp only [Act.put, List.setIfInBounds_toArray, List.set_cons_zero, List.set_cons_succ]
                          refine wpAnyH_take (i := 11) (oi := ⟨some 79, Op.binOp BinOp.lss 3 (Operand.tmp 75) (Operand.tmp 78) 3, 4, _, _, some (4, false)⟩) (v := .bool true) rfl (by kernel_rfl) (by kernel_rfl) (by kernel_rfl) (fun _ _ _ h => h) (Or.inl ⟨by rfl, fun w hS => by go_simp⟩) hHeld7 ?_
                          simp only [Act.put, List.setIfInBounds_toArray, List.set_cons_zero, List.set_cons_succ]
                          refine wpAnyH_take (i := 12) (oi := ⟨some 80, Op.pick (Operand.tmp 72) (Operand.const (Value.bool true)) (Operand.tmp 79), 4, _, _, none⟩) (v := .bool true) rfl (by kernel_rfl) (by kernel_rfl) (by kernel_rfl) (fun _ _ _ h => h) (Or.inl ⟨by rfl, fun w hS => by go_simp⟩) hHeld7 ?_
                          simp only [Act.put, List.setIfInBounds_toArray, List.set_cons_zero, List.set_cons_succ]
                          refine wpAnyH_take (i := 13) (oi := ⟨some 67, Op.assign (Operand.tmp 80), 4, _, _, none⟩) (v := .bool true) rfl (by kernel_rfl) (by kernel_rfl) (by kernel_rfl) (fun _ _ _ h => h) (Or.inl ⟨by rfl, fun w hS => by go_simp⟩) hHeld7 ?_
                          simp only [Act.put, List.setIfInBounds_toArray, List.set_cons_zero, List.set_cons_succ]
                          refine wpAnyH_done (by kernel_rfl) ?_ _
                          refine hK32 _ _ ?_
                          refine wp_cond_true rfl ?_
                          refine wp_seq_k fun K33 hK33 => ?_
                          refine wp_region_list (WL.out ?_)
                          refine WL.val (by kernel_rfl) (.int .i64 4) (by go_simp) ?_
                          simp only [Act.put, List.setIfInBounds_toArray, List.set_cons_zero, List.set_cons_succ]
                          refine WL.nil ?_
                          refine hK33 _ _ ?_
                          refine wp_ret ?_
                          go_ret
                          first | exact ⟨by rw [HR.out]; (simp [*] <;> simp [hasI]), by rw [← HgE.out]; exact B2.out⟩ | exact ⟨by rw [HR.out]; (simp [*] <;> simp [hasI]), by rw [← HgE.out]; exact B3.out⟩ | exact ⟨by rw [HR.out]; (simp [*] <;> simp [hasI]), by rw [← HgE.out]; exact B4.out⟩ | exact ⟨by rw [HR.out]; (simp [*] <;> simp [hasI]), by rw [← HgE.out]; exact B5.out⟩ | exact ⟨by rw [HR.out]; (simp [*] <;> simp [hasI]), by rw [← HgE.out]; exact B5.out.drew⟩
                        · have hFi : ¬ (fit M.bk : Int) < (M.bk.length : Int) := by omega
                          refine wp_region_held_drew (S := fun wx => wx.cell? ⟨g, 5, none⟩ = some (.slice xa M.bk.length xk)) (by kernel_rfl) (hD0) (fun hHeld => ?_)
                          refine wpAnyH_take (i := 0) (oi := ⟨some 68, Op.fieldAddr 28 (Operand.tmp 1) 5, 0, _, _, none⟩) (v := .pointer (some ⟨g, 5, none⟩)) rfl (by kernel_rfl) (by kernel_rfl) (by kernel_rfl) (fun _ _ _ h => h) (Or.inl ⟨by rfl, fun w hS => by go_simp⟩) hHeld ?_
                          simp only [Act.put, List.setIfInBounds_toArray, List.set_cons_zero, List.set_cons_succ]
                          refine wpAnyH_take (i := 1) (oi := ⟨some 69, Op.load 26 (Operand.tmp 68), 26, _, _, none⟩) (v := .slice xa M.bk.length xk) rfl (by kernel_rfl) (by kernel_rfl) (by kernel_rfl) (fun _ _ _ h => h) (Or.inl ⟨by rfl, fun w hS => by go_simp⟩) hHeld ?_
                          simp only [Act.put, List.setIfInBounds_toArray, List.set_cons_zero, List.set_cons_succ]
                          refine wpAnyH_ready (rs := [2]) (by kernel_rfl) (by simp) ?_
                          refine AllReadyH.cons (o := ⟨some 70, Op.call { callee := Callee.value (Operand.func 24), args := #[Operand.tmp 69], argTypes := #[26] }, 4, _, _, none⟩) rfl (fun K hK => ?_) AllReadyH.nil
                          rw [if_pos (by rfl)]
                          refine wp_callF 24 _ _ rfl Try.in24 #[.slice xa M.bk.length xk] (by simp [Act.eval]) (fun v w' => v = .bool true ∧ w' = w5.drew) (HC7.out.mono fun e w' h => ⟨_, h.1, rfl, h.2⟩) ?_
                          rintro v w6 ⟨rfl, rfl⟩
                          refine hK.out _ _ hD0 fun hHeld6 => ?_
                          clear hK HC7
                          simp only [Act.put, List.setIfInBounds_toArray, List.set_cons_zero, List.set_cons_succ]
                          refine wpAnyH_take (i := 3) (oi := ⟨some 71, Op.unOp UnOp.not 4 (Operand.tmp 70), 4, _, _, none⟩) (v := .bool false) rfl (by kernel_rfl) (by kernel_rfl) (by kernel_rfl) (fun _ _ _ h => h) (Or.inl ⟨by rfl, fun w hS => by go_simp⟩) hHeld6 ?_
                          simp only [Act.put, List.setIfInBounds_toArray, List.set_cons_zero, List.set_cons_succ]
                          refine wpAnyH_take (i := 4) (oi := ⟨some 72, Op.move (Operand.tmp 71), 4, _, _, none⟩) (v := .bool false) rfl (by kernel_rfl) (by kernel_rfl) (by kernel_rfl) (fun _ _ _ h => h) (Or.inl ⟨by rfl, fun w hS => by go_simp⟩) hHeld6 ?_
                          simp only [Act.put, List.setIfInBounds_toArray, List.set_cons_zero, List.set_cons_succ]
                          refine wpAnyH_take (i := 5) (oi := ⟨some 73, Op.fieldAddr 28 (Operand.tmp 1) 5, 0, _, _, some (4, false)⟩) (v := .pointer (some ⟨g, 5, none⟩)) rfl (by kernel_rfl) (by kernel_rfl) (by kernel_rfl) (fun _ _ _ h => h) (Or.inl ⟨by rfl, fun w hS => by go_simp⟩) hHeld6 ?_
                          simp only [Act.put, List.setIfInBounds_toArray, List.set_cons_zero, List.set_cons_succ]
                          refine wpAnyH_take (i := 6) (oi := ⟨some 74, Op.load 26 (Operand.tmp 73), 26, _, _, some (4, false)⟩) (v := .slice xa M.bk.length xk) rfl (by kernel_rfl) (by kernel_rfl) (by kernel_rfl) (fun _ _ _ h => h) (Or.inl ⟨by rfl, fun w hS => by go_simp⟩) hHeld6 ?_
                          simp only [Act.put, List.setIfInBounds_toArray, List.set_cons_zero, List.set_cons_succ]
                          refine wpAnyH_take (i := 8) (oi := ⟨some 76, Op.fieldAddr 28 (Operand.tmp 1) 5, 0, _, _, some (4, false)⟩) (v := .pointer (some ⟨g, 5, none⟩)) rfl (by kernel_rfl) (by kernel_rfl) (by kernel_rfl) (fun _ _ _ h => h) (Or.inl ⟨by rfl, fun w hS => by go_simp⟩) hHeld6 ?_
                          simp only [Act.put, List.setIfInBounds_toArray, List.set_cons_zero, List.set_cons_succ]
                          refine wpAnyH_take (i := 9) (oi := ⟨some 77, Op.load 26 (Operand.tmp 76), 26, _, _, some (4, false)⟩) (v := .slice xa M.bk.length xk) rfl (by kernel_rfl) (by kernel_rfl) (by kernel_rfl) (fun _ _ _ h => h) (Or.inl ⟨by rfl, fun w hS => by go_simp⟩) hHeld6 ?_
                          simp only [Act.put, List.setIfInBounds_toArray, List.set_cons_zero, List.set_cons_succ]
                          refine wpAnyH_take (i := 10) (oi := ⟨some 78, Op.call { callee := Callee.builtin Builtin.len, args := #[Operand.tmp 77], argTypes := #[26] }, 3, _, _, some (4, false)⟩) (v := .int .i64 (M.bk.length : Int)) rfl (by kernel_rfl) (by kernel_rfl) (by kernel_rfl) (fun _ _ _ h => h) (Or.inl ⟨by rfl, fun w hS => by go_simp⟩) hHeld6 ?_
                          simp only [Act.put, List.setIfInBounds_toArray, List.set_cons_zero, List.set_cons_succ]
                          refine wpAnyH_ready (rs := [7]) (by kernel_rfl) (by simp) ?_
                          refine AllReadyH.cons (o := ⟨some 75, Op.call { callee := Callee.value (Operand.func 25), args := #[Operand.tmp 74], argTypes := #[26] }, 3, _, _, some (4, false)⟩) rfl (fun K hK => ?_) AllReadyH.nil
                          rw [if_pos (by rfl)]
                          refine wp_callF 25 _ _ rfl Try.in25 #[.slice xa M.bk.length xk] (by simp [Act.eval]) (fun v w' => v = .int .i64 (fit M.bk : Int) ∧ w' = w5.drew) (HC8.out.mono fun e w' h => ⟨_, h.1, rfl, h.2⟩) ?_
                          rintro v w6 ⟨rfl, rfl⟩
                          refine hK.out _ _ hD0 fun hHeld7 => ?_
                          clear hK HC8
                          simp only [Act.put, List.setIfInBounds_toArray, List.set_cons_zero, List.set_cons_succ]
                          refine wpAnyH_take (i := 11) (oi := ⟨some 79, Op.binOp BinOp.lss 3 (Operand.tmp 75) (Operand.tmp 78) 3, 4, _, _, some (4, false)⟩) (v := .bool false) rfl (by kernel_rfl) (by kernel_rfl) (by kernel_rfl) (fun _ _ _ h => h) (Or.inl ⟨by rfl, fun w hS => by go_simp⟩) hHeld7 ?_
                          simp only [Act.put, List.setIfInBounds_toArray, List.set_cons_zero, List.set_cons_succ]
                          refine wpAnyH_take (i := 12) (oi := ⟨some 80, Op.pick (Operand.tmp 72) (Operand.const (Value.bool true)) (Operand.tmp 79), 4, _, _, none⟩) (v := .bool false) rfl (by kernel_rfl) (by kernel_rfl) (by kernel_rfl) (fun _ _ _ h => h) (Or.inl ⟨by rfl, fun w hS => by go_simp⟩) hHeld7 ?_
                          simp only [Act.put, List.setIfInBounds_toArray, List.set_cons_zero, List.set_cons_succ]
                          refine wpAnyH_take (i := 13) (oi := ⟨some 67, Op.assign (Operand.tmp 80), 4, _, _, none⟩) (v := .bool false) rfl (by kernel_rfl) (by kernel_rfl) (by kernel_rfl) (fun _ _ _ h => h) (Or.inl ⟨by rfl, fun w hS => by go_simp⟩) hHeld7 ?_
                          simp only [Act.put, List.setIfInBounds_toArray, List.set_cons_zero, List.set_cons_succ]
                          refine wpAnyH_done (by kernel_rfl) ?_ _
                          refine hK32 _ _ ?_
                          refine wp_cond_false rfl ?_
                          refine wp_skip ?_
                          refine hK3 _ _ ?_
                          refine wp_seq_k fun K34 hK34 => ?_
                          refine wp_region_list (WL.out ?_)
                          refine WL.val (by kernel_rfl) (.int .i64 0) (by go_simp) ?_
                          simp only [Act.put, List.setIfInBounds_toArray, List.set_cons_zero, List.set_cons_succ]
                          refine WL.nil ?_
                          refine hK34 _ _ ?_
                          refine wp_ret ?_
                          go_ret
                          first | exact ⟨by rw [HR.out]; (simp [*] <;> simp [hasI]), by rw [← HgE.out]; exact B2.out⟩ | exact ⟨by rw [HR.out]; (simp [*] <;> simp [hasI]), by rw [← HgE.out]; exact B3.out⟩ | exact ⟨by rw [HR.out]; (simp [*] <;> simp [hasI]), by rw [← HgE.out]; exact B4.out⟩ | exact ⟨by rw [HR.out]; (simp [*] <;> simp [hasI]), by rw [← HgE.out]; exact B5.out⟩ | exact ⟨by rw [HR.out]; (simp [*] <;> simp [hasI]), by rw [← HgE.out]; exact B5.out.drew⟩
                      · have HC7 := Keep.mk (areBlocks_any (.slice xa M.bk.length xk) M.bk w5.drew (by have h := HA5.out.bk; rw [E5.out] at h; exact h.below (Below.refl _ _).drew) (by have := HOk.out.bk; omega) (fun i hi => by have := HOk.out.rows i hi; omega))
                        rw [hO] at HC7
                        have hD0 : w5.drew.cell? ⟨g, 5, none⟩ = some (.slice xa M.bk.length xk) := g5
                        refine wp_region_held_drew (S := fun wx => wx.cell? ⟨g, 5, none⟩ = some (.slice xa M.bk.length xk)) (by kernel_rfl) (hD0) (fun hHeld => ?_)
                        refine wpAnyH_take (i := 0) (oi := ⟨some 68, Op.fieldAddr 28 (Operand.tmp 1) 5, 0, _, _, none⟩) (v := .pointer (some ⟨g, 5, none⟩)) rfl (by kernel_rfl) (by kernel_rfl) (by kernel_rfl) (fun _ _ _ h => h) (Or.inl ⟨by rfl, fun w hS => by go_simp⟩) hHeld ?_
                        simp only [Act.put, List.setIfInBounds_toArray, List.set_cons_zero, List.set_cons_succ]
                        refine wpAnyH_take (i := 1) (oi := ⟨some 69, Op.load 26 (Operand.tmp 68), 26, _, _, none⟩) (v := .slice xa M.bk.length xk) rfl (by kernel_rfl) (by kernel_rfl) (by kernel_rfl) (fun _ _ _ h => h) (Or.inl ⟨by rfl, fun w hS => by go_simp⟩) hHeld ?_
                        simp only [Act.put, List.setIfInBounds_toArray, List.set_cons_zero, List.set_cons_succ]
                        refine wpAnyH_ready (rs := [2]) (by kernel_rfl) (by simp) ?_
                        refine AllReadyH.cons (o := ⟨some 70, Op.call { callee := Callee.value (Operand.func 24), args := #[Operand.tmp 69], argTypes := #[26] }, 4, _, _, none⟩) rfl (fun K hK => ?_) AllReadyH.nil
                        rw [if_pos (by rfl)]
                        refine wp_callF 24 _ _ rfl Try.in24 #[.slice xa M.bk.length xk] (by simp [Act.eval]) (fun v w' => v = .bool false ∧ w' = w5.drew) (HC7.out.mono fun e w' h => ⟨_, h.1, rfl, h.2⟩) ?_
                        rintro v w6 ⟨rfl, rfl⟩
                        refine hK.out _ _ hD0 fun hHeld6 => ?_
                        clear hK HC7
                        simp only [Act.put, List.setIfInBounds_toArray, List.set_cons_zero, List.set_cons_succ]
                        refine wpAnyH_take (i := 3) (oi := ⟨some 71, Op.unOp UnOp.not 4 (Operand.tmp 70), 4, _, _, none⟩) (v := .bool true) rfl (by kernel_rfl) (by kernel_rfl) (by kernel_rfl) (fun _ _ _ h => h) (Or.inl ⟨by rfl, fun w hS => by go_simp⟩) hHeld6 ?_
                        simp only [Act.put, List.setIfInBounds_toArray, List.set_cons_zero, List.set_cons_succ]
                        refine wpAnyH_take (i := 4) (oi := ⟨some 72, Op.move (Operand.tmp 71), 4, _, _, none⟩) (v := .bool true) rfl (by kernel_rfl) (by kernel_rfl) (by kernel_rfl) (fun _ _ _ h => h) (Or.inl ⟨by rfl, fun w hS => by go_simp⟩) hHeld6 ?_
                        simp only [Act.put, List.setIfInBounds_toArray, List.set_cons_zero, List.set_cons_succ]
                        refine wpAnyH_take (i := 5) (oi := ⟨some 73, Op.fieldAddr 28 (Operand.tmp 1) 5, 0, _, _, some (4, false)⟩) (v := undef) rfl (by kernel_rfl) (by kernel_rfl) (by kernel_rfl) (fun _ _ _ h => h) (Or.inr ⟨by rfl, rfl⟩) hHeld6 ?_
                        simp only [Act.put, List.setIfInBounds_toArray, List.set_cons_zero, List.set_cons_succ]
                        refine wpAnyH_take (i := 6) (oi := ⟨some 74, Op.load 26 (Operand.tmp 73), 26, _, _, some (4, false)⟩) (v := undef) rfl (by kernel_rfl) (by kernel_rfl) (by kernel_rfl) (fun _ _ _ h => h) (Or.inr ⟨by rfl, rfl⟩) hHeld6 ?_
                        simp only [Act.put, List.setIfInBounds_toArray, List.set_cons_zero, List.set_cons_succ]
                        refine wpAnyH_take (i := 7) (oi := ⟨some 75, Op.call { callee := Callee.value (Operand.func 25), args := #[Operand.tmp 74], argTypes := #[26] }, 3, _, _, some (4, false)⟩) (v := undef) rfl (by kernel_rfl) (by kernel_rfl) (by kernel_rfl) (fun _ _ _ h => h) (Or.inr ⟨by rfl, rfl⟩) hHeld6 ?_
                        simp only [Act.put, List.setIfInBounds_toArray, List.set_cons_zero, List.set_cons_succ]
                        refine wpAnyH_take (i := 8) (oi := ⟨some 76, Op.fieldAddr 28 (Operand.tmp 1) 5, 0, _, _, some (4, false)⟩) (v := undef) rfl (by kernel_rfl) (by kernel_rfl) (by kernel_rfl) (fun _ _ _ h => h) (Or.inr ⟨by rfl, rfl⟩) hHeld6 ?_
                        simp only [Act.put, List.setIfInBounds_toArray, List.set_cons_zero, List.set_cons_succ]
                        refine wpAnyH_take (i := 9) (oi := ⟨some 77, Op.load 26 (Operand.tmp 76), 26, _, _, some (4, false)⟩) (v := undef) rfl (by kernel_rfl) (by kernel_rfl) (by kernel_rfl) (fun _ _ _ h => h) (Or.inr ⟨by rfl, rfl⟩) hHeld6 ?_
                        simp only [Act.put, List.setIfInBounds_toArray, List.set_cons_zero, List.set_cons_succ]
                        refine wpAnyH_take (i := 10) (oi := ⟨some 78, Op.call { callee := Callee.builtin Builtin.len, args := #[Operand.tmp 77], argTypes := #[26] }, 3, _, _, some (4, false)⟩) (v := undef) rfl (by kernel_rfl) (by kernel_rfl) (by kernel_rfl) (fun _ _ _ h => h) (Or.inr ⟨by rfl, rfl⟩) hHeld6 ?_
                        simp only [Act.put, List.setIfInBounds_toArray, List.set_cons_zero, List.set_cons_succ]
                        refine wpAnyH_take (i := 11) (oi := ⟨some 79, Op.binOp BinOp.lss 3 (Operand.tmp 75) (Operand.tmp 78) 3, 4, _, _, some (4, false)⟩) (v := undef) rfl (by kernel_rfl) (by kernel_rfl) (by kernel_rfl) (fun _ _ _ h => h) (Or.inr ⟨by rfl, rfl⟩) hHeld6 ?_
                        simp only [Act.put, List.setIfInBounds_toArray, List.set_cons_zero, List.set_cons_succ]
                        refine wpAnyH_take (i := 12) (oi := ⟨some 80, Op.pick (Operand.tmp 72) (Operand.const (Value.bool true)) (Operand.tmp 79), 4, _, _, none⟩) (v := .bool true) rfl (by kernel_rfl) (by kernel_rfl) (by kernel_rfl) (fun _ _ _ h => h) (Or.inl ⟨by rfl, fun w hS => by go_simp⟩) hHeld6 ?_
                        simp only [Act.put, List.setIfInBounds_toArray, List.set_cons_zero, List.set_cons_succ]
                        refine wpAnyH_take (i := 13) (oi := ⟨some 67, Op.assign (Operand.tmp 80), 4, _, _, none⟩) (v := .bool true) rfl (by kernel_rfl) (by kernel_rfl) (by kernel_rfl) (fun _ _ _ h => h) (Or.inl ⟨by rfl, fun w hS => by go_simp⟩) hHeld6 ?_
                        simp only [Act.put, List.setIfInBounds_toArray, List.set_cons_zero, List.set_cons_succ]
                        refine wpAnyH_done (by kernel_rfl) ?_ _
                        refine hK32 _ _ ?_
                        refine wp_cond_true rfl ?_
                        refine wp_seq_k fun K35 hK35 => ?_
                        refine wp_region_list (WL.out ?_)
                        refine WL.val (by kernel_rfl) (.int .i64 4) (by go_simp) ?_
                        simp only [Act.put, List.setIfInBounds_toArray, List.set_cons_zero, List.set_cons_succ]
                        refine WL.nil ?_
                        refine hK35 _ _ ?_
                        refine wp_ret ?_
                        go_ret
                        first | exact ⟨by rw [HR.out]; (simp [*] <;> simp [hasI]), by rw [← HgE.out]; exact B2.out⟩ | exact ⟨by rw [HR.out]; (simp [*] <;> simp [hasI]), by rw [← HgE.out]; exact B3.out⟩ | exact ⟨by rw [HR.out]; (simp [*] <;> simp [hasI]), by rw [← HgE.out]; exact B4.out⟩ | exact ⟨by rw [HR.out]; (simp [*] <;> simp [hasI]), by rw [← HgE.out]; exact B5.out⟩ | exact ⟨by rw [HR.out]; (simp [*] <;> simp [hasI]), by rw [← HgE.out]; exact B5.out.drew⟩
                  · have HC6 := Keep.mk (right_any (.slice ba M.bl.length bk) M.bl w5 (by have h := HA5.out.bl; rw [E3.out] at h; exact h))
                    rw [hP] at HC6
                    refine wp_region_list (WL.out ?_)
                    refine WL.val (by kernel_rfl) (.pointer (some ⟨g, 0, none⟩)) (by go_simp) ?_
                    simp only [Act.put, List.setIfInBounds_toArray, List.set_cons_zero, List.set_cons_succ]
                    refine WL.val (by kernel_rfl) (.int .i64 M.k) (by go_simp) ?_
                    simp only [Act.put, List.setIfInBounds_toArray, List.set_cons_zero, List.set_cons_succ]
                    by_cases h12_2 : M.k = 1
                    · skip
                      refine WL.val (by kernel_rfl) (.bool true) (by go_simp) ?_
                      simp only [Act.put, List.setIfInBounds_toArray, List.set_cons_zero, List.set_cons_succ]
                      refine WL.val (by kernel_rfl) (.bool true) (by go_simp) ?_
                      simp only [Act.put, List.setIfInBounds_toArray, List.set_cons_zero, List.set_cons_succ]
                      refine WL.val (by kernel_rfl) (.pointer (some ⟨g, 3, none⟩)) (by go_simp) ?_
                      simp only [Act.put, List.setIfInBounds_toArray, List.set_cons_zero, List.set_cons_succ]
                      refine WL.val (by kernel_rfl) (.slice ba M.bl.length bk) (by go_simp) ?_
                      simp only [Act.put, List.setIfInBounds_toArray, List.set_cons_zero, List.set_cons_succ]
                      refine WL.callF (by kernel_rfl) 23 _ _ rfl Try.in23 #[.slice ba M.bl.length bk] (by simp [Act.eval]) ?_
                      refine (HC6.out).mono ?_
                      rintro e w0 ⟨rfl, hw0⟩
                      rw [hw0]
                      clear hw0 w0
                      refine ⟨_, rfl, ?_⟩
                      simp only [Act.put, List.setIfInBounds_toArray, List.set_cons_zero, List.set_cons_succ]
                      refine WL.val (by kernel_rfl) (.bool true) (by go_simp) ?_
                      simp only [Act.put, List.setIfInBounds_toArray, List.set_cons_zero, List.set_cons_succ]
                      refine WL.val (by kernel_rfl) (.bool true) (by go_simp) ?_
                      simp only [Act.put, List.setIfInBounds_toArray, List.set_cons_zero, List.set_cons_succ]
                      refine WL.val (by kernel_rfl) (.bool true) (by go_simp) ?_
                      simp only [Act.put, List.setIfInBounds_toArray, List.set_cons_zero, List.set_cons_succ]
                      refine WL.nil ?_
                      refine hK27 _ _ ?_
                      refine wp_cond_true rfl ?_
                      refine wp_seq_k fun K36 hK36 => ?_
                      refine wp_region_list (WL.out ?_)
                      refine WL.val (by kernel_rfl) (.int .i64 60) (by go_simp) ?_
                      simp only [Act.put, List.setIfInBounds_toArray, List.set_cons_zero, List.set_cons_succ]
                      refine WL.nil ?_
                      refine hK36 _ _ ?_
                      refine wp_ret ?_
                      go_ret
                      first | exact ⟨by rw [HR.out]; (simp [*] <;> simp [hasI]), by rw [← HgE.out]; exact B2.out⟩ | exact ⟨by rw [HR.out]; (simp [*] <;> simp [hasI]), by rw [← HgE.out]; exact B3.out⟩ | exact ⟨by rw [HR.out]; (simp [*] <;> simp [hasI]), by rw [← HgE.out]; exact B4.out⟩ | exact ⟨by rw [HR.out]; (simp [*] <;> simp [hasI]), by rw [← HgE.out]; exact B5.out⟩ | exact ⟨by rw [HR.out]; (simp [*] <;> simp [hasI]), by rw [← HgE.out]; exact B5.out.drew⟩
                    · skip
                      refine WL.val (by kernel_rfl) (.bool false) (by go_simp) ?_
                      simp only [Act.put, List.setIfInBounds_toArray, List.set_cons_zero, List.set_cons_succ]
                      refine WL.val (by kernel_rfl) (.bool false) (by go_simp) ?_
                      simp only [Act.put, List.setIfInBounds_toArray, List.set_cons_zero, List.set_cons_succ]
                      refine WL.skip (by kernel_rfl) ?_
                      simp only [Act.put, List.setIfInBounds_toArray, List.set_cons_zero, List.set_cons_succ]
                      refine WL.skip (by kernel_rfl) ?_
                      simp only [Act.put, List.setIfInBounds_toArray, List.set_cons_zero, List.set_cons_succ]
                      refine WL.skip (by kernel_rfl) ?_
                      simp only [Act.put, List.setIfInBounds_toArray, List.set_cons_zero, List.set_cons_succ]
                      refine WL.skip (by kernel_rfl) ?_
                      simp only [Act.put, List.setIfInBounds_toArray, List.set_cons_zero, List.set_cons_succ]
                      refine WL.val (by kernel_rfl) (.bool false) (by go_simp) ?_
                      simp only [Act.put, List.setIfInBounds_toArray, List.set_cons_zero, List.set_cons_succ]
                      refine WL.val (by kernel_rfl) (.bool false) (by go_simp) ?_
                      simp only [Act.put, List.setIfInBounds_toArray, List.set_cons_zero, List.set_cons_succ]
                      refine WL.nil ?_
                      refine hK27 _ _ ?_
                      refine wp_cond_false rfl ?_
                      refine wp_seq_k fun K37 hK37 => ?_
                      rcases Bool.eq_false_or_eq_true (okR M.bk) with hO | hO
                      · have HC7 := Keep.mk (areBlocks_any (.slice xa M.bk.length xk) M.bk w5.drew (by have h := HA5.out.bk; rw [E5.out] at h; exact h.below (Below.refl _ _).drew) (by have := HOk.out.bk; omega) (fun i hi => by have := HOk.out.rows i hi; omega))
                        rw [hO] at HC7
                        have hD0 : w5.drew.cell? ⟨g, 5, none⟩ = some (.slice xa M.bk.length xk) := g5
                        have HC8 := Keep.mk (fitting_any (.slice xa M.bk.length xk) M.bk w5.drew (by have h := HA5.out.bk; rw [E5.out] at h; exact h.below (Below.refl _ _).drew) (by have := HOk.out.bk; omega) (fun i hi => ((okR_iff _).1 hO i hi).2))
                        by_cases hF : fit M.bk < M.bk.length
                        · have hFi : (fit M.bk : Int) < (M.bk.length : Int) := by omega
                          refine wp_region_held_drew (S := fun wx => wx.cell? ⟨g, 5, none⟩ = some (.slice xa M.bk.length xk)) (by kernel_rfl) (hD0) (fun hHeld => ?_)
                          refine wpAnyH_take (i := 0) (oi := ⟨some 68, Op.fieldAddr 28 (Operand.tmp 1) 5, 0, _, _, none⟩) (v := .pointer (some ⟨g, 5, none⟩)) rfl (by kernel_rfl) (by kernel_rfl) (by kernel_rfl) (fun _ _ _ h => h) (Or.inl ⟨by rfl, fun w hS => by go_simp⟩) hHeld ?_
                          simp only [Act.put, List.setIfInBounds_toArray, List.set_cons_zero, List.set_cons_succ]
                          refine wpAnyH_take (i := 1) (oi := ⟨some 69, Op.load 26 (Operand.tmp 68), 26, _, _, none⟩) (v := .slice xa M.bk.length xk) rfl (by kernel_rfl) (by kernel_rfl) (by kernel_rfl) (fun _ _ _ h => h) (Or.inl ⟨by rfl, fun w hS => by go_simp⟩) hHeld ?_
                          simp only [Act.put, List.setIfInBounds_toArray, List.set_cons_zero, List.set_cons_succ]
                          refine wpAnyH_ready (rs := [2]) (by kernel_rfl) (by simp) ?_
                          refine AllReadyH.cons (o := ⟨some 70, Op.call { callee := Callee.value (Operand.func 24), args := #[Operand.tmp 69], argTypes := #[26] }, 4, _, _, none⟩) rfl (fun K hK => ?_) AllReadyH.nil
                          rw [if_pos (by rfl)]
                          refine wp_callF 24 _ _ rfl Try.in24 #[.slice xa M.bk.length xk] (by simp [Act.eval]) (fun v w' => v = .bool true ∧ w' = w5.drew) (HC7.out.mono fun e w' h => ⟨_, h.1, rfl, h.2⟩) ?_
                          rintro v w6 ⟨rfl, rfl⟩
                          refine hK.out _ _ hD0 fun hHeld6 => ?_
                          clear hK HC7
                          simp only [Act.put, List.setIfInBounds_toArray, List.set_cons_zero, List.set_cons_succ]
                          refine wpAnyH_take (i := 3) (oi := ⟨some 71, Op.unOp UnOp.not 4 (Operand.tmp 70), 4, _, _, none⟩) (v := .bool false) rfl (by kernel_rfl) (by kernel_rfl) (by kernel_rfl) (fun _ _ _ h => h) (Or.inl ⟨by rfl, fun w hS => by go_simp⟩) hHeld6 ?_
                          simp only [Act.put, List.setIfInBounds_toArray, List.set_cons_zero, List.set_cons_succ]
                          refine wpAnyH_take (i := 4) (oi := ⟨some 72, Op.move (Operand.tmp 71), 4, _, _, none⟩) (v := .bool false) rfl (by kernel_rfl) (by kernel_rfl) (by kernel_rfl) (fun _ _ _ h => h) (Or.inl ⟨by rfl, fun w hS => by go_simp⟩) hHeld6 ?_
                          simp only [Act.put, List.setIfInBounds_toArray, List.set_cons_zero, List.set_cons_succ]
                          refine wpAnyH_take (i := 5) (oi := ⟨some 73, Op.fieldAddr 28 (Operand.tmp 1) 5, 0, _, _, some (4, false)⟩) (v := .pointer (some ⟨g, 5, none⟩)) rfl (by kernel_rfl) (by kernel_rfl) (by kernel_rfl) (fun _ _ _ h => h) (Or.inl ⟨by rfl, fun w hS => by go_simp⟩) hHeld6 ?_
                          simp only [Act.put, List.setIfInBounds_toArray, List.set_cons_zero, List.set_cons_succ]
                          refine wpAnyH_take (i := 6) (oi := ⟨some 74, Op.load 26 (Operand.tmp 73), 26, _, _, some (4, false)⟩) (v := .slice xa M.bk.length xk) rfl (by kernel_rfl) (by kernel_rfl) (by kernel_rfl) (fun _ _ _ h => h) (Or.inl ⟨by rfl, fun w hS => by go_simp⟩) hHeld6 ?_
                          simp only [Act.put, List.setIfInBounds_toArray, List.set_cons_zero, List.set_cons_succ]
                          refine wpAnyH_take (i := 8) (oi := ⟨some 76, Op.fieldAddr 28 (Operand.tmp 1) 5, 0, _, _, some (4, false)⟩) (v := .pointer (some ⟨g, 5, none⟩)) rfl (by kernel_rfl) (by kernel_rfl) (by kernel_rfl) (fun _ _ _ h => h) (Or.inl ⟨by rfl, fun w hS => by go_simp⟩) hHeld6 ?_
                          simp only [Act.put, List.setIfInBounds_toArray, List.set_cons_zero, List.set_cons_succ]
                          refine wpAnyH_take (i := 9) (oi := ⟨some 77, Op.load 26 (Operand.tmp 76), 26, _, _, some (4, false)⟩) (v := .slice xa M.bk.length xk) rfl (by kernel_rfl) (by kernel_rfl) (by kernel_rfl) (fun _ _ _ h => h) (Or.inl ⟨by rfl, fun w hS => by go_simp⟩) hHeld6 ?_
                          simp only [Act.put, List.setIfInBounds_toArray, List.set_cons_zero, List.set_cons_succ]
                          refine wpAnyH_take (i := 10) (oi := ⟨some 78, Op.call { callee := Callee.builtin Builtin.len, args := #[Operand.tmp 77], argTypes := #[26] }, 3, _, _, some (4, false)⟩) (v := .int .i64 (M.bk.length : Int)) rfl (by kernel_rfl) (by kernel_rfl) (by kernel_rfl) (fun _ _ _ h => h) (Or.inl ⟨by rfl, fun w hS => by go_simp⟩) hHeld6 ?_
                          simp only [Act.put, List.setIfInBounds_toArray, List.set_cons_zero, List.set_cons_succ]
                          refine wpAnyH_ready (rs := [7]) (by kernel_rfl) (by simp) ?_
                          refine AllReadyH.cons (o := ⟨some 75, Op.call { callee := Callee.value (Operand.func 25), args := #[Operand.tmp 74], argTypes := #[26] }, 3, _, _, some (4, false)⟩) rfl (fun K hK => ?_) AllReadyH.nil
                          rw [if_pos (by rfl)]
                          refine wp_callF 25 _ _ rfl Try.in25 #[.slice xa M.bk.length xk] (by simp [Act.eval]) (fun v w' => v = .int .i64 (fit M.bk : Int) ∧ w' = w5.drew) (HC8.out.mono fun e w' h => ⟨_, h.1, rfl, h.2⟩) ?_
                          rintro v w6 ⟨rfl, rfl⟩
                          refine hK.out _ _ hD0 fun hHeld7 => ?_
                          clear hK HC8
                          simp only [Act.put, List.setIfInBounds_toArray, List.set_cons_zero, List.set_cons_succ]
                          refine wpAnyH_take (i := 11) (oi := ⟨some 79, Op.binOp BinOp.lss 3 (Operand.tmp 75) (Operand.tmp 78) 3, 4, _, _, some (4, false)⟩) (v := .bool true) rfl (by kernel_rfl) (by kernel_rfl) (by kernel_rfl) (fun _ _ _ h => h) (Or.inl ⟨by rfl, fun w hS => by go_simp⟩) hHeld7 ?_
                          simp only [Act.put, List.setIfInBounds_toArray, List.set_cons_zero, List.set_cons_succ]
                          refine wpAnyH_take (i := 12) (oi := ⟨some 80, Op.pick (Operand.tmp 72) (Operand.const (Value.bool true)) (Operand.tmp 79), 4, _, _, none⟩) (v := .bool true) rfl (by kernel_rfl) (by kernel_rfl) (by kernel_rfl) (fun _ _ _ h => h) (Or.inl ⟨by rfl, fun w hS => by go_simp⟩) hHeld7 ?_
                          simp only [Act.put, List.setIfInBounds_toArray, List.set_cons_zero, List.set_cons_succ]
                          refine wpAnyH_take (i := 13) (oi := ⟨some 67, Op.assign (Operand.tmp 80), 4, _, _, none⟩) (v := .bool true) rfl (by kernel_rfl) (by kernel_rfl) (by kernel_rfl) (fun _ _ _ h => h) (Or.inl ⟨by rfl, fun w hS => by go_simp⟩) hHeld7 ?_
                          simp only [Act.put, List.setIfInBounds_toArray, List.set_cons_zero, List.set_cons_succ]
                          refine wpAnyH_done (by kernel_rfl) ?_ _
                          refine hK37 _ _ ?_
                          refine wp_cond_true rfl ?_
                          refine wp_seq_k fun K38 hK38 => ?_
                          refine wp_region_list (WL.out ?_)
                          refine WL.val (by kernel_rfl) (.int .i64 4) (by go_simp) ?_
                          simp only [Act.put, List.setIfInBounds_toArray, List.set_cons_zero, List.set_cons_succ]
                          refine WL.nil ?_
                          refine hK38 _ _ ?_
                          refine wp_ret ?_
                          go_ret
                          first | exact ⟨by rw [HR.out]; (simp [*] <;> simp [hasI]), by rw [← HgE.out]; exact B2.out⟩ | exact ⟨by rw [HR.out]; (simp [*] <;> simp [hasI]), by rw [← HgE.out]; exact B3.out⟩ | exact ⟨by rw [HR.out]; (simp [*] <;> simp [hasI]), by rw [← HgE.out]; exact B4.out⟩ | exact ⟨by rw [HR.out]; (simp [*] <;> simp [hasI]), by rw [← HgE.out]; exact B5.out⟩ | exact ⟨by rw [HR.out]; (simp [*] <;> simp [hasI]), by rw [← HgE.out]; exact B5.out.drew⟩
                        · have hFi : ¬ (fit M.bk : Int) < (M.bk.length : Int) := by omega
                          refine wp_region_held_drew (S := fun wx => wx.cell? ⟨g, 5, none⟩ = some (.slice xa M.bk.length xk)) (by kernel_rfl) (hD0) (fun hHeld => ?_)
                          refine wpAnyH_take (i := 0) (oi := ⟨some 68, Op.fieldAddr 28 (Operand.tmp 1) 5, 0, _, _, none⟩) (v := .pointer (some ⟨g, 5, none⟩)) rfl (by kernel_rfl) (by kernel_rfl) (by kernel_rfl) (fun _ _ _ h => h) (Or.inl ⟨by rfl, fun w hS => by go_simp⟩) hHeld ?_
                          simp only [Act.put, List.setIfInBounds_toArray, List.set_cons_zero, List.set_cons_succ]
                          refine wpAnyH_take (i := 1) (oi := ⟨some 69, Op.load 26 (Operand.tmp 68), 26, _, _, none⟩) (v := .slice xa M.bk.length xk) rfl (by kernel_rfl) (by kernel_rfl) (by kernel_rfl) (fun _ _ _ h => h) (Or.inl ⟨by rfl, fun w hS => by go_simp⟩) hHeld ?_
                          simp only [Act.put, List.setIfInBounds_toArray, List.set_cons_zero, List.set_cons_succ]
                          refine wpAnyH_ready (rs := [2]) (by kernel_rfl) (by simp) ?_
                          refine AllReadyH.cons (o := ⟨some 70, Op.call { callee := Callee.value (Operand.func 24), args := #[Operand.tmp 69], argTypes := #[26] }, 4, _, _, none⟩) rfl (fun K hK => ?_) AllReadyH.nil
                          rw [if_pos (by rfl)]
                          refine wp_callF 24 _ _ rfl Try.in24 #[.slice xa M.bk.length xk] (by simp [Act.eval]) (fun v w' => v = .bool true ∧ w' = w5.drew) (HC7.out.mono fun e w' h => ⟨_, h.1, rfl, h.2⟩) ?_
                          rintro v w6 ⟨rfl, rfl⟩
                          refine hK.out _ _ hD0 fun hHeld6 => ?_
                          clear hK HC7
                          simp only [Act.put, List.setIfInBounds_toArray, List.set_cons_zero, List.set_cons_succ]
                          refine wpAnyH_take (i := 3) (oi := ⟨some 71, Op.unOp UnOp.not 4 (Operand.tmp 70), 4, _, _, none⟩) (v := .bool false) rfl (by kernel_rfl) (by kernel_rfl) (by kernel_rfl) (fun _ _ _ h => h) (Or.inl ⟨by rfl, fun w hS => by go_simp⟩) hHeld6 ?_
                          simp only [Act.put, List.setIfInBounds_toArray, List.set_cons_zero, List.set_cons_succ]
                          refine wpAnyH_take (i := 4) (oi := ⟨some 72, Op.move (Operand.tmp 71), 4, _, _, none⟩) (v := .bool false) rfl (by kernel_rfl) (by kernel_rfl) (by kernel_rfl) (fun _ _ _ h => h) (Or.inl ⟨by rfl, fun w hS => by go_simp⟩) hHeld6 ?_
                          simp only [Act.put, List.setIfInBounds_toArray, List.set_cons_zero, List.set_cons_succ]
                          refine wpAnyH_take (i := 5) (oi := ⟨some 73, Op.fieldAddr 28 (Operand.tmp 1) 5, 0, _, _, some (4, false)⟩) (v := .pointer (some ⟨g, 5, none⟩)) rfl (by kernel_rfl) (by kernel_rfl) (by kernel_rfl) (fun _ _ _ h => h) (Or.inl ⟨by rfl, fun w hS => by go_simp⟩) hHeld6 ?_
                          simp only [Act.put, List.setIfInBounds_toArray, List.set_cons_zero, List.set_cons_succ]
                          refine wpAnyH_take (i := 6) (oi := ⟨some 74, Op.load 26 (Operand.tmp 73), 26, _, _, some (4, false)⟩) (v := .slice xa M.bk.length xk) rfl (by kernel_rfl) (by kernel_rfl) (by kernel_rfl) (fun _ _ _ h => h) (Or.inl ⟨by rfl, fun w hS => by go_simp⟩) hHeld6 ?_
                          simp only [Act.put, List.setIfInBounds_toArray, List.set_cons_zero, List.set_cons_succ]
                          refine wpAnyH_take (i := 8) (oi := ⟨some 76, Op.fieldAddr 28 (Operand.tmp 1) 5, 0, _, _, some (4, false)⟩) (v := .pointer (some ⟨g, 5, none⟩)) rfl (by kernel_rfl) (by kernel_rfl) (by kernel_rfl) (fun _ _ _ h => h) (Or.inl ⟨by rfl, fun w hS => by go_simp⟩) hHeld6 ?_
                          simp only [Act.put, List.setIfInBounds_toArray, List.set_cons_zero, List.set_cons_succ]
                          refine wpAnyH_take (i := 9) (oi := ⟨some 77, Op.load 26 (Operand.tmp 76), 26, _, _, some (4, false)⟩) (v := .slice xa M.bk.length xk) rfl (by kernel_rfl) (by kernel_rfl) (by kernel_rfl) (fun _ _ _ h => h) (Or.inl ⟨by rfl, fun w hS => by go_simp⟩) hHeld6 ?_
                          simp only [Act.put, List.setIfInBounds_toArray, List.set_cons_zero, List.set_cons_succ]
                          refine wpAnyH_take (i := 10) (oi := ⟨some 78, Op.call { callee := Callee.builtin Builtin.len, args := #[Operand.tmp 77], argTypes := #[26] }, 3, _, _, some (4, false)⟩) (v := .int .i64 (M.bk.length : Int)) rfl (by kernel_rfl) (by kernel_rfl) (by kernel_rfl) (fun _ _ _ h => h) (Or.inl ⟨by rfl, fun w hS => by go_simp⟩) hHeld6 ?_
                          simp only [Act.put, List.setIfInBounds_toArray, List.set_cons_zero, List.set_cons_succ]
                          refine wpAnyH_ready (rs := [7]) (by kernel_rfl) (by simp) ?_
                          refine AllReadyH.cons (o := ⟨some 75, Op.call { callee := Callee.value (Operand.func 25), args := #[Operand.tmp 74], argTypes := #[26] }, 3, _, _, some (4, false)⟩) rfl (fun K hK => ?_) AllReadyH.nil
                          rw [if_pos (by rfl)]
                          refine wp_callF 25 _ _ rfl Try.in25 #[.slice xa M.bk.length xk] (by simp [Act.eval]) (fun v w' => v = .int .i64 (fit M.bk : Int) ∧ w' = w5.drew) (HC8.out.mono fun e w' h => ⟨_, h.1, rfl, h.2⟩) ?_
                          rintro v w6 ⟨rfl, rfl⟩
                          refine hK.out _ _ hD0 fun hHeld7 => ?_
                          clear hK HC8
                          simp only [Act.put, List.setIfInBounds_toArray, List.set_cons_zero, List.set_cons_succ]
                          refine wpAnyH_take (i := 11) (oi := ⟨some 79, Op.binOp BinOp.lss 3 (Operand.tmp 75) (Operand.tmp 78) 3, 4, _, _, some (4, false)⟩) (v := .bool false) rfl (by kernel_rfl) (by kernel_rfl) (by kernel_rfl) (fun _ _ _ h => h) (Or.inl ⟨by rfl, fun w hS => by go_simp⟩) hHeld7 ?_
                          simp only [Act.put, List.setIfInBounds_toArray, List.set_cons_zero, List.set_cons_succ]
                          refine wpAnyH_take (i := 12) (oi := ⟨some 80, Op.pick (Operand.tmp 72) (Operand.const (Value.bool true)) (Operand.tmp 79), 4, _, _, none⟩) (v := .bool false) rfl (by kernel_rfl) (by kernel_rfl) (by kernel_rfl) (fun _ _ _ h => h) (Or.inl ⟨by rfl, fun w hS => by go_simp⟩) hHeld7 ?_
                          simp only [Act.put, List.setIfInBounds_toArray, List.set_cons_zero, List.set_cons_succ]
                          refine wpAnyH_take (i := 13) (oi := ⟨some 67, Op.assign (Operand.tmp 80), 4, _, _, none⟩) (v := .bool false) rfl (by kernel_rfl) (by kernel_rfl) (by kernel_rfl) (fun _ _ _ h => h) (Or.inl ⟨by rfl, fun w hS => by go_simp⟩) hHeld7 ?_
                          simp only [Act.put, List.setIfInBounds_toArray, List.set_cons_zero, List.set_cons_succ]
                          refine wpAnyH_done (by kernel_rfl) ?_ _
                          refine hK37 _ _ ?_
                          refine wp_cond_false rfl ?_
                          refine wp_skip ?_
                          refine hK3 _ _ ?_
                          refine wp_seq_k fun K39 hK39 => ?_
                          refine wp_region_list (WL.out ?_)
                          refine WL.val (by kernel_rfl) (.int .i64 0) (by go_simp) ?_
                          simp only [Act.put, List.setIfInBounds_toArray, List.set_cons_zero, List.set_cons_succ]
                          refine WL.nil ?_
                          refine hK39 _ _ ?_
                          refine wp_ret ?_
                          go_ret
                          first | exact ⟨by rw [HR.out]; (simp [*] <;> simp [hasI]), by rw [← HgE.out]; exact B2.out⟩ | exact ⟨by rw [HR.out]; (simp [*] <;> simp [hasI]), by rw [← HgE.out]; exact B3.out⟩ | exact ⟨by rw [HR.out]; (simp [*] <;> simp [hasI]), by rw [← HgE.out]; exact B4.out⟩ | exact ⟨by rw [HR.out]; (simp [*] <;> simp [hasI]), by rw [← HgE.out]; exact B5.out⟩ | exact ⟨by rw [HR.out]; (simp [*] <;> simp [hasI]), by rw [← HgE.out]; exact B5.out.drew⟩
                      · have HC7 := Keep.mk (areBlocks_any (.slice xa M.bk.length xk) M.bk w5.drew (by have h := HA5.out.bk; rw [E5.out] at h; exact h.below (Below.refl _ _).drew) (by have := HOk.out.bk; omega) (fun i hi => by have := HOk.out.rows i hi; omega))
                        rw [hO] at HC7
                        have hD0 : w5.drew.cell? ⟨g, 5, none⟩ = some (.slice xa M.bk.length xk) := g5
                        refine wp_region_held_drew (S := fun wx => wx.cell? ⟨g, 5, none⟩ = some (.slice xa M.bk.length xk)) (by kernel_rfl) (hD0) (fun hHeld => ?_)
                        refine wpAnyH_take (i := 0) (oi := ⟨some 68, Op.fieldAddr 28 (Operand.tmp 1) 5, 0, _, _, none⟩) (v := .pointer (some ⟨g, 5, none⟩)) rfl (by kernel_rfl) (by kernel_rfl) (by kernel_rfl) (fun _ _ _ h => h) (Or.inl ⟨by rfl, fun w hS => by go_simp⟩) hHeld ?_
                        simp only [Act.put, List.setIfInBounds_toArray, List.set_cons_zero, List.set_cons_succ]
                        refine wpAnyH_take (i := 1) (oi := ⟨some 69, Op.load 26 (Operand.tmp 68), 26, _, _, none⟩) (v := .slice xa M.bk.length xk) rfl (by kernel_rfl) (by kernel_rfl) (by kernel_rfl) (fun _ _ _ h => h) (Or.inl ⟨by rfl, fun w hS => by go_simp⟩) hHeld ?_
                        simp only [Act.put, List.setIfInBounds_toArray, List.set_cons_zero, List.set_cons_succ]
                        refine wpAnyH_ready (rs := [2]) (by kernel_rfl) (by simp) ?_
                        refine AllReadyH.cons (o := ⟨some 70, Op.call { callee := Callee.value (Operand.func 24), args := #[Operand.tmp 69], argTypes := #[26] }, 4, _, _, none⟩) rfl (fun K hK => ?_) AllReadyH.nil
                        rw [if_pos (by rfl)]
                        refine wp_callF 24 _ _ rfl Try.in24 #[.slice xa M.bk.length xk] (by simp [Act.eval]) (fun v w' => v = .bool false ∧ w' = w5.drew) (HC7.out.mono fun e w' h => ⟨_, h.1, rfl, h.2⟩) ?_
                        rintro v w6 ⟨rfl, rfl⟩
                        refine hK.out _ _ hD0 fun hHeld6 => ?_
                        clear hK HC7
                        simp only [Act.put, List.setIfInBounds_toArray, List.set_cons_zero, List.set_cons_succ]
                        refine wpAnyH_take (i := 3) (oi := ⟨some 71, Op.unOp UnOp.not 4 (Operand.tmp 70), 4, _, _, none⟩) (v := .bool true) rfl (by kernel_rfl) (by kernel_rfl) (by kernel_rfl) (fun _ _ _ h => h) (Or.inl ⟨by rfl, fun w hS => by go_simp⟩) hHeld6 ?_
                        simp only [Act.put, List.setIfInBounds_toArray, List.set_cons_zero, List.set_cons_succ]
                        refine wpAnyH_take (i := 4) (oi := ⟨some 72, Op.move (Operand.tmp 71), 4, _, _, none⟩) (v := .bool true) rfl (by kernel_rfl) (by kernel_rfl) (by kernel_rfl) (fun _ _ _ h => h) (Or.inl ⟨by rfl, fun w hS => by go_simp⟩) hHeld6 ?_
                        simp only [Act.put, List.setIfInBounds_toArray, List.set_cons_zero, List.set_cons_succ]
                        refine wpAnyH_take (i := 5) (oi := ⟨some 73, Op.fieldAddr 28 (Operand.tmp 1) 5, 0, _, _, some (4, false)⟩) (v := undef) rfl (by kernel_rfl) (by kernel_rfl) (by kernel_rfl) (fun _ _ _ h => h) (Or.inr ⟨by rfl, rfl⟩) hHeld6 ?_
                        simp only [Act.put, List.setIfInBounds_toArray, List.set_cons_zero, List.set_cons_succ]
                        refine wpAnyH_take (i := 6) (oi := ⟨some 74, Op.load 26 (Operand.tmp 73), 26, _, _, some (4, false)⟩) (v := undef) rfl (by kernel_rfl) (by kernel_rfl) (by kernel_rfl) (fun _ _ _ h => h) (Or.inr ⟨by rfl, rfl⟩) hHeld6 ?_
                        simp only [Act.put, List.setIfInBounds_toArray, List.set_cons_zero, List.set_cons_succ]
                        refine wpAnyH_take (i := 7) (oi := ⟨some 75, Op.call { callee := Callee.value (Operand.func 25), args := #[Operand.tmp 74], argTypes := #[26] }, 3, _, _, some (4, false)⟩) (v := undef) rfl (by kernel_rfl) (by kernel_rfl) (by kernel_rfl) (fun _ _ _ h => h) (Or.inr ⟨by rfl, rfl⟩) hHeld6 ?_
                        simp only [Act.put, List.setIfInBounds_toArray, List.set_cons_zero, List.set_cons_succ]
                        refine wpAnyH_take (i := 8) (oi := ⟨some 76, Op.fieldAddr 28 (Operand.tmp 1) 5, 0, _, _, some (4, false)⟩) (v := undef) rfl (by kernel_rfl) (by kernel_rfl) (by kernel_rfl) (fun _ _ _ h => h) (Or.inr ⟨by rfl, rfl⟩) hHeld6 ?_
                        simp only [Act.put, List.setIfInBounds_toArray, List.set_cons_zero, List.set_cons_succ]
                        refine wpAnyH_take (i := 9) (oi := ⟨some 77, Op.load 26 (Operand.tmp 76), 26, _, _, some (4, false)⟩) (v := undef) rfl (by kernel_rfl) (by kernel_rfl) (by kernel_rfl) (fun _ _ _ h => h) (Or.inr ⟨by rfl, rfl⟩) hHeld6 ?_
                        simp only [Act.put, List.setIfInBounds_toArray, List.set_cons_zero, List.set_cons_succ]
                        refine wpAnyH_take (i := 10) (oi := ⟨some 78, Op.call { callee := Callee.builtin Builtin.len, args := #[Operand.tmp 77], argTypes := #[26] }, 3, _, _, some (4, false)⟩) (v := undef) rfl (by kernel_rfl) (by kernel_rfl) (by kernel_rfl) (fun _ _ _ h => h) (Or.inr ⟨by rfl, rfl⟩) hHeld6 ?_
                        simp only [Act.put, List.setIfInBounds_toArray, List.set_cons_zero, List.set_cons_succ]
                        refine wpAnyH_take (i := 11) (oi := ⟨some 79, Op.binOp BinOp.lss 3 (Operand.tmp 75) (Operand.tmp 78) 3, 4, _, _, some (4, false)⟩) (v := undef) rfl (by kernel_rfl) (by kernel_rfl) (by kernel_rfl) (fun _ _ _ h => h) (Or.inr ⟨by rfl, rfl⟩) hHeld6 ?_
                        simp only [Act.put, List.setIfInBounds_toArray, List.set_cons_zero, List.set_cons_succ]
                        refine wpAnyH_take (i := 12) (oi := ⟨some 80, Op.pick (Operand.tmp 72) (Operand.const (Value.bool true)) (Operand.tmp 79), 4, _, _, none⟩) (v := .bool true) rfl (by kernel_rfl) (by kernel_rfl) (by kernel_rfl) (fun _ _ _ h => h) (Or.inl ⟨by rfl, fun w hS => by go_simp⟩) hHeld6 ?_
                        simp only [Act.put, List.setIfInBounds_toArray, List.set_cons_zero, List.set_cons_succ]
                        refine wpAnyH_take (i := 13) (oi := ⟨some 67, Op.assign (Operand.tmp 80), 4, _, _, none⟩) (v := .bool true) rfl (by kernel_rfl) (by kernel_rfl) (by kernel_rfl) (fun _ _ _ h => h) (Or.inl ⟨by rfl, fun w hS => by go_simp⟩) hHeld6 ?_
                        simp only [Act.put, List.setIfInBounds_toArray, List.set_cons_zero, List.set_cons_succ]
                        refine wpAnyH_done (by kernel_rfl) ?_ _
                        refine hK37 _ _ ?_
                        refine wp_cond_true rfl ?_
                        refine wp_seq_k fun K40 hK40 => ?_
                        refine wp_region_list (WL.out ?_)
                        refine WL.val (by kernel_rfl) (.int .i64 4) (by go_simp) ?_
                        simp only [Act.put, List.setIfInBounds_toArray, List.set_cons_zero, List.set_cons_succ]
                        refine WL.nil ?_
                        refine hK40 _ _ ?_
                        refine wp_ret ?_
                        go_ret
                        first | exact ⟨by rw [HR.out]; (simp [*] <;> simp [hasI]), by rw [← HgE.out]; exact B2.out⟩ | exact ⟨by rw [HR.out]; (simp [*] <;> simp [hasI]), by rw [← HgE.out]; exact B3.out⟩ | exact ⟨by rw [HR.out]; (simp [*] <;> simp [hasI]), by rw [← HgE.out]; exact B4.out⟩ | exact ⟨by rw [HR.out]; (simp [*] <;> simp [hasI]), by rw [← HgE.out]; exact B5.out⟩ | exact ⟨by rw [HR.out]; (simp [*] <;> simp [hasI]), by rw [← HgE.out]; exact B5.out.drew⟩
                · skip
                  refine wp_region_list (WL.out ?_)
                  refine WL.val (by kernel_rfl) (.pointer (some ⟨g, 1, none⟩)) (by go_simp) ?_
                  simp only [Act.put, List.setIfInBounds_toArray, List.set_cons_zero, List.set_cons_succ]
                  refine WL.val (by kernel_rfl) (.slice ha M.hd.length hk) (by go_simp) ?_
                  simp only [Act.put, List.setIfInBounds_toArray, List.set_cons_zero, List.set_cons_succ]
                  refine WL.callF (by kernel_rfl) 22 _ _ rfl Try.in22 #[.slice ha M.hd.length hk] (by simp [Act.eval]) ?_
                  refine (HC4.out).mono ?_
                  rintro e w4 ⟨rfl, hb4⟩
                  refine ⟨_, rfl, ?_⟩
                  clear HC4
                  have HM4 := Keep.mk (HM3.out.below hb4 HM3.out.lt)
                  have HA4 := Keep.mk (HA3.out.below hb4)
                  have B4 : Keep (Below g w w4) := ⟨B3.out.trans (hb4.mono (by rw [HgE.out]; exact B3.out.size))⟩
                  clear g0 g1 g3 g4 g5
                  have g0 := HM4.out.c 0 (ms_0 c)
                  have g1 := HM4.out.c 1 (ms_1 c)
                  have g3 := HM4.out.c 3 (ms_3 c)
                  have g4 := HM4.out.c 4 (ms_4 c)
                  have g5 := HM4.out.c 5 (ms_5 c)
                  rw [Ek.out] at g0
                  rw [E1.out] at g1
                  rw [E3.out] at g3
                  rw [E4.out] at g4
                  rw [E5.out] at g5
                  clear hb4
                  simp only [Act.put, List.setIfInBounds_toArray, List.set_cons_zero, List.set_cons_succ]
                  refine WL.val (by kernel_rfl) (.bool false) (by go_simp) ?_
                  simp only [Act.put, List.setIfInBounds_toArray, List.set_cons_zero, List.set_cons_succ]
                  refine WL.val (by kernel_rfl) (.bool false) (by go_simp) ?_
                  simp only [Act.put, List.setIfInBounds_toArray, List.set_cons_zero, List.set_cons_succ]
                  refine WL.val (by kernel_rfl) (.pointer (some ⟨g, 4, none⟩)) (by go_simp) ?_
                  simp only [Act.put, List.setIfInBounds_toArray, List.set_cons_zero, List.set_cons_succ]
                  refine WL.val (by kernel_rfl) (.slice wa M.wt.length wk) (by go_simp) ?_
                  simp only [Act.put, List.setIfInBounds_toArray, List.set_cons_zero, List.set_cons_succ]
                  have HC5 := Keep.mk (rising_any (.slice wa M.wt.length wk) M.wt w4 (by have h := HA4.out.wt; rw [E4.out] at h; exact h) (by have := HOk.out.wt; omega))
                  rw [hD] at HC5
                  refine WL.callF (by kernel_rfl) 22 _ _ rfl Try.in22 #[.slice wa M.wt.length wk] (by simp [Act.eval]) ?_
                  refine (HC5.out).mono ?_
                  rintro e w5 ⟨rfl, hb5⟩
                  refine ⟨_, rfl, ?_⟩
                  clear HC5
                  have HM5 := Keep.mk (HM4.out.below hb5 HM4.out.lt)
                  have HA5 := Keep.mk (HA4.out.below hb5)
                  have B5 : Keep (Below g w w5) := ⟨B4.out.trans (hb5.mono (by rw [HgE.out]; exact B4.out.size))⟩
                  clear g0 g1 g3 g4 g5
                  have g0 := HM5.out.c 0 (ms_0 c)
                  have g1 := HM5.out.c 1 (ms_1 c)
                  have g3 := HM5.out.c 3 (ms_3 c)
                  have g4 := HM5.out.c 4 (ms_4 c)
                  have g5 := HM5.out.c 5 (ms_5 c)
                  rw [Ek.out] at g0
                  rw [E1.out] at g1
                  rw [E3.out] at g3
                  rw [E4.out] at g4
                  rw [E5.out] at g5
                  clear hb5
                  simp only [Act.put, List.setIfInBounds_toArray, List.set_cons_zero, List.set_cons_succ]
                  refine WL.val (by kernel_rfl) (.bool true) (by go_simp) ?_
                  simp only [Act.put, List.setIfInBounds_toArray, List.set_cons_zero, List.set_cons_succ]
                  refine WL.val (by kernel_rfl) (.bool true) (by go_simp) ?_
                  simp only [Act.put, List.setIfInBounds_toArray, List.set_cons_zero, List.set_cons_succ]
                  refine WL.val (by kernel_rfl) (.bool true) (by go_simp) ?_
                  simp only [Act.put, List.setIfInBounds_toArray, List.set_cons_zero, List.set_cons_succ]
                  refine WL.nil ?_
                  refine hK26 _ _ ?_
                  refine wp_cond_true rfl ?_
                  refine wp_seq_k fun K41 hK41 => ?_
                  refine wp_region_list (WL.out ?_)
                  refine WL.val (by kernel_rfl) (.int .i64 130) (by go_simp) ?_
                  simp only [Act.put, List.setIfInBounds_toArray, List.set_cons_zero, List.set_cons_succ]
                  refine WL.nil ?_
                  refine hK41 _ _ ?_
                  refine wp_ret ?_
                  go_ret
                  first | exact ⟨by rw [HR.out]; (simp [*] <;> simp [hasI]), by rw [← HgE.out]; exact B2.out⟩ | exact ⟨by rw [HR.out]; (simp [*] <;> simp [hasI]), by rw [← HgE.out]; exact B3.out⟩ | exact ⟨by rw [HR.out]; (simp [*] <;> simp [hasI]), by rw [← HgE.out]; exact B4.out⟩ | exact ⟨by rw [HR.out]; (simp [*] <;> simp [hasI]), by rw [← HgE.out]; exact B5.out⟩ | exact ⟨by rw [HR.out]; (simp [*] <;> simp [hasI]), by rw [← HgE.out]; exact B5.out.drew⟩
              · have HC4 := Keep.mk (rising_any (.slice ha M.hd.length hk) M.hd w3 (by have h := HA3.out.hd; rw [E1.out] at h; exact h) (by have := HOk.out.hd; omega))
                rw [hC] at HC4
                refine wp_region_list (WL.out ?_)
                refine WL.val (by kernel_rfl) (.pointer (some ⟨g, 1, none⟩)) (by go_simp) ?_
                simp only [Act.put, List.setIfInBounds_toArray, List.set_cons_zero, List.set_cons_succ]
                refine WL.val (by kernel_rfl) (.slice ha M.hd.length hk) (by go_simp) ?_
                simp only [Act.put, List.setIfInBounds_toArray, List.set_cons_zero, List.set_cons_succ]
                refine WL.callF (by kernel_rfl) 22 _ _ rfl Try.in22 #[.slice ha M.hd.length hk] (by simp [Act.eval]) ?_
                refine (HC4.out).mono ?_
                rintro e w4 ⟨rfl, hb4⟩
                refine ⟨_, rfl, ?_⟩
                clear HC4
                have HM4 := Keep.mk (HM3.out.below hb4 HM3.out.lt)
                have HA4 := Keep.mk (HA3.out.below hb4)
                have B4 : Keep (Below g w w4) := ⟨B3.out.trans (hb4.mono (by rw [HgE.out]; exact B3.out.size))⟩
                clear g0 g1 g3 g4 g5
                have g0 := HM4.out.c 0 (ms_0 c)
                have g1 := HM4.out.c 1 (ms_1 c)
                have g3 := HM4.out.c 3 (ms_3 c)
                have g4 := HM4.out.c 4 (ms_4 c)
                have g5 := HM4.out.c 5 (ms_5 c)
                rw [Ek.out] at g0
                rw [E1.out] at g1
                rw [E3.out] at g3
                rw [E4.out] at g4
                rw [E5.out] at g5
                clear hb4
                simp only [Act.put, List.setIfInBounds_toArray, List.set_cons_zero, List.set_cons_succ]
                refine WL.val (by kernel_rfl) (.bool true) (by go_simp) ?_
                simp only [Act.put, List.setIfInBounds_toArray, List.set_cons_zero, List.set_cons_succ]
                refine WL.val (by kernel_rfl) (.bool true) (by go_simp) ?_
                simp only [Act.put, List.setIfInBounds_toArray, List.set_cons_zero, List.set_cons_succ]
                refine WL.skip (by kernel_rfl) ?_
                simp only [Act.put, List.setIfInBounds_toArray, List.set_cons_zero, List.set_cons_succ]
                refine WL.skip (by kernel_rfl) ?_
                simp only [Act.put, List.setIfInBounds_toArray, List.set_cons_zero, List.set_cons_succ]
                refine WL.skip (by kernel_rfl) ?_
                simp only [Act.put, List.setIfInBounds_toArray, List.set_cons_zero, List.set_cons_succ]
                refine WL.skip (by kernel_rfl) ?_
                simp only [Act.put, List.setIfInBounds_toArray, List.set_cons_zero, List.set_cons_succ]
                refine WL.val (by kernel_rfl) (.bool true) (by go_simp) ?_
                simp only [Act.put, List.setIfInBounds_toArray, List.set_cons_zero, List.set_cons_succ]
                refine WL.val (by kernel_rfl) (.bool true) (by go_simp) ?_
                simp only [Act.put, List.setIfInBounds_toArray, List.set_cons_zero, List.set_cons_succ]
                refine WL.nil ?_
                refine hK26 _ _ ?_
                refine wp_cond_true rfl ?_
                refine wp_seq_k fun K42 hK42 => ?_
                refine wp_region_list (WL.out ?_)
                refine WL.val (by kernel_rfl) (.int .i64 130) (by go_simp) ?_
                simp only [Act.put, List.setIfInBounds_toArray, List.set_cons_zero, List.set_cons_succ]
                refine WL.nil ?_
                refine hK42 _ _ ?_
                refine wp_ret ?_
                go_ret
                first | exact ⟨by rw [HR.out]; (simp [*] <;> simp [hasI]), by rw [← HgE.out]; exact B2.out⟩ | exact ⟨by rw [HR.out]; (simp [*] <;> simp [hasI]), by rw [← HgE.out]; exact B3.out⟩ | exact ⟨by rw [HR.out]; (simp [*] <;> simp [hasI]), by rw [← HgE.out]; exact B4.out⟩ | exact ⟨by rw [HR.out]; (simp [*] <;> simp [hasI]), by rw [← HgE.out]; exact B5.out⟩ | exact ⟨by rw [HR.out]; (simp [*] <;> simp [hasI]), by rw [← HgE.out]; exact B5.out.drew⟩
def hsL (l : List Hs) : List Int := numL l.length ++ l.flatMap hB
def saltP (s : Int) (t : Nat) : List Int := (List.range t).map fun i => s / 256 ^ i % 256
def bkL (l : List (List Int)) : List Int := numL l.length ++ l.flatMap bform
def putF (i : Nat) (M : MsgV) : List Int := if i = 0 then hsL M.hd else if i = 1 then saltP M.sa 8 else if i = 2 then bform M.bl else if i = 3 then hsL M.wt else bkL M.bk
def encM (M : MsgV) : List Int := [M.k] ++ (hasI M.k).flatMap fun i => putF i M
def Fr (B : Nat) (v : Value) : Prop := ∀ k, v.ownBlock = some k → B ≤ k
structure PS (B p : Nat) (v : Value) (w0 w : World) (L : List Int) (vr : Value) (wr : World) : Prop where
  o : OutAt wr p vr L
  f : Fr B vr
  b : Below B w0 wr
  m : Moved w v vr
  g : Grown w wr (OF p v)
def PPost (B p : Nat) (v : Value) (w0 w : World) (L : List Int) (e : Ending) (w' : World) : Prop := e = .returned (.tuple #[]) ∧ ∃ v', PS B p v w0 w L v' w'
theorem PS.start {B p : Nat} {v : Value} {L : List Int} {w0 w : World} (h : OutAt w p v L) (hf : Fr B v) (hb : Below B w0 w) : PS B p v w0 w L v w := ⟨h, hf, hb, Moved.refl _ _, Grown.refl _ _⟩
theorem PS.call {B p : Nat} {v vr : Value} {L L' : List Int} {w0 w wr w' : World} {e : Ending} (hs : PS B p v w0 w L vr wr) (h : OutPost p vr L' wr e w') (hB : B ≤ w0.heap.size) (hp : B ≤ p) : PPost B p v w0 w L' e w' := by
  have h0 := h.trans hs.m hs.g
  obtain ⟨he, v', h1, h2, h3⟩ := h
  obtain ⟨_, v'', i1, i2, i3⟩ := OutPost.trans hs.m hs.g (e := .returned (.tuple #[])) ⟨rfl, v', h1, h2, h3⟩
  refine ⟨he, v', h1, fun k hk => ?_, hs.b.trans (h3.to_below (B := B) (fun k hk ho => ?_) (Nat.le_trans hB hs.b.size)), hs.m.trans hs.g.size h2, i3⟩
  · rcases h2 with h2 | ⟨j, hj, h2⟩
    · exact hs.f k (by rw [← h2]; exact hk)
    · rw [hk] at hj
      have : k = j := by injection hj
      subst this
      exact Nat.le_trans (Nat.le_trans hB hs.b.size) h2
  · rcases ho with rfl | ho
    · omega
    · have := hs.f k ho
      omega
theorem PS.alloc {B p : Nat} {v vr : Value} {L : List Int} {w0 w wr : World} (h : PS B p v w0 w L vr wr) (hB : B ≤ w0.heap.size) (ob : Obj) : PS B p v w0 w L vr (wr.alloc ob) :=
  ⟨h.o.box ob, h.f, h.b.trans ((below_new wr _).mono (Nat.le_trans hB h.b.size)), h.m, h.g.trans (Grown.alloc wr ob _)⟩
theorem PS.below {B p : Nat} {v vr : Value} {L : List Int} {w0 w wr w' : World} (h : PS B p v w0 w L vr wr) (hB : B ≤ w0.heap.size) (hb : Below wr.heap.size wr w') : PS B p v w0 w L vr w' :=
  ⟨h.o.grown (Grown.below (S := fun _ => False) hb) fun _ _ h => h, h.f, h.b.trans (hb.mono (Nat.le_trans hB h.b.size)), h.m, h.g.trans (Grown.below hb)⟩
theorem PS.setRow {B p : Nat} {v vr : Value} {L : List Int} {w0 w wr : World} (h : PS B p v w0 w L vr wr) (gn : Nat) (cs : Array Value) (h1 : w.heap.size ≤ gn) (h2 : B ≤ gn) (h3 : gn ≠ p) (h4 : vr.ownBlock ≠ some gn) : PS B p v w0 w L vr (wr.setRow gn cs) :=
  ⟨h.o.grown (Grown.setRow wr gn cs (S := fun k => k = gn) fun _ => rfl) fun k hk e => by rcases hk with hk | hk; exact h3 (e.symm.trans hk); rw [e] at hk; exact h4 hk, h.f, below_setRow h.b h2 _, h.m, h.g.next (Grown.setRow wr gn cs (S := fun k => k = gn) fun _ => rfl) fun i hi e => by omega⟩
theorem PS.cast {B p : Nat} {v vr : Value} {L L' : List Int} {w0 w wr : World} (h : PS B p v w0 w L vr wr) (e : L = L') : PS B p v w0 w L' vr wr := e ▸ h
theorem PPost.up {B p : Nat} {v vr : Value} {L L' : List Int} {w0 w wr w' : World} {e : Ending} (hs : PS B p v w0 w L vr wr) (h : PPost B p vr w0 wr L' e w') : PPost B p v w0 w L' e w' := by
  obtain ⟨he, v', h1⟩ := h
  obtain ⟨_, v'', i1, i2, i3⟩ := OutPost.trans hs.m hs.g (e := .returned (.tuple #[])) ⟨rfl, v', h1.o, h1.m, h1.g⟩
  exact ⟨he, v', h1.o, h1.f, h1.b, hs.m.trans hs.g.size h1.m, i3⟩
theorem row_lt {w : World} {v : Value} {l : List Int} (h : RowAt w v l) (h0 : 0 < l.length) {k : Nat} (hk : v.ownBlock = some k) : k < w.heap.size := by
  rcases h with ⟨rfl, rfl⟩ | ⟨a, c, rfl, rfl⟩ | ⟨b, off, cap, rfl, h1, h2⟩
  · simp at h0
  · simp at h0
  · have : b = k := by simpa [Value.ownBlock] using hk
    subst this
    exact cell_lt (h2 0 h0)
theorem HRow.at' {w w' : World} {B : Nat} {a : Option Addr} {n c : Nat} {l : List Hs} (h : Sh.HRow w (.slice a n c) l) (t : Nat) (ht : t < l.length) (hB : w.heap.size ≤ B) (hb : Below B w w') : ∃ b o, a = some ⟨b, o, none⟩ ∧ w'.rangeAt b (o + t * 32) (Sh.encH (l.getD t default)) := by
  obtain ⟨b, o, rfl, _, _, h1⟩ := h.at (by omega)
  refine ⟨b, o, rfl, ?_⟩
  rw [List.getD_eq_getElem?_getD, List.getElem?_eq_getElem ht]
  exact Sh.rangeAt_below (Sh.rangeAt_elem h1 t ht) (hb.mono hB) (Sh.rangeAt_lt h1 (by omega))
theorem fm_step {α : Type} (f : α → List Int) (l : List α) (t : Nat) (x : α) (h : l[t]? = some x) : (l.take (t + 1)).flatMap f = (l.take t).flatMap f ++ f x := by
  rw [List.take_add_one, h]; simp
theorem fm_le {α : Type} (f : α → List Int) (l : List α) (t : Nat) : ((l.take t).flatMap f).length ≤ (l.flatMap f).length := by
  conv => rhs; rw [← List.take_append_drop t l]
  rw [List.flatMap_append, List.length_append]; omega
theorem Try.in76 (w : World) (vs : Array Value) : (callFunc 76 vs).run Try.prog w = .ok (.enter 76 vs) w := by kernel_rfl
theorem Try.in81 (w : World) (vs : Array Value) : (callFunc 81 vs).run Try.prog w = .ok (.enter 81 vs) w := by kernel_rfl
theorem Try.in94 (w : World) (vs : Array Value) : (callFunc 94 vs).run Try.prog w = .ok (.enter 94 vs) w := by kernel_rfl
theorem Try.in102 (w : World) (vs : Array Value) : (callFunc 102 vs).run Try.prog w = .ok (.enter 102 vs) w := by kernel_rfl
theorem Try.in103 (w : World) (vs : Array Value) : (callFunc 103 vs).run Try.prog w = .ok (.enter 103 vs) w := by kernel_rfl
theorem Try.in27 (w : World) (vs : Array Value) : (callFunc 27 vs).run Try.prog w = .ok (.enter 27 vs) w := by kernel_rfl
theorem Try.in86 (w : World) (vs : Array Value) : (callFunc 86 vs).run Try.prog w = .ok (.enter 86 vs) w := by kernel_rfl
theorem Try.in28 (w : World) (vs : Array Value) : (callFunc 28 vs).run Try.prog w = .ok (.enter 28 vs) w := by kernel_rfl
theorem Try.in26 (w : World) (vs : Array Value) : (callFunc 26 vs).run Try.prog w = .ok (.enter 26 vs) w := by kernel_rfl
theorem Try.in11 (w : World) (vs : Array Value) : (callFunc 11 vs).run Try.prog w = .ok (.enter 11 vs) w := by kernel_rfl
set_option maxRecDepth 8000 in
set_option maxHeartbeats 2000000 in
theorem putHashes_any (B p : Nat) (v : Value) (L : List Int) (w0 w : World) (hw0 : B ≤ w0.heap.size) (hs0 : w0.heap.size ≤ B) (hb : Below B w0 w) (hO : OutAt w p v L) (hp : B ≤ p) (hf : Fr B v) (vl : Value) (l : List Hs) (hr : Sh.HRow w0 vl l) (hn : l.length ≤ 140737488355328) (hl : (L ++ hsL l).length ≤ 140737488355328) :
    Calls Try.prog 76 #[ptr p, vl] w (PPost B p v w0 w (L ++ hsL l)) := by
  obtain ⟨pa, pc, rfl⟩ := hr.form
  have HS0 : Keep (PS B p v w0 w L v w) := ⟨PS.start hO hf hb⟩
  have HO := Keep.mk hO
  have Hw0 := Keep.mk hw0
  have Hs0 := Keep.mk hs0
  have Hb := Keep.mk hb
  have Hp := Keep.mk hp
  have HF := Keep.mk hf
  have HR := Keep.mk hr
  have HN := Keep.mk hn
  have HL := Keep.mk hl
  have hwn : IntKind.u64.wrap (l.length : Int) = (l.length : Int) := by rw [IntKind.wrap_u64]; omega
  have hni : (l.length : Int) ≤ 9223372036854775807 := by omega
  clear hO hw0 hs0 hb hp hf hr hn hl
  unfold hsL
  go_enter Try.func76, Try.ntmps76
  refine wp_seq_k fun K1 hK1 => ?_
  refine wp_region_list (WL.out ?_)
  refine WL.val (by kernel_rfl) (.pointer (some ⟨p, 0, none⟩)) (by go_simp) ?_
  simp only [Act.put, List.setIfInBounds_toArray, List.set_cons_zero, List.set_cons_succ]
  refine WL.val (by kernel_rfl) (.slice pa l.length pc) (by go_simp) ?_
  simp only [Act.put, List.setIfInBounds_toArray, List.set_cons_zero, List.set_cons_succ]
  refine WL.val (by kernel_rfl) (.int .i64 (l.length : Int)) (by go_simp) ?_
  simp only [Act.put, List.setIfInBounds_toArray, List.set_cons_zero, List.set_cons_succ]
  refine WL.val (by kernel_rfl) (.int .u64 (l.length : Int)) (by go_simp) ?_
  simp only [Act.put, List.setIfInBounds_toArray, List.set_cons_zero, List.set_cons_succ]
  refine WL.callF (by kernel_rfl) 102 _ _ rfl Try.in102 #[ptr p, .int .u64 (l.length : Int)] (by simp [Act.eval]) ?_
  refine (onum_any p v L l.length w HO.out (by have := HN.out; omega) (by have := HL.out; rw [hsL, List.length_append, List.length_append] at this; rw [List.length_append]; omega)).mono ?_
  intro e w1 hp1
  obtain ⟨rfl, v1, hP1⟩ := HS0.out.call hp1 Hw0.out Hp.out
  refine ⟨_, rfl, ?_⟩
  have HP1 : Keep (PS B p v w0 w (L ++ (numL l.length ++ (l.take 0).flatMap hB)) v1 w1) := ⟨hP1.cast (by simp)⟩
  clear hp1 hP1
  simp only [Act.put, List.setIfInBounds_toArray, List.set_cons_zero, List.set_cons_succ]
  refine WL.nil ?_
  refine hK1 _ _ ?_
  refine wp_seq_k fun K2 hK2 => ?_
  refine wp_region_list (WL.out ?_)
  refine WL.val (by kernel_rfl) (.slice pa l.length pc) (by go_simp) ?_
  simp only [Act.put, List.setIfInBounds_toArray, List.set_cons_zero, List.set_cons_succ]
  refine WL.val (by kernel_rfl) (.int .i64 (l.length : Int)) (by go_simp) ?_
  simp only [Act.put, List.setIfInBounds_toArray, List.set_cons_zero, List.set_cons_succ]
  refine WL.val (by kernel_rfl) (.int .i64 0) (by go_simp) ?_
  simp only [Act.put, List.setIfInBounds_toArray, List.set_cons_zero, List.set_cons_succ]
  refine WL.nil ?_
  refine hK2 _ _ ?_
  refine wp_block ?_
  refine wp_loop (fun ac wr => ∃ (t : Nat) (u5 u14 u15 u16 u17 u18 u19 u20 : Value), ac = { tmps := #[.pointer (some ⟨p, 0, none⟩), .slice pa l.length pc, undef, undef, undef, u5, .pointer (some ⟨p, 0, none⟩), .slice pa l.length pc, .int .i64 (l.length : Int), .int .u64 (l.length : Int), .tuple #[], .slice pa l.length pc, .int .i64 (l.length : Int), .int .i64 (t : Int), u14, u15, u16, u17, u18, u19, u20], defers := [] } ∧ t ≤ l.length ∧ ∃ vr, Keep (PS B p v w0 w (L ++ (numL l.length ++ (l.take t).flatMap hB)) vr wr)) (fun a _ => l.length - (intOf (a.tmps.getD 13 undef)).toNat) ⟨0, undef, undef, undef, undef, undef, undef, undef, undef, rfl, by omega, v1, HP1⟩ ?_
  rintro ac wr ⟨t, u5, u14, u15, u16, u17, u18, u19, u20, rfl, ht, vr, HPr⟩
  by_cases hlt : t < l.length
  · have hlt' : (t : Int) < (l.length : Int) := by omega
    have hwt : IntKind.i64.wrap ((t : Int) + 1) = (t : Int) + 1 := by rw [IntKind.wrap_i64]; have := HN.out; omega
    obtain ⟨b, o, hpa, hrg⟩ := HRow.at' HR.out t hlt Hs0.out HPr.out.b
    subst hpa
    have Hrg := Keep.mk hrg
    clear hrg
    obtain ⟨x, hx⟩ : ∃ x, x = l.getD t default := ⟨_, rfl⟩
    rw [← hx] at Hrg
    have Hx : Keep (l[t]? = some x) := ⟨by rw [hx, List.getD_eq_getElem?_getD, List.getElem?_eq_getElem hlt]; rfl⟩
    clear hx
    refine wp_seq_k fun K3 hK3 => ?_
    refine wp_region_list (WL.out ?_)
    refine WL.val (by kernel_rfl) (.bool true) (by go_simp) ?_
    simp only [Act.put, List.setIfInBounds_toArray, List.set_cons_zero, List.set_cons_succ]
    refine WL.nil ?_
    refine hK3 _ _ ?_
    refine wp_seq_k fun K4 hK4 => ?_
    refine wp_cond_true rfl ?_
    refine wp_skip ?_
    refine hK4 _ _ ?_
    refine wp_seq_k fun K5 hK5 => ?_
    refine wp_block ?_
    refine wp_seq_k fun K6 hK6 => ?_
    refine wp_region_list (WL.out ?_)
    refine WL.val (by kernel_rfl) (.pointer (some ⟨b, o + t * 32, none⟩)) (by go_simp) ?_
    simp only [Act.put, List.setIfInBounds_toArray, List.set_cons_zero, List.set_cons_succ]
    refine WL.mid (by kernel_rfl) 101 (.tmp 15) rfl b (o + t * 32) rfl (Sh.encH x) _ Hrg.out Try.underlying101 rfl (Sh.Try.size101L x) ?_
    rw [Sh.encH_arr]
    simp only [Act.put, List.setIfInBounds_toArray, List.set_cons_zero, List.set_cons_succ]
    refine WL.new (by kernel_rfl) 101 rfl _ Try.new101 ?_
    have HXn := Keep.mk (Blk.new wr 101 (bytesA 32 fun _ => 0))
    have HPn := Keep.mk (HPr.out.alloc Hw0.out (.cells (bytesA 32 fun _ => 0) 101))
    have Hgn : Keep (B ≤ wr.heap.size ∧ wr.heap.size ≠ p ∧ vr.ownBlock ≠ some wr.heap.size ∧ w.heap.size ≤ wr.heap.size) := ⟨Nat.le_trans Hw0.out HPr.out.b.size, fun e => by have := HPr.out.o.blk.lt; omega, fun e => by have := HPr.out.o.own.lt _ e; omega, HPr.out.g.size⟩
    generalize wr.alloc (.cells (bytesA 32 fun _ => 0) 101) = wn at *
    generalize wr.heap.size = gn at *
    simp only [Act.put, List.setIfInBounds_toArray, List.set_cons_zero, List.set_cons_succ]
    refine WL.storeR (by kernel_rfl) 101 (.tmp 5) (.tmp 16) rfl gn (bytesA 32 x.f) rfl rfl 101 (bytesA 32 fun _ => 0) HXn.out (Try.size101B _) (bytesA_sizes _ _ _) (bytesA_one _ _) ?_
    have HX2 := Keep.mk (HXn.out.setRow (bytesA 32 x.f))
    have HP2 := Keep.mk (HPn.out.setRow gn (bytesA 32 x.f) Hgn.out.2.2.2 Hgn.out.1 Hgn.out.2.1 Hgn.out.2.2.1)
    generalize wn.setRow gn (bytesA 32 x.f) = w2 at *
    simp only [Act.put]
    refine WL.nil ?_
    refine hK6 _ _ ?_
    refine wp_region_list (WL.out ?_)
    refine WL.val (by kernel_rfl) (.pointer (some ⟨p, 0, none⟩)) (by go_simp) ?_
    simp only [Act.put, List.setIfInBounds_toArray, List.set_cons_zero, List.set_cons_succ]
    refine WL.row (by kernel_rfl) 101 (.tmp 5) rfl gn rfl 101 (bytesA 32 x.f) _ HX2.out Try.underlying101 rfl (Try.size101B _) ?_
    simp only [Act.put, List.setIfInBounds_toArray, List.set_cons_zero, List.set_cons_succ]
    refine WL.callF (by kernel_rfl) 103 _ _ rfl Try.in103 #[ptr p, .agg (bytesA 32 x.f)] (by simp [Act.eval]) ?_
    refine (ohash_any p vr _ x.f w2 HP2.out.o (by have := HL.out; have h2 := fm_le hB l (t + 1); rw [fm_step hB l t x Hx.out, List.length_append, hB_len] at h2; rw [hsL, List.length_append, List.length_append] at this; rw [List.length_append, List.length_append]; omega)).mono ?_
    intro e w3 hp3
    obtain ⟨rfl, v3, hP3⟩ := HP2.out.call hp3 Hw0.out Hp.out
    refine ⟨_, rfl, ?_⟩
    have HP3 : Keep (PS B p v w0 w (L ++ (numL l.length ++ (l.take (t + 1)).flatMap hB)) v3 w3) := ⟨hP3.cast (by rw [fm_step hB l t x Hx.out]; simp only [List.append_assoc]; rfl)⟩
    clear hp3 hP3
    simp only [Act.put, List.setIfInBounds_toArray, List.set_cons_zero, List.set_cons_succ]
    refine WL.nil ?_
    refine hK5 _ _ ?_
    refine wp_region_list (WL.out ?_)
    refine WL.val (by kernel_rfl) (.int .i64 ((t : Int) + 1)) (by go_simp) ?_
    simp only [Act.put, List.setIfInBounds_toArray, List.set_cons_zero, List.set_cons_succ]
    refine WL.val (by kernel_rfl) (.int .i64 ((t : Int) + 1)) (by go_simp) ?_
    simp only [Act.put, List.setIfInBounds_toArray, List.set_cons_zero, List.set_cons_succ]
    refine WL.nil ?_
    refine ⟨⟨t + 1, .pointer (some ⟨gn, 0, none⟩), .bool true, .pointer (some ⟨b, o + t * 32, none⟩), .agg (bytesA 32 x.f), .pointer (some ⟨p, 0, none⟩), .agg (bytesA 32 x.f), .tuple #[], .int .i64 ((t : Int) + 1), rfl, by omega, v3, HP3⟩, by simp [intOf]; omega⟩
  · obtain rfl : t = l.length := by omega
    refine wp_seq_k fun K7 hK7 => ?_
    refine wp_region_list (WL.out ?_)
    refine WL.val (by kernel_rfl) (.bool false) (by go_simp) ?_
    simp only [Act.put, List.setIfInBounds_toArray, List.set_cons_zero, List.set_cons_succ]
    refine WL.nil ?_
    refine hK7 _ _ ?_
    refine wp_seq_k fun K8 hK8 => ?_
    refine wp_cond_false rfl ?_
    refine wp_exit ?_
    go_end0
    rw [List.take_length] at HPr
    exact ⟨rfl, vr, HPr.out⟩
set_option maxRecDepth 8000 in
set_option maxHeartbeats 2000000 in
theorem putBlocks_any (B p : Nat) (v : Value) (L : List Int) (w0 w : World) (hw0 : B ≤ w0.heap.size) (hs0 : w0.heap.size ≤ B) (hb : Below B w0 w) (hO : OutAt w p v L) (hp : B ≤ p) (hf : Fr B v) (vl : Value) (l : List (List Int)) (hr : RwsAt w0 vl l) (hpos : ∀ i, i < l.length → 0 < (l.getD i []).length) (hn : l.length ≤ 140737488355328) (hl : (L ++ bkL l).length ≤ 140737488355328) :
    Calls Try.prog 94 #[ptr p, vl] w (PPost B p v w0 w (L ++ bkL l)) := by
  obtain ⟨pa, pc, rfl⟩ := hr.form
  have HS0 : Keep (PS B p v w0 w L v w) := ⟨PS.start hO hf hb⟩
  have HO := Keep.mk hO
  have Hw0 := Keep.mk hw0
  have Hs0 := Keep.mk hs0
  have Hb := Keep.mk hb
  have Hp := Keep.mk hp
  have HF := Keep.mk hf
  have HR := Keep.mk hr
  have HP := Keep.mk hpos
  have HN := Keep.mk hn
  have HL := Keep.mk hl
  have hwn : IntKind.u64.wrap (l.length : Int) = (l.length : Int) := by rw [IntKind.wrap_u64]; omega
  have hni : (l.length : Int) ≤ 9223372036854775807 := by omega
  clear hO hw0 hs0 hb hp hf hr hn hl hpos
  unfold bkL
  go_enter Try.func94, Try.ntmps94
  refine wp_seq_k fun K1 hK1 => ?_
  refine wp_region_list (WL.out ?_)
  refine WL.val (by kernel_rfl) (.pointer (some ⟨p, 0, none⟩)) (by go_simp) ?_
  simp only [Act.put, List.setIfInBounds_toArray, List.set_cons_zero, List.set_cons_succ]
  refine WL.val (by kernel_rfl) (.slice pa l.length pc) (by go_simp) ?_
  simp only [Act.put, List.setIfInBounds_toArray, List.set_cons_zero, List.set_cons_succ]
  refine WL.val (by kernel_rfl) (.int .i64 (l.length : Int)) (by go_simp) ?_
  simp only [Act.put, List.setIfInBounds_toArray, List.set_cons_zero, List.set_cons_succ]
  refine WL.val (by kernel_rfl) (.int .u64 (l.length : Int)) (by go_simp) ?_
  simp only [Act.put, List.setIfInBounds_toArray, List.set_cons_zero, List.set_cons_succ]
  refine WL.callF (by kernel_rfl) 102 _ _ rfl Try.in102 #[ptr p, .int .u64 (l.length : Int)] (by simp [Act.eval]) ?_
  refine (onum_any p v L l.length w HO.out (by have := HN.out; omega) (by have := HL.out; rw [bkL, List.length_append, List.length_append] at this; rw [List.length_append]; omega)).mono ?_
  intro e w1 hp1
  obtain ⟨rfl, v1, hP1⟩ := HS0.out.call hp1 Hw0.out Hp.out
  refine ⟨_, rfl, ?_⟩
  have HP1 : Keep (PS B p v w0 w (L ++ (numL l.length ++ (l.take 0).flatMap bform)) v1 w1) := ⟨hP1.cast (by simp)⟩
  clear hp1 hP1
  simp only [Act.put, List.setIfInBounds_toArray, List.set_cons_zero, List.set_cons_succ]
  refine WL.nil ?_
  refine hK1 _ _ ?_
  refine wp_seq_k fun K2 hK2 => ?_
  refine wp_region_list (WL.out ?_)
  refine WL.val (by kernel_rfl) (.slice pa l.length pc) (by go_simp) ?_
  simp only [Act.put, List.setIfInBounds_toArray, List.set_cons_zero, List.set_cons_succ]
  refine WL.val (by kernel_rfl) (.int .i64 (l.length : Int)) (by go_simp) ?_
  simp only [Act.put, List.setIfInBounds_toArray, List.set_cons_zero, List.set_cons_succ]
  refine WL.val (by kernel_rfl) (.int .i64 0) (by go_simp) ?_
  simp only [Act.put, List.setIfInBounds_toArray, List.set_cons_zero, List.set_cons_succ]
  refine WL.nil ?_
  refine hK2 _ _ ?_
  refine wp_block ?_
  refine wp_loop (fun ac wr => ∃ (t : Nat) (u5 u14 u15 u16 u17 u18 u19 u20 : Value), ac = { tmps := #[.pointer (some ⟨p, 0, none⟩), .slice pa l.length pc, undef, undef, undef, u5, .pointer (some ⟨p, 0, none⟩), .slice pa l.length pc, .int .i64 (l.length : Int), .int .u64 (l.length : Int), .tuple #[], .slice pa l.length pc, .int .i64 (l.length : Int), .int .i64 (t : Int), u14, u15, u16, u17, u18, u19, u20], defers := [] } ∧ t ≤ l.length ∧ ∃ vr, Keep (PS B p v w0 w (L ++ (numL l.length ++ (l.take t).flatMap bform)) vr wr)) (fun a _ => l.length - (intOf (a.tmps.getD 13 undef)).toNat) ⟨0, undef, undef, undef, undef, undef, undef, undef, undef, rfl, by omega, v1, HP1⟩ ?_
  rintro ac wr ⟨t, u5, u14, u15, u16, u17, u18, u19, u20, rfl, ht, vr, HPr⟩
  by_cases hlt : t < l.length
  · have hlt' : (t : Int) < (l.length : Int) := by omega
    have hwt : IntKind.i64.wrap ((t : Int) + 1) = (t : Int) + 1 := by rw [IntKind.wrap_i64]; have := HN.out; omega
    obtain ⟨b, o, xa, xc, hpa, _, hcl, hrow⟩ := HR.out.at t hlt
    subst hpa
    obtain ⟨x, hx⟩ : ∃ x, x = l.getD t [] := ⟨_, rfl⟩
    rw [← hx] at hcl hrow
    have Hx : Keep (l[t]? = some x) := ⟨by rw [hx, List.getD_eq_getElem?_getD, List.getElem?_eq_getElem hlt]; rfl⟩
    have Hx0 : Keep (0 < x.length) := ⟨by rw [hx]; exact HP.out t hlt⟩
    have Hrow := Keep.mk hrow
    have hcl2 : wr.cell? ⟨b, o + t, none⟩ = some (.slice xa x.length xc) := by rw [(HPr.out.b.mono Hs0.out).cell (p := ⟨b, o + t, none⟩) (cell_lt hcl)]; exact hcl
    clear hx hrow hcl
    refine wp_seq_k fun K3 hK3 => ?_
    refine wp_region_list (WL.out ?_)
    refine WL.val (by kernel_rfl) (.bool true) (by go_simp) ?_
    simp only [Act.put, List.setIfInBounds_toArray, List.set_cons_zero, List.set_cons_succ]
    refine WL.nil ?_
    refine hK3 _ _ ?_
    refine wp_seq_k fun K4 hK4 => ?_
    refine wp_cond_true rfl ?_
    refine wp_skip ?_
    refine hK4 _ _ ?_
    refine wp_seq_k fun K5 hK5 => ?_
    refine wp_block ?_
    refine wp_seq_k fun K6 hK6 => ?_
    refine wp_region_list (WL.out ?_)
    refine WL.val (by kernel_rfl) (.pointer (some ⟨b, o + t, none⟩)) (by go_simp) ?_
    simp only [Act.put, List.setIfInBounds_toArray, List.set_cons_zero, List.set_cons_succ]
    refine WL.val (by kernel_rfl) (.slice xa x.length xc) (by go_simp) ?_
    simp only [Act.put, List.setIfInBounds_toArray, List.set_cons_zero, List.set_cons_succ]
    refine WL.val (by kernel_rfl) (.slice xa x.length xc) (by go_simp) ?_
    simp only [Act.put, List.setIfInBounds_toArray, List.set_cons_zero, List.set_cons_succ]
    refine WL.nil ?_
    refine hK6 _ _ ?_
    refine wp_region_list (WL.out ?_)
    refine WL.val (by kernel_rfl) (.pointer (some ⟨p, 0, none⟩)) (by go_simp) ?_
    simp only [Act.put, List.setIfInBounds_toArray, List.set_cons_zero, List.set_cons_succ]
    refine WL.val (by kernel_rfl) (.slice xa x.length xc) (by go_simp) ?_
    simp only [Act.put, List.setIfInBounds_toArray, List.set_cons_zero, List.set_cons_succ]
    refine WL.callF (by kernel_rfl) 86 _ _ rfl Try.in86 #[ptr p, .slice xa x.length xc] (by simp [Act.eval]) ?_
    refine (obytes_any p vr _ _ x wr HPr.out.o (Hrow.out.below (HPr.out.b.mono Hs0.out)) (fun k hk ho => by have h1 := row_lt Hrow.out Hx0.out hk; have h2 := Hs0.out; have h3 := Hp.out; rcases ho with rfl | ho; omega; have := HPr.out.f k ho; omega) (by have := HL.out; have h2 := fm_le bform l (t + 1); rw [fm_step bform l t x Hx.out, List.length_append] at h2; rw [bkL, List.length_append, List.length_append] at this; rw [List.length_append, List.length_append]; omega)).mono ?_
    intro e w3 hp3
    obtain ⟨rfl, v3, hP3⟩ := HPr.out.call hp3 Hw0.out Hp.out
    refine ⟨_, rfl, ?_⟩
    have HP3 : Keep (PS B p v w0 w (L ++ (numL l.length ++ (l.take (t + 1)).flatMap bform)) v3 w3) := ⟨hP3.cast (by rw [fm_step bform l t x Hx.out]; simp only [List.append_assoc])⟩
    clear hp3 hP3
    simp only [Act.put, List.setIfInBounds_toArray, List.set_cons_zero, List.set_cons_succ]
    refine WL.nil ?_
    refine hK5 _ _ ?_
    refine wp_region_list (WL.out ?_)
    refine WL.val (by kernel_rfl) (.int .i64 ((t : Int) + 1)) (by go_simp) ?_
    simp only [Act.put, List.setIfInBounds_toArray, List.set_cons_zero, List.set_cons_succ]
    refine WL.val (by kernel_rfl) (.int .i64 ((t : Int) + 1)) (by go_simp) ?_
    simp only [Act.put, List.setIfInBounds_toArray, List.set_cons_zero, List.set_cons_succ]
    refine WL.nil ?_
    refine ⟨⟨t + 1, .slice xa x.length xc, .bool true, .pointer (some ⟨b, o + t, none⟩), .slice xa x.length xc, .pointer (some ⟨p, 0, none⟩), .slice xa x.length xc, .tuple #[], .int .i64 ((t : Int) + 1), rfl, by omega, v3, HP3⟩, by simp [intOf]; omega⟩
  · obtain rfl : t = l.length := by omega
    refine wp_seq_k fun K7 hK7 => ?_
    refine wp_region_list (WL.out ?_)
    refine WL.val (by kernel_rfl) (.bool false) (by go_simp) ?_
    simp only [Act.put, List.setIfInBounds_toArray, List.set_cons_zero, List.set_cons_succ]
    refine WL.nil ?_
    refine hK7 _ _ ?_
    refine wp_seq_k fun K8 hK8 => ?_
    refine wp_cond_false rfl ?_
    refine wp_exit ?_
    go_end0
    rw [List.take_length] at HPr
    exact ⟨rfl, vr, HPr.out⟩
theorem salt_len (s : Int) (t : Nat) : (saltP s t).length = t := by simp [saltP]
theorem salt_step (s : Int) (t : Nat) : saltP s (t + 1) = saltP s t ++ [s / 256 ^ t % 256] := by simp [saltP, List.range_succ]
theorem salt_div (s : Int) (t : Nat) : s / 256 ^ t / 256 = s / 256 ^ (t + 1) := by
  have hp : (0 : Int) < 256 ^ t := Int.pow_pos (by decide)
  rw [Int.pow_succ, Int.ediv_ediv, if_neg (fun h => by omega), Int.sub_zero]
theorem salt_rng (s : Int) (t : Nat) (h : 0 ≤ s ∧ s < 18446744073709551616) : 0 ≤ s / 256 ^ t ∧ s / 256 ^ t < 18446744073709551616 := by
  have hp : (0 : Int) < 256 ^ t := Int.pow_pos (by decide)
  exact ⟨Int.ediv_nonneg h.1 (Int.le_of_lt hp), Int.lt_of_le_of_lt (Int.ediv_le_self _ h.1) h.2⟩
set_option maxRecDepth 8000 in
set_option maxHeartbeats 2000000 in
theorem putSalt_any (B p : Nat) (v : Value) (L : List Int) (w0 w : World) (hw0 : B ≤ w0.heap.size) (hs0 : w0.heap.size ≤ B) (hb : Below B w0 w) (hO : OutAt w p v L) (hp : B ≤ p) (hf : Fr B v) (s : Int) (hs : 0 ≤ s ∧ s < 18446744073709551616) (hl : (L ++ saltP s 8).length ≤ 140737488355328) :
    Calls Try.prog 81 #[ptr p, .int .u64 s] w (PPost B p v w0 w (L ++ saltP s 8)) := by
  have HS0 : Keep (PS B p v w0 w L v w) := ⟨PS.start hO hf hb⟩
  have HO := Keep.mk hO
  have Hw0 := Keep.mk hw0
  have Hs0 := Keep.mk hs0
  have Hb := Keep.mk hb
  have Hp := Keep.mk hp
  have HF := Keep.mk hf
  have HS := Keep.mk hs
  have HL := Keep.mk hl
  clear hO hw0 hs0 hb hp hf hl hs
  go_enter Try.func81, Try.ntmps81
  refine wp_seq_k fun K1 hK1 => ?_
  refine wp_region_list (WL.out ?_)
  refine WL.val (by kernel_rfl) (.int .i64 0) (by go_simp) ?_
  simp only [Act.put, List.setIfInBounds_toArray, List.set_cons_zero, List.set_cons_succ]
  refine WL.nil ?_
  refine hK1 _ _ ?_
  refine wp_block ?_
  refine wp_loop (fun ac wr => ∃ (t : Nat) (u5 u6 u7 u8 u9 u10 u11 u12 : Value), ac = { tmps := #[.pointer (some ⟨p, 0, none⟩), .int .u64 (s / 256 ^ t), undef, undef, .int .i64 (t : Int), u5, u6, u7, u8, u9, u10, u11, u12], defers := [] } ∧ t ≤ 8 ∧ ∃ vr, Keep (PS B p v w0 w (L ++ saltP s t) vr wr)) (fun a _ => 8 - (intOf (a.tmps.getD 4 undef)).toNat) ⟨0, undef, undef, undef, undef, undef, undef, undef, undef, by simp, by omega, v, ⟨HS0.out.cast (by simp [saltP])⟩⟩ ?_
  rintro ac wr ⟨t, u5, u6, u7, u8, u9, u10, u11, u12, rfl, ht, vr, HPr⟩
  by_cases hlt : t < 8
  · have hlt' : (t : Int) < 8 := by omega
    have hwt : IntKind.i64.wrap ((t : Int) + 1) = (t : Int) + 1 := by rw [IntKind.wrap_i64]; omega
    obtain ⟨y, hy⟩ : ∃ y, y = s / 256 ^ t := ⟨_, rfl⟩
    rw [← hy]
    have Hy := Keep.mk hy
    have hyr : 0 ≤ y ∧ y < 18446744073709551616 := by rw [hy]; exact salt_rng s t HS.out
    clear hy
    have hw8 : IntKind.u8.wrap y = y % 256 := by rw [IntKind.wrap_u8]
    refine wp_seq_k fun K2 hK2 => ?_
    refine wp_region_list (WL.out ?_)
    refine WL.val (by kernel_rfl) (.bool true) (by go_simp) ?_
    simp only [Act.put, List.setIfInBounds_toArray, List.set_cons_zero, List.set_cons_succ]
    refine WL.nil ?_
    refine hK2 _ _ ?_
    refine wp_seq_k fun K3 hK3 => ?_
    refine wp_cond_true rfl ?_
    refine wp_skip ?_
    refine hK3 _ _ ?_
    refine wp_seq_k fun K4 hK4 => ?_
    refine wp_block ?_
    refine wp_seq_k fun K5 hK5 => ?_
    refine wp_region_list (WL.out ?_)
    refine WL.val (by kernel_rfl) (.pointer (some ⟨p, 0, none⟩)) (by go_simp) ?_
    simp only [Act.put, List.setIfInBounds_toArray, List.set_cons_zero, List.set_cons_succ]
    refine WL.val (by kernel_rfl) (.int .u64 y) (by go_simp) ?_
    simp only [Act.put, List.setIfInBounds_toArray, List.set_cons_zero, List.set_cons_succ]
    refine WL.val (by kernel_rfl) (.int .u8 (y % 256)) (by go_simp) ?_
    simp only [Act.put, List.setIfInBounds_toArray, List.set_cons_zero, List.set_cons_succ]
    refine WL.callF (by kernel_rfl) 27 _ _ rfl Try.in27 #[ptr p, .int .u8 (y % 256)] (by simp [Act.eval]) ?_
    refine (obyte_any p vr _ (y % 256) wr HPr.out.o (by have := HL.out; rw [List.length_append, salt_len] at this; rw [List.length_append, List.length_append, salt_len]; simp; omega)).mono ?_
    intro e w3 hp3
    obtain ⟨rfl, v3, hP3⟩ := HPr.out.call hp3 Hw0.out Hp.out
    refine ⟨_, rfl, ?_⟩
    have HP3 : Keep (PS B p v w0 w (L ++ saltP s (t + 1)) v3 w3) := ⟨hP3.cast (by rw [salt_step, ← Hy.out, ← List.append_assoc])⟩
    clear hp3 hP3
    simp only [Act.put, List.setIfInBounds_toArray, List.set_cons_zero, List.set_cons_succ]
    refine WL.nil ?_
    refine hK5 _ _ ?_
    refine wp_region_list (WL.out ?_)
    refine WL.val (by kernel_rfl) (.int .u64 y) (by go_simp) ?_
    simp only [Act.put, List.setIfInBounds_toArray, List.set_cons_zero, List.set_cons_succ]
    refine WL.val (by kernel_rfl) (.int .u64 (y / 256)) (by go_simp) ?_
    simp only [Act.put, List.setIfInBounds_toArray, List.set_cons_zero, List.set_cons_succ]
    refine WL.val (by kernel_rfl) (.int .u64 (y / 256)) (by go_simp) ?_
    simp only [Act.put, List.setIfInBounds_toArray, List.set_cons_zero, List.set_cons_succ]
    refine WL.nil ?_
    refine hK4 _ _ ?_
    refine wp_region_list (WL.out ?_)
    refine WL.val (by kernel_rfl) (.int .i64 ((t : Int) + 1)) (by go_simp) ?_
    simp only [Act.put, List.setIfInBounds_toArray, List.set_cons_zero, List.set_cons_succ]
    refine WL.val (by kernel_rfl) (.int .i64 ((t : Int) + 1)) (by go_simp) ?_
    simp only [Act.put, List.setIfInBounds_toArray, List.set_cons_zero, List.set_cons_succ]
    refine WL.nil ?_
    refine ⟨⟨t + 1, .bool true, .pointer (some ⟨p, 0, none⟩), .int .u64 y, .int .u8 (y % 256), .tuple #[], .int .u64 y, .int .u64 (y / 256), .int .i64 ((t : Int) + 1), by rw [← salt_div, ← Hy.out]; rfl, by omega, v3, HP3⟩, by simp [intOf]; omega⟩
  · obtain rfl : t = 8 := by omega
    refine wp_seq_k fun K6 hK6 => ?_
    refine wp_region_list (WL.out ?_)
    refine WL.val (by kernel_rfl) (.bool false) (by go_simp) ?_
    simp only [Act.put, List.setIfInBounds_toArray, List.set_cons_zero, List.set_cons_succ]
    refine WL.nil ?_
    refine hK6 _ _ ?_
    refine wp_seq_k fun K7 hK7 => ?_
    refine wp_cond_false rfl ?_
    refine wp_exit ?_
    go_end0
    exact ⟨rfl, vr, HPr.out⟩
end Go.Proofs.Ytlogkojhcccogaa
