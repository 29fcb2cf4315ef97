import Derived.Test.YtollbkibocdbmaaOrdD
namespace Go.Proofs.Ytollbkibocdbmaa
open Go.RowKit Go.Sort

/-- Does each stand behind the one ahead of it? -/
def risesB (L : List Hs) : Bool := (List.range (L.length - 1)).all fun i => decide (cf (L.getD i default) (L.getD (i + 1) default) < 0)
theorem risesB_iff (L : List Hs) : risesB L = true ↔ ∀ i, i + 1 < L.length → cf (L.getD i default) (L.getD (i + 1) default) < 0 := by
  unfold risesB
  rw [List.all_eq_true]
  constructor
  · intro h i hi
    exact of_decide_eq_true (h i (List.mem_range.2 (by omega)))
  · intro h i hi
    exact decide_eq_true (h i (by have := List.mem_range.1 hi; omega))
theorem Try.enter22 (w : World) (vs : Array Value) : (callFunc 22 vs).run Try.prog w = .ok (.enter 22 vs) w := by kernel_rfl
theorem Try.enter23 (w : World) (vs : Array Value) : (callFunc 23 vs).run Try.prog w = .ok (.enter 23 vs) w := by kernel_rfl

set_option maxRecDepth 20000 in
set_option maxHeartbeats 1000000 in
theorem rising_walk (n b o c : Nat) (L : List Hs) (w : World) (hL : L.length = n) (h1 : w.rangeAt b o (flatH L)) (hn : (n : Int) ≤ 9223372036854775806) (h0 : 0 < n) :
    Calls Try.prog 27 #[.slice (some ⟨b, o, none⟩) n c] w fun e w' => e = .returned (.bool (risesB L)) ∧ Below w.heap.size w w' := by
  obtain ⟨R, hR⟩ : ∃ R, Keep (R = risesB L) := ⟨_, ⟨rfl⟩⟩
  rw [← hR.out]
  have HL : Keep (L.length = n) := ⟨hL⟩
  have H1 : Keep (w.rangeAt b o (flatH L)) := ⟨h1⟩
  have hblt : b < w.heap.size := rangeAt_lt h1 (by omega)
  have hu := Try.underlying23
  clear hL h1
  go_enter Try.func27, Try.ntmps27
  go_wp2
  go_loopw [3] (fun i wr => ∃ t : Nat, t + 1 ≤ n ∧ i = .int .i64 ((t + 1 : Nat) : Int) ∧ (∀ k, k < t → cf (L.getD k default) (L.getD (k + 1) default) < 0) ∧ Below w.heap.size w wr) (fun i _ => n - (intOf i).toNat)
  case atStart => exact ⟨0, by omega, rfl, fun k hk => by omega, Below.refl _ _⟩
  case round =>
    obtain ⟨t, ht, rfl, hke, hB⟩ := hrel
    have HK : Keep (∀ k, k < t → cf (L.getD k default) (L.getD (k + 1) default) < 0) := ⟨hke⟩
    clear hke
    by_cases hlt : t + 1 < n
    · have l1 : t < L.length := by rw [HL.out]; omega
      have l2 : t + 1 < L.length := by rw [HL.out]; exact hlt
      have HC : Keep (∀ w, Calls Try.prog 22 #[.agg (encH L[t]).toArray, .agg (encH L[t + 1]).toArray] w fun e w' => e = .returned (.int .i64 (cf L[t] L[t + 1])) ∧ Below w.heap.size w w') := ⟨fun w => by
        rw [encH_arr, encH_arr]
        refine (compare_any _ _ w).mono fun e w' h => ⟨h.1, ?_⟩
        obtain ⟨q, os, rfl⟩ := h.2
        exact grown_below w q os⟩
      have HS : Keep (∀ wx, Below wr.heap.size wr wx → wx.rangeAt b (o + t * 32) (encH L[t]) ∧ wx.rangeAt b (o + (t + 1) * 32) (encH L[t + 1])) := ⟨fun wx hx => by
        have hb2 := hB.trans (hx.mono hB.size)
        exact ⟨rangeAt_below (rangeAt_elem H1.out t l1) hb2 hblt, rangeAt_below (rangeAt_elem H1.out (t + 1) l2) hb2 hblt⟩⟩
      have hi1 := Try.size23L L[t]
      have hi2 := Try.size23L L[t + 1]
      obtain ⟨r, hr⟩ : ∃ r, Keep (r = cf L[t] L[t + 1]) := ⟨_, ⟨rfl⟩⟩
      rw [← hr.out] at HC
      have HE : Keep (r = cf (L.getD t default) (L.getD (t + 1) default)) := ⟨by
        rw [hr.out, List.getD_eq_getElem?_getD, List.getD_eq_getElem?_getD, List.getElem?_eq_getElem l1, List.getElem?_eq_getElem l2]; rfl⟩
      clear hr
      generalize encH L[t] = CA at *
      generalize encH L[t + 1] = CB at *
      clear l1 l2
      rename World => wn
      have hD0 : Below wn.heap.size wn wn.drew := (Below.refl _ _).drew
      have hlt' : ((t + 1 : Nat) : Int) < (n : Int) := by omega
      have hs1 : ((t + 1 : Nat) : Int) - 1 = (t : Int) := by omega
      have hlt2 : (t : Int) < (n : Int) := by omega
      have hwr : IntKind.i64.wrap (t : Int) = (t : Int) := by rw [IntKind.wrap_i64]; omega
      have hng : ¬ ((t : Int) + 1 < 0) := by omega
      go_wp2
      refine wp_region_held_drew (S := fun w' => w'.rangeAt b (o + t * 32) CA ∧ w'.rangeAt b (o + (t + 1) * 32) CB) (by kernel_rfl) (HS.out _ hD0) (fun hHeld => ?_)
      refine wpAnyH_take (i := 0) (oi := ⟨some 10, Op.move (Operand.tmp 0), 45, _, _, none⟩) (v := Value.slice (some ⟨b, o, none⟩) n c) rfl (by kernel_rfl) (by kernel_rfl) (by kernel_rfl) (fun _ _ _ h => h) (Or.inl ⟨by rfl, fun w hS => by go_simp⟩) hHeld ?_
      simp only [Act.put, List.setIfInBounds_toArray, List.set_cons_zero, List.set_cons_succ]
      refine wpAnyH_take (i := 1) (oi := ⟨some 11, Op.move (Operand.tmp 3), 3, _, _, none⟩) (v := .int .i64 ((t + 1 : Nat) : Int)) rfl (by kernel_rfl) (by kernel_rfl) (by kernel_rfl) (fun _ _ _ h => h) (Or.inl ⟨by rfl, fun w hS => by go_simp⟩) hHeld ?_
      simp only [Act.put, List.setIfInBounds_toArray, List.set_cons_zero, List.set_cons_succ]
      refine wpAnyH_take (i := 2) (oi := ⟨some 12, Op.binOp BinOp.sub 3 (Operand.tmp 11) (Operand.const (Value.int IntKind.i64 1)) 3, 3, _, _, none⟩) (v := .int .i64 (t : Int)) rfl (by kernel_rfl) (by kernel_rfl) (by kernel_rfl) (fun _ _ _ h => h) (Or.inl ⟨by rfl, fun w hS => by go_simp⟩) hHeld ?_
      simp only [Act.put, List.setIfInBounds_toArray, List.set_cons_zero, List.set_cons_succ]
      refine wpAnyH_take (i := 3) (oi := ⟨some 13, Op.indexAddr 45 (Operand.tmp 10) (Operand.tmp 12), 0, _, _, none⟩) (v := .pointer (some ⟨b, o + t * 32, none⟩)) rfl (by kernel_rfl) (by kernel_rfl) (by kernel_rfl) (fun _ _ _ h => h) (Or.inl ⟨by rfl, fun w hS => by go_simp⟩) hHeld ?_
      simp only [Act.put, List.setIfInBounds_toArray, List.set_cons_zero, List.set_cons_succ]
      refine wpAnyH_take (i := 4) (oi := ⟨some 14, Op.load 23 (Operand.tmp 13), 23, _, _, none⟩) (v := .agg (CA).toArray) rfl (by kernel_rfl) (by kernel_rfl) (by kernel_rfl) (fun _ _ _ h => h) (yieldsIf_load_mid (by rfl) 23 (Operand.tmp 13) rfl b (o + t * 32) rfl CA _ (fun w hS => hS.1) hu rfl hi1) hHeld ?_
      simp only [Act.put, List.setIfInBounds_toArray, List.set_cons_zero, List.set_cons_succ]
      refine wpAnyH_take (i := 5) (oi := ⟨some 15, Op.move (Operand.tmp 0), 45, _, _, none⟩) (v := Value.slice (some ⟨b, o, none⟩) n c) rfl (by kernel_rfl) (by kernel_rfl) (by kernel_rfl) (fun _ _ _ h => h) (Or.inl ⟨by rfl, fun w hS => by go_simp⟩) hHeld ?_
      simp only [Act.put, List.setIfInBounds_toArray, List.set_cons_zero, List.set_cons_succ]
      refine wpAnyH_take (i := 6) (oi := ⟨some 16, Op.move (Operand.tmp 3), 3, _, _, none⟩) (v := .int .i64 ((t + 1 : Nat) : Int)) rfl (by kernel_rfl) (by kernel_rfl) (by kernel_rfl) (fun _ _ _ h => h) (Or.inl ⟨by rfl, fun w hS => by go_simp⟩) hHeld ?_
      simp only [Act.put, List.setIfInBounds_toArray, List.set_cons_zero, List.set_cons_succ]
      refine wpAnyH_take (i := 7) (oi := ⟨some 17, Op.indexAddr 45 (Operand.tmp 15) (Operand.tmp 16), 0, _, _, none⟩) (v := .pointer (some ⟨b, o + (t + 1) * 32, none⟩)) rfl (by kernel_rfl) (by kernel_rfl) (by kernel_rfl) (fun _ _ _ h => h) (Or.inl ⟨by rfl, fun w hS => by go_simp⟩) hHeld ?_
      simp only [Act.put, List.setIfInBounds_toArray, List.set_cons_zero, List.set_cons_succ]
      refine wpAnyH_take (i := 8) (oi := ⟨some 18, Op.load 23 (Operand.tmp 17), 23, _, _, none⟩) (v := .agg (CB).toArray) rfl (by kernel_rfl) (by kernel_rfl) (by kernel_rfl) (fun _ _ _ h => h) (yieldsIf_load_mid (by rfl) 23 (Operand.tmp 17) rfl b (o + (t + 1) * 32) rfl CB _ (fun w hS => hS.2) hu rfl hi2) hHeld ?_
      simp only [Act.put, List.setIfInBounds_toArray, List.set_cons_zero, List.set_cons_succ]
      refine wpAnyH_ready (rs := [9]) (by kernel_rfl) (by simp) ?_
      refine AllReadyH.cons (o := ⟨some 19, Op.call { callee := Callee.value (Operand.func 22), args := #[Operand.tmp 14, Operand.tmp 18], argTypes := #[23, 23] }, 3, _, _, none⟩) rfl (fun K hK => ?_) AllReadyH.nil
      rw [if_pos (by rfl)]
      refine wp_callF 22 #[.tmp 14, .tmp 18] #[23, 23] rfl Try.enter22 #[.agg CA.toArray, .agg CB.toArray] (by simp [Act.eval]) (fun v w' => v = .int .i64 r ∧ Below wn.drew.heap.size wn.drew w') ((HC.out wn.drew).mono fun e w' h => ⟨_, h.1, rfl, h.2⟩) ?_
      rintro v w5 ⟨rfl, hb5⟩
      have hB5 : Below wn.heap.size wn w5 := hD0.trans (hb5.mono hD0.size)
      refine hK.out _ _ (HS.out _ hB5) fun hHeld5 => ?_
      clear hK
      simp only [Act.put, List.setIfInBounds_toArray, List.set_cons_zero, List.set_cons_succ]
      refine wpAnyH_take (i := 10) (oi := ⟨some 20, Op.binOp BinOp.geq 3 (Operand.tmp 19) (Operand.const (Value.int IntKind.i64 0)) 3, 4, _, _, none⟩) (v := .bool (decide (0 ≤ r))) rfl (by kernel_rfl) (by kernel_rfl) (by kernel_rfl) (fun _ _ _ h => h) (Or.inl ⟨by rfl, fun w hS => by go_simp⟩) hHeld5 ?_
      simp only [Act.put, List.setIfInBounds_toArray, List.set_cons_zero, List.set_cons_succ]
      refine wpAnyH_done (by kernel_rfl) ?_ _
      have hBn : Below w.heap.size w w5 := hB.trans (hB5.mono hB.size)
      by_cases hr0 : 0 ≤ r
      · have HF : Keep (R = false) := ⟨by
          rw [hR.out, Bool.eq_false_iff]; intro h
          have := (risesB_iff L).1 h t (by rw [HL.out]; exact hlt)
          rw [← HE.out] at this; omega⟩
        go_wp2
        go_ret
        exact ⟨by rw [HF.out]; rfl, hBn⟩
      · have HE2 : Keep (cf (L.getD t default) (L.getD (t + 1) default) < 0) := ⟨by rw [← HE.out]; omega⟩
        go_wp2
        go_roundw
        case rel => exact ⟨t + 1, by omega, by go_num, fun k hk => by
            rcases Nat.lt_or_eq_of_le (Nat.le_of_lt_succ hk) with h | h
            · exact HK.out k h
            · subst h; exact HE2.out, hBn⟩
        case measure => simp [intOf]; omega
    · obtain rfl : t + 1 = n := by omega
      go_wp2
      go_ret
      refine ⟨?_, hB⟩
      rw [hR.out, (risesB_iff L).2 fun i hi => HK.out i (by have := HL.out; omega)]
      rfl
set_option maxHeartbeats 400000 in
theorem rising_none (a1 : Option Addr) (c1 : Nat) (w : World) : Calls Try.prog 27 #[.slice a1 0 c1] w fun e w' => e = .returned (.bool true) ∧ w' = w := by
  go_enter Try.func27, Try.ntmps27
  go_wp2
  refine wp_loop_rounds 1 ?_; rw [rounds_succ]
  go_wp2
  go_ret
  exact ⟨rfl, rfl⟩
theorem rising_any (v : Value) (L : List Hs) (w : World) (h : HRow w v L) (hn : (L.length : Int) ≤ 9223372036854775806) :
    Calls Try.prog 27 #[v] w fun e w' => e = .returned (.bool (risesB L)) ∧ Below w.heap.size w w' := by
  obtain ⟨a1, c1, rfl⟩ := h.form
  by_cases h0 : 0 < L.length
  · obtain ⟨b1, o1, rfl, _, _, r1⟩ := h.at h0
    exact rising_walk L.length b1 o1 c1 L w rfl r1 hn h0
  · have e1 : L = [] := List.eq_nil_of_length_eq_zero (by omega)
    subst e1
    exact (rising_none a1 c1 w).mono fun e w' h => ⟨by rw [h.1, (risesB_iff []).2 fun i hi => by simp at hi], by rw [h.2]; exact Below.refl _ _⟩

set_option maxRecDepth 20000 in
set_option maxHeartbeats 1000000 in
theorem refRising_walk (n b o c : Nat) (L : List Hs) (w : World) (hL : L.length = n) (h1 : w.rangeAt b o (flatH L)) (hn : (n : Int) ≤ 9223372036854775806) (h0 : 0 < n) :
    Calls Try.prog 28 #[.slice (some ⟨b, o, none⟩) n c] w fun e w' => e = .returned (.bool (risesB L)) ∧ Below w.heap.size w w' := by
  obtain ⟨R, hR⟩ : ∃ R, Keep (R = risesB L) := ⟨_, ⟨rfl⟩⟩
  rw [← hR.out]
  have HL : Keep (L.length = n) := ⟨hL⟩
  have H1 : Keep (w.rangeAt b o (flatH L)) := ⟨h1⟩
  have hblt : b < w.heap.size := rangeAt_lt h1 (by omega)
  have hu := Try.underlying23
  clear hL h1
  go_enter Try.func28, Try.ntmps28
  go_wp2
  go_loopw [3] (fun i wr => ∃ t : Nat, t + 1 ≤ n ∧ i = .int .i64 ((t + 1 : Nat) : Int) ∧ (∀ k, k < t → cf (L.getD k default) (L.getD (k + 1) default) < 0) ∧ Below w.heap.size w wr) (fun i _ => n - (intOf i).toNat)
  case atStart => exact ⟨0, by omega, rfl, fun k hk => by omega, Below.refl _ _⟩
  case round =>
    obtain ⟨t, ht, rfl, hke, hB⟩ := hrel
    have HK : Keep (∀ k, k < t → cf (L.getD k default) (L.getD (k + 1) default) < 0) := ⟨hke⟩
    clear hke
    by_cases hlt : t + 1 < n
    · have l1 : t < L.length := by rw [HL.out]; omega
      have l2 : t + 1 < L.length := by rw [HL.out]; exact hlt
      have HC : Keep (∀ w, Calls Try.prog 23 #[.agg (encH L[t]).toArray, .agg (encH L[t + 1]).toArray] w fun e w' => e = .returned (.int .i64 (cf L[t] L[t + 1])) ∧ Below w.heap.size w w') := ⟨fun w => by
        rw [encH_arr, encH_arr]
        refine (refCompare_any _ _ w).mono fun e w' h => ⟨h.1, ?_⟩
        obtain ⟨q, os, rfl⟩ := h.2
        exact grown_below w q os⟩
      have HS : Keep (∀ wx, Below wr.heap.size wr wx → wx.rangeAt b (o + t * 32) (encH L[t]) ∧ wx.rangeAt b (o + (t + 1) * 32) (encH L[t + 1])) := ⟨fun wx hx => by
        have hb2 := hB.trans (hx.mono hB.size)
        exact ⟨rangeAt_below (rangeAt_elem H1.out t l1) hb2 hblt, rangeAt_below (rangeAt_elem H1.out (t + 1) l2) hb2 hblt⟩⟩
      have hi1 := Try.size23L L[t]
      have hi2 := Try.size23L L[t + 1]
      obtain ⟨r, hr⟩ : ∃ r, Keep (r = cf L[t] L[t + 1]) := ⟨_, ⟨rfl⟩⟩
      rw [← hr.out] at HC
      have HE : Keep (r = cf (L.getD t default) (L.getD (t + 1) default)) := ⟨by
        rw [hr.out, List.getD_eq_getElem?_getD, List.getD_eq_getElem?_getD, List.getElem?_eq_getElem l1, List.getElem?_eq_getElem l2]; rfl⟩
      clear hr
      generalize encH L[t] = CA at *
      generalize encH L[t + 1] = CB at *
      clear l1 l2
      rename World => wn
      have hD0 : Below wn.heap.size wn wn.drew := (Below.refl _ _).drew
      have hlt' : ((t + 1 : Nat) : Int) < (n : Int) := by omega
      have hs1 : ((t + 1 : Nat) : Int) - 1 = (t : Int) := by omega
      have hlt2 : (t : Int) < (n : Int) := by omega
      have hwr : IntKind.i64.wrap (t : Int) = (t : Int) := by rw [IntKind.wrap_i64]; omega
      have hng : ¬ ((t : Int) + 1 < 0) := by omega
      go_wp2
      refine wp_region_held_drew (S := fun w' => w'.rangeAt b (o + t * 32) CA ∧ w'.rangeAt b (o + (t + 1) * 32) CB) (by kernel_rfl) (HS.out _ hD0) (fun hHeld => ?_)
      refine wpAnyH_take (i := 0) (oi := ⟨some 10, Op.move (Operand.tmp 0), 45, _, _, none⟩) (v := Value.slice (some ⟨b, o, none⟩) n c) rfl (by kernel_rfl) (by kernel_rfl) (by kernel_rfl) (fun _ _ _ h => h) (Or.inl ⟨by rfl, fun w hS => by go_simp⟩) hHeld ?_
      simp only [Act.put, List.setIfInBounds_toArray, List.set_cons_zero, List.set_cons_succ]
      refine wpAnyH_take (i := 1) (oi := ⟨some 11, Op.move (Operand.tmp 3), 3, _, _, none⟩) (v := .int .i64 ((t + 1 : Nat) : Int)) rfl (by kernel_rfl) (by kernel_rfl) (by kernel_rfl) (fun _ _ _ h => h) (Or.inl ⟨by rfl, fun w hS => by go_simp⟩) hHeld ?_
      simp only [Act.put, List.setIfInBounds_toArray, List.set_cons_zero, List.set_cons_succ]
      refine wpAnyH_take (i := 2) (oi := ⟨some 12, Op.binOp BinOp.sub 3 (Operand.tmp 11) (Operand.const (Value.int IntKind.i64 1)) 3, 3, _, _, none⟩) (v := .int .i64 (t : Int)) rfl (by kernel_rfl) (by kernel_rfl) (by kernel_rfl) (fun _ _ _ h => h) (Or.inl ⟨by rfl, fun w hS => by go_simp⟩) hHeld ?_
      simp only [Act.put, List.setIfInBounds_toArray, List.set_cons_zero, List.set_cons_succ]
      refine wpAnyH_take (i := 3) (oi := ⟨some 13, Op.indexAddr 45 (Operand.tmp 10) (Operand.tmp 12), 0, _, _, none⟩) (v := .pointer (some ⟨b, o + t * 32, none⟩)) rfl (by kernel_rfl) (by kernel_rfl) (by kernel_rfl) (fun _ _ _ h => h) (Or.inl ⟨by rfl, fun w hS => by go_simp⟩) hHeld ?_
      simp only [Act.put, List.setIfInBounds_toArray, List.set_cons_zero, List.set_cons_succ]
      refine wpAnyH_take (i := 4) (oi := ⟨some 14, Op.load 23 (Operand.tmp 13), 23, _, _, none⟩) (v := .agg (CA).toArray) rfl (by kernel_rfl) (by kernel_rfl) (by kernel_rfl) (fun _ _ _ h => h) (yieldsIf_load_mid (by rfl) 23 (Operand.tmp 13) rfl b (o + t * 32) rfl CA _ (fun w hS => hS.1) hu rfl hi1) hHeld ?_
      simp only [Act.put, List.setIfInBounds_toArray, List.set_cons_zero, List.set_cons_succ]
      refine wpAnyH_take (i := 5) (oi := ⟨some 15, Op.move (Operand.tmp 0), 45, _, _, none⟩) (v := Value.slice (some ⟨b, o, none⟩) n c) rfl (by kernel_rfl) (by kernel_rfl) (by kernel_rfl) (fun _ _ _ h => h) (Or.inl ⟨by rfl, fun w hS => by go_simp⟩) hHeld ?_
      simp only [Act.put, List.setIfInBounds_toArray, List.set_cons_zero, List.set_cons_succ]
      refine wpAnyH_take (i := 6) (oi := ⟨some 16, Op.move (Operand.tmp 3), 3, _, _, none⟩) (v := .int .i64 ((t + 1 : Nat) : Int)) rfl (by kernel_rfl) (by kernel_rfl) (by kernel_rfl) (fun _ _ _ h => h) (Or.inl ⟨by rfl, fun w hS => by go_simp⟩) hHeld ?_
      simp only [Act.put, List.setIfInBounds_toArray, List.set_cons_zero, List.set_cons_succ]
      refine wpAnyH_take (i := 7) (oi := ⟨some 17, Op.indexAddr 45 (Operand.tmp 15) (Operand.tmp 16), 0, _, _, none⟩) (v := .pointer (some ⟨b, o + (t + 1) * 32, none⟩)) rfl (by kernel_rfl) (by kernel_rfl) (by kernel_rfl) (fun _ _ _ h => h) (Or.inl ⟨by rfl, fun w hS => by go_simp⟩) hHeld ?_
      simp only [Act.put, List.setIfInBounds_toArray, List.set_cons_zero, List.set_cons_succ]
      refine wpAnyH_take (i := 8) (oi := ⟨some 18, Op.load 23 (Operand.tmp 17), 23, _, _, none⟩) (v := .agg (CB).toArray) rfl (by kernel_rfl) (by kernel_rfl) (by kernel_rfl) (fun _ _ _ h => h) (yieldsIf_load_mid (by rfl) 23 (Operand.tmp 17) rfl b (o + (t + 1) * 32) rfl CB _ (fun w hS => hS.2) hu rfl hi2) hHeld ?_
      simp only [Act.put, List.setIfInBounds_toArray, List.set_cons_zero, List.set_cons_succ]
      refine wpAnyH_ready (rs := [9]) (by kernel_rfl) (by simp) ?_
      refine AllReadyH.cons (o := ⟨some 19, Op.call { callee := Callee.value (Operand.func 23), args := #[Operand.tmp 14, Operand.tmp 18], argTypes := #[23, 23] }, 3, _, _, none⟩) rfl (fun K hK => ?_) AllReadyH.nil
      rw [if_pos (by rfl)]
      refine wp_callF 23 #[.tmp 14, .tmp 18] #[23, 23] rfl Try.enter23 #[.agg CA.toArray, .agg CB.toArray] (by simp [Act.eval]) (fun v w' => v = .int .i64 r ∧ Below wn.drew.heap.size wn.drew w') ((HC.out wn.drew).mono fun e w' h => ⟨_, h.1, rfl, h.2⟩) ?_
      rintro v w5 ⟨rfl, hb5⟩
      have hB5 : Below wn.heap.size wn w5 := hD0.trans (hb5.mono hD0.size)
      refine hK.out _ _ (HS.out _ hB5) fun hHeld5 => ?_
      clear hK
      simp only [Act.put, List.setIfInBounds_toArray, List.set_cons_zero, List.set_cons_succ]
      refine wpAnyH_take (i := 10) (oi := ⟨some 20, Op.binOp BinOp.geq 3 (Operand.tmp 19) (Operand.const (Value.int IntKind.i64 0)) 3, 4, _, _, none⟩) (v := .bool (decide (0 ≤ r))) rfl (by kernel_rfl) (by kernel_rfl) (by kernel_rfl) (fun _ _ _ h => h) (Or.inl ⟨by rfl, fun w hS => by go_simp⟩) hHeld5 ?_
      simp only [Act.put, List.setIfInBounds_toArray, List.set_cons_zero, List.set_cons_succ]
      refine wpAnyH_done (by kernel_rfl) ?_ _
      have hBn : Below w.heap.size w w5 := hB.trans (hB5.mono hB.size)
      by_cases hr0 : 0 ≤ r
      · have HF : Keep (R = false) := ⟨by
          rw [hR.out, Bool.eq_false_iff]; intro h
          have := (risesB_iff L).1 h t (by rw [HL.out]; exact hlt)
          rw [← HE.out] at this; omega⟩
        go_wp2
        go_ret
        exact ⟨by rw [HF.out]; rfl, hBn⟩
      · have HE2 : Keep (cf (L.getD t default) (L.getD (t + 1) default) < 0) := ⟨by rw [← HE.out]; omega⟩
        go_wp2
        go_roundw
        case rel => exact ⟨t + 1, by omega, by go_num, fun k hk => by
            rcases Nat.lt_or_eq_of_le (Nat.le_of_lt_succ hk) with h | h
            · exact HK.out k h
            · subst h; exact HE2.out, hBn⟩
        case measure => simp [intOf]; omega
    · obtain rfl : t + 1 = n := by omega
      go_wp2
      go_ret
      refine ⟨?_, hB⟩
      rw [hR.out, (risesB_iff L).2 fun i hi => HK.out i (by have := HL.out; omega)]
      rfl
set_option maxHeartbeats 400000 in
theorem refRising_none (a1 : Option Addr) (c1 : Nat) (w : World) : Calls Try.prog 28 #[.slice a1 0 c1] w fun e w' => e = .returned (.bool true) ∧ w' = w := by
  go_enter Try.func28, Try.ntmps28
  go_wp2
  refine wp_loop_rounds 1 ?_; rw [rounds_succ]
  go_wp2
  go_ret
  exact ⟨rfl, rfl⟩
theorem refRising_any (v : Value) (L : List Hs) (w : World) (h : HRow w v L) (hn : (L.length : Int) ≤ 9223372036854775806) :
    Calls Try.prog 28 #[v] w fun e w' => e = .returned (.bool (risesB L)) ∧ Below w.heap.size w w' := by
  obtain ⟨a1, c1, rfl⟩ := h.form
  by_cases h0 : 0 < L.length
  · obtain ⟨b1, o1, rfl, _, _, r1⟩ := h.at h0
    exact refRising_walk L.length b1 o1 c1 L w rfl r1 hn h0
  · have e1 : L = [] := List.eq_nil_of_length_eq_zero (by omega)
    subst e1
    exact (refRising_none a1 c1 w).mono fun e w' h => ⟨by rw [h.1, (risesB_iff []).2 fun i hi => by simp at hi], by rw [h.2]; exact Below.refl _ _⟩
end Go.Proofs.Ytollbkibocdbmaa
