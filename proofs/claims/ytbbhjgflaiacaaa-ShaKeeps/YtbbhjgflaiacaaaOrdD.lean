import Derived.Test.YtbbhjgflaiacaaaOrdC
namespace Go.Proofs.Ytbbhjgflaiacaaa
open Go.RowKit Go.Sort

theorem run_neqL (x y : Hs) (w : World) : (binOp .neq 23 (.agg (encH x).toArray) (.agg (encH y).toArray)).run Try.prog w = .ok (.bool (!decide (x = y))) w := by
  rw [encH_arr, encH_arr]; exact run_neqH x y w
theorem run_eqlL (x y : Hs) (w : World) : (binOp .eql 23 (.agg (encH x).toArray) (.agg (encH y).toArray)).run Try.prog w = .ok (.bool (decide (x = y))) w := by
  rw [encH_arr, encH_arr]; exact run_eqlH x y w
theorem rangeAt_drewN {w : World} {b o n : Nat} {cs : List Value} (h : w.rangeAt b o cs) : (w.drewN n).rangeAt b o cs := h
theorem rangeAt_drew {w : World} {b o : Nat} {cs : List Value} (h : w.rangeAt b o cs) : w.drew.rangeAt b o cs := h

set_option maxRecDepth 20000 in
set_option maxHeartbeats 1000000 in
/-- Lists of one length, in a loop. -/
theorem same_walk (n b1 o1 c1 b2 o2 c2 : Nat) (L M : List Hs) (w : World) (hL : L.length = n) (hM : M.length = n) (h1 : w.rangeAt b1 o1 (flatH L)) (h2 : w.rangeAt b2 o2 (flatH M)) (hn : (n : Int) ≤ 9223372036854775807) :
    Calls Try.prog 24 #[.slice (some ⟨b1, o1, none⟩) n c1, .slice (some ⟨b2, o2, none⟩) n c2] w fun e w' => e = .returned (.bool (decide (L = M))) ∧ ∃ q, w' = w.drewN q := by
  obtain ⟨R, hR⟩ : ∃ R, Keep (R = decide (L = M)) := ⟨_, ⟨rfl⟩⟩
  rw [← hR.out]
  have HL : Keep (L.length = n) := ⟨hL⟩
  have HM : Keep (M.length = n) := ⟨hM⟩
  have H1 : Keep (w.rangeAt b1 o1 (flatH L)) := ⟨h1⟩
  have H2 : Keep (w.rangeAt b2 o2 (flatH M)) := ⟨h2⟩
  have hu := Try.underlying23
  clear hL hM h1 h2
  go_enter Try.func24, Try.ntmps24
  go_wp2
  go_loopw [5] (fun i wr => ∃ t q : Nat, t ≤ n ∧ i = .int .i64 (t : Int) ∧ (∀ k, k < t → L[k]? = M[k]?) ∧ wr = w.drewN q) (fun i _ => n - (intOf i).toNat)
  case atStart => exact ⟨0, 0, by omega, rfl, fun k hk => by omega, by rw [World.drewN_zero]⟩
  case round =>
    obtain ⟨t, q, ht, rfl, hke, rfl⟩ := hrel
    have HK : Keep (∀ k, k < t → L[k]? = M[k]?) := ⟨hke⟩
    clear hke
    by_cases hlt : t < n
    · have l1 : t < L.length := by rw [HL.out]; exact hlt
      have l2 : t < M.length := by rw [HM.out]; exact hlt
      have hneq := run_neqL L[t] M[t]
      have cA : (w.drewN q).drew.rangeAt b1 (o1 + t * 32) (encH L[t]) := rangeAt_drew (rangeAt_drewN (rangeAt_elem H1.out t l1))
      have cB : (w.drewN q).drew.rangeAt b2 (o2 + t * 32) (encH M[t]) := rangeAt_drew (rangeAt_drewN (rangeAt_elem H2.out t l2))
      have hi1 := Try.size23L L[t]
      have hi2 := Try.size23L M[t]
      obtain ⟨E, hE⟩ : ∃ E, Keep (E = !decide (L[t] = M[t])) := ⟨_, ⟨rfl⟩⟩
      rw [← hE.out] at hneq
      have HE : Keep (E = false → L[t]? = M[t]?) := ⟨fun h => by
        have := hE.out; rw [h] at this
        rw [List.getElem?_eq_getElem l1, List.getElem?_eq_getElem l2]; simpa using this⟩
      have HF : Keep (E = true → R = false) := ⟨fun h => by
        have := hE.out; rw [h] at this
        rw [hR.out]; refine decide_eq_false fun e => ?_
        subst e; simp at this⟩
      clear hE
      generalize encH L[t] = CA at *
      generalize encH M[t] = CB at *
      obtain ⟨wn, hwn⟩ : ∃ wn, Keep (w.drewN q = wn) := ⟨_, ⟨rfl⟩⟩
      rw [hwn.out] at cA cB ⊢
      have hlt' : (t : Int) < (n : Int) := by omega
      clear l1 l2
      go_wp2
      refine wp_region_held_drew (S := fun w' => w'.rangeAt b1 (o1 + t * 32) CA ∧ w'.rangeAt b2 (o2 + t * 32) CB) (by kernel_rfl) ⟨cA, cB⟩ (fun hHeld => ?_)
      refine wpAnyH_take (i := 0) (oi := ⟨some 17, Op.move (Operand.tmp 0), 45, _, _, none⟩) (v := Value.slice (some ⟨b1, o1, none⟩) n c1) rfl (by kernel_rfl) (by kernel_rfl) (by kernel_rfl) (fun _ _ _ h => h) (Or.inl ⟨by rfl, fun w hS => by go_simp⟩) hHeld ?_
      simp only [Act.put, List.setIfInBounds_toArray, List.set_cons_zero, List.set_cons_succ]
      refine wpAnyH_take (i := 1) (oi := ⟨some 18, Op.move (Operand.tmp 5), 3, _, _, none⟩) (v := .int .i64 (t : Int)) rfl (by kernel_rfl) (by kernel_rfl) (by kernel_rfl) (fun _ _ _ h => h) (Or.inl ⟨by rfl, fun w hS => by go_simp⟩) hHeld ?_
      simp only [Act.put, List.setIfInBounds_toArray, List.set_cons_zero, List.set_cons_succ]
      refine wpAnyH_take (i := 2) (oi := ⟨some 19, Op.indexAddr 45 (Operand.tmp 17) (Operand.tmp 18), 0, _, _, none⟩) (v := .pointer (some ⟨b1, o1 + t * 32, none⟩)) rfl (by kernel_rfl) (by kernel_rfl) (by kernel_rfl) (fun _ _ _ h => h) (Or.inl ⟨by rfl, fun w hS => by go_simp⟩) hHeld ?_
      simp only [Act.put, List.setIfInBounds_toArray, List.set_cons_zero, List.set_cons_succ]
      refine wpAnyH_take (i := 3) (oi := ⟨some 20, Op.load 23 (Operand.tmp 19), 23, _, _, none⟩) (v := .agg (CA).toArray) rfl (by kernel_rfl) (by kernel_rfl) (by kernel_rfl) (fun _ _ _ h => h) (yieldsIf_load_mid (by rfl) 23 (Operand.tmp 19) rfl b1 (o1 + t * 32) rfl CA _ (fun w hS => hS.1) hu rfl hi1) hHeld ?_
      simp only [Act.put, List.setIfInBounds_toArray, List.set_cons_zero, List.set_cons_succ]
      refine wpAnyH_take (i := 4) (oi := ⟨some 21, Op.move (Operand.tmp 1), 45, _, _, none⟩) (v := Value.slice (some ⟨b2, o2, none⟩) n c2) rfl (by kernel_rfl) (by kernel_rfl) (by kernel_rfl) (fun _ _ _ h => h) (Or.inl ⟨by rfl, fun w hS => by go_simp⟩) hHeld ?_
      simp only [Act.put, List.setIfInBounds_toArray, List.set_cons_zero, List.set_cons_succ]
      refine wpAnyH_take (i := 5) (oi := ⟨some 22, Op.move (Operand.tmp 5), 3, _, _, none⟩) (v := .int .i64 (t : Int)) rfl (by kernel_rfl) (by kernel_rfl) (by kernel_rfl) (fun _ _ _ h => h) (Or.inl ⟨by rfl, fun w hS => by go_simp⟩) hHeld ?_
      simp only [Act.put, List.setIfInBounds_toArray, List.set_cons_zero, List.set_cons_succ]
      refine wpAnyH_take (i := 6) (oi := ⟨some 23, Op.indexAddr 45 (Operand.tmp 21) (Operand.tmp 22), 0, _, _, none⟩) (v := .pointer (some ⟨b2, o2 + t * 32, none⟩)) rfl (by kernel_rfl) (by kernel_rfl) (by kernel_rfl) (fun _ _ _ h => h) (Or.inl ⟨by rfl, fun w hS => by go_simp⟩) hHeld ?_
      simp only [Act.put, List.setIfInBounds_toArray, List.set_cons_zero, List.set_cons_succ]
      refine wpAnyH_take (i := 7) (oi := ⟨some 24, Op.load 23 (Operand.tmp 23), 23, _, _, none⟩) (v := .agg (CB).toArray) rfl (by kernel_rfl) (by kernel_rfl) (by kernel_rfl) (fun _ _ _ h => h) (yieldsIf_load_mid (by rfl) 23 (Operand.tmp 23) rfl b2 (o2 + t * 32) rfl CB _ (fun w hS => hS.2) hu rfl hi2) hHeld ?_
      simp only [Act.put, List.setIfInBounds_toArray, List.set_cons_zero, List.set_cons_succ]
      refine wpAnyH_take (i := 8) (oi := ⟨some 25, Op.binOp BinOp.neq 23 (Operand.tmp 20) (Operand.tmp 24) 23, 4, _, _, none⟩) (v := .bool E) rfl (by kernel_rfl) (by kernel_rfl) (by kernel_rfl) (fun _ _ _ h => h) (Or.inl ⟨by rfl, fun w hS => by go_simp⟩) hHeld ?_
      simp only [Act.put, List.setIfInBounds_toArray, List.set_cons_zero, List.set_cons_succ]
      refine wpAnyH_done (by kernel_rfl) ?_ _
      have HD : Keep (∃ k, wn.drew = w.drewN k) := ⟨_, by rw [← hwn.out, World.drew_drewN]⟩
      cases E with
      | true =>
        have HF2 : Keep (R = false) := ⟨HF.out rfl⟩
        clear HF HE
        go_wp2
        go_ret
        exact ⟨by rw [HF2.out]; rfl, HD.out⟩
      | false =>
        have HE2 : Keep (L[t]? = M[t]?) := ⟨HE.out rfl⟩
        clear HF HE
        go_wp2
        go_roundw
        case rel =>
          obtain ⟨k, hk⟩ := HD.out
          exact ⟨t + 1, k, by omega, by go_num, fun k hk => by
            rcases Nat.lt_or_eq_of_le (Nat.le_of_lt_succ hk) with h | h
            · exact HK.out k h
            · subst h; exact HE2.out, hk⟩
        case measure => simp [intOf]; omega
    · obtain rfl : t = n := by omega
      go_wp2
      go_ret
      refine ⟨?_, q, rfl⟩
      rw [hR.out, decide_eq_true (List.ext_getElem? fun i => ?_)]
      · rfl
      · by_cases hi : i < t
        · exact HK.out i hi
        · have e1 := HL.out
          have e2 := HM.out
          rw [List.getElem?_eq_none (by omega), List.getElem?_eq_none (by omega)]

set_option maxHeartbeats 400000 in
theorem same_ne (a1 a2 : Option Addr) (n m c1 c2 : Nat) (w : World) (h : n ≠ m) : Calls Try.prog 24 #[.slice a1 n c1, .slice a2 m c2] w fun e w' => e = .returned (.bool false) ∧ w' = w := by
  have h' : ¬ ((n : Int) = (m : Int)) := by omega
  go_enter Try.func24, Try.ntmps24
  go_wp2
  go_ret
  exact ⟨rfl, rfl⟩
set_option maxHeartbeats 400000 in
theorem same_none (a1 a2 : Option Addr) (c1 c2 : Nat) (w : World) : Calls Try.prog 24 #[.slice a1 0 c1, .slice a2 0 c2] w fun e w' => e = .returned (.bool true) ∧ w' = w := by
  go_enter Try.func24, Try.ntmps24
  go_wp2
  refine wp_loop_rounds 1 ?_; rw [rounds_succ]
  go_wp2
  go_ret
  exact ⟨rfl, rfl⟩
/-- The document's Same. -/
theorem same_any (v1 v2 : Value) (L M : List Hs) (w : World) (h1 : HRow w v1 L) (h2 : HRow w v2 M) (hn : (L.length : Int) ≤ 9223372036854775807) :
    Calls Try.prog 24 #[v1, v2] w fun e w' => e = .returned (.bool (decide (L = M))) ∧ ∃ q, w' = w.drewN q := by
  obtain ⟨a1, c1, rfl⟩ := h1.form
  obtain ⟨a2, c2, rfl⟩ := h2.form
  by_cases hl : L.length = M.length
  · by_cases h0 : 0 < L.length
    · obtain ⟨b1, o1, rfl, _, _, r1⟩ := h1.at h0
      obtain ⟨b2, o2, rfl, _, _, r2⟩ := h2.at (by omega)
      rw [← hl]
      exact same_walk L.length b1 o1 c1 b2 o2 c2 L M w rfl hl.symm r1 r2 hn
    · have e1 : L = [] := List.eq_nil_of_length_eq_zero (by omega)
      have e2 : M = [] := List.eq_nil_of_length_eq_zero (by omega)
      subst e1 e2
      exact (same_none a1 a2 c1 c2 w).mono fun e w' h => ⟨by rw [h.1]; simp, 0, by rw [h.2, World.drewN_zero]⟩
  · exact (same_ne a1 a2 _ _ c1 c2 w hl).mono fun e w' h => ⟨by rw [h.1, decide_eq_false fun e => hl (by rw [e])], 0, by rw [h.2, World.drewN_zero]⟩
end Go.Proofs.Ytbbhjgflaiacaaa
