import Derived.Test.YtbbhjgflaiacaaaOrdL
namespace Go.Proofs.Ytbbhjgflaiacaaa
open Go.RowKit Go.Sort

theorem cmp_below {f : Nat} (h : ∀ (x y : Hs) (w : World), Calls Try.prog f #[.agg (bytesA 32 x.f), .agg (bytesA 32 y.f)] w fun e w' => e = .returned (.int .i64 (cf x y)) ∧ ∃ q os, w' = grow (w.drewN q) os) (x y : Hs) (w : World) :
    Calls Try.prog f #[.agg (encH x).toArray, .agg (encH y).toArray] w fun e w' => e = .returned (.int .i64 (cf x y)) ∧ Below w.heap.size w w' := by
  rw [encH_arr, encH_arr]
  refine (h x y w).mono fun e w' h => ⟨h.1, ?_⟩
  obtain ⟨q, os, rfl⟩ := h.2
  exact grown_below w q os

/-- What the loop of ShaOrders leaves to the end. -/
theorem orders_same {L A B : List Hs} (ha : A.Pairwise Lt) (hb : B.Pairwise Lt) (ma : ∀ x, x ∈ A ↔ x ∈ L) (mb : ∀ x, x ∈ B ↔ x ∈ L) : decide (A = B) = true :=
  decide_eq_true (rising_unique A B ha hb fun x => by rw [ma, mb])

set_option maxRecDepth 20000 in
set_option maxHeartbeats 2000000 in
theorem orders_any (v : Value) (L : List Hs) (w : World) (h : HRow w v L) (hn : L.length ≤ 4398046511104) :
    Calls Try.prog 6 #[v] w fun e w' => e = .returned (.bool true) ∧ Below w.heap.size w w' := by
  have HR : Keep (HRow w v L) := ⟨h⟩
  obtain ⟨a, c, hv⟩ := h.form
  obtain ⟨n, hL⟩ : ∃ n, Keep (L.length = n) := ⟨_, ⟨rfl⟩⟩
  have hn' : n ≤ 4398046511104 := by rw [← hL.out]; exact hn
  have HV : Keep (v = .slice a n c) := ⟨by rw [← hL.out]; exact hv⟩
  rw [HV.out]
  have hu := Try.underlying23
  clear h hv hn
  go_enter Try.func6, Try.ntmps6
  go_wp2
  go_loopw [3] (fun i wr => ∃ t : Nat, t ≤ n ∧ i = .int .i64 (t : Int) ∧ Below w.heap.size w wr) (fun i _ => n - (intOf i).toNat)
  case atStart => exact ⟨0, by omega, rfl, Below.refl _ _⟩
  case round =>
    obtain ⟨t, ht, rfl, hB⟩ := hrel
    obtain ⟨t1, ht1⟩ : ∃ t1, Keep (t1 = t + 1) := ⟨_, ⟨rfl⟩⟩
    have q1 : (t : Int) + 1 = (t1 : Int) := by have := ht1.out; omega
    have q2 : IntKind.i64.wrap (t1 : Int) = (t1 : Int) := by rw [IntKind.wrap_i64]; have := ht1.out; omega
    by_cases hlt : t1 < n
    · have HR2 := HR.out
      rw [HV.out] at HR2
      obtain ⟨b, o, hao, hnn, hcc, rL⟩ := HR2.at (by rw [hL.out]; omega)
      clear hnn hcc
      subst hao
      clear HR2
      have htt : t < n := by have := ht1.out; omega
      have l1 : t < L.length := by rw [hL.out]; exact htt
      have l2 : t1 < L.length := by rw [hL.out]; exact hlt
      have l3 : 0 < L.length := by omega
      have hblt := rangeAt_lt rL l3
      have HS : Keep (∀ wx, Below wr.heap.size wr wx → wx.rangeAt b (o + t * 32) (encH L[t]) ∧ wx.rangeAt b (o + t1 * 32) (encH L[t1]) ∧ wx.rangeAt b o (encH L[0])) := ⟨fun wx hx => by
        have hb2 := hB.trans (hx.mono hB.size)
        refine ⟨rangeAt_below (rangeAt_elem rL t l1) hb2 hblt, rangeAt_below (rangeAt_elem rL t1 l2) hb2 hblt, ?_⟩
        have := rangeAt_below (rangeAt_elem rL 0 l3) hb2 hblt
        rwa [Nat.zero_mul, Nat.add_zero] at this⟩
      have HC1 : Keep (∀ w, Calls Try.prog 22 #[.agg (encH L[t]).toArray, .agg (encH L[t1]).toArray] w fun e w' => e = .returned (.int .i64 (cf L[t] L[t1])) ∧ Below w.heap.size w w') := ⟨cmp_below compare_any _ _⟩
      have HC2 : Keep (∀ w, Calls Try.prog 23 #[.agg (encH L[t]).toArray, .agg (encH L[t1]).toArray] w fun e w' => e = .returned (.int .i64 (cf L[t] L[t1])) ∧ Below w.heap.size w w') := ⟨cmp_below refCompare_any _ _⟩
      have HC3 : Keep (∀ w, Calls Try.prog 22 #[.agg (encH L[0]).toArray, .agg (encH L[t1]).toArray] w fun e w' => e = .returned (.int .i64 (cf L[0] L[t1])) ∧ Below w.heap.size w w') := ⟨cmp_below compare_any _ _⟩
      have HC4 : Keep (∀ w, Calls Try.prog 23 #[.agg (encH L[0]).toArray, .agg (encH L[t1]).toArray] w fun e w' => e = .returned (.int .i64 (cf L[0] L[t1])) ∧ Below w.heap.size w w') := ⟨cmp_below refCompare_any _ _⟩
      have HC5 : Keep (∀ w, Calls Try.prog 22 #[.agg (encH L[t]).toArray, .agg (encH L[t]).toArray] w fun e w' => e = .returned (.int .i64 0) ∧ Below w.heap.size w w') := ⟨fun w => by
        have h := cmp_below compare_any L[t] L[t] w
        rwa [(cf_zero L[t] L[t]).2 rfl] at h⟩
      have hi1 := Try.size23L L[t]
      have hi2 := Try.size23L L[t1]
      have hi3 := Try.size23L L[0]
      generalize cf L[t] L[t1] = r1 at *
      generalize cf L[0] L[t1] = r2 at *
      generalize encH L[t] = CX at *
      generalize encH L[t1] = CY at *
      generalize encH L[0] = CZ at *
      clear l1 l2 l3 rL
      have hD0 : Below wr.heap.size wr wr.drew := (Below.refl _ _).drew
      have f1 : (t1 : Int) < (n : Int) := by omega
      have f2 : (t : Int) < (n : Int) := by omega
      have f3 : ¬ (n = 0) := by omega
      go_wp2
      refine wp_region_held_drew (S := fun w' => w'.rangeAt b (o + t * 32) CX ∧ w'.rangeAt b (o + t1 * 32) CY ∧ w'.rangeAt b o CZ) (by kernel_rfl) (HS.out _ hD0) (fun hHeld => ?_)
      refine wpAnyH_take (i := 0) (oi := ⟨some 11, Op.move (Operand.tmp 0), 45, _, _, none⟩) (v := Value.slice (some ⟨b, o, none⟩) n c) rfl (by kernel_rfl) (by kernel_rfl) (by kernel_rfl) (fun _ _ _ h => h) (Or.inl ⟨by rfl, fun w hS => by go_simp⟩) hHeld ?_
      simp only [Act.put, List.setIfInBounds_toArray, List.set_cons_zero, List.set_cons_succ]
      refine wpAnyH_take (i := 1) (oi := ⟨some 12, Op.move (Operand.tmp 3), 3, _, _, none⟩) (v := .int .i64 (t : Int)) rfl (by kernel_rfl) (by kernel_rfl) (by kernel_rfl) (fun _ _ _ h => h) (Or.inl ⟨by rfl, fun w hS => by go_simp⟩) hHeld ?_
      simp only [Act.put, List.setIfInBounds_toArray, List.set_cons_zero, List.set_cons_succ]
      refine wpAnyH_take (i := 2) (oi := ⟨some 13, Op.indexAddr 45 (Operand.tmp 11) (Operand.tmp 12), 0, _, _, none⟩) (v := .pointer (some ⟨b, o + t * 32, none⟩)) rfl (by kernel_rfl) (by kernel_rfl) (by kernel_rfl) (fun _ _ _ h => h) (Or.inl ⟨by rfl, fun w hS => by go_simp⟩) hHeld ?_
      simp only [Act.put, List.setIfInBounds_toArray, List.set_cons_zero, List.set_cons_succ]
      refine wpAnyH_take (i := 3) (oi := ⟨some 14, Op.load 23 (Operand.tmp 13), 23, _, _, none⟩) (v := .agg (CX).toArray) rfl (by kernel_rfl) (by kernel_rfl) (by kernel_rfl) (fun _ _ _ h => h) (yieldsIf_load_mid (by rfl) 23 (Operand.tmp 13) rfl b (o + t * 32) rfl CX _ (fun w hS => hS.1) hu rfl hi1) hHeld ?_
      simp only [Act.put, List.setIfInBounds_toArray, List.set_cons_zero, List.set_cons_succ]
      refine wpAnyH_take (i := 4) (oi := ⟨some 15, Op.move (Operand.tmp 0), 45, _, _, none⟩) (v := Value.slice (some ⟨b, o, none⟩) n c) rfl (by kernel_rfl) (by kernel_rfl) (by kernel_rfl) (fun _ _ _ h => h) (Or.inl ⟨by rfl, fun w hS => by go_simp⟩) hHeld ?_
      simp only [Act.put, List.setIfInBounds_toArray, List.set_cons_zero, List.set_cons_succ]
      refine wpAnyH_take (i := 5) (oi := ⟨some 16, Op.move (Operand.tmp 3), 3, _, _, none⟩) (v := .int .i64 (t : Int)) rfl (by kernel_rfl) (by kernel_rfl) (by kernel_rfl) (fun _ _ _ h => h) (Or.inl ⟨by rfl, fun w hS => by go_simp⟩) hHeld ?_
      simp only [Act.put, List.setIfInBounds_toArray, List.set_cons_zero, List.set_cons_succ]
      refine wpAnyH_take (i := 6) (oi := ⟨some 17, Op.binOp BinOp.add 3 (Operand.tmp 16) (Operand.const (Value.int IntKind.i64 1)) 3, 3, _, _, none⟩) (v := .int .i64 (t1 : Int)) rfl (by kernel_rfl) (by kernel_rfl) (by kernel_rfl) (fun _ _ _ h => h) (Or.inl ⟨by rfl, fun w hS => by go_simp⟩) hHeld ?_
      simp only [Act.put, List.setIfInBounds_toArray, List.set_cons_zero, List.set_cons_succ]
      refine wpAnyH_take (i := 7) (oi := ⟨some 18, Op.indexAddr 45 (Operand.tmp 15) (Operand.tmp 17), 0, _, _, none⟩) (v := .pointer (some ⟨b, o + t1 * 32, none⟩)) rfl (by kernel_rfl) (by kernel_rfl) (by kernel_rfl) (fun _ _ _ h => h) (Or.inl ⟨by rfl, fun w hS => by go_simp⟩) hHeld ?_
      simp only [Act.put, List.setIfInBounds_toArray, List.set_cons_zero, List.set_cons_succ]
      refine wpAnyH_take (i := 8) (oi := ⟨some 19, Op.load 23 (Operand.tmp 18), 23, _, _, none⟩) (v := .agg (CY).toArray) rfl (by kernel_rfl) (by kernel_rfl) (by kernel_rfl) (fun _ _ _ h => h) (yieldsIf_load_mid (by rfl) 23 (Operand.tmp 18) rfl b (o + t1 * 32) rfl CY _ (fun w hS => hS.2.1) hu rfl hi2) hHeld ?_
      simp only [Act.put, List.setIfInBounds_toArray, List.set_cons_zero, List.set_cons_succ]
      refine wpAnyH_take (i := 10) (oi := ⟨some 21, Op.move (Operand.tmp 0), 45, _, _, none⟩) (v := Value.slice (some ⟨b, o, none⟩) n c) rfl (by kernel_rfl) (by kernel_rfl) (by kernel_rfl) (fun _ _ _ h => h) (Or.inl ⟨by rfl, fun w hS => by go_simp⟩) hHeld ?_
      simp only [Act.put, List.setIfInBounds_toArray, List.set_cons_zero, List.set_cons_succ]
      refine wpAnyH_take (i := 11) (oi := ⟨some 22, Op.move (Operand.tmp 3), 3, _, _, none⟩) (v := .int .i64 (t : Int)) rfl (by kernel_rfl) (by kernel_rfl) (by kernel_rfl) (fun _ _ _ h => h) (Or.inl ⟨by rfl, fun w hS => by go_simp⟩) hHeld ?_
      simp only [Act.put, List.setIfInBounds_toArray, List.set_cons_zero, List.set_cons_succ]
      refine wpAnyH_take (i := 12) (oi := ⟨some 23, Op.indexAddr 45 (Operand.tmp 21) (Operand.tmp 22), 0, _, _, none⟩) (v := .pointer (some ⟨b, o + t * 32, none⟩)) rfl (by kernel_rfl) (by kernel_rfl) (by kernel_rfl) (fun _ _ _ h => h) (Or.inl ⟨by rfl, fun w hS => by go_simp⟩) hHeld ?_
      simp only [Act.put, List.setIfInBounds_toArray, List.set_cons_zero, List.set_cons_succ]
      refine wpAnyH_take (i := 13) (oi := ⟨some 24, Op.load 23 (Operand.tmp 23), 23, _, _, none⟩) (v := .agg (CX).toArray) rfl (by kernel_rfl) (by kernel_rfl) (by kernel_rfl) (fun _ _ _ h => h) (yieldsIf_load_mid (by rfl) 23 (Operand.tmp 23) rfl b (o + t * 32) rfl CX _ (fun w hS => hS.1) hu rfl hi1) hHeld ?_
      simp only [Act.put, List.setIfInBounds_toArray, List.set_cons_zero, List.set_cons_succ]
      refine wpAnyH_take (i := 14) (oi := ⟨some 25, Op.move (Operand.tmp 0), 45, _, _, none⟩) (v := Value.slice (some ⟨b, o, none⟩) n c) rfl (by kernel_rfl) (by kernel_rfl) (by kernel_rfl) (fun _ _ _ h => h) (Or.inl ⟨by rfl, fun w hS => by go_simp⟩) hHeld ?_
      simp only [Act.put, List.setIfInBounds_toArray, List.set_cons_zero, List.set_cons_succ]
      refine wpAnyH_take (i := 15) (oi := ⟨some 26, Op.move (Operand.tmp 3), 3, _, _, none⟩) (v := .int .i64 (t : Int)) rfl (by kernel_rfl) (by kernel_rfl) (by kernel_rfl) (fun _ _ _ h => h) (Or.inl ⟨by rfl, fun w hS => by go_simp⟩) hHeld ?_
      simp only [Act.put, List.setIfInBounds_toArray, List.set_cons_zero, List.set_cons_succ]
      refine wpAnyH_take (i := 16) (oi := ⟨some 27, Op.binOp BinOp.add 3 (Operand.tmp 26) (Operand.const (Value.int IntKind.i64 1)) 3, 3, _, _, none⟩) (v := .int .i64 (t1 : Int)) rfl (by kernel_rfl) (by kernel_rfl) (by kernel_rfl) (fun _ _ _ h => h) (Or.inl ⟨by rfl, fun w hS => by go_simp⟩) hHeld ?_
      simp only [Act.put, List.setIfInBounds_toArray, List.set_cons_zero, List.set_cons_succ]
      refine wpAnyH_take (i := 17) (oi := ⟨some 28, Op.indexAddr 45 (Operand.tmp 25) (Operand.tmp 27), 0, _, _, none⟩) (v := .pointer (some ⟨b, o + t1 * 32, none⟩)) rfl (by kernel_rfl) (by kernel_rfl) (by kernel_rfl) (fun _ _ _ h => h) (Or.inl ⟨by rfl, fun w hS => by go_simp⟩) hHeld ?_
      simp only [Act.put, List.setIfInBounds_toArray, List.set_cons_zero, List.set_cons_succ]
      refine wpAnyH_take (i := 18) (oi := ⟨some 29, Op.load 23 (Operand.tmp 28), 23, _, _, none⟩) (v := .agg (CY).toArray) rfl (by kernel_rfl) (by kernel_rfl) (by kernel_rfl) (fun _ _ _ h => h) (yieldsIf_load_mid (by rfl) 23 (Operand.tmp 28) rfl b (o + t1 * 32) rfl CY _ (fun w hS => hS.2.1) hu rfl hi2) hHeld ?_
      simp only [Act.put, List.setIfInBounds_toArray, List.set_cons_zero, List.set_cons_succ]
      refine wpAnyH_ready (rs := [9]) (by kernel_rfl) (by simp) ?_
      refine AllReadyH.cons (o := ⟨some 20, Op.call { callee := Callee.value (Operand.func 22), args := #[Operand.tmp 14, Operand.tmp 19], argTypes := #[23, 23] }, 3, _, _, none⟩) rfl (fun K hK => ?_) AllReadyH.nil
      rw [if_pos (by rfl)]
      refine wp_callF 22 #[.tmp 14, .tmp 19] #[23, 23] rfl Try.enter22 #[.agg CX.toArray, .agg CY.toArray] (by simp [Act.eval]) (fun v w' => v = .int .i64 r1 ∧ Below wr.drew.heap.size wr.drew w') ((HC1.out wr.drew).mono fun e w' h => ⟨_, h.1, rfl, h.2⟩) ?_
      rintro v w1 ⟨rfl, hb1⟩
      have hB1 : Below wr.heap.size wr w1 := hD0.trans (hb1.mono hD0.size)
      refine hK.out _ _ (HS.out _ hB1) fun hHeld1 => ?_
      clear hK
      simp only [Act.put, List.setIfInBounds_toArray, List.set_cons_zero, List.set_cons_succ]
      refine wpAnyH_ready (rs := [19]) (by kernel_rfl) (by simp) ?_
      refine AllReadyH.cons (o := ⟨some 30, Op.call { callee := Callee.value (Operand.func 23), args := #[Operand.tmp 24, Operand.tmp 29], argTypes := #[23, 23] }, 3, _, _, none⟩) rfl (fun K hK => ?_) AllReadyH.nil
      rw [if_pos (by rfl)]
      refine wp_callF 23 #[.tmp 24, .tmp 29] #[23, 23] rfl Try.enter23 #[.agg CX.toArray, .agg CY.toArray] (by simp [Act.eval]) (fun v w' => v = .int .i64 r1 ∧ Below w1.heap.size w1 w') ((HC2.out w1).mono fun e w' h => ⟨_, h.1, rfl, h.2⟩) ?_
      rintro v w2 ⟨rfl, hb2⟩
      have hB2 : Below wr.heap.size wr w2 := hB1.trans (hb2.mono hB1.size)
      refine hK.out _ _ (HS.out _ hB2) fun hHeld2 => ?_
      clear hK
      simp only [Act.put, List.setIfInBounds_toArray, List.set_cons_zero, List.set_cons_succ]
      refine wpAnyH_take (i := 20) (oi := ⟨some 31, Op.binOp BinOp.neq 3 (Operand.tmp 20) (Operand.tmp 30) 3, 4, _, _, none⟩) (v := .bool false) rfl (by kernel_rfl) (by kernel_rfl) (by kernel_rfl) (fun _ _ _ h => h) (Or.inl ⟨by rfl, fun w hS => by go_simp⟩) hHeld2 ?_
      simp only [Act.put, List.setIfInBounds_toArray, List.set_cons_zero, List.set_cons_succ]
      refine wpAnyH_take (i := 21) (oi := ⟨some 32, Op.move (Operand.tmp 31), 4, _, _, none⟩) (v := .bool false) rfl (by kernel_rfl) (by kernel_rfl) (by kernel_rfl) (fun _ _ _ h => h) (Or.inl ⟨by rfl, fun w hS => by go_simp⟩) hHeld2 ?_
      simp only [Act.put, List.setIfInBounds_toArray, List.set_cons_zero, List.set_cons_succ]
      refine wpAnyH_take (i := 22) (oi := ⟨some 33, Op.move (Operand.tmp 0), 45, _, _, some (21, false)⟩) (v := Value.slice (some ⟨b, o, none⟩) n c) rfl (by kernel_rfl) (by kernel_rfl) (by kernel_rfl) (fun _ _ _ h => h) (Or.inl ⟨by rfl, fun w hS => by go_simp⟩) hHeld2 ?_
      simp only [Act.put, List.setIfInBounds_toArray, List.set_cons_zero, List.set_cons_succ]
      refine wpAnyH_take (i := 23) (oi := ⟨some 34, Op.indexAddr 45 (Operand.tmp 33) (Operand.const (Value.int IntKind.i64 0)), 0, _, _, some (21, false)⟩) (v := .pointer (some ⟨b, o, none⟩)) rfl (by kernel_rfl) (by kernel_rfl) (by kernel_rfl) (fun _ _ _ h => h) (Or.inl ⟨by rfl, fun w hS => by go_simp⟩) hHeld2 ?_
      simp only [Act.put, List.setIfInBounds_toArray, List.set_cons_zero, List.set_cons_succ]
      refine wpAnyH_take (i := 24) (oi := ⟨some 35, Op.load 23 (Operand.tmp 34), 23, _, _, some (21, false)⟩) (v := .agg (CZ).toArray) rfl (by kernel_rfl) (by kernel_rfl) (by kernel_rfl) (fun _ _ _ h => h) (yieldsIf_load_mid (by rfl) 23 (Operand.tmp 34) rfl b o rfl CZ _ (fun w hS => hS.2.2) hu rfl hi3) hHeld2 ?_
      simp only [Act.put, List.setIfInBounds_toArray, List.set_cons_zero, List.set_cons_succ]
      refine wpAnyH_take (i := 25) (oi := ⟨some 36, Op.move (Operand.tmp 0), 45, _, _, some (21, false)⟩) (v := Value.slice (some ⟨b, o, none⟩) n c) rfl (by kernel_rfl) (by kernel_rfl) (by kernel_rfl) (fun _ _ _ h => h) (Or.inl ⟨by rfl, fun w hS => by go_simp⟩) hHeld2 ?_
      simp only [Act.put, List.setIfInBounds_toArray, List.set_cons_zero, List.set_cons_succ]
      refine wpAnyH_take (i := 26) (oi := ⟨some 37, Op.move (Operand.tmp 3), 3, _, _, some (21, false)⟩) (v := .int .i64 (t : Int)) rfl (by kernel_rfl) (by kernel_rfl) (by kernel_rfl) (fun _ _ _ h => h) (Or.inl ⟨by rfl, fun w hS => by go_simp⟩) hHeld2 ?_
      simp only [Act.put, List.setIfInBounds_toArray, List.set_cons_zero, List.set_cons_succ]
      refine wpAnyH_take (i := 27) (oi := ⟨some 38, Op.binOp BinOp.add 3 (Operand.tmp 37) (Operand.const (Value.int IntKind.i64 1)) 3, 3, _, _, some (21, false)⟩) (v := .int .i64 (t1 : Int)) rfl (by kernel_rfl) (by kernel_rfl) (by kernel_rfl) (fun _ _ _ h => h) (Or.inl ⟨by rfl, fun w hS => by go_simp⟩) hHeld2 ?_
      simp only [Act.put, List.setIfInBounds_toArray, List.set_cons_zero, List.set_cons_succ]
      refine wpAnyH_take (i := 28) (oi := ⟨some 39, Op.indexAddr 45 (Operand.tmp 36) (Operand.tmp 38), 0, _, _, some (21, false)⟩) (v := .pointer (some ⟨b, o + t1 * 32, none⟩)) rfl (by kernel_rfl) (by kernel_rfl) (by kernel_rfl) (fun _ _ _ h => h) (Or.inl ⟨by rfl, fun w hS => by go_simp⟩) hHeld2 ?_
      simp only [Act.put, List.setIfInBounds_toArray, List.set_cons_zero, List.set_cons_succ]
      refine wpAnyH_take (i := 29) (oi := ⟨some 40, Op.load 23 (Operand.tmp 39), 23, _, _, some (21, false)⟩) (v := .agg (CY).toArray) rfl (by kernel_rfl) (by kernel_rfl) (by kernel_rfl) (fun _ _ _ h => h) (yieldsIf_load_mid (by rfl) 23 (Operand.tmp 39) rfl b (o + t1 * 32) rfl CY _ (fun w hS => hS.2.1) hu rfl hi2) hHeld2 ?_
      simp only [Act.put, List.setIfInBounds_toArray, List.set_cons_zero, List.set_cons_succ]
      refine wpAnyH_take (i := 31) (oi := ⟨some 42, Op.move (Operand.tmp 0), 45, _, _, some (21, false)⟩) (v := Value.slice (some ⟨b, o, none⟩) n c) rfl (by kernel_rfl) (by kernel_rfl) (by kernel_rfl) (fun _ _ _ h => h) (Or.inl ⟨by rfl, fun w hS => by go_simp⟩) hHeld2 ?_
      simp only [Act.put, List.setIfInBounds_toArray, List.set_cons_zero, List.set_cons_succ]
      refine wpAnyH_take (i := 32) (oi := ⟨some 43, Op.indexAddr 45 (Operand.tmp 42) (Operand.const (Value.int IntKind.i64 0)), 0, _, _, some (21, false)⟩) (v := .pointer (some ⟨b, o, none⟩)) rfl (by kernel_rfl) (by kernel_rfl) (by kernel_rfl) (fun _ _ _ h => h) (Or.inl ⟨by rfl, fun w hS => by go_simp⟩) hHeld2 ?_
      simp only [Act.put, List.setIfInBounds_toArray, List.set_cons_zero, List.set_cons_succ]
      refine wpAnyH_take (i := 33) (oi := ⟨some 44, Op.load 23 (Operand.tmp 43), 23, _, _, some (21, false)⟩) (v := .agg (CZ).toArray) rfl (by kernel_rfl) (by kernel_rfl) (by kernel_rfl) (fun _ _ _ h => h) (yieldsIf_load_mid (by rfl) 23 (Operand.tmp 43) rfl b o rfl CZ _ (fun w hS => hS.2.2) hu rfl hi3) hHeld2 ?_
      simp only [Act.put, List.setIfInBounds_toArray, List.set_cons_zero, List.set_cons_succ]
      refine wpAnyH_take (i := 34) (oi := ⟨some 45, Op.move (Operand.tmp 0), 45, _, _, some (21, false)⟩) (v := Value.slice (some ⟨b, o, none⟩) n c) rfl (by kernel_rfl) (by kernel_rfl) (by kernel_rfl) (fun _ _ _ h => h) (Or.inl ⟨by rfl, fun w hS => by go_simp⟩) hHeld2 ?_
      simp only [Act.put, List.setIfInBounds_toArray, List.set_cons_zero, List.set_cons_succ]
      refine wpAnyH_take (i := 35) (oi := ⟨some 46, Op.move (Operand.tmp 3), 3, _, _, some (21, false)⟩) (v := .int .i64 (t : Int)) rfl (by kernel_rfl) (by kernel_rfl) (by kernel_rfl) (fun _ _ _ h => h) (Or.inl ⟨by rfl, fun w hS => by go_simp⟩) hHeld2 ?_
      simp only [Act.put, List.setIfInBounds_toArray, List.set_cons_zero, List.set_cons_succ]
      refine wpAnyH_take (i := 36) (oi := ⟨some 47, Op.binOp BinOp.add 3 (Operand.tmp 46) (Operand.const (Value.int IntKind.i64 1)) 3, 3, _, _, some (21, false)⟩) (v := .int .i64 (t1 : Int)) rfl (by kernel_rfl) (by kernel_rfl) (by kernel_rfl) (fun _ _ _ h => h) (Or.inl ⟨by rfl, fun w hS => by go_simp⟩) hHeld2 ?_
      simp only [Act.put, List.setIfInBounds_toArray, List.set_cons_zero, List.set_cons_succ]
      refine wpAnyH_take (i := 37) (oi := ⟨some 48, Op.indexAddr 45 (Operand.tmp 45) (Operand.tmp 47), 0, _, _, some (21, false)⟩) (v := .pointer (some ⟨b, o + t1 * 32, none⟩)) rfl (by kernel_rfl) (by kernel_rfl) (by kernel_rfl) (fun _ _ _ h => h) (Or.inl ⟨by rfl, fun w hS => by go_simp⟩) hHeld2 ?_
      simp only [Act.put, List.setIfInBounds_toArray, List.set_cons_zero, List.set_cons_succ]
      refine wpAnyH_take (i := 38) (oi := ⟨some 49, Op.load 23 (Operand.tmp 48), 23, _, _, some (21, false)⟩) (v := .agg (CY).toArray) rfl (by kernel_rfl) (by kernel_rfl) (by kernel_rfl) (fun _ _ _ h => h) (yieldsIf_load_mid (by rfl) 23 (Operand.tmp 48) rfl b (o + t1 * 32) rfl CY _ (fun w hS => hS.2.1) hu rfl hi2) hHeld2 ?_
      simp only [Act.put, List.setIfInBounds_toArray, List.set_cons_zero, List.set_cons_succ]
      refine wpAnyH_ready (rs := [30]) (by kernel_rfl) (by simp) ?_
      refine AllReadyH.cons (o := ⟨some 41, Op.call { callee := Callee.value (Operand.func 22), args := #[Operand.tmp 35, Operand.tmp 40], argTypes := #[23, 23] }, 3, _, _, some (21, false)⟩) rfl (fun K hK => ?_) AllReadyH.nil
      rw [if_pos (by rfl)]
      refine wp_callF 22 #[.tmp 35, .tmp 40] #[23, 23] rfl Try.enter22 #[.agg CZ.toArray, .agg CY.toArray] (by simp [Act.eval]) (fun v w' => v = .int .i64 r2 ∧ Below w2.heap.size w2 w') ((HC3.out w2).mono fun e w' h => ⟨_, h.1, rfl, h.2⟩) ?_
      rintro v w3 ⟨rfl, hb3⟩
      have hB3 : Below wr.heap.size wr w3 := hB2.trans (hb3.mono hB2.size)
      refine hK.out _ _ (HS.out _ hB3) fun hHeld3 => ?_
      clear hK
      simp only [Act.put, List.setIfInBounds_toArray, List.set_cons_zero, List.set_cons_succ]
      refine wpAnyH_ready (rs := [39]) (by kernel_rfl) (by simp) ?_
      refine AllReadyH.cons (o := ⟨some 50, Op.call { callee := Callee.value (Operand.func 23), args := #[Operand.tmp 44, Operand.tmp 49], argTypes := #[23, 23] }, 3, _, _, some (21, false)⟩) rfl (fun K hK => ?_) AllReadyH.nil
      rw [if_pos (by rfl)]
      refine wp_callF 23 #[.tmp 44, .tmp 49] #[23, 23] rfl Try.enter23 #[.agg CZ.toArray, .agg CY.toArray] (by simp [Act.eval]) (fun v w' => v = .int .i64 r2 ∧ Below w3.heap.size w3 w') ((HC4.out w3).mono fun e w' h => ⟨_, h.1, rfl, h.2⟩) ?_
      rintro v w4 ⟨rfl, hb4⟩
      have hB4 : Below wr.heap.size wr w4 := hB3.trans (hb4.mono hB3.size)
      refine hK.out _ _ (HS.out _ hB4) fun hHeld4 => ?_
      clear hK
      simp only [Act.put, List.setIfInBounds_toArray, List.set_cons_zero, List.set_cons_succ]
      refine wpAnyH_take (i := 40) (oi := ⟨some 51, Op.binOp BinOp.neq 3 (Operand.tmp 41) (Operand.tmp 50) 3, 4, _, _, some (21, false)⟩) (v := .bool false) rfl (by kernel_rfl) (by kernel_rfl) (by kernel_rfl) (fun _ _ _ h => h) (Or.inl ⟨by rfl, fun w hS => by go_simp⟩) hHeld4 ?_
      simp only [Act.put, List.setIfInBounds_toArray, List.set_cons_zero, List.set_cons_succ]
      refine wpAnyH_take (i := 41) (oi := ⟨some 52, Op.pick (Operand.tmp 32) (Operand.const (Value.bool true)) (Operand.tmp 51), 4, _, _, none⟩) (v := .bool false) rfl (by kernel_rfl) (by kernel_rfl) (by kernel_rfl) (fun _ _ _ h => h) (Or.inl ⟨by rfl, fun w hS => by go_simp⟩) hHeld4 ?_
      simp only [Act.put, List.setIfInBounds_toArray, List.set_cons_zero, List.set_cons_succ]
      refine wpAnyH_take (i := 42) (oi := ⟨some 53, Op.move (Operand.tmp 52), 4, _, _, none⟩) (v := .bool false) rfl (by kernel_rfl) (by kernel_rfl) (by kernel_rfl) (fun _ _ _ h => h) (Or.inl ⟨by rfl, fun w hS => by go_simp⟩) hHeld4 ?_
      simp only [Act.put, List.setIfInBounds_toArray, List.set_cons_zero, List.set_cons_succ]
      refine wpAnyH_take (i := 43) (oi := ⟨some 54, Op.move (Operand.tmp 0), 45, _, _, some (42, false)⟩) (v := Value.slice (some ⟨b, o, none⟩) n c) rfl (by kernel_rfl) (by kernel_rfl) (by kernel_rfl) (fun _ _ _ h => h) (Or.inl ⟨by rfl, fun w hS => by go_simp⟩) hHeld4 ?_
      simp only [Act.put, List.setIfInBounds_toArray, List.set_cons_zero, List.set_cons_succ]
      refine wpAnyH_take (i := 44) (oi := ⟨some 55, Op.move (Operand.tmp 3), 3, _, _, some (42, false)⟩) (v := .int .i64 (t : Int)) rfl (by kernel_rfl) (by kernel_rfl) (by kernel_rfl) (fun _ _ _ h => h) (Or.inl ⟨by rfl, fun w hS => by go_simp⟩) hHeld4 ?_
      simp only [Act.put, List.setIfInBounds_toArray, List.set_cons_zero, List.set_cons_succ]
      refine wpAnyH_take (i := 45) (oi := ⟨some 56, Op.indexAddr 45 (Operand.tmp 54) (Operand.tmp 55), 0, _, _, some (42, false)⟩) (v := .pointer (some ⟨b, o + t * 32, none⟩)) rfl (by kernel_rfl) (by kernel_rfl) (by kernel_rfl) (fun _ _ _ h => h) (Or.inl ⟨by rfl, fun w hS => by go_simp⟩) hHeld4 ?_
      simp only [Act.put, List.setIfInBounds_toArray, List.set_cons_zero, List.set_cons_succ]
      refine wpAnyH_take (i := 46) (oi := ⟨some 57, Op.load 23 (Operand.tmp 56), 23, _, _, some (42, false)⟩) (v := .agg (CX).toArray) rfl (by kernel_rfl) (by kernel_rfl) (by kernel_rfl) (fun _ _ _ h => h) (yieldsIf_load_mid (by rfl) 23 (Operand.tmp 56) rfl b (o + t * 32) rfl CX _ (fun w hS => hS.1) hu rfl hi1) hHeld4 ?_
      simp only [Act.put, List.setIfInBounds_toArray, List.set_cons_zero, List.set_cons_succ]
      refine wpAnyH_take (i := 47) (oi := ⟨some 58, Op.move (Operand.tmp 0), 45, _, _, some (42, false)⟩) (v := Value.slice (some ⟨b, o, none⟩) n c) rfl (by kernel_rfl) (by kernel_rfl) (by kernel_rfl) (fun _ _ _ h => h) (Or.inl ⟨by rfl, fun w hS => by go_simp⟩) hHeld4 ?_
      simp only [Act.put, List.setIfInBounds_toArray, List.set_cons_zero, List.set_cons_succ]
      refine wpAnyH_take (i := 48) (oi := ⟨some 59, Op.move (Operand.tmp 3), 3, _, _, some (42, false)⟩) (v := .int .i64 (t : Int)) rfl (by kernel_rfl) (by kernel_rfl) (by kernel_rfl) (fun _ _ _ h => h) (Or.inl ⟨by rfl, fun w hS => by go_simp⟩) hHeld4 ?_
      simp only [Act.put, List.setIfInBounds_toArray, List.set_cons_zero, List.set_cons_succ]
      refine wpAnyH_take (i := 49) (oi := ⟨some 60, Op.indexAddr 45 (Operand.tmp 58) (Operand.tmp 59), 0, _, _, some (42, false)⟩) (v := .pointer (some ⟨b, o + t * 32, none⟩)) rfl (by kernel_rfl) (by kernel_rfl) (by kernel_rfl) (fun _ _ _ h => h) (Or.inl ⟨by rfl, fun w hS => by go_simp⟩) hHeld4 ?_
      simp only [Act.put, List.setIfInBounds_toArray, List.set_cons_zero, List.set_cons_succ]
      refine wpAnyH_take (i := 50) (oi := ⟨some 61, Op.load 23 (Operand.tmp 60), 23, _, _, some (42, false)⟩) (v := .agg (CX).toArray) rfl (by kernel_rfl) (by kernel_rfl) (by kernel_rfl) (fun _ _ _ h => h) (yieldsIf_load_mid (by rfl) 23 (Operand.tmp 60) rfl b (o + t * 32) rfl CX _ (fun w hS => hS.1) hu rfl hi1) hHeld4 ?_
      simp only [Act.put, List.setIfInBounds_toArray, List.set_cons_zero, List.set_cons_succ]
      refine wpAnyH_ready (rs := [51]) (by kernel_rfl) (by simp) ?_
      refine AllReadyH.cons (o := ⟨some 62, Op.call { callee := Callee.value (Operand.func 22), args := #[Operand.tmp 57, Operand.tmp 61], argTypes := #[23, 23] }, 3, _, _, some (42, false)⟩) rfl (fun K hK => ?_) AllReadyH.nil
      rw [if_pos (by rfl)]
      refine wp_callF 22 #[.tmp 57, .tmp 61] #[23, 23] rfl Try.enter22 #[.agg CX.toArray, .agg CX.toArray] (by simp [Act.eval]) (fun v w' => v = .int .i64 0 ∧ Below w4.heap.size w4 w') ((HC5.out w4).mono fun e w' h => ⟨_, h.1, rfl, h.2⟩) ?_
      rintro v w5 ⟨rfl, hb5⟩
      have hB5 : Below wr.heap.size wr w5 := hB4.trans (hb5.mono hB4.size)
      refine hK.out _ _ (HS.out _ hB5) fun hHeld5 => ?_
      clear hK
      simp only [Act.put, List.setIfInBounds_toArray, List.set_cons_zero, List.set_cons_succ]
      refine wpAnyH_take (i := 52) (oi := ⟨some 63, Op.binOp BinOp.neq 3 (Operand.tmp 62) (Operand.const (Value.int IntKind.i64 0)) 3, 4, _, _, some (42, false)⟩) (v := .bool false) rfl (by kernel_rfl) (by kernel_rfl) (by kernel_rfl) (fun _ _ _ h => h) (Or.inl ⟨by rfl, fun w hS => by go_simp⟩) hHeld5 ?_
      simp only [Act.put, List.setIfInBounds_toArray, List.set_cons_zero, List.set_cons_succ]
      refine wpAnyH_take (i := 53) (oi := ⟨some 64, Op.pick (Operand.tmp 53) (Operand.const (Value.bool true)) (Operand.tmp 63), 4, _, _, none⟩) (v := .bool false) rfl (by kernel_rfl) (by kernel_rfl) (by kernel_rfl) (fun _ _ _ h => h) (Or.inl ⟨by rfl, fun w hS => by go_simp⟩) hHeld5 ?_
      simp only [Act.put, List.setIfInBounds_toArray, List.set_cons_zero, List.set_cons_succ]
      refine wpAnyH_done (by kernel_rfl) ?_ _
      have hBn : Below w.heap.size w w5 := hB.trans (hB5.mono hB.size)
      go_wp2
      go_roundw
      case rel => exact ⟨t1, by omega, rfl, hBn⟩
      case measure => simp [intOf]; have := ht1.out; omega
    · have f1 : ¬ ((t1 : Int) < (n : Int)) := by omega
      have HRw : Keep (∀ wx, Below w.heap.size w wx → HRow wx (.slice a n c) L) := ⟨fun wx hx => by rw [← HV.out]; exact HR.out.below hx⟩
      go_wp2_with fail
      refine (sort_any _ L wr (HRw.out _ hB) (by rw [hL.out]; exact hn')).mono ?_
      rintro e w1 ⟨v1, A, rfl, ho1, hp1, hm1, hl1, hb1⟩
      have hB1 := hB.trans (hb1.mono hB.size)
      go_wp2_with fail
      refine (refSort_any n _ L w1 hL.out (HRw.out _ hB1) hn').mono ?_
      rintro e w2 ⟨v2, B, rfl, ho2, hp2, hm2, hl2, hb2⟩
      have hB2 := hB1.trans (hb2.mono hB1.size)
      have hd := orders_same hp1 hp2 hm1 hm2
      have hr1 := (HRow.of_owns ho1).below hb2
      have hr2 := HRow.of_owns ho2
      rw [hL.out] at hl1
      have hsm := same_any v1 v2 A B w2 hr1 hr2 (by omega)
      rw [hd] at hsm
      clear ho1 ho2 hp1 hp2 hm1 hm2 hr1 hr2 hd
      go_wp2_with fail
      refine hsm.mono ?_
      rintro e w3 ⟨rfl, q, rfl⟩
      have hB3 : Below w.heap.size w (w2.drewN q) := hB2.trans (grown_below' w2 q _)
      generalize w2.drewN q = w3 at *
      go_wp2_with fail
      refine (rising_any _ L w3 (HRw.out _ hB3) (by rw [hL.out]; omega)).mono ?_
      rintro e w4 ⟨rfl, hb4⟩
      have hB4 := hB3.trans (hb4.mono hB3.size)
      go_wp2_with fail
      refine (refRising_any _ L w4 (HRw.out _ hB4) (by rw [hL.out]; omega)).mono ?_
      rintro e w5 ⟨rfl, hb5⟩
      have hB5 := hB4.trans (hb5.mono hB4.size)
      generalize risesB L = R at *
      go_wp2_with fail
      refine (fixed_any w5).mono ?_
      rintro e w6 ⟨rfl, hb6⟩
      have hB6 := hB5.trans (hb6.mono hB5.size)
      go_wp2
      go_ret
      exact ⟨rfl, hB6⟩
end Go.Proofs.Ytbbhjgflaiacaaa
