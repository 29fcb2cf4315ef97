import Derived.Test.YtollbkibocdbmaaFolA
namespace Go.Proofs.Ytollbkibocdbmaa
open Go.RowKit Go.Sort

set_option maxRecDepth 20000 in
set_option maxHeartbeats 1000000 in
theorem index_walk (n b o c : Nat) (L : List Hs) (h : Hs) (w : World) (hL : L.length = n) (h1 : w.rangeAt b o (flatH L)) (hn : (n : Int) ≤ 9223372036854775806) (h0 : 0 < n) :
    Calls Try.prog 35 #[.slice (some ⟨b, o, none⟩) n c, .agg (encH h).toArray] w fun e w' => ∃ r : Int, e = .returned (.int .i64 r) ∧ (h ∈ L → 0 ≤ r) ∧ Below w.heap.size w w' := by
  have HL : Keep (L.length = n) := ⟨hL⟩
  have hblt : b < w.heap.size := rangeAt_lt h1 (by omega)
  have hu := Try.underlying23
  have hi2 := Try.size23L h
  have heq0 := fun y => run_eqlL y h
  obtain ⟨CH, hCH⟩ : ∃ CH, Keep (encH h = CH) := ⟨_, ⟨rfl⟩⟩
  rw [hCH.out] at hi2 ⊢
  simp only [hCH.out] at heq0
  have HQ : Keep (∀ y w, (binOp .eql 23 (.agg (encH y).toArray) (.agg CH.toArray)).run Try.prog w = .ok (.bool (decide (y = h))) w) := ⟨heq0⟩
  have H1 : Keep ((w.alloc (.cells CH.toArray 23)).rangeAt b o (flatH L)) := ⟨rangeAt_below h1 (below_new w _) hblt⟩
  have HP : Keep ((w.alloc (.cells CH.toArray 23)).rangeAt w.heap.size 0 CH) := ⟨fun j v hv => by rw [Nat.zero_add, (Blk.new w 23 _).cell, List.getElem?_toArray]; exact hv⟩
  have hs0 : (w.alloc (.cells CH.toArray 23)).heap.size = w.heap.size + 1 := by simp
  have HB0 : Keep (Below w.heap.size w (w.alloc (.cells CH.toArray 23))) := ⟨below_new w _⟩
  clear hL h1 heq0
  go_enter Try.func35, Try.ntmps35
  go_wp2_with (refine wpList_boxA rfl 23 (.tmp 1) rfl CH.toArray rfl ?_)
  generalize w.alloc (.cells CH.toArray 23) = w0 at *
  have HBE : Keep (∀ wx, Below w0.heap.size w0 wx → Below w.heap.size w wx) := ⟨fun wx hx => HB0.out.trans (hx.mono HB0.out.size)⟩
  obtain ⟨p, hp⟩ : ∃ p, Keep (w.heap.size = p) := ⟨_, ⟨rfl⟩⟩
  rw [hp.out] at HP hs0 hblt ⊢
  go_loopw [5] (fun i wr => ∃ t : Nat, t ≤ n ∧ i = .int .i64 (t : Int) ∧ (∀ k, k < t → L[k]? ≠ some h) ∧ Below w0.heap.size w0 wr) (fun i _ => n - (intOf i).toNat)
  case atStart => exact ⟨0, by omega, rfl, fun k hk => by omega, Below.refl _ _⟩
  case round =>
    obtain ⟨t, ht, rfl, hke, hB⟩ := hrel
    have HK : Keep (∀ k, k < t → L[k]? ≠ some h) := ⟨hke⟩
    clear hke
    by_cases hlt : t < n
    · have l1 : t < L.length := by rw [HL.out]; omega
      have cA : wr.drew.rangeAt b (o + t * 32) (encH L[t]) := rangeAt_drew (rangeAt_below (rangeAt_elem H1.out t l1) hB (by omega))
      have cB : wr.drew.rangeAt p 0 CH := rangeAt_drew (rangeAt_below HP.out hB (by omega))
      have hi1 := Try.size23L L[t]
      have heq := HQ.out L[t]
      obtain ⟨E, hE⟩ : ∃ E, Keep (E = decide (L[t] = h)) := ⟨_, ⟨rfl⟩⟩
      rw [← hE.out] at heq
      have HE : Keep (E = false → L[t]? ≠ some h) := ⟨fun e => by
        have := hE.out; rw [e] at this
        rw [List.getElem?_eq_getElem l1]; intro h2; exact of_decide_eq_false this.symm (Option.some.inj h2)⟩
      clear hE
      generalize encH L[t] = CA at *
      clear l1
      have hlt' : (t : Int) < (n : Int) := by omega
      go_wp2
      refine wp_region_held_drew (S := fun w' => w'.rangeAt b (o + t * 32) CA ∧ w'.rangeAt p 0 CH) (by kernel_rfl) ⟨cA, cB⟩ (fun hHeld => ?_)
      refine wpAnyH_take (i := 0) (oi := ⟨some 12, Op.move (Operand.tmp 0), 45, _, _, none⟩) (v := Value.slice (some ⟨b, o, none⟩) n c) rfl (by kernel_rfl) (by kernel_rfl) (by kernel_rfl) (fun _ _ _ h => h) (Or.inl ⟨by rfl, fun w hS => by go_simp⟩) hHeld ?_
      simp only [Act.put, List.setIfInBounds_toArray, List.set_cons_zero, List.set_cons_succ]
      refine wpAnyH_take (i := 1) (oi := ⟨some 13, Op.move (Operand.tmp 5), 3, _, _, none⟩) (v := .int .i64 (t : Int)) rfl (by kernel_rfl) (by kernel_rfl) (by kernel_rfl) (fun _ _ _ h => h) (Or.inl ⟨by rfl, fun w hS => by go_simp⟩) hHeld ?_
      simp only [Act.put, List.setIfInBounds_toArray, List.set_cons_zero, List.set_cons_succ]
      refine wpAnyH_take (i := 2) (oi := ⟨some 14, Op.indexAddr 45 (Operand.tmp 12) (Operand.tmp 13), 0, _, _, none⟩) (v := .pointer (some ⟨b, o + t * 32, none⟩)) rfl (by kernel_rfl) (by kernel_rfl) (by kernel_rfl) (fun _ _ _ h => h) (Or.inl ⟨by rfl, fun w hS => by go_simp⟩) hHeld ?_
      simp only [Act.put, List.setIfInBounds_toArray, List.set_cons_zero, List.set_cons_succ]
      refine wpAnyH_take (i := 3) (oi := ⟨some 15, Op.load 23 (Operand.tmp 14), 23, _, _, none⟩) (v := .agg (CA).toArray) rfl (by kernel_rfl) (by kernel_rfl) (by kernel_rfl) (fun _ _ _ h => h) (yieldsIf_load_mid (by rfl) 23 (Operand.tmp 14) rfl b (o + t * 32) rfl CA _ (fun w hS => hS.1) hu rfl hi1) hHeld ?_
      simp only [Act.put, List.setIfInBounds_toArray, List.set_cons_zero, List.set_cons_succ]
      refine wpAnyH_take (i := 4) (oi := ⟨some 16, Op.load 23 (Operand.tmp 3), 23, _, _, none⟩) (v := .agg (CH).toArray) rfl (by kernel_rfl) (by kernel_rfl) (by kernel_rfl) (fun _ _ _ h => h) (yieldsIf_load_mid (by rfl) 23 (Operand.tmp 3) rfl p 0 rfl CH _ (fun w hS => hS.2) hu rfl hi2) hHeld ?_
      simp only [Act.put, List.setIfInBounds_toArray, List.set_cons_zero, List.set_cons_succ]
      refine wpAnyH_take (i := 5) (oi := ⟨some 17, Op.binOp BinOp.eql 23 (Operand.tmp 15) (Operand.tmp 16) 23, 4, _, _, none⟩) (v := .bool E) rfl (by kernel_rfl) (by kernel_rfl) (by kernel_rfl) (fun _ _ _ h => h) (Or.inl ⟨by rfl, fun w hS => by go_simp⟩) hHeld ?_
      simp only [Act.put, List.setIfInBounds_toArray, List.set_cons_zero, List.set_cons_succ]
      refine wpAnyH_done (by kernel_rfl) ?_ _
      have hBd : Below w0.heap.size w0 wr.drew := hB.drew
      cases E with
      | true =>
        clear HE
        go_wp2
        go_ret
        exact ⟨(t : Int), rfl, fun _ => by omega, HBE.out _ hBd⟩
      | false =>
        have HE2 : Keep (L[t]? ≠ some h) := ⟨HE.out rfl⟩
        clear HE
        go_wp2
        go_roundw
        case rel => exact ⟨t + 1, by omega, by go_num, fun k hk => by
            rcases Nat.lt_or_eq_of_le (Nat.le_of_lt_succ hk) with h | h
            · exact HK.out k h
            · subst h; exact HE2.out, hBd⟩
        case measure => simp [intOf]; omega
    · obtain rfl : t = n := by omega
      go_wp2
      go_ret
      refine ⟨_, rfl, fun hm => ?_, HBE.out _ hB⟩
      obtain ⟨i, hi, he⟩ := List.mem_iff_getElem.1 hm
      exact absurd (by rw [List.getElem?_eq_getElem hi, he]) (HK.out i (by rw [← HL.out]; exact hi))
/-- The document's Index. -/
theorem index_any (v : Value) (L : List Hs) (h : Hs) (w : World) (hr : HRow w v L) (hn : L.length ≤ 4398046511104) (hm : h ∈ L) :
    Calls Try.prog 35 #[v, .agg (encH h).toArray] w fun e w' => ∃ r : Int, e = .returned (.int .i64 r) ∧ 0 ≤ r ∧ Below w.heap.size w w' := by
  obtain ⟨a1, c1, rfl⟩ := hr.form
  have h0 : 0 < L.length := List.length_pos_of_mem hm
  obtain ⟨b1, o1, rfl, _, _, r1⟩ := hr.at h0
  exact (index_walk L.length b1 o1 c1 L h w rfl r1 (by omega) h0).mono fun e w' ⟨r, h1, h2, h3⟩ => ⟨r, h1, h2 hm, h3⟩
end Go.Proofs.Ytollbkibocdbmaa
