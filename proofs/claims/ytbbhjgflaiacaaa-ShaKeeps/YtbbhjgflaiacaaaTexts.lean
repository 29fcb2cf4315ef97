import Derived.Test.YtbbhjgflaiacaaaTxtD
namespace Go.Proofs.Ytbbhjgflaiacaaa
open Go.RowKit

def pF (s : ByteArray) : Nat → Int := if s.size = 64 then parF s else fun _ => 0
def pE (s : ByteArray) : Int := if s.size = 64 then parE s else 10
theorem parse_all (s : ByteArray) (w : World) : Calls Try.prog 29 #[.string s] w fun e w' => e = .returned (.tuple #[.agg (bytesA 32 (pF s)), .int .i64 (pE s)]) ∧ Below w.heap.size w w' := by
  unfold pF pE
  by_cases h : s.size = 64
  · rw [if_pos h, if_pos h]; exact parse_any s w h
  · rw [if_neg h, if_neg h]; exact parse_short s w h
theorem refParse_all (s : ByteArray) (w : World) : Calls Try.prog 30 #[.string s] w fun e w' => e = .returned (.tuple #[.agg (bytesA 32 (pF s)), .int .i64 (pE s)]) ∧ Below w.heap.size w w' := by
  unfold pF pE
  by_cases h : s.size = 64
  · rw [if_pos h, if_pos h]; exact refParse_any s w h
  · rw [if_neg h, if_neg h]; exact refParse_short s w h
theorem Blk.range {w : World} {b : Nat} {T : TypeId} {cs : Array Value} (h : Blk w b T cs) : w.rangeAt b 0 cs.toList := fun j v hv => by rw [Nat.zero_add, h.cell, ← Array.getElem?_toList]; exact hv

theorem Try.enter31 (w : World) (vs : Array Value) : (callFunc 31 vs).run Try.prog w = .ok (.enter 31 vs) w := by kernel_rfl
theorem Try.enter32 (w : World) (vs : Array Value) : (callFunc 32 vs).run Try.prog w = .ok (.enter 32 vs) w := by kernel_rfl
theorem Try.enter9 (w : World) (vs : Array Value) : (callFunc 9 vs).run Try.prog w = .ok (.enter 9 vs) w := by kernel_rfl

set_option maxRecDepth 20000 in
set_option maxHeartbeats 2000000 in
theorem texts_any (c : Nat → Int) (hc : ∀ i, i < 32 → 0 ≤ c i ∧ c i < 256) (s : ByteArray) (w : World) :
    Calls Try.prog 7 #[.agg (bytesA 32 c), .string s] w fun e w' => e = .returned (.bool true) ∧ Below w.heap.size w w' := by
  have HC : Keep (∀ i, i < 32 → 0 ≤ c i ∧ c i < 256) := ⟨hc⟩
  clear hc
  have hbA := below_new w (.cells (bytesA 32 c) 23)
  have hsA : (w.alloc (.cells (bytesA 32 c) 23)).heap.size = w.heap.size + 1 := by simp
  have hRA := Blk.new w 23 (bytesA 32 c)
  go_enter Try.func7, Try.ntmps7
  go_wp2_with (first | (refine wpList_boxA rfl 23 (.tmp 0) rfl (bytesA 32 c) rfl ?_))
  generalize w.alloc (.cells (bytesA 32 c) 23) = wA at *
  refine (parse_all s wA).mono ?_
  rintro e w1 ⟨rfl, hB1⟩
  have hN1 := Blk.new w1 23 (bytesA 32 fun _ => 0)
  have hP1 := Blk.new w1 23 (bytesA 32 (pF s))
  have hsz1 := hB1.size
  have hR1 := hRA.below hB1 hRA.lt
  go_wp2_with (first | (refine wpList_new rfl 23 rfl _ Try.new23 ?_; refine wpList_store_row rfl 23 (.tmp 5) (.tmp 12) rfl w1.heap.size (bytesA 32 (pF s)) rfl rfl 23 (bytesA 32 fun _ => 0) hN1 (Try.size23B _) (bytesA_sizes _ _ _) (bytesA_one _ _) ?_; rw [World.setRow_alloc_new]))
  have hB2 : Below wA.heap.size wA (w1.alloc (.cells (bytesA 32 (pF s)) 23)) := hB1.alloc hsz1 _
  have hR2 := hR1.alloc (.cells (bytesA 32 (pF s)) 23)
  generalize w1.alloc (.cells (bytesA 32 (pF s)) 23) = w2 at *
  refine (refParse_all s w2).mono ?_
  rintro e w3 ⟨rfl, hB3⟩
  have hN3 := Blk.new w3 23 (bytesA 32 fun _ => 0)
  have hQ4 := Blk.new w3 23 (bytesA 32 (pF s))
  have hP3 := hP1.below hB3 hP1.lt
  have hR3 := hR2.below hB3 hR2.lt
  have hB3' := hB2.trans (hB3.mono hB2.size)
  have hP4 := hP3.alloc (.cells (bytesA 32 (pF s)) 23)
  have hR4 := hR3.alloc (.cells (bytesA 32 (pF s)) 23)
  have hB4 : Below wA.heap.size wA (w3.alloc (.cells (bytesA 32 (pF s)) 23)) := hB3'.alloc hB3'.size _
  go_wp2_with (first | (refine wpList_new rfl 23 rfl _ Try.new23 ?_; refine wpList_store_row rfl 23 (.tmp 7) (.tmp 17) rfl w3.heap.size (bytesA 32 (pF s)) rfl rfl 23 (bytesA 32 fun _ => 0) hN3 (Try.size23B _) (bytesA_sizes _ _ _) (bytesA_one _ _) ?_; rw [World.setRow_alloc_new]))
  generalize w3.alloc (.cells (bytesA 32 (pF s)) 23) = w4 at *
  have heq := run_eql_arr (pF s)
  have hu := Try.underlying23
  have hi : (Try.prog.info? 23).map (·.size) = some (bytesA 32 c).toList.length := by rw [Array.length_toList]; exact Try.size23B _
  have hi2 : (Try.prog.info? 23).map (·.size) = some (bytesA 32 (pF s)).toList.length := by rw [Array.length_toList]; exact Try.size23B _
  have HP : Keep (∀ w, Calls Try.prog 31 #[.agg (bytesA 32 c)] w fun e w' => e = .returned (.string (prS c)) ∧ Below w.heap.size w w') := ⟨fun w => print_any c HC.out w⟩
  have HQ : Keep (∀ w, Calls Try.prog 32 #[.agg (bytesA 32 c)] w fun e w' => e = .returned (.string (prS c)) ∧ Below w.heap.size w w') := ⟨fun w => refPrint_any c HC.out w⟩
  have HB4 : Keep (Below w.heap.size w w4) := ⟨hbA.trans (hB4.mono hbA.size)⟩
  clear hR1 hR2 hR3 hP1 hP3 hN1 hN3 hB1 hB2 hB3 hB3' hB4 hbA hsA hRA hsz1 HC
  generalize bytesA 32 c = A at *
  generalize bytesA 32 (pF s) = D at *
  generalize prS c = z at *
  generalize pE s = n at *
  generalize w1.heap.size = p1 at *
  generalize w3.heap.size = p3 at *
  have HS : Keep (∀ wx, Below w4.heap.size w4 wx → wx.rangeAt w.heap.size 0 A.toList ∧ wx.rangeAt p1 0 D.toList ∧ wx.rangeAt p3 0 D.toList) := ⟨fun wx hx => ⟨(hR4.below hx hR4.lt).range, (hP4.below hx hP4.lt).range, (hQ4.below hx hQ4.lt).range⟩⟩
  have hR0 : Below w4.heap.size w4 w4.drew := (Below.refl _ _).drew
  clear hR4 hP4 hQ4
  refine wp_region_held_drew (S := fun w' => (w'.rangeAt w.heap.size 0 A.toList ∧ w'.rangeAt p1 0 D.toList ∧ w'.rangeAt p3 0 D.toList)) (by kernel_rfl) (HS.out _ hR0) (fun hHeld => ?_)
  refine wpAnyH_take (i := 0) (oi := ⟨some 19, .load 23 (.tmp 2), 23, _, _, none⟩) (v := .agg A.toList.toArray) rfl (by kernel_rfl) (by kernel_rfl) (by kernel_rfl) (fun _ _ _ h => h) (yieldsIf_load_mid (by rfl) 23 (.tmp 2) rfl w.heap.size 0 rfl A.toList _ (fun w hS => hS.1) hu rfl hi) hHeld ?_
  simp only [Act.put, List.setIfInBounds_toArray, List.set_cons_zero, List.set_cons_succ, Array.toArray_toList]
  refine wpAnyH_take (i := 2) (oi := ⟨some 21, .load 23 (.tmp 2), 23, _, _, none⟩) (v := .agg A.toList.toArray) rfl (by kernel_rfl) (by kernel_rfl) (by kernel_rfl) (fun _ _ _ h => h) (yieldsIf_load_mid (by rfl) 23 (.tmp 2) rfl w.heap.size 0 rfl A.toList _ (fun w hS => hS.1) hu rfl hi) hHeld ?_
  simp only [Act.put, List.setIfInBounds_toArray, List.set_cons_zero, List.set_cons_succ, Array.toArray_toList]
  refine wpAnyH_ready (rs := [1]) (by kernel_rfl) (by simp) ?_
  refine AllReadyH.cons (o := ⟨some 20, .call { callee := .value (.func 31), args := #[.tmp 19], argTypes := #[23] }, 9, _, _, none⟩) rfl (fun K hK => ?_) AllReadyH.nil
  rw [if_pos (by rfl)]
  refine wp_callF 31 #[.tmp 19] #[23] rfl Try.enter31 #[.agg A] (by simp [Act.eval]) (fun v w' => v = .string z ∧ Below w4.drew.heap.size w4.drew w') ((HP.out w4.drew).mono fun e w' h => ⟨_, h.1, rfl, h.2⟩) ?_
  rintro v w5 ⟨rfl, hb5⟩
  have hB5 : Below w4.heap.size w4 w5 := hR0.trans (hb5.mono hR0.size)
  refine hK.out _ _ (HS.out _ hB5) fun hHeld5 => ?_
  clear hK
  simp only [Act.put, List.setIfInBounds_toArray, List.set_cons_zero, List.set_cons_succ]
  refine wpAnyH_ready (rs := [3]) (by kernel_rfl) (by simp) ?_
  refine AllReadyH.cons (o := ⟨some 22, .call { callee := .value (.func 32), args := #[.tmp 21], argTypes := #[23] }, 9, _, _, none⟩) rfl (fun K hK => ?_) AllReadyH.nil
  rw [if_pos (by rfl)]
  refine wp_callF 32 #[.tmp 21] #[23] rfl Try.enter32 #[.agg A] (by simp [Act.eval]) (fun v w' => v = .string z ∧ Below w5.heap.size w5 w') ((HQ.out w5).mono fun e w' h => ⟨_, h.1, rfl, h.2⟩) ?_
  rintro v w6 ⟨rfl, hb6⟩
  have hB6 : Below w4.heap.size w4 w6 := hB5.trans (hb6.mono hB5.size)
  refine hK.out _ _ (HS.out _ hB6) fun hHeld6 => ?_
  clear hK
  simp only [Act.put, List.setIfInBounds_toArray, List.set_cons_zero, List.set_cons_succ]
  refine wpAnyH_take (i := 4) (oi := ⟨some 23, .binOp .eql 9 (.tmp 20) (.tmp 22) 9, 4, _, _, none⟩) (v := .bool true) rfl (by kernel_rfl) (by kernel_rfl) (by kernel_rfl) (fun _ _ _ h => h) (Or.inl ⟨by rfl, fun w hS => by go_simp⟩) hHeld6 ?_
  simp only [Act.put, List.setIfInBounds_toArray, List.set_cons_zero, List.set_cons_succ]
  refine wpAnyH_take (i := 5) (oi := ⟨some 24, .move (.tmp 23), 4, _, _, none⟩) (v := .bool true) rfl (by kernel_rfl) (by kernel_rfl) (by kernel_rfl) (fun _ _ _ h => h) (Or.inl ⟨by rfl, fun w hS => by go_simp⟩) hHeld6 ?_
  simp only [Act.put, List.setIfInBounds_toArray, List.set_cons_zero, List.set_cons_succ]
  refine wpAnyH_take (i := 6) (oi := ⟨some 25, .load 23 (.tmp 5), 23, _, _, some (5, true)⟩) (v := .agg D.toList.toArray) rfl (by kernel_rfl) (by kernel_rfl) (by kernel_rfl) (fun _ _ _ h => h) (yieldsIf_load_mid (by rfl) 23 (.tmp 5) rfl p1 0 rfl D.toList _ (fun w hS => hS.2.1) hu rfl hi2) hHeld6 ?_
  simp only [Act.put, List.setIfInBounds_toArray, List.set_cons_zero, List.set_cons_succ, Array.toArray_toList]
  refine wpAnyH_take (i := 7) (oi := ⟨some 26, .load 23 (.tmp 7), 23, _, _, some (5, true)⟩) (v := .agg D.toList.toArray) rfl (by kernel_rfl) (by kernel_rfl) (by kernel_rfl) (fun _ _ _ h => h) (yieldsIf_load_mid (by rfl) 23 (.tmp 7) rfl p3 0 rfl D.toList _ (fun w hS => hS.2.2) hu rfl hi2) hHeld6 ?_
  simp only [Act.put, List.setIfInBounds_toArray, List.set_cons_zero, List.set_cons_succ, Array.toArray_toList]
  refine wpAnyH_take (i := 8) (oi := ⟨some 27, .binOp .eql 23 (.tmp 25) (.tmp 26) 23, 4, _, _, some (5, true)⟩) (v := .bool true) rfl (by kernel_rfl) (by kernel_rfl) (by kernel_rfl) (fun _ _ _ h => h) (Or.inl ⟨by rfl, fun w hS => by go_simp⟩) hHeld6 ?_
  simp only [Act.put, List.setIfInBounds_toArray, List.set_cons_zero, List.set_cons_succ]
  refine wpAnyH_take (i := 9) (oi := ⟨some 28, .pick (.tmp 24) (.tmp 27) (.const (.bool false)), 4, _, _, none⟩) (v := .bool true) rfl (by kernel_rfl) (by kernel_rfl) (by kernel_rfl) (fun _ _ _ h => h) (Or.inl ⟨by rfl, fun w hS => by go_simp⟩) hHeld6 ?_
  simp only [Act.put, List.setIfInBounds_toArray, List.set_cons_zero, List.set_cons_succ]
  refine wpAnyH_take (i := 10) (oi := ⟨some 29, .move (.tmp 28), 4, _, _, none⟩) (v := .bool true) rfl (by kernel_rfl) (by kernel_rfl) (by kernel_rfl) (fun _ _ _ h => h) (Or.inl ⟨by rfl, fun w hS => by go_simp⟩) hHeld6 ?_
  simp only [Act.put, List.setIfInBounds_toArray, List.set_cons_zero, List.set_cons_succ]
  refine wpAnyH_take (i := 11) (oi := ⟨some 30, .move (.tmp 6), 50, _, _, some (10, true)⟩) (v := .int .i64 n) rfl (by kernel_rfl) (by kernel_rfl) (by kernel_rfl) (fun _ _ _ h => h) (Or.inl ⟨by rfl, fun w hS => by go_simp⟩) hHeld6 ?_
  simp only [Act.put, List.setIfInBounds_toArray, List.set_cons_zero, List.set_cons_succ]
  refine wpAnyH_take (i := 12) (oi := ⟨some 31, .move (.tmp 8), 50, _, _, some (10, true)⟩) (v := .int .i64 n) rfl (by kernel_rfl) (by kernel_rfl) (by kernel_rfl) (fun _ _ _ h => h) (Or.inl ⟨by rfl, fun w hS => by go_simp⟩) hHeld6 ?_
  simp only [Act.put, List.setIfInBounds_toArray, List.set_cons_zero, List.set_cons_succ]
  refine wpAnyH_take (i := 13) (oi := ⟨some 32, .binOp .eql 50 (.tmp 30) (.tmp 31) 50, 4, _, _, some (10, true)⟩) (v := .bool true) rfl (by kernel_rfl) (by kernel_rfl) (by kernel_rfl) (fun _ _ _ h => h) (Or.inl ⟨by rfl, fun w hS => by go_simp⟩) hHeld6 ?_
  simp only [Act.put, List.setIfInBounds_toArray, List.set_cons_zero, List.set_cons_succ]
  refine wpAnyH_take (i := 14) (oi := ⟨some 33, .pick (.tmp 29) (.tmp 32) (.const (.bool false)), 4, _, _, none⟩) (v := .bool true) rfl (by kernel_rfl) (by kernel_rfl) (by kernel_rfl) (fun _ _ _ h => h) (Or.inl ⟨by rfl, fun w hS => by go_simp⟩) hHeld6 ?_
  simp only [Act.put, List.setIfInBounds_toArray, List.set_cons_zero, List.set_cons_succ]
  refine wpAnyH_take (i := 15) (oi := ⟨some 34, .move (.tmp 33), 4, _, _, none⟩) (v := .bool true) rfl (by kernel_rfl) (by kernel_rfl) (by kernel_rfl) (fun _ _ _ h => h) (Or.inl ⟨by rfl, fun w hS => by go_simp⟩) hHeld6 ?_
  simp only [Act.put, List.setIfInBounds_toArray, List.set_cons_zero, List.set_cons_succ]
  refine wpAnyH_ready (rs := [16]) (by kernel_rfl) (by simp) ?_
  refine AllReadyH.cons (o := ⟨some 35, .call { callee := .value (.func 9), args := #[], argTypes := #[] }, 4, _, _, some (15, true)⟩) rfl (fun K hK => ?_) AllReadyH.nil
  rw [if_pos (by rfl)]
  refine wp_callF 9 #[] #[] rfl Try.enter9 #[] (by simp) (fun v w' => v = .bool true ∧ Below w6.heap.size w6 w') ((fixed_any w6).mono fun e w' h => ⟨_, h.1, rfl, h.2⟩) ?_
  rintro v w7 ⟨rfl, hb7⟩
  have hB7 : Below w4.heap.size w4 w7 := hB6.trans (hb7.mono hB6.size)
  refine hK.out _ _ (HS.out _ hB7) fun hHeld7 => ?_
  clear hK
  simp only [Act.put, List.setIfInBounds_toArray, List.set_cons_zero, List.set_cons_succ]
  refine wpAnyH_take (i := 17) (oi := ⟨some 36, .pick (.tmp 34) (.tmp 35) (.const (.bool false)), 4, _, _, none⟩) (v := .bool true) rfl (by kernel_rfl) (by kernel_rfl) (by kernel_rfl) (fun _ _ _ h => h) (Or.inl ⟨by rfl, fun w hS => by go_simp⟩) hHeld7 ?_
  simp only [Act.put, List.setIfInBounds_toArray, List.set_cons_zero, List.set_cons_succ]
  refine wpAnyH_take (i := 18) (oi := ⟨some 4, .assign (.tmp 36), 4, _, _, none⟩) (v := .bool true) rfl (by kernel_rfl) (by kernel_rfl) (by kernel_rfl) (fun _ _ _ h => h) (Or.inl ⟨by rfl, fun w hS => by go_simp⟩) hHeld7 ?_
  simp only [Act.put, List.setIfInBounds_toArray, List.set_cons_zero, List.set_cons_succ]
  refine wpAnyH_done (by kernel_rfl) ?_ _
  go_wp2
  go_ret
  exact ⟨rfl, HB4.out.trans (hB7.mono HB4.out.size)⟩
end Go.Proofs.Ytbbhjgflaiacaaa
