import Derived.Test.YtollbkibocdbmaaFolC
namespace Go.Proofs.Ytollbkibocdbmaa
open Go.RowKit Go.Sort

set_option maxRecDepth 20000 in
set_option maxHeartbeats 8000000 in
theorem follows_walk (pa pb : Option Addr) (na ca nb cb : Nat) (vl : Value) (la lb : List Int) (L : List Hs) (w : World) (ha : RowAt w (.slice pa na ca) la) (hb : RowAt w (.slice pb nb cb) lb) (hl : HRow w vl L)
    (hna : la.length = na) (hnb : lb.length = nb) (hal : (na : Int) ≤ 9223372036854775807) (hbl : (nb : Int) ≤ 9223372036854775807) (hn : L.length ≤ 4398046511000) :
    Calls Try.prog 8 #[.slice pa na ca, .slice pb nb cb, vl] w fun e w' => e = .returned (.bool true) ∧ Below w.heap.size w w' := by
  have HA : Keep (∀ wx, Below w.heap.size w wx → RowAt wx (.slice pa na ca) la) := ⟨fun wx hx => ha.below hx⟩
  have HB : Keep (∀ wx, Below w.heap.size w wx → RowAt wx (.slice pb nb cb) lb) := ⟨fun wx hx => hb.below hx⟩
  have HLr : Keep (∀ wx, Below w.heap.size w wx → HRow wx vl L) := ⟨fun wx hx => hl.below hx⟩
  have HNA : Keep (la.length = na) := ⟨hna⟩
  have HNB : Keep (lb.length = nb) := ⟨hnb⟩
  have hB1 : Below w.heap.size w (w.alloc (.cells #[.slice pa na ca, .slice pb nb cb] 28)) := below_new w _
  have HBY := beyond_any _ 2 _ _ _ (rows_two ha hb) (by omega) (fun i hi => by
      match i, hi with
      | 0, _ => show ((la.length : Nat) : Int) ≤ _; rw [hna]; exact hal
      | 1, _ => show ((lb.length : Nat) : Int) ≤ _; rw [hnb]; exact hbl)
  rw [concat_two] at HBY
  clear ha hb hl hna hnb
  go_enter Try.func8, Try.ntmps8
  go_wp2_with fail
  generalize w.alloc (.cells #[.slice pa na ca, .slice pb nb cb] 28) = w1 at *
  refine HBY.mono ?_
  rintro e w1' ⟨bb, rfl, hbb, rfl⟩
  have HBB : Keep (bb = false → na + nb ≤ 2147483647) := ⟨fun h => by have := hbb h; rw [List.length_append, HNA.out, HNB.out] at this; exact this⟩
  clear HBY hbb
  cases bb with
  | true =>
    go_wp2_with (go_at_call 9; refine (fixed_any _).mono ?_; rintro e w' ⟨rfl, hb⟩)
    go_ret
    exact ⟨rfl, hB1.trans (hb.mono hB1.size)⟩
  | false =>
    have htot := HBB.out rfl
    have HAw := HA.out w1' hB1
    have HA1 : Keep (RowAt w1' (.slice pa na ca) la) := ⟨HAw⟩
    clear HBB HAw
    have b0 : 0 + la.length ≤ 70368744177664 := by rw [HNA.out]; omega
    have HLa : Keep (0 + la.length + lb.length ≤ 70368744177664) := ⟨by rw [HNA.out, HNB.out]; omega⟩
    have HG2 : Keep (∀ v2 w2, w2.ownsRow w1'.heap.size 5 1 v2 (0 + la.length) ([] ++ bv la) → w1'.grownBy w2 none → RowAt w2 (.slice pb nb cb) lb ∧ w1'.heap.size ≤ w2.heap.size) := ⟨fun v2 w2 h1 h2 =>
      ⟨HB.out w2 (hB1.grown h2 hB1.size (fun k e => by cases e)), h2.size⟩⟩
    go_wp2_with (first | (refine wpList_app rfl (.const (.slice none 0 0)) (.tmp 25) rfl w1'.heap.size (.slice none 0 0) (.slice pa na ca) 0 [] la rfl rfl (owns_nil _ _) HA1.out b0 (Nat.le_refl _) ?_; intro v2 w2 hown2 hgr2) | (refine wpList_app rfl (.tmp 26) (.tmp 27) rfl w1'.heap.size v2 (.slice pb nb cb) (0 + la.length) ([] ++ bv la) lb rfl rfl hown2 (HG2.out v2 w2 hown2 hgr2).1 HLa.out (HG2.out v2 w2 hown2 hgr2).2 ?_; intro v3 w3 hown3 hgr3))
    have hB2 : Below w.heap.size w w2 := hB1.grown hgr2 hB1.size (fun k e => by cases e)
    have hB3 : Below w.heap.size w w3 := hB2.grown hgr3 (by have := hB1.size; have := hgr2.size; omega) (fun k e => by have := owns_block hown2 k e; have := hB1.size; omega)
    rw [List.nil_append, ← bv_append] at hown3
    have hr3 := owns_row hown3
    have HHC : Keep (∃ CH, encH (shaH (la ++ lb)) = CH) := ⟨_, rfl⟩
    obtain ⟨CH, hCH⟩ := HHC.out
    have hof3 := of_anyH v3 (la ++ lb) w3 hr3 (by rw [List.length_append, HNA.out, HNB.out]; omega)
    have hszH : (Try.prog.info? 23).map (·.size) = some CH.toArray.size := by rw [← hCH, List.size_toArray]; exact Try.size23L _
    have hiH : (Try.prog.info? 23).map (·.size) = some CH.length := by rw [← hCH]; exact Try.size23L _
    have hszH2 : (bytesA 32 fun _ => 0).size = CH.toArray.size := by rw [bytesA_size, ← hCH, List.size_toArray, encH_len]
    have honeH : CH.toArray.all (·.oneCell') = true := by rw [← hCH]; exact all_oneCell_toArray (encH_one _)
    rw [hCH] at hof3
    clear hown2 hown3 hgr2 hgr3 hr3 HG2 HLa b0 HHC HA1
    refine hof3.mono ?_
    rintro e w4 ⟨rfl, hb4⟩
    have hB4 : Below w.heap.size w w4 := hB3.trans (hb4.mono hB3.size)
    have hN4 := Blk.new w4 23 (bytesA 32 fun _ => 0)
    clear hof3 hb4 hB1 hB2 hB3
    go_wp2_with (first | (refine wpList_new rfl 23 rfl _ Try.new23 ?_; refine wpList_store_row rfl 23 (.tmp 8) (.tmp 30) rfl w4.heap.size CH.toArray rfl rfl 23 (bytesA 32 fun _ => 0) hN4 hszH hszH2 honeH ?_; rw [World.setRow_alloc_new]))
    have hP8 : Blk (w4.alloc (.cells CH.toArray 23)) w4.heap.size 23 CH.toArray := Blk.new _ _ _
    have hB5 : Below w.heap.size w (w4.alloc (.cells CH.toArray 23)) := hB4.alloc hB4.size _
    have hs5 : (w4.alloc (.cells CH.toArray 23)).heap.size = w4.heap.size + 1 := by simp
    clear hN4 hB4
    generalize w4.alloc (.cells CH.toArray 23) = w5 at *
    obtain ⟨p8, hp8⟩ : ∃ p8, w4.heap.size = p8 := ⟨_, rfl⟩
    rw [hp8] at hP8 hs5 ⊢
    clear hp8
    refine (new_any w5).mono ?_
    rintro e w6 ⟨rfl, hw6⟩
    have hG6 : Blk w6 (w5.heap.size + 1) 67 (digA dg0.s dg0.r dg0.n) := by
      rw [hw6]
      have h := Blk.new (w5.alloc (.cells (wordsA 8 beginF) 60)) 67 (digA beginF (fun _ => 0) 0)
      simp only [World.size_alloc] at h; exact h
    have hb6 : Below w5.heap.size w5 w6 := by rw [hw6]; exact ((Below.refl _ _).alloc (Nat.le_refl _) _).alloc (by simp) _
    clear hw6
    obtain ⟨g, hg⟩ : ∃ g, Keep (w5.heap.size + 1 = g) := ⟨_, ⟨rfl⟩⟩
    rw [hg.out] at hG6 ⊢
    go_wp2_with fail
    have hw7 := write_row g dg0 (.slice pa na ca) la w5 w6 hb6 (by have := hg.out; omega) (HA.out w5 hB5) hG6 (by show ((0 : Nat) : Int) + _ ≤ _; rw [HNA.out]; omega)
    refine hw7.mono ?_
    rintro e w7 ⟨rfl, hG7, hb7⟩
    clear hw7 hG6 hb6
    go_wp2_with fail
    obtain ⟨CF, hCF⟩ : ∃ CF, encH (shaH la) = CF := ⟨_, rfl⟩
    have hs7 := sum_H g (absorbL dg0 la) la w7 hG7 rfl (by rw [HNA.out]; omega)
    have hszF : (Try.prog.info? 23).map (·.size) = some CF.toArray.size := by rw [← hCF, List.size_toArray]; exact Try.size23L _
    have hiF : (Try.prog.info? 23).map (·.size) = some CF.length := by rw [← hCF]; exact Try.size23L _
    have hszF2 : (bytesA 32 fun _ => 0).size = CF.toArray.size := by rw [bytesA_size, ← hCF, List.size_toArray, encH_len]
    have honeF : CF.toArray.all (·.oneCell') = true := by rw [← hCF]; exact all_oneCell_toArray (encH_one _)
    rw [hCF] at hs7
    refine hs7.mono ?_
    rintro e w8 ⟨rfl, hb8⟩
    have hG8 := hG7.below hb8 hG7.lt
    have hB8 : Below w5.heap.size w5 w8 := hb7.trans (hb8.mono hb7.size)
    have hN8 := Blk.new w8 23 (bytesA 32 fun _ => 0)
    clear hs7 hG7 hb7 hb8
    go_wp2_with (first | (refine wpList_new rfl 23 rfl _ Try.new23 ?_; refine wpList_store_row rfl 23 (.tmp 10) (.tmp 38) rfl w8.heap.size CF.toArray rfl rfl 23 (bytesA 32 fun _ => 0) hN8 hszF hszF2 honeF ?_; rw [World.setRow_alloc_new]))
    have hP10 : Blk (w8.alloc (.cells CF.toArray 23)) w8.heap.size 23 CF.toArray := Blk.new _ _ _
    have hG9 := hG8.alloc (.cells CF.toArray 23)
    have hB9 : Below w5.heap.size w5 (w8.alloc (.cells CF.toArray 23)) := hB8.alloc hB8.size _
    have hs9 : (w8.alloc (.cells CF.toArray 23)).heap.size = w8.heap.size + 1 := by simp
    have hg8 := hG8.lt
    clear hN8 hG8 hB8
    generalize w8.alloc (.cells CF.toArray 23) = w9 at *
    obtain ⟨p10, hp10⟩ : ∃ p10, w8.heap.size = p10 := ⟨_, rfl⟩
    rw [hp10] at hP10 hs9 hg8 ⊢
    clear hp10
    refine (copy_any g (absorbL dg0 la) w9 hG9).mono ?_
    rintro e w10 ⟨rfl, hw10⟩
    obtain ⟨D1, hD1⟩ : ∃ D1, Keep (D1 = absorbL dg0 la) := ⟨_, ⟨rfl⟩⟩
    rw [← hD1.out] at hw10 hG9
    have hst : FSt w5 g p10 w9.heap.size CF.toArray D1 D1 w10 := by
      rw [hw10]
      exact ⟨hB9.alloc hB9.size _, hP10.alloc _, hG9.alloc _, Blk.new _ _ _⟩
    have hne1 : p10 ≠ g := by omega
    have hne2 : w9.heap.size ≠ g := by omega
    have hne3 : p10 ≠ w9.heap.size := by omega
    have hgc5 : w5.heap.size ≤ w9.heap.size := hB9.size
    have hg5 : w5.heap.size ≤ g := by have := hg.out; omega
    have hp8lt : p8 < w5.heap.size := by omega
    clear hw10 hB9 hP10 hG9 hs9 hg8
    obtain ⟨gc, hgc⟩ : ∃ gc, w9.heap.size = gc := ⟨_, rfl⟩
    rw [hgc] at hst hne2 hne3 hgc5 ⊢
    clear hgc
    go_wp2_with fail
    have hneqF : ∀ w, (binOp .neq 23 (.agg CF.toArray) (.agg CF.toArray)).run Try.prog w = .ok (.bool false) w := fun w => by rw [← hCF, run_neqL]; simp
    have hneqH : ∀ w, (binOp .neq 23 (.agg CH.toArray) (.agg CH.toArray)).run Try.prog w = .ok (.bool false) w := fun w => by rw [← hCH, run_neqL]; simp
    have HP8 : Keep (∀ wx, Below w5.heap.size w5 wx → wx.rangeAt p8 0 CH) := ⟨fun wx hx => blk_rangeL (hP8.below hx hp8lt)⟩
    have HRows5 : Keep (∀ wx, Below w5.heap.size w5 wx → RowAt wx (.slice pa na ca) la ∧ RowAt wx (.slice pb nb cb) lb) := ⟨fun wx hx => ⟨HA.out wx (hB5.trans (hx.mono hB5.size)), HB.out wx (hB5.trans (hx.mono hB5.size))⟩⟩
    have HB5 : Keep (Below w.heap.size w w5) := ⟨hB5⟩
    have HCH : Keep (encH (shaH (la ++ lb)) = CH) := ⟨hCH⟩
    have HCF : Keep (encH (shaH la) = CF) := ⟨hCF⟩
    have hu := Try.underlying23
    have HS11 : Keep (∀ wx, Below w10.heap.size w10 wx → wx.rangeAt p10 0 CF ∧ wx.rangeAt p8 0 CH) := ⟨fun wx hx => ⟨(hst.next hx).range, HP8.out wx (hst.next hx).bel⟩⟩
    have HST11 : Keep (∀ wx, Below w10.heap.size w10 wx → RowAt wx (.slice pa na ca) la ∧ RowAt wx (.slice pb nb cb) lb) := ⟨fun wx hx => HRows5.out wx (hst.next hx).bel⟩
    have HOfA : Keep (∀ wx, RowAt wx (.slice pa na ca) la → Calls Try.prog 11 #[.slice pa na ca] wx fun e w' => e = .returned (.agg CF.toArray) ∧ Below wx.heap.size wx w') := ⟨fun wx hx => by
      rw [← HCF.out]; exact of_anyH _ la wx hx (by rw [HNA.out]; omega)⟩
    have HLen : Keep (∀ wx, Blk wx g 67 (digA D1.s D1.r D1.n) → Calls Try.prog 21 #[ptr g] wx fun e w' => e = .returned (.int .i64 (na : Int)) ∧ Below wx.heap.size wx w') := ⟨fun wx hx => by
      refine (len_any g D1 wx hx).mono fun e w' h => ⟨?_, by rw [h.2]; exact Below.refl _ _⟩
      rw [h.1, hD1.out, absorbL_n]
      show Ending.returned (.int .i64 (((0 + la.length : Nat)) : Int)) = _
      rw [HNA.out, Nat.zero_add]⟩
    have HD11 : Keep (∀ wx, Below w10.heap.size w10 wx → Blk wx g 67 (digA D1.s D1.r D1.n)) := ⟨fun wx hx => (hst.next hx).d⟩
    have HST10 : Keep (FSt w5 g p10 gc CF.toArray D1 D1 w10) := ⟨hst⟩
    clear hst hP8 hB5 hCH hCF HA HB
    have hD0 : Below w10.heap.size w10 w10.drew := (Below.refl _ _).drew
    have hgcp : ptr gc = .pointer (some ⟨gc, 0, none⟩) := rfl
    clear hgcp
    refine wp_region_held_drew (S := fun w' => w'.rangeAt p10 0 CF ∧ w'.rangeAt p8 0 CH) (by kernel_rfl) (HS11.out _ hD0) (fun hHeld => ?_)
    refine wpAnyH_take (i := 0) (oi := ⟨some 41, Op.move (Operand.tmp 11), 34, _, _, none⟩) (v := ptr gc) rfl (by kernel_rfl) (by kernel_rfl) (by kernel_rfl) (fun _ _ _ h => h) (Or.inl ⟨by rfl, fun w hS => by go_simp⟩) hHeld ?_
    simp only [Act.put, List.setIfInBounds_toArray, List.set_cons_zero, List.set_cons_succ]
    refine wpAnyH_take (i := 1) (oi := ⟨some 42, Op.binOp BinOp.eql 34 (Operand.tmp 41) (Operand.const (Value.pointer none)) 34, 4, _, _, none⟩) (v := .bool false) rfl (by kernel_rfl) (by kernel_rfl) (by kernel_rfl) (fun _ _ _ h => h) (Or.inl ⟨by rfl, fun w hS => by go_simp⟩) hHeld ?_
    simp only [Act.put, List.setIfInBounds_toArray, List.set_cons_zero, List.set_cons_succ]
    refine wpAnyH_take (i := 2) (oi := ⟨some 43, Op.move (Operand.tmp 42), 4, _, _, none⟩) (v := .bool false) rfl (by kernel_rfl) (by kernel_rfl) (by kernel_rfl) (fun _ _ _ h => h) (Or.inl ⟨by rfl, fun w hS => by go_simp⟩) hHeld ?_
    simp only [Act.put, List.setIfInBounds_toArray, List.set_cons_zero, List.set_cons_succ]
    refine wpAnyH_take (i := 3) (oi := ⟨some 44, Op.load 23 (Operand.tmp 10), 23, _, _, some (2, false)⟩) (v := .agg (CF).toArray) rfl (by kernel_rfl) (by kernel_rfl) (by kernel_rfl) (fun _ _ _ h => h) (yieldsIf_load_mid (by rfl) 23 (Operand.tmp 10) rfl p10 0 rfl CF _ (fun w hS => hS.1) hu rfl hiF) hHeld ?_
    simp only [Act.put, List.setIfInBounds_toArray, List.set_cons_zero, List.set_cons_succ]
    refine wpAnyH_take (i := 4) (oi := ⟨some 45, Op.move (Operand.tmp 0), 28, _, _, some (2, false)⟩) (v := Value.slice pa na ca) rfl (by kernel_rfl) (by kernel_rfl) (by kernel_rfl) (fun _ _ _ h => h) (Or.inl ⟨by rfl, fun w hS => by go_simp⟩) hHeld ?_
    simp only [Act.put, List.setIfInBounds_toArray, List.set_cons_zero, List.set_cons_succ]
    refine wpAnyH_ready (rs := [5]) (by kernel_rfl) (by simp) ?_
    refine AllReadyH.cons (o := ⟨some 46, Op.call { callee := Callee.value (Operand.func 11), args := #[Operand.tmp 45], argTypes := #[28] }, 23, _, _, some (2, false)⟩) rfl (fun K hK => ?_) AllReadyH.nil
    rw [if_pos (by rfl)]
    refine wp_callF 11 #[.tmp 45] #[28] rfl Try.enter11 #[Value.slice pa na ca] (by simp [Act.eval]) (fun v w' => v = .agg CF.toArray ∧ Below w10.drew.heap.size w10.drew w') ((HOfA.out _ (HST11.out _ hD0).1).mono fun e w' h => ⟨_, h.1, rfl, h.2⟩) ?_
    rintro v w11_1 ⟨rfl, hb11_1⟩
    have hB11_1 := hD0.trans (hb11_1.mono hD0.size)
    refine hK.out _ _ (HS11.out _ hB11_1) fun hHeld11_1 => ?_
    clear hK
    simp only [Act.put, List.setIfInBounds_toArray, List.set_cons_zero, List.set_cons_succ]
    refine wpAnyH_take (i := 6) (oi := ⟨some 47, Op.binOp BinOp.neq 23 (Operand.tmp 44) (Operand.tmp 46) 23, 4, _, _, some (2, false)⟩) (v := .bool false) rfl (by kernel_rfl) (by kernel_rfl) (by kernel_rfl) (fun _ _ _ h => h) (Or.inl ⟨by rfl, fun w hS => by go_simp⟩) hHeld11_1 ?_
    simp only [Act.put, List.setIfInBounds_toArray, List.set_cons_zero, List.set_cons_succ]
    refine wpAnyH_take (i := 7) (oi := ⟨some 48, Op.pick (Operand.tmp 43) (Operand.const (Value.bool true)) (Operand.tmp 47), 4, _, _, none⟩) (v := .bool false) rfl (by kernel_rfl) (by kernel_rfl) (by kernel_rfl) (fun _ _ _ h => h) (Or.inl ⟨by rfl, fun w hS => by go_simp⟩) hHeld11_1 ?_
    simp only [Act.put, List.setIfInBounds_toArray, List.set_cons_zero, List.set_cons_succ]
    refine wpAnyH_take (i := 8) (oi := ⟨some 49, Op.move (Operand.tmp 48), 4, _, _, none⟩) (v := .bool false) rfl (by kernel_rfl) (by kernel_rfl) (by kernel_rfl) (fun _ _ _ h => h) (Or.inl ⟨by rfl, fun w hS => by go_simp⟩) hHeld11_1 ?_
    simp only [Act.put, List.setIfInBounds_toArray, List.set_cons_zero, List.set_cons_succ]
    refine wpAnyH_take (i := 9) (oi := ⟨some 50, Op.move (Operand.tmp 9), 34, _, _, some (8, false)⟩) (v := ptr g) rfl (by kernel_rfl) (by kernel_rfl) (by kernel_rfl) (fun _ _ _ h => h) (Or.inl ⟨by rfl, fun w hS => by go_simp⟩) hHeld11_1 ?_
    simp only [Act.put, List.setIfInBounds_toArray, List.set_cons_zero, List.set_cons_succ]
    refine wpAnyH_take (i := 11) (oi := ⟨some 52, Op.move (Operand.tmp 0), 28, _, _, some (8, false)⟩) (v := Value.slice pa na ca) rfl (by kernel_rfl) (by kernel_rfl) (by kernel_rfl) (fun _ _ _ h => h) (Or.inl ⟨by rfl, fun w hS => by go_simp⟩) hHeld11_1 ?_
    simp only [Act.put, List.setIfInBounds_toArray, List.set_cons_zero, List.set_cons_succ]
    refine wpAnyH_take (i := 12) (oi := ⟨some 53, Op.call { callee := Callee.builtin Builtin.len, args := #[Operand.tmp 52], argTypes := #[28] }, 3, _, _, some (8, false)⟩) (v := .int .i64 (na : Int)) rfl (by kernel_rfl) (by kernel_rfl) (by kernel_rfl) (fun _ _ _ h => h) (Or.inl ⟨by rfl, fun w hS => by go_simp⟩) hHeld11_1 ?_
    simp only [Act.put, List.setIfInBounds_toArray, List.set_cons_zero, List.set_cons_succ]
    refine wpAnyH_ready (rs := [10]) (by kernel_rfl) (by simp) ?_
    refine AllReadyH.cons (o := ⟨some 51, Op.call { callee := Callee.value (Operand.func 21), args := #[Operand.tmp 50], argTypes := #[34] }, 3, _, _, some (8, false)⟩) rfl (fun K hK => ?_) AllReadyH.nil
    rw [if_pos (by rfl)]
    refine wp_callF 21 #[.tmp 50] #[34] rfl Try.enter21 #[ptr g] (by simp [Act.eval]) (fun v w' => v = .int .i64 (na : Int) ∧ Below w11_1.heap.size w11_1 w') ((HLen.out _ (HD11.out _ hB11_1)).mono fun e w' h => ⟨_, h.1, rfl, h.2⟩) ?_
    rintro v w11_2 ⟨rfl, hb11_2⟩
    have hB11_2 := hB11_1.trans (hb11_2.mono hB11_1.size)
    refine hK.out _ _ (HS11.out _ hB11_2) fun hHeld11_2 => ?_
    clear hK
    simp only [Act.put, List.setIfInBounds_toArray, List.set_cons_zero, List.set_cons_succ]
    refine wpAnyH_take (i := 13) (oi := ⟨some 54, Op.binOp BinOp.neq 3 (Operand.tmp 51) (Operand.tmp 53) 3, 4, _, _, some (8, false)⟩) (v := .bool false) rfl (by kernel_rfl) (by kernel_rfl) (by kernel_rfl) (fun _ _ _ h => h) (Or.inl ⟨by rfl, fun w hS => by go_simp⟩) hHeld11_2 ?_
    simp only [Act.put, List.setIfInBounds_toArray, List.set_cons_zero, List.set_cons_succ]
    refine wpAnyH_take (i := 14) (oi := ⟨some 55, Op.pick (Operand.tmp 49) (Operand.const (Value.bool true)) (Operand.tmp 54), 4, _, _, none⟩) (v := .bool false) rfl (by kernel_rfl) (by kernel_rfl) (by kernel_rfl) (fun _ _ _ h => h) (Or.inl ⟨by rfl, fun w hS => by go_simp⟩) hHeld11_2 ?_
    simp only [Act.put, List.setIfInBounds_toArray, List.set_cons_zero, List.set_cons_succ]
    refine wpAnyH_done (by kernel_rfl) ?_ _
    have hst11 := HST10.out.next hB11_2
    clear HS11 HST11 HD11 HST10 HLen HOfA
    go_wp2_with fail
    have hw12 := write_rowG g D1 (.slice pb nb cb) lb w5 w11_2 hst11.bel hg5 (HRows5.out w5 (Below.refl _ _)).2 hst11.d (by rw [hD1.out, absorbL_n]; show ((0 + la.length : Nat) : Int) + _ ≤ _; rw [HNA.out, HNB.out]; omega)
    refine hw12.mono ?_
    rintro e w12 ⟨rfl, hd12, hgr12⟩
    obtain ⟨D2, hD2⟩ : ∃ D2, Keep (D2 = absorbL D1 lb) := ⟨_, ⟨rfl⟩⟩
    rw [← hD2.out] at hd12
    have HD2 : Keep (D2 = absorbL dg0 (la ++ lb)) := ⟨by rw [hD2.out, hD1.out, absorbL_append]⟩
    have hst12 := hst11.setD hgr12 hd12 hg5 hne1 hne2
    have HLB : Keep ((la ++ lb).length ≤ 2147483647) := ⟨by rw [List.length_append, HNA.out, HNB.out]; exact htot⟩
    have HLA : Keep (la.length ≤ 2147483647) := ⟨by rw [HNA.out]; omega⟩
    have HST12 : Keep (FSt w5 g p10 gc CF.toArray D2 D1 w12) := ⟨hst12⟩
    clear hw12 hst11 hd12 hgr12 hst12
    have HS14 : Keep (∀ wx, Below w12.heap.size w12 wx → wx.rangeAt p10 0 CF ∧ wx.rangeAt p8 0 CH) := ⟨fun wx hx => ⟨(HST12.out.next hx).range, HP8.out wx (HST12.out.next hx).bel⟩⟩
    have HST14 : Keep (∀ wx, Below w12.heap.size w12 wx → RowAt wx (.slice pa na ca) la ∧ RowAt wx (.slice pb nb cb) lb) := ⟨fun wx hx => HRows5.out wx (HST12.out.next hx).bel⟩
    have HSumD : Keep (∀ wx, Below w12.heap.size w12 wx → Calls Try.prog 20 #[ptr g] wx fun e w' => e = .returned (.agg CH.toArray) ∧ Below wx.heap.size wx w') := ⟨fun wx hx => by
      rw [← HCH.out]; exact sum_H g D2 (la ++ lb) wx (HST12.out.next hx).d HD2.out HLB.out⟩
    have HSumC : Keep (∀ wx, Below w12.heap.size w12 wx → Calls Try.prog 20 #[ptr gc] wx fun e w' => e = .returned (.agg CF.toArray) ∧ Below wx.heap.size wx w') := ⟨fun wx hx => by
      rw [← HCF.out]; exact sum_H gc D1 la wx (HST12.out.next hx).c hD1.out HLA.out⟩
    have HAll : Keep (∀ wx v, RowsAt wx v 2 (fun i => if i = 0 then .slice pa na ca else .slice pb nb cb) (fun i => if i = 0 then la else lb) → Calls Try.prog 13 #[v] wx fun e w' => e = .returned (.agg CH.toArray) ∧ Below wx.heap.size wx w') := ⟨fun wx v hx => by
      rw [← HCH.out]; exact ofAll_H v 2 _ _ (la ++ lb) wx hx (by omega) (concat_two la lb) (by have := HLB.out; omega)⟩
    have hD1' : Below w12.heap.size w12 w12.drew := (Below.refl _ _).drew
    go_wp2_with fail
    refine wp_region_held_drew (S := fun w' => w'.rangeAt p10 0 CF ∧ w'.rangeAt p8 0 CH) (by kernel_rfl) (HS14.out _ hD1') (fun hHeld => ?_)
    refine wpAnyH_take (i := 0) (oi := ⟨some 59, Op.move (Operand.tmp 9), 34, _, _, none⟩) (v := ptr g) rfl (by kernel_rfl) (by kernel_rfl) (by kernel_rfl) (fun _ _ _ h => h) (Or.inl ⟨by rfl, fun w hS => by go_simp⟩) hHeld ?_
    simp only [Act.put, List.setIfInBounds_toArray, List.set_cons_zero, List.set_cons_succ]
    refine wpAnyH_take (i := 2) (oi := ⟨some 61, Op.load 23 (Operand.tmp 8), 23, _, _, none⟩) (v := .agg (CH).toArray) rfl (by kernel_rfl) (by kernel_rfl) (by kernel_rfl) (fun _ _ _ h => h) (yieldsIf_load_mid (by rfl) 23 (Operand.tmp 8) rfl p8 0 rfl CH _ (fun w hS => hS.2) hu rfl hiH) hHeld ?_
    simp only [Act.put, List.setIfInBounds_toArray, List.set_cons_zero, List.set_cons_succ]
    refine wpAnyH_ready (rs := [1]) (by kernel_rfl) (by simp) ?_
    refine AllReadyH.cons (o := ⟨some 60, Op.call { callee := Callee.value (Operand.func 20), args := #[Operand.tmp 59], argTypes := #[34] }, 23, _, _, none⟩) rfl (fun K hK => ?_) AllReadyH.nil
    rw [if_pos (by rfl)]
    refine wp_callF 20 #[.tmp 59] #[34] rfl Try.enter20 #[ptr g] (by simp [Act.eval]) (fun v w' => v = .agg CH.toArray ∧ Below w12.drew.heap.size w12.drew w') ((HSumD.out _ hD1').mono fun e w' h => ⟨_, h.1, rfl, h.2⟩) ?_
    rintro v w14_1 ⟨rfl, hb14_1⟩
    have hB14_1 := hD1'.trans (hb14_1.mono hD1'.size)
    refine hK.out _ _ (HS14.out _ hB14_1) fun hHeld14_1 => ?_
    clear hK
    simp only [Act.put, List.setIfInBounds_toArray, List.set_cons_zero, List.set_cons_succ]
    refine wpAnyH_take (i := 3) (oi := ⟨some 62, Op.binOp BinOp.neq 23 (Operand.tmp 60) (Operand.tmp 61) 23, 4, _, _, none⟩) (v := .bool false) rfl (by kernel_rfl) (by kernel_rfl) (by kernel_rfl) (fun _ _ _ h => h) (Or.inl ⟨by rfl, fun w hS => by go_simp⟩) hHeld14_1 ?_
    simp only [Act.put, List.setIfInBounds_toArray, List.set_cons_zero, List.set_cons_succ]
    refine wpAnyH_take (i := 4) (oi := ⟨some 63, Op.move (Operand.tmp 62), 4, _, _, none⟩) (v := .bool false) rfl (by kernel_rfl) (by kernel_rfl) (by kernel_rfl) (fun _ _ _ h => h) (Or.inl ⟨by rfl, fun w hS => by go_simp⟩) hHeld14_1 ?_
    simp only [Act.put, List.setIfInBounds_toArray, List.set_cons_zero, List.set_cons_succ]
    refine wpAnyH_take (i := 5) (oi := ⟨some 64, Op.move (Operand.tmp 0), 28, _, _, some (4, false)⟩) (v := Value.slice pa na ca) rfl (by kernel_rfl) (by kernel_rfl) (by kernel_rfl) (fun _ _ _ h => h) (Or.inl ⟨by rfl, fun w hS => by go_simp⟩) hHeld14_1 ?_
    simp only [Act.put, List.setIfInBounds_toArray, List.set_cons_zero, List.set_cons_succ]
    refine wpAnyH_take (i := 6) (oi := ⟨some 65, Op.move (Operand.tmp 1), 28, _, _, some (4, false)⟩) (v := Value.slice pb nb cb) rfl (by kernel_rfl) (by kernel_rfl) (by kernel_rfl) (fun _ _ _ h => h) (Or.inl ⟨by rfl, fun w hS => by go_simp⟩) hHeld14_1 ?_
    simp only [Act.put, List.setIfInBounds_toArray, List.set_cons_zero, List.set_cons_succ]
    refine wpAnyH_take (i := 9) (oi := ⟨some 68, Op.load 23 (Operand.tmp 8), 23, _, _, some (4, false)⟩) (v := .agg (CH).toArray) rfl (by kernel_rfl) (by kernel_rfl) (by kernel_rfl) (fun _ _ _ h => h) (yieldsIf_load_mid (by rfl) 23 (Operand.tmp 8) rfl p8 0 rfl CH _ (fun w hS => hS.2) hu rfl hiH) hHeld14_1 ?_
    simp only [Act.put, List.setIfInBounds_toArray, List.set_cons_zero, List.set_cons_succ]
    refine wpAnyH_ready (rs := [7]) (by kernel_rfl) (by simp) ?_
    refine AllReadyH.cons (o := ⟨some 66, Op.buildSlice 25 2 #[(0, Operand.tmp 64), (1, Operand.tmp 65)], 25, _, _, some (4, false)⟩) rfl (fun K hK => ?_) AllReadyH.nil
    rw [if_pos (by rfl)]
    refine wp_bs 25 2 #[(0, .tmp 64), (1, .tmp 65)] rfl #[(0, .slice pa na ca), (1, .slice pb nb cb)] (by simp [Act.eval]) _ _ (Try.bsRows _ _ _ _ _ _ _) ?_
    have hb14_2 := below_new w14_1 (.cells #[.slice pa na ca, .slice pb nb cb] 28)
    have hB14_2 := hB14_1.trans (hb14_2.mono hB14_1.size)
    have HRW14 : Keep (RowsAt (w14_1.alloc (.cells #[.slice pa na ca, .slice pb nb cb] 28)) (.slice (some ⟨w14_1.heap.size, 0, none⟩) 2 2) 2 (fun i => if i = 0 then .slice pa na ca else .slice pb nb cb) (fun i => if i = 0 then la else lb)) := ⟨rows_two (HST14.out _ hB14_1).1 (HST14.out _ hB14_1).2⟩
    generalize w14_1.alloc (.cells #[.slice pa na ca, .slice pb nb cb] 28) = w14_2 at *
    skip
    refine hK.out _ _ (HS14.out _ hB14_2) fun hHeld14_2 => ?_
    clear hK
    simp only [Act.put, List.setIfInBounds_toArray, List.set_cons_zero, List.set_cons_succ]
    refine wpAnyH_ready (rs := [8]) (by kernel_rfl) (by simp) ?_
    refine AllReadyH.cons (o := ⟨some 67, Op.call { callee := Callee.value (Operand.func 13), args := #[Operand.tmp 66], argTypes := #[25] }, 23, _, _, some (4, false)⟩) rfl (fun K hK => ?_) AllReadyH.nil
    rw [if_pos (by rfl)]
    refine wp_callF 13 #[.tmp 66] #[25] rfl Try.enter13 #[Value.slice (some ⟨w14_1.heap.size, 0, none⟩) 2 2] (by simp [Act.eval]) (fun v w' => v = .agg CH.toArray ∧ Below w14_2.heap.size w14_2 w') ((HAll.out _ _ HRW14.out).mono fun e w' h => ⟨_, h.1, rfl, h.2⟩) ?_
    rintro v w14_3 ⟨rfl, hb14_3⟩
    have hB14_3 := hB14_2.trans (hb14_3.mono hB14_2.size)
    refine hK.out _ _ (HS14.out _ hB14_3) fun hHeld14_3 => ?_
    clear hK
    simp only [Act.put, List.setIfInBounds_toArray, List.set_cons_zero, List.set_cons_succ]
    refine wpAnyH_take (i := 10) (oi := ⟨some 69, Op.binOp BinOp.neq 23 (Operand.tmp 67) (Operand.tmp 68) 23, 4, _, _, some (4, false)⟩) (v := .bool false) rfl (by kernel_rfl) (by kernel_rfl) (by kernel_rfl) (fun _ _ _ h => h) (Or.inl ⟨by rfl, fun w hS => by go_simp⟩) hHeld14_3 ?_
    simp only [Act.put, List.setIfInBounds_toArray, List.set_cons_zero, List.set_cons_succ]
    refine wpAnyH_take (i := 11) (oi := ⟨some 70, Op.pick (Operand.tmp 63) (Operand.const (Value.bool true)) (Operand.tmp 69), 4, _, _, none⟩) (v := .bool false) rfl (by kernel_rfl) (by kernel_rfl) (by kernel_rfl) (fun _ _ _ h => h) (Or.inl ⟨by rfl, fun w hS => by go_simp⟩) hHeld14_3 ?_
    simp only [Act.put, List.setIfInBounds_toArray, List.set_cons_zero, List.set_cons_succ]
    refine wpAnyH_take (i := 12) (oi := ⟨some 71, Op.move (Operand.tmp 70), 4, _, _, none⟩) (v := .bool false) rfl (by kernel_rfl) (by kernel_rfl) (by kernel_rfl) (fun _ _ _ h => h) (Or.inl ⟨by rfl, fun w hS => by go_simp⟩) hHeld14_3 ?_
    simp only [Act.put, List.setIfInBounds_toArray, List.set_cons_zero, List.set_cons_succ]
    refine wpAnyH_take (i := 13) (oi := ⟨some 72, Op.move (Operand.tmp 11), 34, _, _, some (12, false)⟩) (v := ptr gc) rfl (by kernel_rfl) (by kernel_rfl) (by kernel_rfl) (fun _ _ _ h => h) (Or.inl ⟨by rfl, fun w hS => by go_simp⟩) hHeld14_3 ?_
    simp only [Act.put, List.setIfInBounds_toArray, List.set_cons_zero, List.set_cons_succ]
    refine wpAnyH_take (i := 15) (oi := ⟨some 74, Op.load 23 (Operand.tmp 10), 23, _, _, some (12, false)⟩) (v := .agg (CF).toArray) rfl (by kernel_rfl) (by kernel_rfl) (by kernel_rfl) (fun _ _ _ h => h) (yieldsIf_load_mid (by rfl) 23 (Operand.tmp 10) rfl p10 0 rfl CF _ (fun w hS => hS.1) hu rfl hiF) hHeld14_3 ?_
    simp only [Act.put, List.setIfInBounds_toArray, List.set_cons_zero, List.set_cons_succ]
    refine wpAnyH_ready (rs := [14]) (by kernel_rfl) (by simp) ?_
    refine AllReadyH.cons (o := ⟨some 73, Op.call { callee := Callee.value (Operand.func 20), args := #[Operand.tmp 72], argTypes := #[34] }, 23, _, _, some (12, false)⟩) rfl (fun K hK => ?_) AllReadyH.nil
    rw [if_pos (by rfl)]
    refine wp_callF 20 #[.tmp 72] #[34] rfl Try.enter20 #[ptr gc] (by simp [Act.eval]) (fun v w' => v = .agg CF.toArray ∧ Below w14_3.heap.size w14_3 w') ((HSumC.out _ hB14_3).mono fun e w' h => ⟨_, h.1, rfl, h.2⟩) ?_
    rintro v w14_4 ⟨rfl, hb14_4⟩
    have hB14_4 := hB14_3.trans (hb14_4.mono hB14_3.size)
    refine hK.out _ _ (HS14.out _ hB14_4) fun hHeld14_4 => ?_
    clear hK
    simp only [Act.put, List.setIfInBounds_toArray, List.set_cons_zero, List.set_cons_succ]
    refine wpAnyH_take (i := 16) (oi := ⟨some 75, Op.binOp BinOp.neq 23 (Operand.tmp 73) (Operand.tmp 74) 23, 4, _, _, some (12, false)⟩) (v := .bool false) rfl (by kernel_rfl) (by kernel_rfl) (by kernel_rfl) (fun _ _ _ h => h) (Or.inl ⟨by rfl, fun w hS => by go_simp⟩) hHeld14_4 ?_
    simp only [Act.put, List.setIfInBounds_toArray, List.set_cons_zero, List.set_cons_succ]
    refine wpAnyH_take (i := 17) (oi := ⟨some 76, Op.pick (Operand.tmp 71) (Operand.const (Value.bool true)) (Operand.tmp 75), 4, _, _, none⟩) (v := .bool false) rfl (by kernel_rfl) (by kernel_rfl) (by kernel_rfl) (fun _ _ _ h => h) (Or.inl ⟨by rfl, fun w hS => by go_simp⟩) hHeld14_4 ?_
    simp only [Act.put, List.setIfInBounds_toArray, List.set_cons_zero, List.set_cons_succ]
    refine wpAnyH_done (by kernel_rfl) ?_ _
    have hst14 := HST12.out.next hB14_4
    clear HS14 HST14 HSumD HSumC HAll HST12
    go_wp2_with fail
    have hw15 := write_rowG gc D1 (.slice pb nb cb) lb w5 w14_4 hst14.bel hgc5 (HRows5.out w5 (Below.refl _ _)).2 hst14.c (by rw [hD1.out, absorbL_n]; show ((0 + la.length : Nat) : Int) + _ ≤ _; rw [HNA.out, HNB.out]; omega)
    refine hw15.mono ?_
    rintro e w13 ⟨rfl, hd13, hgr13⟩
    rw [← hD2.out] at hd13
    have hst13 := hst14.setC hgr13 hd13 hgc5 hne3 (fun e => hne2 e.symm)
    clear hw15 hst14 hd13 hgr13
    go_wp2_with fail
    refine (reset_any g D2 w13 hst13.d).mono ?_
    rintro e w15 ⟨rfl, hd15, hgr15⟩
    have HST15 : Keep (FSt w5 g p10 gc CF.toArray dg0 D2 w15) := ⟨hst13.setD hgr15 hd15 hg5 hne1 hne2⟩
    clear hst13 hd15 hgr15
    obtain ⟨C0, hC0⟩ : ∃ C0, Keep (encH (shaH []) = C0) := ⟨_, ⟨rfl⟩⟩
    have hneq0 : ∀ w, (binOp .neq 23 (.agg C0.toArray) (.agg C0.toArray)).run Try.prog w = .ok (.bool false) w := fun w => by rw [← hC0.out, run_neqL]; simp
    have HS18 : Keep (∀ wx, Below w15.heap.size w15 wx → wx.rangeAt p10 0 CF ∧ wx.rangeAt p8 0 CH) := ⟨fun wx hx => ⟨(HST15.out.next hx).range, HP8.out wx (HST15.out.next hx).bel⟩⟩
    have HSumC2 : Keep (∀ wx, Below w15.heap.size w15 wx → Calls Try.prog 20 #[ptr gc] wx fun e w' => e = .returned (.agg CH.toArray) ∧ Below wx.heap.size wx w') := ⟨fun wx hx => by
      rw [← HCH.out]; exact sum_H gc D2 (la ++ lb) wx (HST15.out.next hx).c HD2.out HLB.out⟩
    have HSumD2 : Keep (∀ wx, Below w15.heap.size w15 wx → Calls Try.prog 20 #[ptr g] wx fun e w' => e = .returned (.agg C0.toArray) ∧ Below wx.heap.size wx w') := ⟨fun wx hx => by
      rw [← hC0.out]; exact sum_H g dg0 [] wx (HST15.out.next hx).d rfl (by simp)⟩
    have HLen2 : Keep (∀ wx, Blk wx g 67 (digA dg0.s dg0.r dg0.n) → Calls Try.prog 21 #[ptr g] wx fun e w' => e = .returned (.int .i64 0) ∧ Below wx.heap.size wx w') := ⟨fun wx hx =>
      (len_any g dg0 wx hx).mono fun e w' h => ⟨h.1, by rw [h.2]; exact Below.refl _ _⟩⟩
    have HD18 : Keep (∀ wx, Below w15.heap.size w15 wx → Blk wx g 67 (digA dg0.s dg0.r dg0.n)) := ⟨fun wx hx => (HST15.out.next hx).d⟩
    have HAll0 : Keep (∀ wx, Calls Try.prog 13 #[.slice none 0 0] wx fun e w' => e = .returned (.agg C0.toArray) ∧ Below wx.heap.size wx w') := ⟨fun wx => by
      rw [← hC0.out, ← shaH_arr]; exact ofAll_none none 0 wx⟩
    have hD2' : Below w15.heap.size w15 w15.drew := (Below.refl _ _).drew
    go_wp2_with fail
    refine wp_region_held_drew (S := fun w' => w'.rangeAt p10 0 CF ∧ w'.rangeAt p8 0 CH) (by kernel_rfl) (HS18.out _ hD2') (fun hHeld => ?_)
    refine wpAnyH_take (i := 0) (oi := ⟨some 82, Op.move (Operand.tmp 11), 34, _, _, none⟩) (v := ptr gc) rfl (by kernel_rfl) (by kernel_rfl) (by kernel_rfl) (fun _ _ _ h => h) (Or.inl ⟨by rfl, fun w hS => by go_simp⟩) hHeld ?_
    simp only [Act.put, List.setIfInBounds_toArray, List.set_cons_zero, List.set_cons_succ]
    refine wpAnyH_take (i := 2) (oi := ⟨some 84, Op.load 23 (Operand.tmp 8), 23, _, _, none⟩) (v := .agg (CH).toArray) rfl (by kernel_rfl) (by kernel_rfl) (by kernel_rfl) (fun _ _ _ h => h) (yieldsIf_load_mid (by rfl) 23 (Operand.tmp 8) rfl p8 0 rfl CH _ (fun w hS => hS.2) hu rfl hiH) hHeld ?_
    simp only [Act.put, List.setIfInBounds_toArray, List.set_cons_zero, List.set_cons_succ]
    refine wpAnyH_ready (rs := [1]) (by kernel_rfl) (by simp) ?_
    refine AllReadyH.cons (o := ⟨some 83, Op.call { callee := Callee.value (Operand.func 20), args := #[Operand.tmp 82], argTypes := #[34] }, 23, _, _, none⟩) rfl (fun K hK => ?_) AllReadyH.nil
    rw [if_pos (by rfl)]
    refine wp_callF 20 #[.tmp 82] #[34] rfl Try.enter20 #[ptr gc] (by simp [Act.eval]) (fun v w' => v = .agg CH.toArray ∧ Below w15.drew.heap.size w15.drew w') ((HSumC2.out _ hD2').mono fun e w' h => ⟨_, h.1, rfl, h.2⟩) ?_
    rintro v w18_1 ⟨rfl, hb18_1⟩
    have hB18_1 := hD2'.trans (hb18_1.mono hD2'.size)
    refine hK.out _ _ (HS18.out _ hB18_1) fun hHeld18_1 => ?_
    clear hK
    simp only [Act.put, List.setIfInBounds_toArray, List.set_cons_zero, List.set_cons_succ]
    refine wpAnyH_take (i := 3) (oi := ⟨some 85, Op.binOp BinOp.neq 23 (Operand.tmp 83) (Operand.tmp 84) 23, 4, _, _, none⟩) (v := .bool false) rfl (by kernel_rfl) (by kernel_rfl) (by kernel_rfl) (fun _ _ _ h => h) (Or.inl ⟨by rfl, fun w hS => by go_simp⟩) hHeld18_1 ?_
    simp only [Act.put, List.setIfInBounds_toArray, List.set_cons_zero, List.set_cons_succ]
    refine wpAnyH_take (i := 4) (oi := ⟨some 86, Op.move (Operand.tmp 85), 4, _, _, none⟩) (v := .bool false) rfl (by kernel_rfl) (by kernel_rfl) (by kernel_rfl) (fun _ _ _ h => h) (Or.inl ⟨by rfl, fun w hS => by go_simp⟩) hHeld18_1 ?_
    simp only [Act.put, List.setIfInBounds_toArray, List.set_cons_zero, List.set_cons_succ]
    refine wpAnyH_take (i := 5) (oi := ⟨some 87, Op.move (Operand.tmp 9), 34, _, _, some (4, false)⟩) (v := ptr g) rfl (by kernel_rfl) (by kernel_rfl) (by kernel_rfl) (fun _ _ _ h => h) (Or.inl ⟨by rfl, fun w hS => by go_simp⟩) hHeld18_1 ?_
    simp only [Act.put, List.setIfInBounds_toArray, List.set_cons_zero, List.set_cons_succ]
    refine wpAnyH_ready (rs := [6]) (by kernel_rfl) (by simp) ?_
    refine AllReadyH.cons (o := ⟨some 88, Op.call { callee := Callee.value (Operand.func 21), args := #[Operand.tmp 87], argTypes := #[34] }, 3, _, _, some (4, false)⟩) rfl (fun K hK => ?_) AllReadyH.nil
    rw [if_pos (by rfl)]
    refine wp_callF 21 #[.tmp 87] #[34] rfl Try.enter21 #[ptr g] (by simp [Act.eval]) (fun v w' => v = .int .i64 0 ∧ Below w18_1.heap.size w18_1 w') ((HLen2.out _ (HD18.out _ hB18_1)).mono fun e w' h => ⟨_, h.1, rfl, h.2⟩) ?_
    rintro v w18_2 ⟨rfl, hb18_2⟩
    have hB18_2 := hB18_1.trans (hb18_2.mono hB18_1.size)
    refine hK.out _ _ (HS18.out _ hB18_2) fun hHeld18_2 => ?_
    clear hK
    simp only [Act.put, List.setIfInBounds_toArray, List.set_cons_zero, List.set_cons_succ]
    refine wpAnyH_take (i := 7) (oi := ⟨some 89, Op.binOp BinOp.neq 3 (Operand.tmp 88) (Operand.const (Value.int IntKind.i64 0)) 3, 4, _, _, some (4, false)⟩) (v := .bool false) rfl (by kernel_rfl) (by kernel_rfl) (by kernel_rfl) (fun _ _ _ h => h) (Or.inl ⟨by rfl, fun w hS => by go_simp⟩) hHeld18_2 ?_
    simp only [Act.put, List.setIfInBounds_toArray, List.set_cons_zero, List.set_cons_succ]
    refine wpAnyH_take (i := 8) (oi := ⟨some 90, Op.pick (Operand.tmp 86) (Operand.const (Value.bool true)) (Operand.tmp 89), 4, _, _, none⟩) (v := .bool false) rfl (by kernel_rfl) (by kernel_rfl) (by kernel_rfl) (fun _ _ _ h => h) (Or.inl ⟨by rfl, fun w hS => by go_simp⟩) hHeld18_2 ?_
    simp only [Act.put, List.setIfInBounds_toArray, List.set_cons_zero, List.set_cons_succ]
    refine wpAnyH_take (i := 9) (oi := ⟨some 91, Op.move (Operand.tmp 90), 4, _, _, none⟩) (v := .bool false) rfl (by kernel_rfl) (by kernel_rfl) (by kernel_rfl) (fun _ _ _ h => h) (Or.inl ⟨by rfl, fun w hS => by go_simp⟩) hHeld18_2 ?_
    simp only [Act.put, List.setIfInBounds_toArray, List.set_cons_zero, List.set_cons_succ]
    refine wpAnyH_take (i := 10) (oi := ⟨some 92, Op.move (Operand.tmp 9), 34, _, _, some (9, false)⟩) (v := ptr g) rfl (by kernel_rfl) (by kernel_rfl) (by kernel_rfl) (fun _ _ _ h => h) (Or.inl ⟨by rfl, fun w hS => by go_simp⟩) hHeld18_2 ?_
    simp only [Act.put, List.setIfInBounds_toArray, List.set_cons_zero, List.set_cons_succ]
    refine wpAnyH_ready (rs := [11]) (by kernel_rfl) (by simp) ?_
    refine AllReadyH.cons (o := ⟨some 93, Op.call { callee := Callee.value (Operand.func 20), args := #[Operand.tmp 92], argTypes := #[34] }, 23, _, _, some (9, false)⟩) rfl (fun K hK => ?_) AllReadyH.nil
    rw [if_pos (by rfl)]
    refine wp_callF 20 #[.tmp 92] #[34] rfl Try.enter20 #[ptr g] (by simp [Act.eval]) (fun v w' => v = .agg C0.toArray ∧ Below w18_2.heap.size w18_2 w') ((HSumD2.out _ hB18_2).mono fun e w' h => ⟨_, h.1, rfl, h.2⟩) ?_
    rintro v w18_3 ⟨rfl, hb18_3⟩
    have hB18_3 := hB18_2.trans (hb18_3.mono hB18_2.size)
    refine hK.out _ _ (HS18.out _ hB18_3) fun hHeld18_3 => ?_
    clear hK
    simp only [Act.put, List.setIfInBounds_toArray, List.set_cons_zero, List.set_cons_succ]
    refine wpAnyH_ready (rs := [12]) (by kernel_rfl) (by simp) ?_
    refine AllReadyH.cons (o := ⟨some 94, Op.call { callee := Callee.value (Operand.func 13), args := #[Operand.const (Value.slice none 0 0)], argTypes := #[25] }, 23, _, _, some (9, false)⟩) rfl (fun K hK => ?_) AllReadyH.nil
    rw [if_pos (by rfl)]
    refine wp_callF 13 #[.const (.slice none 0 0)] #[25] rfl Try.enter13 #[Value.slice none 0 0] (by simp [Act.eval]) (fun v w' => v = .agg C0.toArray ∧ Below w18_3.heap.size w18_3 w') ((HAll0.out w18_3).mono fun e w' h => ⟨_, h.1, rfl, h.2⟩) ?_
    rintro v w18_4 ⟨rfl, hb18_4⟩
    have hB18_4 := hB18_3.trans (hb18_4.mono hB18_3.size)
    refine hK.out _ _ (HS18.out _ hB18_4) fun hHeld18_4 => ?_
    clear hK
    simp only [Act.put, List.setIfInBounds_toArray, List.set_cons_zero, List.set_cons_succ]
    refine wpAnyH_take (i := 13) (oi := ⟨some 95, Op.binOp BinOp.neq 23 (Operand.tmp 93) (Operand.tmp 94) 23, 4, _, _, some (9, false)⟩) (v := .bool false) rfl (by kernel_rfl) (by kernel_rfl) (by kernel_rfl) (fun _ _ _ h => h) (Or.inl ⟨by rfl, fun w hS => by go_simp⟩) hHeld18_4 ?_
    simp only [Act.put, List.setIfInBounds_toArray, List.set_cons_zero, List.set_cons_succ]
    refine wpAnyH_take (i := 14) (oi := ⟨some 96, Op.pick (Operand.tmp 91) (Operand.const (Value.bool true)) (Operand.tmp 95), 4, _, _, none⟩) (v := .bool false) rfl (by kernel_rfl) (by kernel_rfl) (by kernel_rfl) (fun _ _ _ h => h) (Or.inl ⟨by rfl, fun w hS => by go_simp⟩) hHeld18_4 ?_
    simp only [Act.put, List.setIfInBounds_toArray, List.set_cons_zero, List.set_cons_succ]
    refine wpAnyH_done (by kernel_rfl) ?_ _
    have hst18 := HST15.out.next hB18_4
    clear HS18 HSumC2 HSumD2 HLen2 HD18 HAll0 HST15
    have hB18 : Below w.heap.size w w18_4 := HB5.out.trans (hst18.bel.mono HB5.out.size)
    have rF := hst18.range
    have rH := HP8.out w18_4 hst18.bel
    have hbs18 := bs2H (shaH (la ++ lb)) (shaH la) w18_4
    rw [HCH.out, HCF.out] at hbs18
    have hown18 := owns_two (shaH (la ++ lb)) (shaH la) w18_4
    obtain ⟨L0, hL0⟩ : ∃ L0, Keep ([shaH (la ++ lb), shaH la] = L0) := ⟨_, ⟨rfl⟩⟩
    have HL0 : Keep (L0.length = 2) := ⟨by rw [← hL0.out]; rfl⟩
    rw [hL0.out] at hbs18 hown18
    have HOW : Keep ((w18_4.alloc (.cells (flatH L0).toArray 23)).ownsRow w18_4.heap.size 23 32 (.slice (some ⟨w18_4.heap.size, 0, none⟩) 2 2) L0.length (flatH L0)) := ⟨hown18⟩
    have hB19 := hB18.alloc hB18.size (.cells (flatH L0).toArray 23)
    have HR19 : Keep (HRow (w18_4.alloc (.cells (flatH L0).toArray 23)) vl L) := ⟨HLr.out _ hB19⟩
    have HBel20 : Keep (∀ w20, (w18_4.alloc (.cells (flatH L0).toArray 23)).grownBy w20 (some w18_4.heap.size) → Below w.heap.size w w20) := ⟨fun w20 hg =>
      hB19.grown hg (by have := hB18.size; simp; omega) (fun k e => by injection e with e; have := hB18.size; omega)⟩
    have hz19 : w18_4.heap.size ≤ (w18_4.alloc (.cells (flatH L0).toArray 23)).heap.size := by simp
    have HZ19 : Keep (w18_4.heap.size ≤ (w18_4.alloc (.cells (flatH L0).toArray 23)).heap.size) := ⟨hz19⟩
    have HBND : Keep (L0.length + L.length ≤ 4398046511104) := ⟨by rw [HL0.out]; omega⟩
    clear hst18 hown18 hB19 hz19
    generalize w18_4.alloc (.cells (flatH L0).toArray 23) = w19 at *
    go_wp2_with (first | (refine wpList_load_mid rfl 23 (.tmp 8) rfl p8 0 rfl CH (.array 32 5) rH hu rfl hiH ?_; refine wpList_load_mid rfl 23 (.tmp 10) rfl p10 0 rfl CF (.array 32 5) rF hu rfl hiF ?_; refine wpList_bs rfl 45 2 #[(0, .tmp 97), (1, .tmp 98)] rfl #[(0, .agg CH.toArray), (1, .agg CF.toArray)] (by simp [Act.eval, Act.put]) _ _ hbs18 ?_) | (refine wpList_appH rfl (.tmp 99) (.tmp 100) rfl w18_4.heap.size (.slice (some ⟨w18_4.heap.size, 0, none⟩) 2 2) vl L0 L rfl rfl HOW.out HR19.out HBND.out HZ19.out ?_; intro v20 w20 hown20 hgr20))
    have hB20 := HBel20.out w20 hgr20
    clear HBel20 HOW HR19 HZ19 hgr20 hbs18 rF rH HP8 HRows5 HB5 hneqF hneqH hneq0 hB18
    obtain ⟨L2, hL2⟩ : ∃ L2, Keep (L0 ++ L = L2) := ⟨_, ⟨rfl⟩⟩
    rw [hL2.out] at hown20
    have hn2 : L2.length ≤ 4398046511104 := by rw [← hL2.out, List.length_append]; exact HBND.out
    have hn0 : 0 < L2.length := by rw [← hL2.out, List.length_append, HL0.out]; omega
    have hr20 := HRow.of_owns hown20
    refine (sort_any v20 L2 w20 hr20 hn2).mono ?_
    rintro e w21 ⟨v21, S2, rfl, ho21, hp21, hm21, hl21, hb21⟩
    have hB21 := hB20.trans (hb21.mono hB20.size)
    have hr21 := hr20.below hb21
    have hrs := HRow.of_owns ho21
    go_wp2_with fail
    have hri := rising_any v21 S2 w21 hrs (by omega)
    rw [rises_of hp21] at hri
    refine hri.mono ?_
    rintro e w22 ⟨rfl, hb22⟩
    have hB22 := hB21.trans (hb22.mono hB21.size)
    have hrl := hr21.below hb22
    have hrs2 := hrs.below hb22
    obtain ⟨a20, c20, hv20⟩ := hrl.form
    obtain ⟨a21, c21, hv21⟩ := hrs2.form
    have HRL : Keep (∀ wx, Below w22.heap.size w22 wx → HRow wx v20 L2) := ⟨fun wx hx => hrl.below hx⟩
    have HRS : Keep (∀ wx, Below w22.heap.size w22 wx → HRow wx v21 S2) := ⟨fun wx hx => hrs2.below hx⟩
    have HM : Keep (∀ x, x ∈ S2 ↔ x ∈ L2) := ⟨hm21⟩
    obtain ⟨n2, hn2'⟩ : ∃ n2, Keep (L2.length = n2) := ⟨_, ⟨rfl⟩⟩
    obtain ⟨m2, hm2'⟩ : ∃ m2, Keep (S2.length = m2) := ⟨_, ⟨rfl⟩⟩
    rw [hn2'.out] at hv20 hn2 hn0 hl21
    rw [hm2'.out] at hv21 hl21
    have HV20 : Keep (v20 = .slice a20 n2 c20) := ⟨hv20⟩
    have HV21 : Keep (v21 = .slice a21 m2 c21) := ⟨hv21⟩
    rw [HV20.out] at HRL ⊢
    rw [HV21.out] at HRS ⊢
    clear hri hrs hr20 hr21 hrl hrs2 ho21 hown20 hp21 hm21 hb21 hb22 hB20 hB21 hv20 hv21 HBND hL2 hL0 HCH HCF
    have e1 : ¬ ((n2 : Int) < (m2 : Int)) := by omega
    have e2 : ¬ (n2 < m2) := by omega
    obtain ⟨b, o, hab, hnn, hcc, rL⟩ := (HRL.out w22 (Below.refl _ _)).at (by rw [hn2'.out]; exact hn0)
    subst hab
    have hblt := rangeAt_lt rL (by rw [hn2'.out]; exact hn0)
    have HrL : Keep (w22.rangeAt b o (flatH L2)) := ⟨rL⟩
    clear hnn hcc rL
    have HB22 : Keep (∀ wx, Below w22.heap.size w22 wx → Below w.heap.size w wx) := ⟨fun wx hx => hB22.trans (hx.mono hB22.size)⟩
    clear hB22 hszH hszH2 honeH hszF hszF2 honeF hiH hiF hne1 hne2 hne3 hgc5 hg5 hp8lt hs5
    go_wp2_with fail
    go_loopw [13] (fun i wr => ∃ t : Nat, t ≤ n2 ∧ i = .int .i64 (t : Int) ∧ Below w22.heap.size w22 wr) (fun i _ => n2 - (intOf i).toNat)
    case atStart => exact ⟨0, by omega, rfl, Below.refl _ _⟩
    case round =>
      obtain ⟨t, ht, rfl, hB⟩ := hrel
      by_cases hlt : t < n2
      · have l1 : t < L2.length := by rw [hn2'.out]; exact hlt
        have l0 : 0 < L2.length := by rw [hn2'.out]; exact hn0
        obtain ⟨x, hx⟩ : ∃ x, Keep (x = L2[t]) := ⟨_, ⟨rfl⟩⟩
        obtain ⟨z, hz⟩ : ∃ z, Keep (z = L2[0]) := ⟨_, ⟨rfl⟩⟩
        have HXS : Keep (x ∈ S2) := ⟨by rw [HM.out, hx.out]; exact List.getElem_mem l1⟩
        have HRG : Keep (∀ wx, Below w22.heap.size w22 wx → wx.rangeAt b (o + t * 32) (encH x) ∧ wx.rangeAt b o (encH z)) := ⟨fun wx hb => by
          have e1 := rangeAt_below (rangeAt_elem HrL.out t l1) hb hblt
          have e2 := rangeAt_below (rangeAt_elem HrL.out 0 l0) hb hblt
          rw [Nat.zero_mul, Nat.add_zero] at e2
          rw [hx.out, hz.out]; exact ⟨e1, e2⟩⟩
        have HPx : Keep (∀ w, Calls Try.prog 31 #[.agg (encH x).toArray] w fun e w' => e = .returned (.string (prS x.f)) ∧ Below w.heap.size w w') := ⟨fun w => by rw [encH_arr]; exact print_any x.f x.bnd w⟩
        have HPz : Keep (∀ w, Calls Try.prog 31 #[.agg (encH z).toArray] w fun e w' => e = .returned (.string (prS z.f)) ∧ Below w.heap.size w w') := ⟨fun w => by rw [encH_arr]; exact print_any z.f z.bnd w⟩
        have HPp : Keep (∀ w, Calls Try.prog 29 #[.string (prS x.f)] w fun e w' => e = .returned (.tuple #[.agg (encH x).toArray, .int .i64 0]) ∧ Below w.heap.size w w') := ⟨fun w => by
          have h := parse_all (prS x.f) w
          rw [pE_pr, pF_pr] at h; exact h⟩
        have HC1 : Keep (∀ w, Calls Try.prog 22 #[.agg (encH x).toArray, .agg (encH z).toArray] w fun e w' => e = .returned (.int .i64 (cf x z)) ∧ Below w.heap.size w w') := ⟨cmp_below compare_any _ _⟩
        have HC2 : Keep (∀ w, Calls Try.prog 22 #[.agg (encH z).toArray, .agg (encH x).toArray] w fun e w' => e = .returned (.int .i64 (cf z x)) ∧ Below w.heap.size w w') := ⟨cmp_below compare_any _ _⟩
        have HIx0 : Keep (∀ wx, Below w22.heap.size w22 wx → Calls Try.prog 35 #[.slice a21 m2 c21, .agg (encH x).toArray] wx fun e w' => ∃ r : Int, e = .returned (.int .i64 r) ∧ 0 ≤ r ∧ Below wx.heap.size wx w') := ⟨fun wx hb => index_any _ S2 x wx (HRS.out wx hb) (by rw [hm2'.out]; omega) HXS.out⟩
        have hless := less_pr x z
        have heqXZ := run_eqlL x z
        have hneXX : ∀ w, (binOp .neq 23 (.agg (encH x).toArray) (.agg (encH x).toArray)).run Try.prog w = .ok (.bool false) w := fun w => by rw [run_neqL]; simp
        obtain ⟨r, hr⟩ : ∃ r, Keep (r = cf x z) := ⟨_, ⟨rfl⟩⟩
        obtain ⟨rn, hrn⟩ : ∃ rn, Keep (rn = cf z x) := ⟨_, ⟨rfl⟩⟩
        obtain ⟨BB, hBB⟩ : ∃ BB, Keep (BB = decide (cf x z < 0)) := ⟨_, ⟨rfl⟩⟩
        obtain ⟨EE, hEE⟩ : ∃ EE, Keep (EE = decide (x = z)) := ⟨_, ⟨rfl⟩⟩
        have hb1 : decide (r < 0) = BB := by rw [hBB.out, hr.out]
        have he1 : decide (r = 0) = EE := by rw [hEE.out, hr.out]; exact decide_eq_decide.2 (cf_zero x z)
        have he2 : (r == 0) = EE := he1
        have hrb : -1 ≤ r ∧ r ≤ 1 := by rw [hr.out]; exact cf_rng x z
        have hrw : IntKind.i64.wrap (-rn) = r := by
          rw [hrn.out, cf_swap x z, ← hr.out, IntKind.wrap_i64]; omega
        rw [← hBB.out] at hless
        rw [← hEE.out] at heqXZ
        rw [← hr.out] at HC1
        rw [← hrn.out] at HC2
        have hszX : (Try.prog.info? 23).map (·.size) = some (encH x).toArray.size := by rw [List.size_toArray]; exact Try.size23L _
        have hiX : (Try.prog.info? 23).map (·.size) = some (encH x).length := Try.size23L _
        have hiZ : (Try.prog.info? 23).map (·.size) = some (encH z).length := Try.size23L _
        have hszX2 : (bytesA 32 fun _ => 0).size = (encH x).toArray.size := by rw [bytesA_size, List.size_toArray, encH_len]
        have honeX : (encH x).toArray.all (·.oneCell') = true := all_oneCell_toArray (encH_one _)
        generalize encH x = CX at *
        generalize encH z = CZ at *
        generalize prS x.f = SX at *
        generalize prS z.f = SZ at *
        clear l1 l0 hx hz hr hrn hBB hEE HXS hrb
        have f1 : (t : Int) < (n2 : Int) := by omega
        have f3 : ¬ (n2 = 0) := by omega
        have r0 := HRG.out wr hB
        go_wp2_with (refine wpList_load_mid rfl 23 (.tmp 122) rfl b (o + t * 32) rfl CX (.array 32 5) r0.1 hu rfl hiX ?_)
        refine (HPx.out wr).mono ?_
        rintro e w23 ⟨rfl, hb23⟩
        have hB23 := hB.trans (hb23.mono hB.size)
        have r1 := HRG.out w23 hB23
        clear r0
        go_wp2_with (refine wpList_load_mid rfl 23 (.tmp 126) rfl b o rfl CZ (.array 32 5) r1.2 hu rfl hiZ ?_)
        refine (HPz.out w23).mono ?_
        rintro e w24 ⟨rfl, hb24⟩
        have hB24 := hB23.trans (hb24.mono hB23.size)
        clear r1
        go_wp2_with fail
        refine (HPp.out w24).mono ?_
        rintro e w25 ⟨rfl, hb25⟩
        have hB25 := hB24.trans (hb25.mono hB24.size)
        have hN25 := Blk.new w25 23 (bytesA 32 fun _ => 0)
        go_wp2_with (refine wpList_new rfl 23 rfl _ Try.new23 ?_; refine wpList_store_row rfl 23 (.tmp 16) (.tmp 132) rfl w25.heap.size CX.toArray rfl rfl 23 (bytesA 32 fun _ => 0) hN25 hszX hszX2 honeX ?_; rw [World.setRow_alloc_new])
        have hP16 : Blk (w25.alloc (.cells CX.toArray 23)) w25.heap.size 23 CX.toArray := Blk.new _ _ _
        have hB26 : Below w22.heap.size w22 (w25.alloc (.cells CX.toArray 23)) := hB25.alloc hB25.size _
        clear hN25 hB23 hB24 hB25 hb23 hb24 hb25 hB
        generalize w25.alloc (.cells CX.toArray 23) = w26 at *
        obtain ⟨p16, hp16⟩ : ∃ p16, w25.heap.size = p16 := ⟨_, rfl⟩
        rw [hp16] at hP16 ⊢
        clear hp16
        have hE0 : Below w26.heap.size w26 w26.drew := (Below.refl _ _).drew
        have HS30 : Keep (∀ wx, Below w26.heap.size w26 wx → wx.rangeAt b (o + t * 32) CX ∧ wx.rangeAt b o CZ) := ⟨fun wx hx => HRG.out wx (hB26.trans (hx.mono hB26.size))⟩
        refine wp_region_held_drew (S := fun w' => w'.rangeAt b (o + t * 32) CX ∧ w'.rangeAt b o CZ) (by kernel_rfl) (HS30.out _ hE0) (fun hHeld => ?_)
        refine wpAnyH_take (i := 0) (oi := ⟨some 134, Op.move (Operand.tmp 2), 45, _, _, none⟩) (v := Value.slice (some ⟨b, o, none⟩) n2 c20) rfl (by kernel_rfl) (by kernel_rfl) (by kernel_rfl) (fun _ _ _ h => h) (Or.inl ⟨by rfl, fun w hS => by go_simp⟩) hHeld ?_
        simp only [Act.put, List.setIfInBounds_toArray, List.set_cons_zero, List.set_cons_succ]
        refine wpAnyH_take (i := 1) (oi := ⟨some 135, Op.move (Operand.tmp 13), 3, _, _, none⟩) (v := .int .i64 (t : Int)) rfl (by kernel_rfl) (by kernel_rfl) (by kernel_rfl) (fun _ _ _ h => h) (Or.inl ⟨by rfl, fun w hS => by go_simp⟩) hHeld ?_
        simp only [Act.put, List.setIfInBounds_toArray, List.set_cons_zero, List.set_cons_succ]
        refine wpAnyH_take (i := 2) (oi := ⟨some 136, Op.indexAddr 45 (Operand.tmp 134) (Operand.tmp 135), 0, _, _, none⟩) (v := .pointer (some ⟨b, o + t * 32, none⟩)) rfl (by kernel_rfl) (by kernel_rfl) (by kernel_rfl) (fun _ _ _ h => h) (Or.inl ⟨by rfl, fun w hS => by go_simp⟩) hHeld ?_
        simp only [Act.put, List.setIfInBounds_toArray, List.set_cons_zero, List.set_cons_succ]
        refine wpAnyH_take (i := 3) (oi := ⟨some 137, Op.load 23 (Operand.tmp 136), 23, _, _, none⟩) (v := .agg (CX).toArray) rfl (by kernel_rfl) (by kernel_rfl) (by kernel_rfl) (fun _ _ _ h => h) (yieldsIf_load_mid (by rfl) 23 (Operand.tmp 136) rfl b (o + t * 32) rfl CX _ (fun w hS => hS.1) hu rfl hiX) hHeld ?_
        simp only [Act.put, List.setIfInBounds_toArray, List.set_cons_zero, List.set_cons_succ]
        refine wpAnyH_take (i := 4) (oi := ⟨some 138, Op.move (Operand.tmp 2), 45, _, _, none⟩) (v := Value.slice (some ⟨b, o, none⟩) n2 c20) rfl (by kernel_rfl) (by kernel_rfl) (by kernel_rfl) (fun _ _ _ h => h) (Or.inl ⟨by rfl, fun w hS => by go_simp⟩) hHeld ?_
        simp only [Act.put, List.setIfInBounds_toArray, List.set_cons_zero, List.set_cons_succ]
        refine wpAnyH_take (i := 5) (oi := ⟨some 139, Op.indexAddr 45 (Operand.tmp 138) (Operand.const (Value.int IntKind.i64 0)), 0, _, _, none⟩) (v := .pointer (some ⟨b, o, none⟩)) rfl (by kernel_rfl) (by kernel_rfl) (by kernel_rfl) (fun _ _ _ h => h) (Or.inl ⟨by rfl, fun w hS => by go_simp⟩) hHeld ?_
        simp only [Act.put, List.setIfInBounds_toArray, List.set_cons_zero, List.set_cons_succ]
        refine wpAnyH_take (i := 6) (oi := ⟨some 140, Op.load 23 (Operand.tmp 139), 23, _, _, none⟩) (v := .agg (CZ).toArray) rfl (by kernel_rfl) (by kernel_rfl) (by kernel_rfl) (fun _ _ _ h => h) (yieldsIf_load_mid (by rfl) 23 (Operand.tmp 139) rfl b o rfl CZ _ (fun w hS => hS.2) hu rfl hiZ) hHeld ?_
        simp only [Act.put, List.setIfInBounds_toArray, List.set_cons_zero, List.set_cons_succ]
        refine wpAnyH_ready (rs := [7]) (by kernel_rfl) (by simp) ?_
        refine AllReadyH.cons (o := ⟨some 141, Op.call { callee := Callee.value (Operand.func 22), args := #[Operand.tmp 137, Operand.tmp 140], argTypes := #[23, 23] }, 3, _, _, none⟩) rfl (fun K hK => ?_) AllReadyH.nil
        rw [if_pos (by rfl)]
        refine wp_callF 22 #[.tmp 137, .tmp 140] #[23, 23] rfl Try.enter22 #[.agg CX.toArray, .agg CZ.toArray] (by simp [Act.eval]) (fun v w' => v = .int .i64 r ∧ Below w26.drew.heap.size w26.drew w') ((HC1.out w26.drew).mono fun e w' h => ⟨_, h.1, rfl, h.2⟩) ?_
        rintro v w30_1 ⟨rfl, hb30_1⟩
        have hB30_1 := hE0.trans (hb30_1.mono hE0.size)
        refine hK.out _ _ (HS30.out _ hB30_1) fun hHeld30_1 => ?_
        clear hK
        simp only [Act.put, List.setIfInBounds_toArray, List.set_cons_zero, List.set_cons_succ]
        refine wpAnyH_take (i := 8) (oi := ⟨some 18, Op.assign (Operand.tmp 141), 3, _, _, none⟩) (v := .int .i64 r) rfl (by kernel_rfl) (by kernel_rfl) (by kernel_rfl) (fun _ _ _ h => h) (Or.inl ⟨by rfl, fun w hS => by go_simp⟩) hHeld30_1 ?_
        simp only [Act.put, List.setIfInBounds_toArray, List.set_cons_zero, List.set_cons_succ]
        refine wpAnyH_done (by kernel_rfl) ?_ _
        go_wp2_with fail
        obtain ⟨w27, hw27⟩ : ∃ w27, Keep (w30_1 = w27) := ⟨_, ⟨rfl⟩⟩
        rw [hw27.out] at hB30_1 ⊢
        have hB27 := hB26.trans (hB30_1.mono hB26.size)
        have HP16 : Keep (Blk w27 p16 23 CX.toArray) := ⟨hP16.below hB30_1 hP16.lt⟩
        have HS31 : Keep (∀ wx, Below w27.heap.size w27 wx → wx.rangeAt b (o + t * 32) CX ∧ wx.rangeAt b o CZ ∧ wx.rangeAt p16 0 CX) := ⟨fun wx hx => by
          have h1 := HRG.out wx (hB27.trans (hx.mono hB27.size))
          exact ⟨h1.1, h1.2, blk_rangeL (HP16.out.below hx HP16.out.lt)⟩⟩
        have HIx : Keep (∀ wx, Below w27.heap.size w27 wx → Calls Try.prog 35 #[.slice a21 m2 c21, .agg CX.toArray] wx fun e w' => ∃ r : Int, e = .returned (.int .i64 r) ∧ 0 ≤ r ∧ Below wx.heap.size wx w') := ⟨fun wx hx => HIx0.out wx (hB27.trans (hx.mono hB27.size))⟩
        have hE1 : Below w27.heap.size w27 w27.drew := (Below.refl _ _).drew
        clear HS30 hE0 hB26 hP16 HIx0
        refine wp_region_held_drew (S := fun w' => w'.rangeAt b (o + t * 32) CX ∧ w'.rangeAt b o CZ ∧ w'.rangeAt p16 0 CX) (by kernel_rfl) (HS31.out _ hE1) (fun hHeld => ?_)
        refine wpAnyH_take (i := 0) (oi := ⟨some 142, Op.move (Operand.tmp 17), 50, _, _, none⟩) (v := .int .i64 0) rfl (by kernel_rfl) (by kernel_rfl) (by kernel_rfl) (fun _ _ _ h => h) (Or.inl ⟨by rfl, fun w hS => by go_simp⟩) hHeld ?_
        simp only [Act.put, List.setIfInBounds_toArray, List.set_cons_zero, List.set_cons_succ]
        refine wpAnyH_take (i := 1) (oi := ⟨some 143, Op.binOp BinOp.neq 50 (Operand.tmp 142) (Operand.const (Value.int IntKind.i64 0)) 50, 4, _, _, none⟩) (v := .bool false) rfl (by kernel_rfl) (by kernel_rfl) (by kernel_rfl) (fun _ _ _ h => h) (Or.inl ⟨by rfl, fun w hS => by go_simp⟩) hHeld ?_
        simp only [Act.put, List.setIfInBounds_toArray, List.set_cons_zero, List.set_cons_succ]
        refine wpAnyH_take (i := 2) (oi := ⟨some 144, Op.move (Operand.tmp 143), 4, _, _, none⟩) (v := .bool false) rfl (by kernel_rfl) (by kernel_rfl) (by kernel_rfl) (fun _ _ _ h => h) (Or.inl ⟨by rfl, fun w hS => by go_simp⟩) hHeld ?_
        simp only [Act.put, List.setIfInBounds_toArray, List.set_cons_zero, List.set_cons_succ]
        refine wpAnyH_take (i := 3) (oi := ⟨some 145, Op.load 23 (Operand.tmp 16), 23, _, _, some (2, false)⟩) (v := .agg (CX).toArray) rfl (by kernel_rfl) (by kernel_rfl) (by kernel_rfl) (fun _ _ _ h => h) (yieldsIf_load_mid (by rfl) 23 (Operand.tmp 16) rfl p16 0 rfl CX _ (fun w hS => hS.2.2) hu rfl hiX) hHeld ?_
        simp only [Act.put, List.setIfInBounds_toArray, List.set_cons_zero, List.set_cons_succ]
        refine wpAnyH_take (i := 4) (oi := ⟨some 146, Op.move (Operand.tmp 2), 45, _, _, some (2, false)⟩) (v := Value.slice (some ⟨b, o, none⟩) n2 c20) rfl (by kernel_rfl) (by kernel_rfl) (by kernel_rfl) (fun _ _ _ h => h) (Or.inl ⟨by rfl, fun w hS => by go_simp⟩) hHeld ?_
        simp only [Act.put, List.setIfInBounds_toArray, List.set_cons_zero, List.set_cons_succ]
        refine wpAnyH_take (i := 5) (oi := ⟨some 147, Op.move (Operand.tmp 13), 3, _, _, some (2, false)⟩) (v := .int .i64 (t : Int)) rfl (by kernel_rfl) (by kernel_rfl) (by kernel_rfl) (fun _ _ _ h => h) (Or.inl ⟨by rfl, fun w hS => by go_simp⟩) hHeld ?_
        simp only [Act.put, List.setIfInBounds_toArray, List.set_cons_zero, List.set_cons_succ]
        refine wpAnyH_take (i := 6) (oi := ⟨some 148, Op.indexAddr 45 (Operand.tmp 146) (Operand.tmp 147), 0, _, _, some (2, false)⟩) (v := .pointer (some ⟨b, o + t * 32, none⟩)) rfl (by kernel_rfl) (by kernel_rfl) (by kernel_rfl) (fun _ _ _ h => h) (Or.inl ⟨by rfl, fun w hS => by go_simp⟩) hHeld ?_
        simp only [Act.put, List.setIfInBounds_toArray, List.set_cons_zero, List.set_cons_succ]
        refine wpAnyH_take (i := 7) (oi := ⟨some 149, Op.load 23 (Operand.tmp 148), 23, _, _, some (2, false)⟩) (v := .agg (CX).toArray) rfl (by kernel_rfl) (by kernel_rfl) (by kernel_rfl) (fun _ _ _ h => h) (yieldsIf_load_mid (by rfl) 23 (Operand.tmp 148) rfl b (o + t * 32) rfl CX _ (fun w hS => hS.1) hu rfl hiX) hHeld ?_
        simp only [Act.put, List.setIfInBounds_toArray, List.set_cons_zero, List.set_cons_succ]
        refine wpAnyH_take (i := 8) (oi := ⟨some 150, Op.binOp BinOp.neq 23 (Operand.tmp 145) (Operand.tmp 149) 23, 4, _, _, some (2, false)⟩) (v := .bool false) rfl (by kernel_rfl) (by kernel_rfl) (by kernel_rfl) (fun _ _ _ h => h) (Or.inl ⟨by rfl, fun w hS => by go_simp⟩) hHeld ?_
        simp only [Act.put, List.setIfInBounds_toArray, List.set_cons_zero, List.set_cons_succ]
        refine wpAnyH_take (i := 9) (oi := ⟨some 151, Op.pick (Operand.tmp 144) (Operand.const (Value.bool true)) (Operand.tmp 150), 4, _, _, none⟩) (v := .bool false) rfl (by kernel_rfl) (by kernel_rfl) (by kernel_rfl) (fun _ _ _ h => h) (Or.inl ⟨by rfl, fun w hS => by go_simp⟩) hHeld ?_
        simp only [Act.put, List.setIfInBounds_toArray, List.set_cons_zero, List.set_cons_succ]
        refine wpAnyH_take (i := 10) (oi := ⟨some 152, Op.move (Operand.tmp 151), 4, _, _, none⟩) (v := .bool false) rfl (by kernel_rfl) (by kernel_rfl) (by kernel_rfl) (fun _ _ _ h => h) (Or.inl ⟨by rfl, fun w hS => by go_simp⟩) hHeld ?_
        simp only [Act.put, List.setIfInBounds_toArray, List.set_cons_zero, List.set_cons_succ]
        refine wpAnyH_take (i := 11) (oi := ⟨some 153, Op.move (Operand.tmp 18), 3, _, _, some (10, false)⟩) (v := .int .i64 r) rfl (by kernel_rfl) (by kernel_rfl) (by kernel_rfl) (fun _ _ _ h => h) (Or.inl ⟨by rfl, fun w hS => by go_simp⟩) hHeld ?_
        simp only [Act.put, List.setIfInBounds_toArray, List.set_cons_zero, List.set_cons_succ]
        refine wpAnyH_take (i := 12) (oi := ⟨some 154, Op.move (Operand.tmp 2), 45, _, _, some (10, false)⟩) (v := Value.slice (some ⟨b, o, none⟩) n2 c20) rfl (by kernel_rfl) (by kernel_rfl) (by kernel_rfl) (fun _ _ _ h => h) (Or.inl ⟨by rfl, fun w hS => by go_simp⟩) hHeld ?_
        simp only [Act.put, List.setIfInBounds_toArray, List.set_cons_zero, List.set_cons_succ]
        refine wpAnyH_take (i := 13) (oi := ⟨some 155, Op.indexAddr 45 (Operand.tmp 154) (Operand.const (Value.int IntKind.i64 0)), 0, _, _, some (10, false)⟩) (v := .pointer (some ⟨b, o, none⟩)) rfl (by kernel_rfl) (by kernel_rfl) (by kernel_rfl) (fun _ _ _ h => h) (Or.inl ⟨by rfl, fun w hS => by go_simp⟩) hHeld ?_
        simp only [Act.put, List.setIfInBounds_toArray, List.set_cons_zero, List.set_cons_succ]
        refine wpAnyH_take (i := 14) (oi := ⟨some 156, Op.load 23 (Operand.tmp 155), 23, _, _, some (10, false)⟩) (v := .agg (CZ).toArray) rfl (by kernel_rfl) (by kernel_rfl) (by kernel_rfl) (fun _ _ _ h => h) (yieldsIf_load_mid (by rfl) 23 (Operand.tmp 155) rfl b o rfl CZ _ (fun w hS => hS.2.1) hu rfl hiZ) hHeld ?_
        simp only [Act.put, List.setIfInBounds_toArray, List.set_cons_zero, List.set_cons_succ]
        refine wpAnyH_take (i := 15) (oi := ⟨some 157, Op.move (Operand.tmp 2), 45, _, _, some (10, false)⟩) (v := Value.slice (some ⟨b, o, none⟩) n2 c20) rfl (by kernel_rfl) (by kernel_rfl) (by kernel_rfl) (fun _ _ _ h => h) (Or.inl ⟨by rfl, fun w hS => by go_simp⟩) hHeld ?_
        simp only [Act.put, List.setIfInBounds_toArray, List.set_cons_zero, List.set_cons_succ]
        refine wpAnyH_take (i := 16) (oi := ⟨some 158, Op.move (Operand.tmp 13), 3, _, _, some (10, false)⟩) (v := .int .i64 (t : Int)) rfl (by kernel_rfl) (by kernel_rfl) (by kernel_rfl) (fun _ _ _ h => h) (Or.inl ⟨by rfl, fun w hS => by go_simp⟩) hHeld ?_
        simp only [Act.put, List.setIfInBounds_toArray, List.set_cons_zero, List.set_cons_succ]
        refine wpAnyH_take (i := 17) (oi := ⟨some 159, Op.indexAddr 45 (Operand.tmp 157) (Operand.tmp 158), 0, _, _, some (10, false)⟩) (v := .pointer (some ⟨b, o + t * 32, none⟩)) rfl (by kernel_rfl) (by kernel_rfl) (by kernel_rfl) (fun _ _ _ h => h) (Or.inl ⟨by rfl, fun w hS => by go_simp⟩) hHeld ?_
        simp only [Act.put, List.setIfInBounds_toArray, List.set_cons_zero, List.set_cons_succ]
        refine wpAnyH_take (i := 18) (oi := ⟨some 160, Op.load 23 (Operand.tmp 159), 23, _, _, some (10, false)⟩) (v := .agg (CX).toArray) rfl (by kernel_rfl) (by kernel_rfl) (by kernel_rfl) (fun _ _ _ h => h) (yieldsIf_load_mid (by rfl) 23 (Operand.tmp 159) rfl b (o + t * 32) rfl CX _ (fun w hS => hS.1) hu rfl hiX) hHeld ?_
        simp only [Act.put, List.setIfInBounds_toArray, List.set_cons_zero, List.set_cons_succ]
        refine wpAnyH_ready (rs := [19]) (by kernel_rfl) (by simp) ?_
        refine AllReadyH.cons (o := ⟨some 161, Op.call { callee := Callee.value (Operand.func 22), args := #[Operand.tmp 156, Operand.tmp 160], argTypes := #[23, 23] }, 3, _, _, some (10, false)⟩) rfl (fun K hK => ?_) AllReadyH.nil
        rw [if_pos (by rfl)]
        refine wp_callF 22 #[.tmp 156, .tmp 160] #[23, 23] rfl Try.enter22 #[.agg CZ.toArray, .agg CX.toArray] (by simp [Act.eval]) (fun v w' => v = .int .i64 rn ∧ Below w27.drew.heap.size w27.drew w') ((HC2.out w27.drew).mono fun e w' h => ⟨_, h.1, rfl, h.2⟩) ?_
        rintro v w28 ⟨rfl, hb28⟩
        have hB28 := hE1.trans (hb28.mono hE1.size)
        refine hK.out _ _ (HS31.out _ hB28) fun hHeld28 => ?_
        clear hK
        simp only [Act.put, List.setIfInBounds_toArray, List.set_cons_zero, List.set_cons_succ]
        refine wpAnyH_take (i := 20) (oi := ⟨some 162, Op.unOp UnOp.neg 3 (Operand.tmp 161), 3, _, _, some (10, false)⟩) (v := .int .i64 r) rfl (by kernel_rfl) (by kernel_rfl) (by kernel_rfl) (fun _ _ _ h => h) (Or.inl ⟨by rfl, fun w hS => by go_simp⟩) hHeld28 ?_
        simp only [Act.put, List.setIfInBounds_toArray, List.set_cons_zero, List.set_cons_succ]
        refine wpAnyH_take (i := 21) (oi := ⟨some 163, Op.binOp BinOp.neq 3 (Operand.tmp 153) (Operand.tmp 162) 3, 4, _, _, some (10, false)⟩) (v := .bool false) rfl (by kernel_rfl) (by kernel_rfl) (by kernel_rfl) (fun _ _ _ h => h) (Or.inl ⟨by rfl, fun w hS => by go_simp⟩) hHeld28 ?_
        simp only [Act.put, List.setIfInBounds_toArray, List.set_cons_zero, List.set_cons_succ]
        refine wpAnyH_take (i := 22) (oi := ⟨some 164, Op.pick (Operand.tmp 152) (Operand.const (Value.bool true)) (Operand.tmp 163), 4, _, _, none⟩) (v := .bool false) rfl (by kernel_rfl) (by kernel_rfl) (by kernel_rfl) (fun _ _ _ h => h) (Or.inl ⟨by rfl, fun w hS => by go_simp⟩) hHeld28 ?_
        simp only [Act.put, List.setIfInBounds_toArray, List.set_cons_zero, List.set_cons_succ]
        refine wpAnyH_take (i := 23) (oi := ⟨some 165, Op.move (Operand.tmp 164), 4, _, _, none⟩) (v := .bool false) rfl (by kernel_rfl) (by kernel_rfl) (by kernel_rfl) (fun _ _ _ h => h) (Or.inl ⟨by rfl, fun w hS => by go_simp⟩) hHeld28 ?_
        simp only [Act.put, List.setIfInBounds_toArray, List.set_cons_zero, List.set_cons_succ]
        refine wpAnyH_take (i := 24) (oi := ⟨some 166, Op.move (Operand.tmp 18), 3, _, _, some (23, false)⟩) (v := .int .i64 r) rfl (by kernel_rfl) (by kernel_rfl) (by kernel_rfl) (fun _ _ _ h => h) (Or.inl ⟨by rfl, fun w hS => by go_simp⟩) hHeld28 ?_
        simp only [Act.put, List.setIfInBounds_toArray, List.set_cons_zero, List.set_cons_succ]
        refine wpAnyH_take (i := 25) (oi := ⟨some 167, Op.binOp BinOp.lss 3 (Operand.tmp 166) (Operand.const (Value.int IntKind.i64 0)) 3, 4, _, _, some (23, false)⟩) (v := .bool BB) rfl (by kernel_rfl) (by kernel_rfl) (by kernel_rfl) (fun _ _ _ h => h) (Or.inl ⟨by rfl, fun w hS => by go_simp⟩) hHeld28 ?_
        simp only [Act.put, List.setIfInBounds_toArray, List.set_cons_zero, List.set_cons_succ]
        refine wpAnyH_take (i := 26) (oi := ⟨some 168, Op.move (Operand.tmp 14), 9, _, _, some (23, false)⟩) (v := .string SX) rfl (by kernel_rfl) (by kernel_rfl) (by kernel_rfl) (fun _ _ _ h => h) (Or.inl ⟨by rfl, fun w hS => by go_simp⟩) hHeld28 ?_
        simp only [Act.put, List.setIfInBounds_toArray, List.set_cons_zero, List.set_cons_succ]
        refine wpAnyH_take (i := 27) (oi := ⟨some 169, Op.move (Operand.tmp 15), 9, _, _, some (23, false)⟩) (v := .string SZ) rfl (by kernel_rfl) (by kernel_rfl) (by kernel_rfl) (fun _ _ _ h => h) (Or.inl ⟨by rfl, fun w hS => by go_simp⟩) hHeld28 ?_
        simp only [Act.put, List.setIfInBounds_toArray, List.set_cons_zero, List.set_cons_succ]
        refine wpAnyH_take (i := 28) (oi := ⟨some 170, Op.binOp BinOp.lss 9 (Operand.tmp 168) (Operand.tmp 169) 9, 4, _, _, some (23, false)⟩) (v := .bool BB) rfl (by kernel_rfl) (by kernel_rfl) (by kernel_rfl) (fun _ _ _ h => h) (Or.inl ⟨by rfl, fun w hS => by go_simp⟩) hHeld28 ?_
        simp only [Act.put, List.setIfInBounds_toArray, List.set_cons_zero, List.set_cons_succ]
        refine wpAnyH_take (i := 29) (oi := ⟨some 171, Op.binOp BinOp.neq 4 (Operand.tmp 167) (Operand.tmp 170) 4, 4, _, _, some (23, false)⟩) (v := .bool false) rfl (by kernel_rfl) (by kernel_rfl) (by kernel_rfl) (fun _ _ _ h => h) (Or.inl ⟨by rfl, fun w hS => by go_simp⟩) hHeld28 ?_
        simp only [Act.put, List.setIfInBounds_toArray, List.set_cons_zero, List.set_cons_succ]
        refine wpAnyH_take (i := 30) (oi := ⟨some 172, Op.pick (Operand.tmp 165) (Operand.const (Value.bool true)) (Operand.tmp 171), 4, _, _, none⟩) (v := .bool false) rfl (by kernel_rfl) (by kernel_rfl) (by kernel_rfl) (fun _ _ _ h => h) (Or.inl ⟨by rfl, fun w hS => by go_simp⟩) hHeld28 ?_
        simp only [Act.put, List.setIfInBounds_toArray, List.set_cons_zero, List.set_cons_succ]
        refine wpAnyH_take (i := 31) (oi := ⟨some 173, Op.move (Operand.tmp 172), 4, _, _, none⟩) (v := .bool false) rfl (by kernel_rfl) (by kernel_rfl) (by kernel_rfl) (fun _ _ _ h => h) (Or.inl ⟨by rfl, fun w hS => by go_simp⟩) hHeld28 ?_
        simp only [Act.put, List.setIfInBounds_toArray, List.set_cons_zero, List.set_cons_succ]
        refine wpAnyH_take (i := 32) (oi := ⟨some 174, Op.move (Operand.tmp 18), 3, _, _, some (31, false)⟩) (v := .int .i64 r) rfl (by kernel_rfl) (by kernel_rfl) (by kernel_rfl) (fun _ _ _ h => h) (Or.inl ⟨by rfl, fun w hS => by go_simp⟩) hHeld28 ?_
        simp only [Act.put, List.setIfInBounds_toArray, List.set_cons_zero, List.set_cons_succ]
        refine wpAnyH_take (i := 33) (oi := ⟨some 175, Op.binOp BinOp.eql 3 (Operand.tmp 174) (Operand.const (Value.int IntKind.i64 0)) 3, 4, _, _, some (31, false)⟩) (v := .bool EE) rfl (by kernel_rfl) (by kernel_rfl) (by kernel_rfl) (fun _ _ _ h => h) (Or.inl ⟨by rfl, fun w hS => by go_simp⟩) hHeld28 ?_
        simp only [Act.put, List.setIfInBounds_toArray, List.set_cons_zero, List.set_cons_succ]
        refine wpAnyH_take (i := 34) (oi := ⟨some 176, Op.move (Operand.tmp 2), 45, _, _, some (31, false)⟩) (v := Value.slice (some ⟨b, o, none⟩) n2 c20) rfl (by kernel_rfl) (by kernel_rfl) (by kernel_rfl) (fun _ _ _ h => h) (Or.inl ⟨by rfl, fun w hS => by go_simp⟩) hHeld28 ?_
        simp only [Act.put, List.setIfInBounds_toArray, List.set_cons_zero, List.set_cons_succ]
        refine wpAnyH_take (i := 35) (oi := ⟨some 177, Op.move (Operand.tmp 13), 3, _, _, some (31, false)⟩) (v := .int .i64 (t : Int)) rfl (by kernel_rfl) (by kernel_rfl) (by kernel_rfl) (fun _ _ _ h => h) (Or.inl ⟨by rfl, fun w hS => by go_simp⟩) hHeld28 ?_
        simp only [Act.put, List.setIfInBounds_toArray, List.set_cons_zero, List.set_cons_succ]
        refine wpAnyH_take (i := 36) (oi := ⟨some 178, Op.indexAddr 45 (Operand.tmp 176) (Operand.tmp 177), 0, _, _, some (31, false)⟩) (v := .pointer (some ⟨b, o + t * 32, none⟩)) rfl (by kernel_rfl) (by kernel_rfl) (by kernel_rfl) (fun _ _ _ h => h) (Or.inl ⟨by rfl, fun w hS => by go_simp⟩) hHeld28 ?_
        simp only [Act.put, List.setIfInBounds_toArray, List.set_cons_zero, List.set_cons_succ]
        refine wpAnyH_take (i := 37) (oi := ⟨some 179, Op.load 23 (Operand.tmp 178), 23, _, _, some (31, false)⟩) (v := .agg (CX).toArray) rfl (by kernel_rfl) (by kernel_rfl) (by kernel_rfl) (fun _ _ _ h => h) (yieldsIf_load_mid (by rfl) 23 (Operand.tmp 178) rfl b (o + t * 32) rfl CX _ (fun w hS => hS.1) hu rfl hiX) hHeld28 ?_
        simp only [Act.put, List.setIfInBounds_toArray, List.set_cons_zero, List.set_cons_succ]
        refine wpAnyH_take (i := 38) (oi := ⟨some 180, Op.move (Operand.tmp 2), 45, _, _, some (31, false)⟩) (v := Value.slice (some ⟨b, o, none⟩) n2 c20) rfl (by kernel_rfl) (by kernel_rfl) (by kernel_rfl) (fun _ _ _ h => h) (Or.inl ⟨by rfl, fun w hS => by go_simp⟩) hHeld28 ?_
        simp only [Act.put, List.setIfInBounds_toArray, List.set_cons_zero, List.set_cons_succ]
        refine wpAnyH_take (i := 39) (oi := ⟨some 181, Op.indexAddr 45 (Operand.tmp 180) (Operand.const (Value.int IntKind.i64 0)), 0, _, _, some (31, false)⟩) (v := .pointer (some ⟨b, o, none⟩)) rfl (by kernel_rfl) (by kernel_rfl) (by kernel_rfl) (fun _ _ _ h => h) (Or.inl ⟨by rfl, fun w hS => by go_simp⟩) hHeld28 ?_
        simp only [Act.put, List.setIfInBounds_toArray, List.set_cons_zero, List.set_cons_succ]
        refine wpAnyH_take (i := 40) (oi := ⟨some 182, Op.load 23 (Operand.tmp 181), 23, _, _, some (31, false)⟩) (v := .agg (CZ).toArray) rfl (by kernel_rfl) (by kernel_rfl) (by kernel_rfl) (fun _ _ _ h => h) (yieldsIf_load_mid (by rfl) 23 (Operand.tmp 181) rfl b o rfl CZ _ (fun w hS => hS.2.1) hu rfl hiZ) hHeld28 ?_
        simp only [Act.put, List.setIfInBounds_toArray, List.set_cons_zero, List.set_cons_succ]
        refine wpAnyH_take (i := 41) (oi := ⟨some 183, Op.binOp BinOp.eql 23 (Operand.tmp 179) (Operand.tmp 182) 23, 4, _, _, some (31, false)⟩) (v := .bool EE) rfl (by kernel_rfl) (by kernel_rfl) (by kernel_rfl) (fun _ _ _ h => h) (Or.inl ⟨by rfl, fun w hS => by go_simp⟩) hHeld28 ?_
        simp only [Act.put, List.setIfInBounds_toArray, List.set_cons_zero, List.set_cons_succ]
        refine wpAnyH_take (i := 42) (oi := ⟨some 184, Op.binOp BinOp.neq 4 (Operand.tmp 175) (Operand.tmp 183) 4, 4, _, _, some (31, false)⟩) (v := .bool false) rfl (by kernel_rfl) (by kernel_rfl) (by kernel_rfl) (fun _ _ _ h => h) (Or.inl ⟨by rfl, fun w hS => by go_simp⟩) hHeld28 ?_
        simp only [Act.put, List.setIfInBounds_toArray, List.set_cons_zero, List.set_cons_succ]
        refine wpAnyH_take (i := 43) (oi := ⟨some 185, Op.pick (Operand.tmp 173) (Operand.const (Value.bool true)) (Operand.tmp 184), 4, _, _, none⟩) (v := .bool false) rfl (by kernel_rfl) (by kernel_rfl) (by kernel_rfl) (fun _ _ _ h => h) (Or.inl ⟨by rfl, fun w hS => by go_simp⟩) hHeld28 ?_
        simp only [Act.put, List.setIfInBounds_toArray, List.set_cons_zero, List.set_cons_succ]
        refine wpAnyH_take (i := 44) (oi := ⟨some 186, Op.move (Operand.tmp 185), 4, _, _, none⟩) (v := .bool false) rfl (by kernel_rfl) (by kernel_rfl) (by kernel_rfl) (fun _ _ _ h => h) (Or.inl ⟨by rfl, fun w hS => by go_simp⟩) hHeld28 ?_
        simp only [Act.put, List.setIfInBounds_toArray, List.set_cons_zero, List.set_cons_succ]
        refine wpAnyH_take (i := 45) (oi := ⟨some 187, Op.move (Operand.tmp 12), 45, _, _, some (44, false)⟩) (v := Value.slice a21 m2 c21) rfl (by kernel_rfl) (by kernel_rfl) (by kernel_rfl) (fun _ _ _ h => h) (Or.inl ⟨by rfl, fun w hS => by go_simp⟩) hHeld28 ?_
        simp only [Act.put, List.setIfInBounds_toArray, List.set_cons_zero, List.set_cons_succ]
        refine wpAnyH_take (i := 46) (oi := ⟨some 188, Op.move (Operand.tmp 2), 45, _, _, some (44, false)⟩) (v := Value.slice (some ⟨b, o, none⟩) n2 c20) rfl (by kernel_rfl) (by kernel_rfl) (by kernel_rfl) (fun _ _ _ h => h) (Or.inl ⟨by rfl, fun w hS => by go_simp⟩) hHeld28 ?_
        simp only [Act.put, List.setIfInBounds_toArray, List.set_cons_zero, List.set_cons_succ]
        refine wpAnyH_take (i := 47) (oi := ⟨some 189, Op.move (Operand.tmp 13), 3, _, _, some (44, false)⟩) (v := .int .i64 (t : Int)) rfl (by kernel_rfl) (by kernel_rfl) (by kernel_rfl) (fun _ _ _ h => h) (Or.inl ⟨by rfl, fun w hS => by go_simp⟩) hHeld28 ?_
        simp only [Act.put, List.setIfInBounds_toArray, List.set_cons_zero, List.set_cons_succ]
        refine wpAnyH_take (i := 48) (oi := ⟨some 190, Op.indexAddr 45 (Operand.tmp 188) (Operand.tmp 189), 0, _, _, some (44, false)⟩) (v := .pointer (some ⟨b, o + t * 32, none⟩)) rfl (by kernel_rfl) (by kernel_rfl) (by kernel_rfl) (fun _ _ _ h => h) (Or.inl ⟨by rfl, fun w hS => by go_simp⟩) hHeld28 ?_
        simp only [Act.put, List.setIfInBounds_toArray, List.set_cons_zero, List.set_cons_succ]
        refine wpAnyH_take (i := 49) (oi := ⟨some 191, Op.load 23 (Operand.tmp 190), 23, _, _, some (44, false)⟩) (v := .agg (CX).toArray) rfl (by kernel_rfl) (by kernel_rfl) (by kernel_rfl) (fun _ _ _ h => h) (yieldsIf_load_mid (by rfl) 23 (Operand.tmp 190) rfl b (o + t * 32) rfl CX _ (fun w hS => hS.1) hu rfl hiX) hHeld28 ?_
        simp only [Act.put, List.setIfInBounds_toArray, List.set_cons_zero, List.set_cons_succ]
        refine wpAnyH_ready (rs := [50]) (by kernel_rfl) (by simp) ?_
        refine AllReadyH.cons (o := ⟨some 192, Op.call { callee := Callee.value (Operand.func 35), args := #[Operand.tmp 187, Operand.tmp 191], argTypes := #[45, 23] }, 3, _, _, some (44, false)⟩) rfl (fun K hK => ?_) AllReadyH.nil
        rw [if_pos (by rfl)]
        refine wp_callF 35 #[.tmp 187, .tmp 191] #[45, 23] rfl Try.enter35 #[.slice a21 m2 c21, .agg CX.toArray] (by simp [Act.eval]) (fun v w' => ∃ r2 : Int, v = .int .i64 r2 ∧ 0 ≤ r2 ∧ Below w28.heap.size w28 w') ((HIx.out w28 hB28).mono fun e w' ⟨r2, h1, h2, h3⟩ => ⟨_, h1, r2, rfl, h2, h3⟩) ?_
        rintro v w29 ⟨r2, rfl, hr2, hb29⟩
        have hB29 := hB28.trans (hb29.mono hB28.size)
        refine hK.out _ _ (HS31.out _ hB29) fun hHeld29 => ?_
        clear hK
        simp only [Act.put, List.setIfInBounds_toArray, List.set_cons_zero, List.set_cons_succ]
        have hr2n : ¬ (r2 < 0) := by omega
        refine wpAnyH_take (i := 51) (oi := ⟨some 193, Op.binOp BinOp.lss 3 (Operand.tmp 192) (Operand.const (Value.int IntKind.i64 0)) 3, 4, _, _, some (44, false)⟩) (v := .bool false) rfl (by kernel_rfl) (by kernel_rfl) (by kernel_rfl) (fun _ _ _ h => h) (Or.inl ⟨by rfl, fun w hS => by go_simp⟩) hHeld29 ?_
        simp only [Act.put, List.setIfInBounds_toArray, List.set_cons_zero, List.set_cons_succ]
        refine wpAnyH_take (i := 52) (oi := ⟨some 194, Op.pick (Operand.tmp 186) (Operand.const (Value.bool true)) (Operand.tmp 193), 4, _, _, none⟩) (v := .bool false) rfl (by kernel_rfl) (by kernel_rfl) (by kernel_rfl) (fun _ _ _ h => h) (Or.inl ⟨by rfl, fun w hS => by go_simp⟩) hHeld29 ?_
        simp only [Act.put, List.setIfInBounds_toArray, List.set_cons_zero, List.set_cons_succ]
        refine wpAnyH_done (by kernel_rfl) ?_ _
        have hBn := hB27.trans (hB29.mono hB27.size)
        clear HS31 HIx HP16 HRG HC1 HC2 HPx HPz HPp hless heqXZ hneXX hb1 he1 he2 hrw hszX hszX2 honeX hiX hiZ hr2n hr2
        go_wp2
        refine ⟨⟨t + 1, by omega, by go_num, hBn⟩, ?_⟩
        simp only [intOf]
        omega
      · have f1 : ¬ ((t : Int) < (n2 : Int)) := by omega
        go_wp2
        go_loopw [19] (fun i wr => ∃ t : Nat, t ≤ m2 ∧ i = .int .i64 (t : Int) ∧ Below w22.heap.size w22 wr) (fun i _ => m2 - (intOf i).toNat)
        case atStart => exact ⟨0, by omega, rfl, hB⟩
        case round =>
          clear hB f1 hlt ht
          obtain ⟨s, hs, rfl, hB⟩ := hrel
          by_cases hlt : s < m2
          · have l1 : s < S2.length := by rw [hm2'.out]; exact hlt
            obtain ⟨b2, o2, hab, hnn, hcc, rS⟩ := (HRS.out w22 (Below.refl _ _)).at (by omega)
            subst hab
            have hb2lt := rangeAt_lt rS (by omega)
            obtain ⟨x, hx⟩ : ∃ x, Keep (x = S2[s]) := ⟨_, ⟨rfl⟩⟩
            have HXS : Keep (x ∈ L2) := ⟨by rw [← HM.out, hx.out]; exact List.getElem_mem l1⟩
            have rX : wr.rangeAt b2 (o2 + s * 32) (encH x) := by rw [hx.out]; exact rangeAt_below (rangeAt_elem rS s l1) hB hb2lt
            have HIx : Keep (Calls Try.prog 35 #[.slice (some ⟨b, o, none⟩) n2 c20, .agg (encH x).toArray] wr fun e w' => ∃ r : Int, e = .returned (.int .i64 r) ∧ 0 ≤ r ∧ Below wr.heap.size wr w') := ⟨index_any _ L2 x wr (HRL.out wr hB) (by rw [hn2'.out]; exact hn2) HXS.out⟩
            have hiX := Try.size23L x
            generalize encH x = CX at *
            clear l1 hnn hcc rS hx HXS
            have f1 : (s : Int) < (m2 : Int) := by omega
            go_wp2_with (refine wpList_load_mid rfl 23 (.tmp 204) rfl b2 (o2 + s * 32) rfl CX (.array 32 5) rX hu rfl hiX ?_)
            refine HIx.out.mono ?_
            rintro e w30 ⟨r, rfl, hr, hb30⟩
            have hBn := hB.trans (hb30.mono hB.size)
            have hrn : ¬ (r < 0) := by omega
            go_wp2
            go_roundw
            case rel => exact ⟨s + 1, by omega, by go_num, hBn⟩
            case measure => simp [intOf]; omega
          · have f1 : ¬ ((s : Int) < (m2 : Int)) := by omega
            go_wp2_with fail
            refine (fixed_any wr).mono ?_
            rintro e w31 ⟨rfl, hb31⟩
            have hBn := HB22.out _ (hB.trans (hb31.mono hB.size))
            go_wp2
            go_ret
            exact ⟨rfl, hBn⟩

theorem follows_any (va vb vl : Value) (la lb : List Int) (L : List Hs) (w : World) (ha : RowAt w va la) (hb : RowAt w vb lb) (hl : HRow w vl L)
    (hal : (la.length : Int) ≤ 9223372036854775807) (hbl : (lb.length : Int) ≤ 9223372036854775807) (hn : L.length ≤ 4398046511000) :
    Calls Try.prog 8 #[va, vb, vl] w fun e w' => e = .returned (.bool true) ∧ Below w.heap.size w w' := by
  obtain ⟨pa, ca, rfl⟩ := row_form ha
  obtain ⟨pb, cb, rfl⟩ := row_form hb
  exact follows_walk pa pb la.length ca lb.length cb vl la lb L w ha hb hl rfl rfl hal hbl hn
end Go.Proofs.Ytollbkibocdbmaa
