import Derived.Test.YtbbhjgflaiacaaaKeepB
import Derived.Deep.CutRange
namespace Go.Proofs.Ytbbhjgflaiacaaa
open Go.RowKit Go.Sort

set_option maxRecDepth 20000 in
set_option maxHeartbeats 8000000 in
theorem keeps_walk (pb pl : Option Addr) (nb cb n cl : Nat) (lb : List Int) (L : List Hs) (w : World) (hb : RowAt w (.slice pb nb cb) lb) (hl : HRow w (.slice pl n cl) L)
    (hnb : lb.length = nb) (hnl : L.length = n) (hbl : nb ≤ 140737488351232) (hll : n ≤ 4398046511000) :
    Calls Try.prog 8 #[.slice pb nb cb, .slice pl n cl] w fun e w' => e = .returned (.bool true) ∧ Below w.heap.size w w' := by
  have HB : Keep (∀ wx, Below w.heap.size w wx → RowAt wx (.slice pb nb cb) lb) := ⟨fun wx hx => hb.below hx⟩
  have HLr : Keep (∀ wx, Below w.heap.size w wx → HRow wx (.slice pl n cl) L) := ⟨fun wx hx => hl.below hx⟩
  have HLrr := HLr
  have HB0 : Keep (RowAt w (.slice pb nb cb) lb) := ⟨hb⟩
  have HNB : Keep (lb.length = nb) := ⟨hnb⟩
  have HNL : Keep (L.length = n) := ⟨hnl⟩
  have b0 : 0 + lb.length ≤ 140737488355328 := by rw [hnb]; omega
  have HLa : Keep (0 + lb.length + [(161 : Int), 162, 163].length ≤ 140737488355328) := ⟨by rw [hnb]; simp only [List.length_cons, List.length_nil]; omega⟩
  have HE1 : Keep (0 + lb.length + [(161 : Int), 162, 163].length = nb + 3) := ⟨by rw [hnb]; simp only [List.length_cons, List.length_nil]; omega⟩
  clear hb hl hnb hnl
  go_enter Try.func8, Try.ntmps8
  go_wp2_with (first | (refine wpList_app rfl (.const (.slice none 0 0)) (.tmp 20) rfl w.heap.size (.slice none 0 0) (.slice pb nb cb) 0 [] lb rfl rfl (owns_nil _ _) HB0.out b0 (Nat.le_refl _) ?_; intro v1 w1 hown1 hgr1; have HO1 : Keep ((w1.alloc (.cells #[.int .u8 161, .int .u8 162, .int .u8 163] 5)).ownsRow w.heap.size 5 1 v1 (0 + lb.length) ([] ++ bv lb)) := ⟨World.ownsRow.alloc hown1 _⟩; have hz1 : w.heap.size ≤ (w1.alloc (.cells #[.int .u8 161, .int .u8 162, .int .u8 163] 5)).heap.size := by (have := hgr1.size; simp; omega)) | (refine wpList_app rfl (.tmp 21) (.tmp 22) rfl w.heap.size v1 (.slice (some ⟨w1.heap.size, 0, none⟩) 3 3) (0 + lb.length) ([] ++ bv lb) [161, 162, 163] rfl rfl HO1.out (row_three w1 161 162 163) HLa.out hz1 ?_; intro v2 w2 hown2 hgr2; rw [HE1.out] at hown2; obtain ⟨go, co, rfl, hgo, hco⟩ := owns_form hown2 (by omega); have q1 : (nb : Int) ≤ (co : Int) := by omega))
  have hB2 : Below w.heap.size w w2 := (((Below.refl w.heap.size w).grown hgr1 (Nat.le_refl _) (fun k e => by cases e)).alloc hgr1.size _).grown hgr2 hz1 (fun k e => owns_block hown1 k e)
  rw [List.nil_append, ← bv_append] at hown2
  have HCO : Keep (nb ≤ co) := ⟨by omega⟩
  have HCL0 : Keep (w.heap.size ≤ go) := ⟨hgo⟩
  have HOwn : Keep (w2.ownsRow w.heap.size 5 1 (.slice (some ⟨go, 0, none⟩) (nb + 3) co) (nb + 3) (bv (lb ++ [161, 162, 163]))) := ⟨hown2⟩
  have hrow2 : RowAt w2 (.slice (some ⟨go, 0, none⟩) nb co) lb := .inr (.inr ⟨go, 0, co, by rw [HNB.out], by rw [HNB.out]; omega, fun i hi => by
    rw [Nat.zero_add, hown2.cellAt i (by rw [HNB.out] at hi; omega), bv_append, List.getElem?_append_left (by rw [bv_len]; exact hi)]; exact bv_get lb i hi⟩)
  have hgo2 : go < w2.heap.size := by
    have h := hown2.cellAt 0 (by omega)
    rw [bv_get _ 0 (by simp)] at h
    exact cell_lt h
  obtain ⟨CH, hCH⟩ : ∃ CH, Keep (encH (shaH lb) = CH) := ⟨_, ⟨rfl⟩⟩
  have hof := of_anyH (.slice (some ⟨go, 0, none⟩) nb co) lb w2 hrow2 (by rw [HNB.out]; omega)
  have hszH : (Try.prog.info? 23).map (·.size) = some CH.toArray.size := by rw [← hCH.out, List.size_toArray]; exact Try.size23L _
  have hiH : (Try.prog.info? 23).map (·.size) = some CH.length := by rw [← hCH.out]; exact Try.size23L _
  have hszH2 : (bytesA 32 fun _ => 0).size = CH.toArray.size := by rw [bytesA_size, ← hCH.out, List.size_toArray, encH_len]
  have honeH : CH.toArray.all (·.oneCell') = true := by rw [← hCH.out]; exact all_oneCell_toArray (encH_one _)
  rw [hCH.out] at hof
  have HRow2 : Keep (RowAt w2 (.slice (some ⟨go, 0, none⟩) nb co) lb) := ⟨hrow2⟩
  have HB2 : Keep (Below w.heap.size w w2) := ⟨hB2⟩
  clear hown1 hown2 hgr1 hgr2 hrow2 HO1 hz1 HE1 HLa b0 HB0
  refine hof.mono ?_
  rintro e w3 ⟨rfl, hb3⟩
  have hN3 := Blk.new w3 23 (bytesA 32 fun _ => 0)
  clear hof
  go_wp2_with (first | (refine wpList_new rfl 23 rfl _ Try.new23 ?_; refine wpList_store_row rfl 23 (.tmp 7) (.tmp 29) rfl w3.heap.size CH.toArray rfl rfl 23 (bytesA 32 fun _ => 0) hN3 hszH hszH2 honeH ?_; rw [World.setRow_alloc_new]))
  have hPh : Blk (w3.alloc (.cells CH.toArray 23)) w3.heap.size 23 CH.toArray := Blk.new _ _ _
  have hb4 : Below w2.heap.size w2 (w3.alloc (.cells CH.toArray 23)) := hb3.alloc hb3.size _
  have hph2 : w2.heap.size ≤ w3.heap.size := hb3.size
  have hs4 : (w3.alloc (.cells CH.toArray 23)).heap.size = w3.heap.size + 1 := by simp
  clear hN3 hb3
  generalize w3.alloc (.cells CH.toArray 23) = w4 at *
  obtain ⟨ph, hph⟩ : ∃ ph, w3.heap.size = ph := ⟨_, rfl⟩
  rw [hph] at hPh hph2 hs4 ⊢
  clear hph
  have hRW : RowsAt (w4.alloc (.cells #[.slice (some ⟨go, 0, none⟩) nb co] 28)) (.slice (some ⟨w4.heap.size, 0, none⟩) 1 1) 1 (fun _ => .slice (some ⟨go, 0, none⟩) nb co) (fun _ => lb) := {
    form := .inr ⟨w4.heap.size, 0, 1, rfl, fun i hi => by
      rw [Nat.zero_add, (Blk.new w4 28 _).cell]
      have e : i = 0 := by omega
      subst e; rfl⟩
    row := fun i _ => (HRow2.out.below hb4).below (below_new w4 _) }
  have hoa := ofAll_H _ 1 _ _ lb _ hRW (by omega) (by simp [concat]) (by rw [HNB.out]; omega)
  rw [hCH.out, hs4] at hoa
  have hPh5 := hPh.alloc (.cells #[.slice (some ⟨go, 0, none⟩) nb co] 28)
  have hb5 : Below w2.heap.size w2 (w4.alloc (.cells #[.slice (some ⟨go, 0, none⟩) nb co] 28)) := hb4.alloc hb4.size _
  clear hRW hPh hb4 hs4
  generalize w4.alloc (.cells #[.slice (some ⟨go, 0, none⟩) nb co] 28) = w5 at *
  refine hoa.mono ?_
  rintro e w6 ⟨rfl, hb6⟩
  have hPh6 := hPh5.below hb6 hPh5.lt
  have hB6 : Below w2.heap.size w2 w6 := hb5.trans (hb6.mono hb5.size)
  have hN6 := Blk.new w6 23 (bytesA 32 fun _ => 0)
  clear hoa hPh5 hb5 hb6
  have hM1 : ∀ i, i < 32 → 0 ≤ (if i = 1 then (119 : Int) else 0) ∧ (if i = 1 then (119 : Int) else 0) < 256 := fun i _ => by split <;> omega
  obtain ⟨mk, hmk⟩ : ∃ mk : Hs, Keep (mk = Hs.mk' (fun i => if i = 1 then (119 : Int) else 0) hM1) := ⟨_, ⟨rfl⟩⟩
  obtain ⟨CM, hCM⟩ : ∃ CM, Keep (encH mk = CM) := ⟨_, ⟨rfl⟩⟩
  have hMarr : (bytesA 32 fun i => if i = 1 then (119 : Int) else 0) = CM.toArray := by rw [← hCM.out, hmk.out]; exact mkH_arr _ hM1
  have hbm := Try.bld1
  rw [hMarr] at hbm
  have hszM : (Try.prog.info? 23).map (·.size) = some CM.toArray.size := by rw [← hCM.out, List.size_toArray]; exact Try.size23L _
  have hiM : (Try.prog.info? 23).map (·.size) = some CM.length := by rw [← hCM.out]; exact Try.size23L _
  have hszM2 : (bytesA 32 fun _ => 0).size = CM.toArray.size := by rw [bytesA_size, ← hCM.out, List.size_toArray, encH_len]
  have honeM : CM.toArray.all (·.oneCell') = true := by rw [← hCM.out]; exact all_oneCell_toArray (encH_one _)
  clear hMarr hmk hM1
  go_wp2_with (refine wpList_new rfl 23 rfl _ Try.new23 ?_; refine wpList_store_row rfl 23 (.tmp 8) (.tmp 32) rfl w6.heap.size CH.toArray rfl rfl 23 (bytesA 32 fun _ => 0) hN6 hszH hszH2 honeH ?_; rw [World.setRow_alloc_new]; refine Hid.out ?_)
  refine hid_in ?_
  have hPa : Blk (w6.alloc (.cells CH.toArray 23)) w6.heap.size 23 CH.toArray := Blk.new _ _ _
  have hPh7 := hPh6.alloc (.cells CH.toArray 23)
  have hB7 : Below w2.heap.size w2 (w6.alloc (.cells CH.toArray 23)) := hB6.alloc hB6.size _
  have hpa2 : w2.heap.size ≤ w6.heap.size := hB6.size
  clear hN6 hPh6 hB6
  generalize w6.alloc (.cells CH.toArray 23) = w7 at *
  obtain ⟨pa, hpa⟩ : ∃ pa, w6.heap.size = pa := ⟨_, rfl⟩
  rw [hpa] at hPa hpa2 ⊢
  clear hpa
  have hN7 := Blk.new w7 23 (bytesA 32 fun _ => 0)
  go_wp2_with (refine wpList_bldL rfl 23 #[(1, .const (.int .u8 119))] rfl [(1, .int .u8 119)] (by simp [Act.eval]) CM.toArray hbm ?_; refine wpList_new rfl 23 rfl _ Try.new23 ?_; refine wpList_store_row rfl 23 (.tmp 9) (.tmp 33) rfl w7.heap.size CM.toArray rfl rfl 23 (bytesA 32 fun _ => 0) hN7 hszM hszM2 honeM ?_; rw [World.setRow_alloc_new])
  have hPm : Blk (w7.alloc (.cells CM.toArray 23)) w7.heap.size 23 CM.toArray := Blk.new _ _ _
  have hPh8 := hPh7.alloc (.cells CM.toArray 23)
  have hPa8 := hPa.alloc (.cells CM.toArray 23)
  have hB8 : Below w2.heap.size w2 (w7.alloc (.cells CM.toArray 23)) := hB7.alloc hB7.size _
  have hpm2 : w2.heap.size ≤ w7.heap.size := hB7.size
  clear hN7 hPh7 hPa hB7
  generalize w7.alloc (.cells CM.toArray 23) = w8 at *
  obtain ⟨pm, hpm⟩ : ∃ pm, w7.heap.size = pm := ⟨_, rfl⟩
  rw [hpm] at hPm hpm2 ⊢
  clear hpm
  have hu := Try.underlying23
  have HLL : Keep (L.length + [mk, mk].length ≤ 4398046511104 ∧ ([] : List Hs).length + L.length ≤ 4398046511104) := ⟨by simp only [List.length_cons, List.length_nil]; rw [HNL.out]; omega, by simp only [List.length_nil]; rw [HNL.out]; omega⟩
  have HL2 : Keep ((L ++ [mk, mk]).length = n + 2) := ⟨by simp only [List.length_append, List.length_cons, List.length_nil]; rw [HNL.out]⟩
  have hB08 : Below w.heap.size w w8 := HB2.out.trans (hB8.mono HB2.out.size)
  have HR8 : Keep (∀ wx, Below w8.heap.size w8 wx → HRow wx (.slice pl n cl) L) := ⟨fun wx hx => HLr.out wx (hB08.trans (hx.mono hB08.size))⟩
  have HS6 : Keep (∀ wx, Below w8.heap.size w8 wx → wx.rangeAt pm 0 CM) := ⟨fun wx hx => blk_rangeL (hPm.below hx hPm.lt)⟩
  have hbs2 := fun w => bs2H mk mk w
  rw [hCM.out] at hbs2
  have how2 := fun w => owns_two mk mk w
  have HOW2 : Keep (∀ w : World, HRow (w.alloc (.cells (flatH [mk, mk]).toArray 23)) (.slice (some ⟨w.heap.size, 0, none⟩) 2 2) [mk, mk]) := ⟨fun w => HRow.of_owns (how2 w)⟩
  clear how2
  simp only [Act.put, List.setIfInBounds_toArray, List.set_cons_zero, List.set_cons_succ]
  go_cut [10] from 34 to 39 (fun s10 wx => ListAt w8 n (L ++ [mk, mk]) s10 wx)
  case first =>
    have hD : Below w8.heap.size w8 w8.drew := (Below.refl _ _).drew
    have hZ : w8.heap.size ≤ w8.drew.heap.size := hD.size
    refine wp_region_held_drew (S := fun w' => w'.rangeAt pm 0 CM) (by kernel_rfl) (HS6.out _ hD) (fun hHeld => ?_)
    refine wpAnyH_take (i := 0) (oi := ⟨some 34, Op.move (Operand.tmp 1), 45, _, _, none⟩) (v := Value.slice pl n cl) rfl (by kernel_rfl) (by kernel_rfl) (by kernel_rfl) (fun _ _ _ h => h) (Or.inl ⟨by rfl, fun w hS => by go_simp⟩) hHeld ?_
    simp only [Act.put, List.setIfInBounds_toArray, List.set_cons_zero, List.set_cons_succ]
    refine wpAnyH_take (i := 2) (oi := ⟨some 36, Op.load 23 (Operand.tmp 9), 23, _, _, none⟩) (v := .agg (CM).toArray) rfl (by kernel_rfl) (by kernel_rfl) (by kernel_rfl) (fun _ _ _ h => h) (yieldsIf_load_mid (by rfl) 23 (Operand.tmp 9) rfl pm 0 rfl CM _ (fun w hS => hS) hu rfl hiM) hHeld ?_
    simp only [Act.put, List.setIfInBounds_toArray, List.set_cons_zero, List.set_cons_succ]
    refine wpAnyH_take (i := 3) (oi := ⟨some 37, Op.load 23 (Operand.tmp 9), 23, _, _, none⟩) (v := .agg (CM).toArray) rfl (by kernel_rfl) (by kernel_rfl) (by kernel_rfl) (fun _ _ _ h => h) (yieldsIf_load_mid (by rfl) 23 (Operand.tmp 9) rfl pm 0 rfl CM _ (fun w hS => hS) hu rfl hiM) hHeld ?_
    simp only [Act.put, List.setIfInBounds_toArray, List.set_cons_zero, List.set_cons_succ]
    refine wpAnyH_ready (rs := [1, 4]) (by kernel_rfl) (by simp) ?_
    refine AllReadyH.cons (o := ⟨some 35, Op.call { callee := Callee.builtin Builtin.append, args := #[Operand.const (Value.slice none 0 0), Operand.tmp 34], argTypes := #[45, 45] }, 45, _, _, none⟩) rfl (fun K hK => ?_) (AllReadyH.cons (o := ⟨some 38, Op.buildSlice 45 2 #[(0, Operand.tmp 36), (1, Operand.tmp 37)], 45, _, _, none⟩) rfl (fun K hK => ?_) AllReadyH.nil)
    · rw [if_pos (by rfl)]
      refine wp_appH (.const (.slice none 0 0)) (.tmp 34) rfl w8.heap.size (.slice none 0 0) (.slice pl n cl) [] L rfl rfl (ownsH_nil _ _) (HR8.out _ hD) HLL.out.2 hZ ?_
      intro v35 w9 hown9 hgr9
      have hB9 : Below w8.heap.size w8 w9 := hD.grown hgr9 hZ (fun k e => by cases e)
      refine hK.out _ _ (HS6.out _ hB9) fun hHeld9 => ?_
      clear hK
      simp only [Act.put, List.setIfInBounds_toArray, List.set_cons_zero, List.set_cons_succ]
      refine wpAnyH_ready (rs := [4]) (by kernel_rfl) (by simp) ?_
      refine AllReadyH.cons (o := ⟨some 38, Op.buildSlice 45 2 #[(0, Operand.tmp 36), (1, Operand.tmp 37)], 45, _, _, none⟩) rfl (fun K hK => ?_) AllReadyH.nil
      rw [if_pos (by rfl)]
      refine wp_bs 45 2 #[(0, .tmp 36), (1, .tmp 37)] rfl #[(0, .agg CM.toArray), (1, .agg CM.toArray)] (by simp [Act.eval]) _ _ (hbs2 _) ?_
      have hB10 : Below w8.heap.size w8 (w9.alloc (.cells (flatH [mk, mk]).toArray 23)) := hB9.alloc hB9.size _
      refine hK.out _ _ (HS6.out _ hB10) fun hHeld10 => ?_
      clear hK
      simp only [Act.put, List.setIfInBounds_toArray, List.set_cons_zero, List.set_cons_succ]
      refine wpAnyH_ready (rs := [5]) (by kernel_rfl) (by simp) ?_
      refine AllReadyH.cons (o := ⟨some 39, Op.call { callee := Callee.builtin Builtin.append, args := #[Operand.tmp 35, Operand.tmp 38], argTypes := #[45, 45] }, 45, _, _, none⟩) rfl (fun K hK => ?_) AllReadyH.nil
      rw [if_pos (by rfl)]
      have hown9' : w9.ownsRow w8.heap.size 23 32 v35 L.length (flatH L) := hown9
      have hblk9 := ownsH_block hown9'
      refine wp_appH (.tmp 35) (.tmp 38) rfl w8.heap.size v35 (.slice (some ⟨w9.heap.size, 0, none⟩) 2 2) L [mk, mk] rfl rfl (World.ownsRow.alloc hown9' _) (HOW2.out w9) HLL.out.1 hB10.size ?_
      intro v39 w11 hown11 hgr11
      have hB11 : Below w8.heap.size w8 w11 := hB10.grown hgr11 hB10.size hblk9
      refine hK.out _ _ (HS6.out _ hB11) fun hHeld11 => ?_
      clear hK
      simp only [Act.put, List.setIfInBounds_toArray, List.set_cons_zero, List.set_cons_succ]
      have HLA : Keep (ListAt w8 n (L ++ [mk, mk]) v39 w11) := ⟨ListAt.mk HL2.out hown11 hB11⟩
      clear hown9 hown9' hown11
      refine wpAnyH_take (i := 6) (oi := ⟨some 10, Op.assign (Operand.tmp 39), 45, _, _, none⟩) (v := v39) rfl (by kernel_rfl) (by kernel_rfl) (by kernel_rfl) (fun _ _ _ h => h) (Or.inl ⟨by rfl, fun w hS => by go_simp⟩) hHeld11 ?_
      simp only [Act.put, List.setIfInBounds_toArray, List.set_cons_zero, List.set_cons_succ]
      refine wpAnyH_done (by kernel_rfl) ?_ _
      go_wp2_with fail
      go_meet
      case rel => exact HLA.out
    · rw [if_pos (by rfl)]
      refine wp_bs 45 2 #[(0, .tmp 36), (1, .tmp 37)] rfl #[(0, .agg CM.toArray), (1, .agg CM.toArray)] (by simp [Act.eval]) _ _ (hbs2 _) ?_
      have hB9 : Below w8.heap.size w8 (w8.drew.alloc (.cells (flatH [mk, mk]).toArray 23)) := hD.alloc hZ _
      have HW9 : Keep (HRow (w8.drew.alloc (.cells (flatH [mk, mk]).toArray 23)) (.slice (some ⟨w8.drew.heap.size, 0, none⟩) 2 2) [mk, mk]) := ⟨HOW2.out _⟩
      generalize w8.drew.alloc (.cells (flatH [mk, mk]).toArray 23) = w9 at *
      refine hK.out _ _ (HS6.out _ hB9) fun hHeld9 => ?_
      clear hK
      simp only [Act.put, List.setIfInBounds_toArray, List.set_cons_zero, List.set_cons_succ]
      refine wpAnyH_ready (rs := [1]) (by kernel_rfl) (by simp) ?_
      refine AllReadyH.cons (o := ⟨some 35, Op.call { callee := Callee.builtin Builtin.append, args := #[Operand.const (Value.slice none 0 0), Operand.tmp 34], argTypes := #[45, 45] }, 45, _, _, none⟩) rfl (fun K hK => ?_) AllReadyH.nil
      rw [if_pos (by rfl)]
      refine wp_appH (.const (.slice none 0 0)) (.tmp 34) rfl w8.heap.size (.slice none 0 0) (.slice pl n cl) [] L rfl rfl (ownsH_nil _ _) (HR8.out _ hB9) HLL.out.2 hB9.size ?_
      intro v35 w10 hown10 hgr10
      have hB10 : Below w8.heap.size w8 w10 := hB9.grown hgr10 hB9.size (fun k e => by cases e)
      have HW10 : Keep (HRow w10 (.slice (some ⟨w8.drew.heap.size, 0, none⟩) 2 2) [mk, mk]) := ⟨HW9.out.grown (Grown.by (S := fun _ => False) hgr10 (fun k e => by cases e)) (fun _ _ _ _ _ h => h)⟩
      refine hK.out _ _ (HS6.out _ hB10) fun hHeld10 => ?_
      clear hK
      simp only [Act.put, List.setIfInBounds_toArray, List.set_cons_zero, List.set_cons_succ]
      refine wpAnyH_ready (rs := [5]) (by kernel_rfl) (by simp) ?_
      refine AllReadyH.cons (o := ⟨some 39, Op.call { callee := Callee.builtin Builtin.append, args := #[Operand.tmp 35, Operand.tmp 38], argTypes := #[45, 45] }, 45, _, _, none⟩) rfl (fun K hK => ?_) AllReadyH.nil
      rw [if_pos (by rfl)]
      have hown10' : w10.ownsRow w8.heap.size 23 32 v35 L.length (flatH L) := hown10
      have hblk10 := ownsH_block hown10'
      refine wp_appH (.tmp 35) (.tmp 38) rfl w8.heap.size v35 (.slice (some ⟨w8.drew.heap.size, 0, none⟩) 2 2) L [mk, mk] rfl rfl hown10' HW10.out HLL.out.1 hB10.size ?_
      intro v39 w11 hown11 hgr11
      have hB11 : Below w8.heap.size w8 w11 := hB10.grown hgr11 hB10.size hblk10
      refine hK.out _ _ (HS6.out _ hB11) fun hHeld11 => ?_
      clear hK
      simp only [Act.put, List.setIfInBounds_toArray, List.set_cons_zero, List.set_cons_succ]
      have HLA : Keep (ListAt w8 n (L ++ [mk, mk]) v39 w11) := ⟨ListAt.mk HL2.out hown11 hB11⟩
      clear hown10 hown10' hown11
      refine wpAnyH_take (i := 6) (oi := ⟨some 10, Op.assign (Operand.tmp 39), 45, _, _, none⟩) (v := v39) rfl (by kernel_rfl) (by kernel_rfl) (by kernel_rfl) (fun _ _ _ h => h) (Or.inl ⟨by rfl, fun w hS => by go_simp⟩) hHeld11 ?_
      simp only [Act.put, List.setIfInBounds_toArray, List.set_cons_zero, List.set_cons_succ]
      refine wpAnyH_done (by kernel_rfl) ?_ _
      go_wp2_with fail
      go_meet
      case rel => exact HLA.out
  case rest =>
    obtain ⟨gl, cll, rfl, hcll, hgl8, hglt, hownL, hBc⟩ := hcut
    have hrL : wc.rangeAt gl 0 (flatH (L ++ [mk, mk])) := by
      have h := HRow.of_owns (L := L ++ [mk, mk]) hownL
      obtain ⟨b, o, e1, _, _, h3⟩ := h.at (by rw [HL2.out]; omega)
      injection e1 with e1
      injection e1 with e1 e2
      subst e1 e2
      exact h3
    have hrH : HRow wc (.slice (some ⟨gl, 0, none⟩) n cll) L := HRow.mk HNL.out.symm (by omega) (by
      have h := rangeAt_take hrL n
      rwa [← HNL.out, List.take_left] at h)
    have hrM0 : wc.rangeAt gl (n * 32) CM := by
      have h := rangeAt_elem hrL n (by rw [HL2.out]; omega)
      rw [Nat.zero_add] at h
      have e : (L ++ [mk, mk])[n]'(by rw [HL2.out]; omega) = mk := by
        rw [List.getElem_append_right (by rw [HNL.out]; omega)]; simp [HNL.out]
      rwa [e, hCM.out] at h
    have hrM1 : wc.rangeAt gl ((n + 1) * 32) CM := by
      have h := rangeAt_elem hrL (n + 1) (by rw [HL2.out]; omega)
      rw [Nat.zero_add] at h
      have e : (L ++ [mk, mk])[n + 1]'(by rw [HL2.out]; omega) = mk := by
        rw [List.getElem_append_right (by rw [HNL.out]; omega)]; simp [HNL.out]
      rwa [e, hCM.out] at h
    have HRH : Keep (∀ wx, Below wc.heap.size wc wx → HRow wx (.slice (some ⟨gl, 0, none⟩) n cll) L) := ⟨fun wx hx => hrH.below hx⟩
    have HRM : Keep (∀ wx, Below wc.heap.size wc wx → wx.rangeAt gl (n * 32) CM ∧ wx.rangeAt gl ((n + 1) * 32) CM) := ⟨fun wx hx => ⟨rangeAt_below hrM0 hx hglt, rangeAt_below hrM1 hx hglt⟩⟩
    have HOL : Keep (wc.ownsRow w8.heap.size 23 32 (.slice (some ⟨gl, 0, none⟩) (n + 2) cll) (n + 2) (flatH (L ++ [mk, mk]))) := ⟨hownL⟩
    have hB0c : Below w.heap.size w wc := hB08.trans (hBc.mono hB08.size)
    have hPhc := hPh8.below hBc hPh8.lt
    have hPac := hPa8.below hBc hPa8.lt
    have hPmc := hPm.below hBc hPm.lt
    have hB2c : Below w2.heap.size w2 wc := hB8.trans (hBc.mono hB8.size)
    have q2 : (n : Int) ≤ (cll : Int) := by omega
    have HCLL : Keep (n ≤ cll) := ⟨by omega⟩
    have HGG : Keep (go ≠ gl) := ⟨by have := hB8.size; omega⟩
    have HGLW : Keep (w.heap.size ≤ gl) := ⟨by have := hB08.size; omega⟩
    clear hrL hrH hrM0 hrM1 hownL hPh8 hPa8 hPm hB8 hBc HR8 HS6 hbs2 HOW2 HLL HLr
    have HLr : Keep (∀ wx, Below wc.heap.size wc wx → HRow wx (.slice pl n cl) L) := ⟨fun wx hx => HLrr.out wx (hB0c.trans (hx.mono hB0c.size))⟩
    go_wp2_with fail
    have hnle : L.length ≤ 4398046511104 := by rw [HNL.out]; omega
    refine (sort_any _ L wc (HRH.out wc (Below.refl _ _)) hnle).mono ?_
    rintro e w9 ⟨vx, X, rfl, hox, hpx, hmx, hlx, hb9⟩
    go_wp2_with fail
    refine (sort_any _ L w9 (HRH.out w9 hb9) hnle).mono ?_
    rintro e w10 ⟨vy, Y, rfl, hoy, hpy, hmy, hly, hb10⟩
    have hbc10 : Below wc.heap.size wc w10 := hb9.trans (hb10.mono hb9.size)
    obtain rfl : X = Y := rising_unique X Y hpx hpy fun x => by rw [hmx, hmy]
    have HPX : Keep (X.Pairwise Lt) := ⟨hpx⟩
    have HMX : Keep (∀ x, x ∈ X ↔ x ∈ L) := ⟨hmx⟩
    go_wp2_with fail
    refine (refSort_any n _ L w10 HNL.out (HLr.out w10 hbc10) (by omega)).mono ?_
    rintro e w11 ⟨vw, Z, rfl, how, hpw, hmw, hlw, hb11⟩
    have hbc11 : Below wc.heap.size wc w11 := hbc10.trans (hb11.mono hbc10.size)
    obtain rfl : X = Z := rising_unique X Z hpx hpw fun x => by rw [hmx, hmw]
    have hox11 := ownsH_below (ownsH_below hox hb10) hb11
    have hoy11 := ownsH_below hoy hb11
    go_wp2_with fail
    have hneqH : ∀ w, (binOp .neq 23 (.agg CH.toArray) (.agg CH.toArray)).run Try.prog w = .ok (.bool false) w := fun w => by rw [← hCH.out, run_neqL]; simp
    have HS11 : Keep (∀ wx, Below w11.heap.size w11 wx → wx.rangeAt ph 0 CH ∧ wx.rangeAt pa 0 CH) := ⟨fun wx hx => by
      have h := hbc11.trans (hx.mono hbc11.size)
      exact ⟨blk_rangeL (hPhc.below h hPhc.lt), blk_rangeL (hPac.below h hPac.lt)⟩⟩
    have HRO : Keep (∀ wx, Below w11.heap.size w11 wx → Calls Try.prog 12 #[.slice pb nb cb] wx fun e w' => e = .returned (.agg CH.toArray) ∧ Below wx.heap.size wx w') := ⟨fun wx hx => by
      have h := hbc11.trans (hx.mono hbc11.size)
      rw [← hCH.out, ← shaH_arr]
      exact refOf_sha _ lb wx (HB.out wx (hB0c.trans (h.mono hB0c.size))) (by rw [HNB.out]; exact hbl)⟩
    have hlx' : X.length ≤ n := by rw [← HNL.out]; exact hlx
    have HXW : Keep (∀ wx, Below w11.heap.size w11 wx → Calls Try.prog 24 #[vx, vw] wx fun e w' => e = .returned (.bool true) ∧ Below wx.heap.size wx w') := ⟨fun wx hx => by
      refine (same_any vx vw X X wx ((HRow.of_owns hox11).below hx) ((HRow.of_owns how).below hx) (by omega)).mono fun e w' h => ⟨by rw [h.1]; simp, ?_⟩
      obtain ⟨q, hq⟩ := h.2
      rw [hq]; exact grown_below' _ _ _⟩
    have HYW : Keep (∀ wx, Below w11.heap.size w11 wx → Calls Try.prog 24 #[vy, vw] wx fun e w' => e = .returned (.bool true) ∧ Below wx.heap.size wx w') := ⟨fun wx hx => by
      refine (same_any vy vw X X wx ((HRow.of_owns hoy11).below hx) ((HRow.of_owns how).below hx) (by omega)).mono fun e w' h => ⟨by rw [h.1]; simp, ?_⟩
      obtain ⟨q, hq⟩ := h.2
      rw [hq]; exact grown_below' _ _ _⟩
    have hD11 : Below w11.heap.size w11 w11.drew := (Below.refl _ _).drew
    have HOX : Keep (w9.ownsRow wc.heap.size 23 32 vx X.length (flatH X)) := ⟨hox⟩
    have HOX11 : Keep (w11.ownsRow wc.heap.size 23 32 vx X.length (flatH X)) := ⟨hox11⟩
    have HOY11 : Keep (w11.ownsRow w9.heap.size 23 32 vy X.length (flatH X)) := ⟨hoy11⟩
    have HOW11 : Keep (w11.ownsRow w10.heap.size 23 32 vw X.length (flatH X)) := ⟨how⟩
    have hs9c : wc.heap.size ≤ w9.heap.size := hb9.size
    have hs109 : w9.heap.size ≤ w10.heap.size := hb10.size
    clear hox hoy how hpx hpy hpw hmx hmy hmw hlx hly hlw hox11 hoy11 hb9 hb10 hb11 hbc10
    refine wp_region_held_drew (S := fun w' => w'.rangeAt ph 0 CH ∧ w'.rangeAt pa 0 CH) (by kernel_rfl) (HS11.out _ hD11) (fun hHeld => ?_)
    refine wpAnyH_take (i := 0) (oi := ⟨some 50, Op.load 23 (Operand.tmp 7), 23, _, _, none⟩) (v := .agg (CH).toArray) rfl (by kernel_rfl) (by kernel_rfl) (by kernel_rfl) (fun _ _ _ h => h) (yieldsIf_load_mid (by rfl) 23 (Operand.tmp 7) rfl ph 0 rfl CH _ (fun w hS => hS.1) hu rfl hiH) hHeld ?_
    simp only [Act.put, List.setIfInBounds_toArray, List.set_cons_zero, List.set_cons_succ]
    refine wpAnyH_take (i := 1) (oi := ⟨some 51, Op.move (Operand.tmp 0), 28, _, _, none⟩) (v := Value.slice pb nb cb) rfl (by kernel_rfl) (by kernel_rfl) (by kernel_rfl) (fun _ _ _ h => h) (Or.inl ⟨by rfl, fun w hS => by go_simp⟩) hHeld ?_
    simp only [Act.put, List.setIfInBounds_toArray, List.set_cons_zero, List.set_cons_succ]
    refine wpAnyH_ready (rs := [2]) (by kernel_rfl) (by simp) ?_
    refine AllReadyH.cons (o := ⟨some 52, Op.call { callee := Callee.value (Operand.func 12), args := #[Operand.tmp 51], argTypes := #[28] }, 23, _, _, none⟩) rfl (fun K hK => ?_) AllReadyH.nil
    rw [if_pos (by rfl)]
    refine wp_callF 12 #[.tmp 51] #[28] rfl Try.enter12 #[Value.slice pb nb cb] (by simp [Act.eval]) (fun v w' => v = .agg CH.toArray ∧ Below w11.drew.heap.size w11.drew w') ((HRO.out _ hD11).mono fun e w' h => ⟨_, h.1, rfl, h.2⟩) ?_
    rintro v w11_1 ⟨rfl, hb11_1⟩
    have hB11_1 := hD11.trans (hb11_1.mono hD11.size)
    refine hK.out _ _ (HS11.out _ hB11_1) fun hHeld11_1 => ?_
    clear hK
    simp only [Act.put, List.setIfInBounds_toArray, List.set_cons_zero, List.set_cons_succ]
    refine wpAnyH_take (i := 3) (oi := ⟨some 53, Op.binOp BinOp.neq 23 (Operand.tmp 50) (Operand.tmp 52) 23, 4, _, _, none⟩) (v := .bool false) rfl (by kernel_rfl) (by kernel_rfl) (by kernel_rfl) (fun _ _ _ h => h) (Or.inl ⟨by rfl, fun w hS => by go_simp⟩) hHeld11_1 ?_
    simp only [Act.put, List.setIfInBounds_toArray, List.set_cons_zero, List.set_cons_succ]
    refine wpAnyH_take (i := 4) (oi := ⟨some 54, Op.move (Operand.tmp 53), 4, _, _, none⟩) (v := .bool false) rfl (by kernel_rfl) (by kernel_rfl) (by kernel_rfl) (fun _ _ _ h => h) (Or.inl ⟨by rfl, fun w hS => by go_simp⟩) hHeld11_1 ?_
    simp only [Act.put, List.setIfInBounds_toArray, List.set_cons_zero, List.set_cons_succ]
    refine wpAnyH_take (i := 5) (oi := ⟨some 55, Op.load 23 (Operand.tmp 8), 23, _, _, some (4, false)⟩) (v := .agg (CH).toArray) rfl (by kernel_rfl) (by kernel_rfl) (by kernel_rfl) (fun _ _ _ h => h) (yieldsIf_load_mid (by rfl) 23 (Operand.tmp 8) rfl pa 0 rfl CH _ (fun w hS => hS.2) hu rfl hiH) hHeld11_1 ?_
    simp only [Act.put, List.setIfInBounds_toArray, List.set_cons_zero, List.set_cons_succ]
    refine wpAnyH_take (i := 6) (oi := ⟨some 56, Op.load 23 (Operand.tmp 7), 23, _, _, some (4, false)⟩) (v := .agg (CH).toArray) rfl (by kernel_rfl) (by kernel_rfl) (by kernel_rfl) (fun _ _ _ h => h) (yieldsIf_load_mid (by rfl) 23 (Operand.tmp 7) rfl ph 0 rfl CH _ (fun w hS => hS.1) hu rfl hiH) hHeld11_1 ?_
    simp only [Act.put, List.setIfInBounds_toArray, List.set_cons_zero, List.set_cons_succ]
    refine wpAnyH_take (i := 7) (oi := ⟨some 57, Op.binOp BinOp.neq 23 (Operand.tmp 55) (Operand.tmp 56) 23, 4, _, _, some (4, false)⟩) (v := .bool false) rfl (by kernel_rfl) (by kernel_rfl) (by kernel_rfl) (fun _ _ _ h => h) (Or.inl ⟨by rfl, fun w hS => by go_simp⟩) hHeld11_1 ?_
    simp only [Act.put, List.setIfInBounds_toArray, List.set_cons_zero, List.set_cons_succ]
    refine wpAnyH_take (i := 8) (oi := ⟨some 58, Op.pick (Operand.tmp 54) (Operand.const (Value.bool true)) (Operand.tmp 57), 4, _, _, none⟩) (v := .bool false) rfl (by kernel_rfl) (by kernel_rfl) (by kernel_rfl) (fun _ _ _ h => h) (Or.inl ⟨by rfl, fun w hS => by go_simp⟩) hHeld11_1 ?_
    simp only [Act.put, List.setIfInBounds_toArray, List.set_cons_zero, List.set_cons_succ]
    refine wpAnyH_take (i := 9) (oi := ⟨some 59, Op.move (Operand.tmp 58), 4, _, _, none⟩) (v := .bool false) rfl (by kernel_rfl) (by kernel_rfl) (by kernel_rfl) (fun _ _ _ h => h) (Or.inl ⟨by rfl, fun w hS => by go_simp⟩) hHeld11_1 ?_
    simp only [Act.put, List.setIfInBounds_toArray, List.set_cons_zero, List.set_cons_succ]
    refine wpAnyH_take (i := 10) (oi := ⟨some 60, Op.move (Operand.tmp 12), 45, _, _, some (9, false)⟩) (v := vx) rfl (by kernel_rfl) (by kernel_rfl) (by kernel_rfl) (fun _ _ _ h => h) (Or.inl ⟨by rfl, fun w hS => by go_simp⟩) hHeld11_1 ?_
    simp only [Act.put, List.setIfInBounds_toArray, List.set_cons_zero, List.set_cons_succ]
    refine wpAnyH_take (i := 11) (oi := ⟨some 61, Op.move (Operand.tmp 14), 45, _, _, some (9, false)⟩) (v := vw) rfl (by kernel_rfl) (by kernel_rfl) (by kernel_rfl) (fun _ _ _ h => h) (Or.inl ⟨by rfl, fun w hS => by go_simp⟩) hHeld11_1 ?_
    simp only [Act.put, List.setIfInBounds_toArray, List.set_cons_zero, List.set_cons_succ]
    refine wpAnyH_ready (rs := [12]) (by kernel_rfl) (by simp) ?_
    refine AllReadyH.cons (o := ⟨some 62, Op.call { callee := Callee.value (Operand.func 24), args := #[Operand.tmp 60, Operand.tmp 61], argTypes := #[45, 45] }, 4, _, _, some (9, false)⟩) rfl (fun K hK => ?_) AllReadyH.nil
    rw [if_pos (by rfl)]
    refine wp_callF 24 #[.tmp 60, .tmp 61] #[45, 45] rfl Try.enter24 #[vx, vw] (by simp [Act.eval]) (fun v w' => v = .bool true ∧ Below w11_1.heap.size w11_1 w') ((HXW.out _ hB11_1).mono fun e w' h => ⟨_, h.1, rfl, h.2⟩) ?_
    rintro v w11_2 ⟨rfl, hb11_2⟩
    have hB11_2 := hB11_1.trans (hb11_2.mono hB11_1.size)
    refine hK.out _ _ (HS11.out _ hB11_2) fun hHeld11_2 => ?_
    clear hK
    simp only [Act.put, List.setIfInBounds_toArray, List.set_cons_zero, List.set_cons_succ]
    refine wpAnyH_take (i := 13) (oi := ⟨some 63, Op.unOp UnOp.not 4 (Operand.tmp 62), 4, _, _, some (9, false)⟩) (v := .bool false) rfl (by kernel_rfl) (by kernel_rfl) (by kernel_rfl) (fun _ _ _ h => h) (Or.inl ⟨by rfl, fun w hS => by go_simp⟩) hHeld11_2 ?_
    simp only [Act.put, List.setIfInBounds_toArray, List.set_cons_zero, List.set_cons_succ]
    refine wpAnyH_take (i := 14) (oi := ⟨some 64, Op.pick (Operand.tmp 59) (Operand.const (Value.bool true)) (Operand.tmp 63), 4, _, _, none⟩) (v := .bool false) rfl (by kernel_rfl) (by kernel_rfl) (by kernel_rfl) (fun _ _ _ h => h) (Or.inl ⟨by rfl, fun w hS => by go_simp⟩) hHeld11_2 ?_
    simp only [Act.put, List.setIfInBounds_toArray, List.set_cons_zero, List.set_cons_succ]
    refine wpAnyH_take (i := 15) (oi := ⟨some 65, Op.move (Operand.tmp 64), 4, _, _, none⟩) (v := .bool false) rfl (by kernel_rfl) (by kernel_rfl) (by kernel_rfl) (fun _ _ _ h => h) (Or.inl ⟨by rfl, fun w hS => by go_simp⟩) hHeld11_2 ?_
    simp only [Act.put, List.setIfInBounds_toArray, List.set_cons_zero, List.set_cons_succ]
    refine wpAnyH_take (i := 16) (oi := ⟨some 66, Op.move (Operand.tmp 13), 45, _, _, some (15, false)⟩) (v := vy) rfl (by kernel_rfl) (by kernel_rfl) (by kernel_rfl) (fun _ _ _ h => h) (Or.inl ⟨by rfl, fun w hS => by go_simp⟩) hHeld11_2 ?_
    simp only [Act.put, List.setIfInBounds_toArray, List.set_cons_zero, List.set_cons_succ]
    refine wpAnyH_take (i := 17) (oi := ⟨some 67, Op.move (Operand.tmp 14), 45, _, _, some (15, false)⟩) (v := vw) rfl (by kernel_rfl) (by kernel_rfl) (by kernel_rfl) (fun _ _ _ h => h) (Or.inl ⟨by rfl, fun w hS => by go_simp⟩) hHeld11_2 ?_
    simp only [Act.put, List.setIfInBounds_toArray, List.set_cons_zero, List.set_cons_succ]
    refine wpAnyH_ready (rs := [18]) (by kernel_rfl) (by simp) ?_
    refine AllReadyH.cons (o := ⟨some 68, Op.call { callee := Callee.value (Operand.func 24), args := #[Operand.tmp 66, Operand.tmp 67], argTypes := #[45, 45] }, 4, _, _, some (15, false)⟩) rfl (fun K hK => ?_) AllReadyH.nil
    rw [if_pos (by rfl)]
    refine wp_callF 24 #[.tmp 66, .tmp 67] #[45, 45] rfl Try.enter24 #[vy, vw] (by simp [Act.eval]) (fun v w' => v = .bool true ∧ Below w11_2.heap.size w11_2 w') ((HYW.out _ hB11_2).mono fun e w' h => ⟨_, h.1, rfl, h.2⟩) ?_
    rintro v w11_3 ⟨rfl, hb11_3⟩
    have hB11_3 := hB11_2.trans (hb11_3.mono hB11_2.size)
    refine hK.out _ _ (HS11.out _ hB11_3) fun hHeld11_3 => ?_
    clear hK
    simp only [Act.put, List.setIfInBounds_toArray, List.set_cons_zero, List.set_cons_succ]
    refine wpAnyH_take (i := 19) (oi := ⟨some 69, Op.unOp UnOp.not 4 (Operand.tmp 68), 4, _, _, some (15, false)⟩) (v := .bool false) rfl (by kernel_rfl) (by kernel_rfl) (by kernel_rfl) (fun _ _ _ h => h) (Or.inl ⟨by rfl, fun w hS => by go_simp⟩) hHeld11_3 ?_
    simp only [Act.put, List.setIfInBounds_toArray, List.set_cons_zero, List.set_cons_succ]
    refine wpAnyH_take (i := 20) (oi := ⟨some 70, Op.pick (Operand.tmp 65) (Operand.const (Value.bool true)) (Operand.tmp 69), 4, _, _, none⟩) (v := .bool false) rfl (by kernel_rfl) (by kernel_rfl) (by kernel_rfl) (fun _ _ _ h => h) (Or.inl ⟨by rfl, fun w hS => by go_simp⟩) hHeld11_3 ?_
    simp only [Act.put, List.setIfInBounds_toArray, List.set_cons_zero, List.set_cons_succ]
    refine wpAnyH_done (by kernel_rfl) ?_ _
    have hbc12 : Below wc.heap.size wc w11_3 := hbc11.trans (hB11_3.mono hbc11.size)
    have HOX12 : Keep (w11_3.ownsRow wc.heap.size 23 32 vx X.length (flatH X)) := ⟨ownsH_below HOX11.out hB11_3⟩
    have HOY12 : Keep (w11_3.ownsRow w9.heap.size 23 32 vy X.length (flatH X)) := ⟨ownsH_below HOY11.out hB11_3⟩
    have HOW12 : Keep (w11_3.ownsRow w10.heap.size 23 32 vw X.length (flatH X)) := ⟨ownsH_below HOW11.out hB11_3⟩
    clear HS11 HRO HXW HYW HOX11 HOY11 HOW11
    obtain ⟨px, cx, hvx⟩ := (HRow.of_owns HOX12.out).form
    obtain ⟨kx, hkx⟩ : ∃ kx, Keep (X.length = kx) := ⟨_, ⟨rfl⟩⟩
    rw [hkx.out] at hvx hlx'
    have HVX : Keep (vx = .slice px kx cx) := ⟨hvx⟩
    rw [HVX.out]
    clear hvx
    obtain ⟨w12, hw12⟩ : ∃ w12, Keep (w11_3 = w12) := ⟨_, ⟨rfl⟩⟩
    rw [hw12.out] at hbc12 HOX12 HOY12 HOW12 ⊢
    go_wp2_with fail
    go_loopw [15] (fun i wr => ∃ (t : Nat) (X' : List Hs), t ≤ kx ∧ i = .int .i64 (t : Int) ∧ X'.length = kx ∧ wr.ownsRow wc.heap.size 23 32 (.slice px kx cx) X'.length (flatH X') ∧ Grown w12 wr (fun k => (Value.slice px kx cx).ownBlock = some k)) (fun i _ => kx - (intOf i).toNat)
    case atStart => exact ⟨0, X, by omega, rfl, hkx.out, by rw [← HVX.out]; exact HOX12.out, Grown.refl _ _⟩
    case round =>
      obtain ⟨t, X', ht, rfl, hX', hown, hG⟩ := hrel
      by_cases hlt : t < kx
      · have HO : Keep (wr.ownsRow wc.heap.size 23 32 (.slice px kx cx) X'.length (flatH X')) := ⟨hown⟩
        have HG : Keep (Grown w12 wr (fun k => (Value.slice px kx cx).ownBlock = some k)) := ⟨hG⟩
        have HX' : Keep (X'.length = kx) := ⟨hX'⟩
        obtain ⟨gx, cx', e1, _, _, _⟩ := ownsH_form hown (by omega)
        injection e1 with e1 e2 e3
        subst e1
        clear hown hG e2 e3 hX'
        have f1 : (t : Int) < (kx : Int) := by omega
        obtain ⟨z, hz⟩ : ∃ z : Int, (t : Int) % 256 = z := ⟨_, rfl⟩
        have hz0 : 0 ≤ z ∧ z < 256 := by omega
        obtain ⟨hh, hhh⟩ : ∃ hh : Hs, Keep (hh = h2H z hz0) := ⟨_, ⟨rfl⟩⟩
        have hbz := Try.bld5 z
        have hza : (bytesA 32 fun i => if i = 0 then z else if i = 5 then 85 else 0) = (encH hh).toArray := by rw [hhh.out]; exact mkH_arr _ _
        rw [hza] at hbz
        obtain ⟨CB, hCB⟩ : ∃ CB, Keep (encH hh = CB) := ⟨_, ⟨rfl⟩⟩
        rw [hCB.out] at hbz
        clear hza hhh
        go_wp2_with (first | (refine wpList_bldL rfl 23 #[(0, .tmp 80), (5, .const (.int .u8 85))] rfl [(0, .int .u8 z), (5, .int .u8 85)] (by simp [Act.eval, hz]) CB.toArray hbz ?_) | (refine wpList_storeO rfl (.tmp 82) (.tmp 81) rfl wc.heap.size gx t kx cx hh X' rfl (by rw [hCB.out]; rfl) HO.out (by rw [HX'.out]; exact hlt) ?_; intro w13 hown13 hgr13))
        refine ⟨⟨t + 1, X'.set t hh, by omega, by go_num, by rw [List.length_set]; exact HX'.out, hown13, HG.out.step hgr13 (fun k e => .inl e)⟩, ?_⟩
        simp only [intOf]
        omega
      · obtain rfl : t = kx := by omega
        have f1 : ¬ ((t : Int) < (t : Int)) := by omega
        obtain ⟨h3, hh3⟩ : ∃ h3 : Hs, Keep (h3 = Hs.mk' _ hr3) := ⟨_, ⟨rfl⟩⟩
        have hb3 := Try.bld3
        have hza : (bytesA 32 fun i => if i = 3 then (51 : Int) else 0) = (encH h3).toArray := by rw [hh3.out]; exact mkH_arr _ hr3
        rw [hza] at hb3
        have hbs3 := bs1H h3
        have HON : Keep (∀ w : World, (w.alloc (.cells (encH h3).toArray 23)).rangeAt w.heap.size 0 (flatH [h3])) := ⟨one_range h3⟩
        generalize encH h3 = C3 at *
        clear hza hh3
        have HV : Keep (∀ k, (Value.slice px t cx).ownBlock = some k → wc.heap.size ≤ k ∧ k < w9.heap.size) := ⟨fun k hk => by
          have ho := HOX.out
          rw [HVX.out] at ho
          refine ⟨ownsH_block ho k hk, ?_⟩
          rcases ho.2 with ⟨e, _⟩ | ⟨g, cap, cur, e, _, h2, _⟩
          · rw [e] at hk; simp [Value.ownBlock] at hk
          · rw [e] at hk; simp only [Value.ownBlock, Option.some.injEq] at hk
            subst hk
            exact (Array.getElem?_eq_some_iff.1 h2).1⟩
        obtain ⟨S, hS⟩ : ∃ S : Nat → Prop, Keep (S = fun k => (Value.slice px t cx).ownBlock = some k) := ⟨_, ⟨rfl⟩⟩
        rw [← hS.out] at hG
        have HSv : Keep (∀ k, S k → wc.heap.size ≤ k ∧ k < w9.heap.size) := ⟨fun k hk => HV.out k (by rw [hS.out] at hk; exact hk)⟩
        have HST0 : Keep (∃ X'' : List Hs, X''.length ≤ t + 0 ∧ wr.ownsRow wc.heap.size 23 32 (.slice px t cx) X''.length (flatH X'') ∧ Grown w12 wr S ∧ ∀ k, (Value.slice px t cx).ownBlock = some k → S k ∨ w12.heap.size ≤ k) := ⟨X', by omega, hown, hG, fun k hk => .inl (by rw [hS.out]; exact hk)⟩
        have hwcs : wc.heap.size ≤ w12.heap.size := hbc12.size
        clear hown hG HV
        go_wp2_with fail
        go_loopw [12, 16] (fun vxx i wr => ∃ (s : Nat), s ≤ 20 ∧ i = .int .i64 (s : Int) ∧ ∃ X'' : List Hs, X''.length ≤ t + s ∧ wr.ownsRow wc.heap.size 23 32 vxx X''.length (flatH X'') ∧ Grown w12 wr S ∧ ∀ k, vxx.ownBlock = some k → S k ∨ w12.heap.size ≤ k) (fun _ i _ => 20 - (intOf i).toNat)
        case atStart => exact ⟨0, by omega, rfl, HST0.out⟩
        case round =>
          obtain ⟨s, hs, rfl, X2, hX2, hown, hG, hob⟩ := hrel
          by_cases hls : s < 20
          · have f2 : (s : Int) < 20 := by omega
            have hwr := hG.size
            have HO : Keep ((wr.alloc (.cells C3.toArray 23)).ownsRow wc.heap.size 23 32 u12 X2.length (flatH X2)) := ⟨World.ownsRow.alloc hown _⟩
            have HR1 : Keep ((wr.alloc (.cells C3.toArray 23)).rangeAt wr.heap.size 0 (flatH [h3])) := ⟨HON.out wr⟩
            have hz : wc.heap.size ≤ (wr.alloc (.cells C3.toArray 23)).heap.size := by simp; omega
            have HG : Keep (Grown w12 (wr.alloc (.cells C3.toArray 23)) S) := ⟨hG.allocS _⟩
            have HBD : Keep (X2.length + [h3].length ≤ 4398046511104) := ⟨by simp only [List.length_cons, List.length_nil]; omega⟩
            have HOB : Keep (∀ k, u12.ownBlock = some k → S k ∨ w12.heap.size ≤ k) := ⟨hob⟩
            have HNEW : Keep (∀ v' : Value, (v'.ownBlock = u12.ownBlock ∨ v'.ownBlock = some (wr.alloc (.cells C3.toArray 23)).heap.size) → ∀ k, v'.ownBlock = some k → S k ∨ w12.heap.size ≤ k) := ⟨fun v' h1 k hk => by
              rcases h1 with h1 | h1
              · exact hob k (by rw [← h1]; exact hk)
              · rw [h1] at hk; injection hk with hk; subst hk; refine .inr ?_; simp; omega⟩
            clear hown hG hob
            go_wp2_with (first | (refine wpList_bldL rfl 23 #[(3, .const (.int .u8 51))] rfl [(3, .int .u8 51)] (by simp [Act.eval]) C3.toArray hb3 ?_; refine wpList_bs rfl 45 1 #[(0, .tmp 88)] rfl #[(0, .agg C3.toArray)] (by simp [Act.eval, Act.put]) _ _ (hbs3 _) ?_; refine wpList_appAt rfl (.tmp 87) (.tmp 89) rfl wc.heap.size u12 X2 [h3] wr.heap.size 0 1 rfl rfl HO.out HR1.out HBD.out hz ?_; intro v5 w5 hown5 hgr5 hat5))
            refine ⟨⟨s + 1, by omega, by go_num, X2 ++ [h3], by simp only [List.length_append, List.length_cons, List.length_nil]; omega, hown5, HG.out.step hgr5 HOB.out, HNEW.out v5 hat5⟩, ?_⟩
            simp only [intOf]
            omega
          · obtain rfl : s = 20 := by omega
            clear hown hob hX2 HST0
            go_wp2_with fail
            have hbcr : Below wc.heap.size wc wr := hG.to_below hbc12 (fun k hk h => by have := (HSv.out k h).1; omega) hwcs
            have hb2r : Below w2.heap.size w2 wr := hB2c.trans (hbcr.mono hB2c.size)
            have hyr : HRow wr vy X := (HRow.of_owns HOY12.out).grown hG (fun b o n c e h => by
              have h1 := (HSv.out b h).2
              have h2 := ownsH_block HOY12.out b (by rw [e]; rfl)
              omega)
            have hwr : HRow wr vw X := (HRow.of_owns HOW12.out).grown hG (fun b o n c e h => by
              have h1 := (HSv.out b h).2
              have h2 := ownsH_block HOW12.out b (by rw [e]; rfl)
              omega)
            have hcO : ∀ i, i < nb + 3 → wr.cell? ⟨go, i, none⟩ = (bv (lb ++ [161, 162, 163]))[i]? := fun i hi => by
              rw [hb2r.cell (p := ⟨go, i, none⟩) hgo2]; exact HOwn.out.cellAt i (by omega)
            have hc1 : wr.cell? ⟨go, nb, none⟩ = some (.int .u8 161) := by
              rw [hcO nb (by omega), bv_append, List.getElem?_append_right (by rw [bv_len, HNB.out]; exact Nat.le_refl _), bv_len, HNB.out, Nat.sub_self]; rfl
            have hc3 : wr.cell? ⟨go, nb + 2, none⟩ = some (.int .u8 163) := by
              rw [hcO (nb + 2) (by omega), bv_append, List.getElem?_append_right (by rw [bv_len, HNB.out]; omega), bv_len, HNB.out, show nb + 2 - nb = 2 by omega]; rfl
            have HS21 : Keep (∀ wx, Below wr.heap.size wr wx → wx.rangeAt gl (n * 32) CM ∧ wx.rangeAt gl ((n + 1) * 32) CM ∧ wx.rangeAt pm 0 CM ∧ wx.cell? ⟨go, nb, none⟩ = some (.int .u8 161) ∧ wx.cell? ⟨go, nb + 2, none⟩ = some (.int .u8 163)) := ⟨fun wx hx => by
              have h := HRM.out wx (hbcr.trans (hx.mono hbcr.size))
              have hg := cell_lt hc1
              exact ⟨h.1, h.2, blk_rangeL (hPmc.below (hbcr.trans (hx.mono hbcr.size)) hPmc.lt), by rw [hx.cell (p := ⟨go, nb, none⟩) hg]; exact hc1, by rw [hx.cell (p := ⟨go, nb + 2, none⟩) hg]; exact hc3⟩⟩
            have HYW : Keep (∀ wx, Below wr.heap.size wr wx → Calls Try.prog 24 #[vy, vw] wx fun e w' => e = .returned (.bool true) ∧ Below wx.heap.size wx w') := ⟨fun wx hx => by
              refine (same_any vy vw X X wx (hyr.below hx) (hwr.below hx) (by rw [hkx.out]; omega)).mono fun e w' h => ⟨by rw [h.1]; simp, ?_⟩
              obtain ⟨q, hq⟩ := h.2
              rw [hq]; exact grown_below' _ _ _⟩
            have HHL : Keep (∀ wx, Below wr.heap.size wr wx → Calls Try.prog 24 #[.slice (some ⟨gl, 0, none⟩) n cll, .slice pl n cl] wx fun e w' => e = .returned (.bool true) ∧ Below wx.heap.size wx w') := ⟨fun wx hx => by
              have h := hbcr.trans (hx.mono hbcr.size)
              refine (same_any _ _ L L wx (HRH.out wx h) (HLr.out wx h) (by rw [HNL.out]; omega)).mono fun e w' h => ⟨by rw [h.1]; simp, ?_⟩
              obtain ⟨q, hq⟩ := h.2
              rw [hq]; exact grown_below' _ _ _⟩
            have hneqM : ∀ w, (binOp .neq 23 (.agg CM.toArray) (.agg CM.toArray)).run Try.prog w = .ok (.bool false) w := fun w => by rw [← hCM.out, run_neqL]; simp
            have hD21 : Below wr.heap.size wr wr.drew := (Below.refl _ _).drew
            have HYr : Keep (HRow wr vy X) := ⟨hyr⟩
            have HWr : Keep (HRow wr vw X) := ⟨hwr⟩
            obtain ⟨n1, hn1⟩ : ∃ n1, Keep (n + 1 = n1) := ⟨_, ⟨rfl⟩⟩
            obtain ⟨nb2, hnb2⟩ : ∃ nb2, Keep (nb + 2 = nb2) := ⟨_, ⟨rfl⟩⟩
            rw [hn1.out, hnb2.out] at HS21
            have i1 : (n : Int) + 1 = (n1 : Int) := by have := hn1.out; omega
            have i2 : IntKind.i64.wrap (n1 : Int) = (n1 : Int) := by rw [IntKind.wrap_i64]; have := hn1.out; omega
            have i3 : (nb : Int) + 2 = (nb2 : Int) := by have := hnb2.out; omega
            have i4 : IntKind.i64.wrap (nb2 : Int) = (nb2 : Int) := by rw [IntKind.wrap_i64]; have := hnb2.out; omega
            have HOwnK := HOwn
            generalize hm2 : n + 2 = m2 at *
            generalize hmb : nb + 3 = mb at *
            have j1 : (n : Int) < (m2 : Int) := by omega
            have j2 : (n1 : Int) < (m2 : Int) := by have := hn1.out; omega
            have j3 : (nb : Int) < (mb : Int) := by omega
            have j4 : (nb2 : Int) < (mb : Int) := by have := hnb2.out; omega
            clear hc1 hc3 hcO hyr hwr
            refine wp_region_held_drew (S := fun w' => w'.rangeAt gl (n * 32) CM ∧ w'.rangeAt gl (n1 * 32) CM ∧ w'.rangeAt pm 0 CM ∧ w'.cell? ⟨go, nb, none⟩ = some (.int .u8 161) ∧ w'.cell? ⟨go, nb2, none⟩ = some (.int .u8 163)) (by kernel_rfl) (HS21.out _ hD21) (fun hHeld => ?_)
            refine wpAnyH_take (i := 0) (oi := ⟨some 91, Op.move (Operand.tmp 13), 45, _, _, none⟩) (v := vy) rfl (by kernel_rfl) (by kernel_rfl) (by kernel_rfl) (fun _ _ _ h => h) (Or.inl ⟨by rfl, fun w hS => by go_simp⟩) hHeld ?_
            simp only [Act.put, List.setIfInBounds_toArray, List.set_cons_zero, List.set_cons_succ]
            refine wpAnyH_take (i := 1) (oi := ⟨some 92, Op.move (Operand.tmp 14), 45, _, _, none⟩) (v := vw) rfl (by kernel_rfl) (by kernel_rfl) (by kernel_rfl) (fun _ _ _ h => h) (Or.inl ⟨by rfl, fun w hS => by go_simp⟩) hHeld ?_
            simp only [Act.put, List.setIfInBounds_toArray, List.set_cons_zero, List.set_cons_succ]
            refine wpAnyH_ready (rs := [2]) (by kernel_rfl) (by simp) ?_
            refine AllReadyH.cons (o := ⟨some 93, Op.call { callee := Callee.value (Operand.func 24), args := #[Operand.tmp 91, Operand.tmp 92], argTypes := #[45, 45] }, 4, _, _, none⟩) rfl (fun K hK => ?_) AllReadyH.nil
            rw [if_pos (by rfl)]
            refine wp_callF 24 #[.tmp 91, .tmp 92] #[45, 45] rfl Try.enter24 #[vy, vw] (by simp [Act.eval]) (fun v w' => v = .bool true ∧ Below wr.drew.heap.size wr.drew w') ((HYW.out _ hD21).mono fun e w' h => ⟨_, h.1, rfl, h.2⟩) ?_
            rintro v w21_1 ⟨rfl, hb21_1⟩
            have hB21_1 := hD21.trans (hb21_1.mono hD21.size)
            refine hK.out _ _ (HS21.out _ hB21_1) fun hHeld21_1 => ?_
            clear hK
            simp only [Act.put, List.setIfInBounds_toArray, List.set_cons_zero, List.set_cons_succ]
            refine wpAnyH_take (i := 3) (oi := ⟨some 94, Op.unOp UnOp.not 4 (Operand.tmp 93), 4, _, _, none⟩) (v := .bool false) rfl (by kernel_rfl) (by kernel_rfl) (by kernel_rfl) (fun _ _ _ h => h) (Or.inl ⟨by rfl, fun w hS => by go_simp⟩) hHeld21_1 ?_
            simp only [Act.put, List.setIfInBounds_toArray, List.set_cons_zero, List.set_cons_succ]
            refine wpAnyH_take (i := 4) (oi := ⟨some 95, Op.move (Operand.tmp 94), 4, _, _, none⟩) (v := .bool false) rfl (by kernel_rfl) (by kernel_rfl) (by kernel_rfl) (fun _ _ _ h => h) (Or.inl ⟨by rfl, fun w hS => by go_simp⟩) hHeld21_1 ?_
            simp only [Act.put, List.setIfInBounds_toArray, List.set_cons_zero, List.set_cons_succ]
            refine wpAnyH_take (i := 5) (oi := ⟨some 96, Op.move (Operand.tmp 11), 45, _, _, some (4, false)⟩) (v := Value.slice (some ⟨gl, 0, none⟩) n cll) rfl (by kernel_rfl) (by kernel_rfl) (by kernel_rfl) (fun _ _ _ h => h) (Or.inl ⟨by rfl, fun w hS => by go_simp⟩) hHeld21_1 ?_
            simp only [Act.put, List.setIfInBounds_toArray, List.set_cons_zero, List.set_cons_succ]
            refine wpAnyH_take (i := 6) (oi := ⟨some 97, Op.move (Operand.tmp 1), 45, _, _, some (4, false)⟩) (v := Value.slice pl n cl) rfl (by kernel_rfl) (by kernel_rfl) (by kernel_rfl) (fun _ _ _ h => h) (Or.inl ⟨by rfl, fun w hS => by go_simp⟩) hHeld21_1 ?_
            simp only [Act.put, List.setIfInBounds_toArray, List.set_cons_zero, List.set_cons_succ]
            refine wpAnyH_ready (rs := [7]) (by kernel_rfl) (by simp) ?_
            refine AllReadyH.cons (o := ⟨some 98, Op.call { callee := Callee.value (Operand.func 24), args := #[Operand.tmp 96, Operand.tmp 97], argTypes := #[45, 45] }, 4, _, _, some (4, false)⟩) rfl (fun K hK => ?_) AllReadyH.nil
            rw [if_pos (by rfl)]
            refine wp_callF 24 #[.tmp 96, .tmp 97] #[45, 45] rfl Try.enter24 #[Value.slice (some ⟨gl, 0, none⟩) n cll, Value.slice pl n cl] (by simp [Act.eval]) (fun v w' => v = .bool true ∧ Below w21_1.heap.size w21_1 w') ((HHL.out _ hB21_1).mono fun e w' h => ⟨_, h.1, rfl, h.2⟩) ?_
            rintro v w21_2 ⟨rfl, hb21_2⟩
            have hB21_2 := hB21_1.trans (hb21_2.mono hB21_1.size)
            refine hK.out _ _ (HS21.out _ hB21_2) fun hHeld21_2 => ?_
            clear hK
            simp only [Act.put, List.setIfInBounds_toArray, List.set_cons_zero, List.set_cons_succ]
            refine wpAnyH_take (i := 8) (oi := ⟨some 99, Op.unOp UnOp.not 4 (Operand.tmp 98), 4, _, _, some (4, false)⟩) (v := .bool false) rfl (by kernel_rfl) (by kernel_rfl) (by kernel_rfl) (fun _ _ _ h => h) (Or.inl ⟨by rfl, fun w hS => by go_simp⟩) hHeld21_2 ?_
            simp only [Act.put, List.setIfInBounds_toArray, List.set_cons_zero, List.set_cons_succ]
            refine wpAnyH_take (i := 9) (oi := ⟨some 100, Op.pick (Operand.tmp 95) (Operand.const (Value.bool true)) (Operand.tmp 99), 4, _, _, none⟩) (v := .bool false) rfl (by kernel_rfl) (by kernel_rfl) (by kernel_rfl) (fun _ _ _ h => h) (Or.inl ⟨by rfl, fun w hS => by go_simp⟩) hHeld21_2 ?_
            simp only [Act.put, List.setIfInBounds_toArray, List.set_cons_zero, List.set_cons_succ]
            refine wpAnyH_take (i := 10) (oi := ⟨some 101, Op.move (Operand.tmp 100), 4, _, _, none⟩) (v := .bool false) rfl (by kernel_rfl) (by kernel_rfl) (by kernel_rfl) (fun _ _ _ h => h) (Or.inl ⟨by rfl, fun w hS => by go_simp⟩) hHeld21_2 ?_
            simp only [Act.put, List.setIfInBounds_toArray, List.set_cons_zero, List.set_cons_succ]
            refine wpAnyH_take (i := 11) (oi := ⟨some 102, Op.move (Operand.tmp 10), 45, _, _, some (10, false)⟩) (v := Value.slice (some ⟨gl, 0, none⟩) m2 cll) rfl (by kernel_rfl) (by kernel_rfl) (by kernel_rfl) (fun _ _ _ h => h) (Or.inl ⟨by rfl, fun w hS => by go_simp⟩) hHeld21_2 ?_
            simp only [Act.put, List.setIfInBounds_toArray, List.set_cons_zero, List.set_cons_succ]
            refine wpAnyH_take (i := 12) (oi := ⟨some 103, Op.move (Operand.tmp 1), 45, _, _, some (10, false)⟩) (v := Value.slice pl n cl) rfl (by kernel_rfl) (by kernel_rfl) (by kernel_rfl) (fun _ _ _ h => h) (Or.inl ⟨by rfl, fun w hS => by go_simp⟩) hHeld21_2 ?_
            simp only [Act.put, List.setIfInBounds_toArray, List.set_cons_zero, List.set_cons_succ]
            refine wpAnyH_take (i := 13) (oi := ⟨some 104, Op.call { callee := Callee.builtin Builtin.len, args := #[Operand.tmp 103], argTypes := #[45] }, 3, _, _, some (10, false)⟩) (v := .int .i64 (n : Int)) rfl (by kernel_rfl) (by kernel_rfl) (by kernel_rfl) (fun _ _ _ h => h) (Or.inl ⟨by rfl, fun w hS => by go_simp⟩) hHeld21_2 ?_
            simp only [Act.put, List.setIfInBounds_toArray, List.set_cons_zero, List.set_cons_succ]
            refine wpAnyH_take (i := 14) (oi := ⟨some 105, Op.indexAddr 45 (Operand.tmp 102) (Operand.tmp 104), 0, _, _, some (10, false)⟩) (v := .pointer (some ⟨gl, n * 32, none⟩)) rfl (by kernel_rfl) (by kernel_rfl) (by kernel_rfl) (fun _ _ _ h => h) (Or.inl ⟨by rfl, fun w hS => by go_simp⟩) hHeld21_2 ?_
            simp only [Act.put, List.setIfInBounds_toArray, List.set_cons_zero, List.set_cons_succ]
            refine wpAnyH_take (i := 15) (oi := ⟨some 106, Op.load 23 (Operand.tmp 105), 23, _, _, some (10, false)⟩) (v := .agg (CM).toArray) rfl (by kernel_rfl) (by kernel_rfl) (by kernel_rfl) (fun _ _ _ h => h) (yieldsIf_load_mid (by rfl) 23 (Operand.tmp 105) rfl gl (n * 32) rfl CM _ (fun w hS => hS.1) hu rfl hiM) hHeld21_2 ?_
            simp only [Act.put, List.setIfInBounds_toArray, List.set_cons_zero, List.set_cons_succ]
            refine wpAnyH_take (i := 16) (oi := ⟨some 107, Op.load 23 (Operand.tmp 9), 23, _, _, some (10, false)⟩) (v := .agg (CM).toArray) rfl (by kernel_rfl) (by kernel_rfl) (by kernel_rfl) (fun _ _ _ h => h) (yieldsIf_load_mid (by rfl) 23 (Operand.tmp 9) rfl pm 0 rfl CM _ (fun w hS => hS.2.2.1) hu rfl hiM) hHeld21_2 ?_
            simp only [Act.put, List.setIfInBounds_toArray, List.set_cons_zero, List.set_cons_succ]
            refine wpAnyH_take (i := 17) (oi := ⟨some 108, Op.binOp BinOp.neq 23 (Operand.tmp 106) (Operand.tmp 107) 23, 4, _, _, some (10, false)⟩) (v := .bool false) rfl (by kernel_rfl) (by kernel_rfl) (by kernel_rfl) (fun _ _ _ h => h) (Or.inl ⟨by rfl, fun w hS => by go_simp⟩) hHeld21_2 ?_
            simp only [Act.put, List.setIfInBounds_toArray, List.set_cons_zero, List.set_cons_succ]
            refine wpAnyH_take (i := 18) (oi := ⟨some 109, Op.pick (Operand.tmp 101) (Operand.const (Value.bool true)) (Operand.tmp 108), 4, _, _, none⟩) (v := .bool false) rfl (by kernel_rfl) (by kernel_rfl) (by kernel_rfl) (fun _ _ _ h => h) (Or.inl ⟨by rfl, fun w hS => by go_simp⟩) hHeld21_2 ?_
            simp only [Act.put, List.setIfInBounds_toArray, List.set_cons_zero, List.set_cons_succ]
            refine wpAnyH_take (i := 19) (oi := ⟨some 110, Op.move (Operand.tmp 109), 4, _, _, none⟩) (v := .bool false) rfl (by kernel_rfl) (by kernel_rfl) (by kernel_rfl) (fun _ _ _ h => h) (Or.inl ⟨by rfl, fun w hS => by go_simp⟩) hHeld21_2 ?_
            simp only [Act.put, List.setIfInBounds_toArray, List.set_cons_zero, List.set_cons_succ]
            refine wpAnyH_take (i := 20) (oi := ⟨some 111, Op.move (Operand.tmp 10), 45, _, _, some (19, false)⟩) (v := Value.slice (some ⟨gl, 0, none⟩) m2 cll) rfl (by kernel_rfl) (by kernel_rfl) (by kernel_rfl) (fun _ _ _ h => h) (Or.inl ⟨by rfl, fun w hS => by go_simp⟩) hHeld21_2 ?_
            simp only [Act.put, List.setIfInBounds_toArray, List.set_cons_zero, List.set_cons_succ]
            refine wpAnyH_take (i := 21) (oi := ⟨some 112, Op.move (Operand.tmp 1), 45, _, _, some (19, false)⟩) (v := Value.slice pl n cl) rfl (by kernel_rfl) (by kernel_rfl) (by kernel_rfl) (fun _ _ _ h => h) (Or.inl ⟨by rfl, fun w hS => by go_simp⟩) hHeld21_2 ?_
            simp only [Act.put, List.setIfInBounds_toArray, List.set_cons_zero, List.set_cons_succ]
            refine wpAnyH_take (i := 22) (oi := ⟨some 113, Op.call { callee := Callee.builtin Builtin.len, args := #[Operand.tmp 112], argTypes := #[45] }, 3, _, _, some (19, false)⟩) (v := .int .i64 (n : Int)) rfl (by kernel_rfl) (by kernel_rfl) (by kernel_rfl) (fun _ _ _ h => h) (Or.inl ⟨by rfl, fun w hS => by go_simp⟩) hHeld21_2 ?_
            simp only [Act.put, List.setIfInBounds_toArray, List.set_cons_zero, List.set_cons_succ]
            refine wpAnyH_take (i := 23) (oi := ⟨some 114, Op.binOp BinOp.add 3 (Operand.tmp 113) (Operand.const (Value.int IntKind.i64 1)) 3, 3, _, _, some (19, false)⟩) (v := .int .i64 (n1 : Int)) rfl (by kernel_rfl) (by kernel_rfl) (by kernel_rfl) (fun _ _ _ h => h) (Or.inl ⟨by rfl, fun w hS => by go_simp⟩) hHeld21_2 ?_
            simp only [Act.put, List.setIfInBounds_toArray, List.set_cons_zero, List.set_cons_succ]
            refine wpAnyH_take (i := 24) (oi := ⟨some 115, Op.indexAddr 45 (Operand.tmp 111) (Operand.tmp 114), 0, _, _, some (19, false)⟩) (v := .pointer (some ⟨gl, n1 * 32, none⟩)) rfl (by kernel_rfl) (by kernel_rfl) (by kernel_rfl) (fun _ _ _ h => h) (Or.inl ⟨by rfl, fun w hS => by go_simp⟩) hHeld21_2 ?_
            simp only [Act.put, List.setIfInBounds_toArray, List.set_cons_zero, List.set_cons_succ]
            refine wpAnyH_take (i := 25) (oi := ⟨some 116, Op.load 23 (Operand.tmp 115), 23, _, _, some (19, false)⟩) (v := .agg (CM).toArray) rfl (by kernel_rfl) (by kernel_rfl) (by kernel_rfl) (fun _ _ _ h => h) (yieldsIf_load_mid (by rfl) 23 (Operand.tmp 115) rfl gl (n1 * 32) rfl CM _ (fun w hS => hS.2.1) hu rfl hiM) hHeld21_2 ?_
            simp only [Act.put, List.setIfInBounds_toArray, List.set_cons_zero, List.set_cons_succ]
            refine wpAnyH_take (i := 26) (oi := ⟨some 117, Op.load 23 (Operand.tmp 9), 23, _, _, some (19, false)⟩) (v := .agg (CM).toArray) rfl (by kernel_rfl) (by kernel_rfl) (by kernel_rfl) (fun _ _ _ h => h) (yieldsIf_load_mid (by rfl) 23 (Operand.tmp 9) rfl pm 0 rfl CM _ (fun w hS => hS.2.2.1) hu rfl hiM) hHeld21_2 ?_
            simp only [Act.put, List.setIfInBounds_toArray, List.set_cons_zero, List.set_cons_succ]
            refine wpAnyH_take (i := 27) (oi := ⟨some 118, Op.binOp BinOp.neq 23 (Operand.tmp 116) (Operand.tmp 117) 23, 4, _, _, some (19, false)⟩) (v := .bool false) rfl (by kernel_rfl) (by kernel_rfl) (by kernel_rfl) (fun _ _ _ h => h) (Or.inl ⟨by rfl, fun w hS => by go_simp⟩) hHeld21_2 ?_
            simp only [Act.put, List.setIfInBounds_toArray, List.set_cons_zero, List.set_cons_succ]
            refine wpAnyH_take (i := 28) (oi := ⟨some 119, Op.pick (Operand.tmp 110) (Operand.const (Value.bool true)) (Operand.tmp 118), 4, _, _, none⟩) (v := .bool false) rfl (by kernel_rfl) (by kernel_rfl) (by kernel_rfl) (fun _ _ _ h => h) (Or.inl ⟨by rfl, fun w hS => by go_simp⟩) hHeld21_2 ?_
            simp only [Act.put, List.setIfInBounds_toArray, List.set_cons_zero, List.set_cons_succ]
            refine wpAnyH_take (i := 29) (oi := ⟨some 120, Op.move (Operand.tmp 119), 4, _, _, none⟩) (v := .bool false) rfl (by kernel_rfl) (by kernel_rfl) (by kernel_rfl) (fun _ _ _ h => h) (Or.inl ⟨by rfl, fun w hS => by go_simp⟩) hHeld21_2 ?_
            simp only [Act.put, List.setIfInBounds_toArray, List.set_cons_zero, List.set_cons_succ]
            refine wpAnyH_take (i := 30) (oi := ⟨some 121, Op.move (Operand.tmp 5), 28, _, _, some (29, false)⟩) (v := Value.slice (some ⟨go, 0, none⟩) mb co) rfl (by kernel_rfl) (by kernel_rfl) (by kernel_rfl) (fun _ _ _ h => h) (Or.inl ⟨by rfl, fun w hS => by go_simp⟩) hHeld21_2 ?_
            simp only [Act.put, List.setIfInBounds_toArray, List.set_cons_zero, List.set_cons_succ]
            refine wpAnyH_take (i := 31) (oi := ⟨some 122, Op.move (Operand.tmp 0), 28, _, _, some (29, false)⟩) (v := Value.slice pb nb cb) rfl (by kernel_rfl) (by kernel_rfl) (by kernel_rfl) (fun _ _ _ h => h) (Or.inl ⟨by rfl, fun w hS => by go_simp⟩) hHeld21_2 ?_
            simp only [Act.put, List.setIfInBounds_toArray, List.set_cons_zero, List.set_cons_succ]
            refine wpAnyH_take (i := 32) (oi := ⟨some 123, Op.call { callee := Callee.builtin Builtin.len, args := #[Operand.tmp 122], argTypes := #[28] }, 3, _, _, some (29, false)⟩) (v := .int .i64 (nb : Int)) rfl (by kernel_rfl) (by kernel_rfl) (by kernel_rfl) (fun _ _ _ h => h) (Or.inl ⟨by rfl, fun w hS => by go_simp⟩) hHeld21_2 ?_
            simp only [Act.put, List.setIfInBounds_toArray, List.set_cons_zero, List.set_cons_succ]
            refine wpAnyH_take (i := 33) (oi := ⟨some 124, Op.indexAddr 28 (Operand.tmp 121) (Operand.tmp 123), 0, _, _, some (29, false)⟩) (v := .pointer (some ⟨go, nb, none⟩)) rfl (by kernel_rfl) (by kernel_rfl) (by kernel_rfl) (fun _ _ _ h => h) (Or.inl ⟨by rfl, fun w hS => by go_simp⟩) hHeld21_2 ?_
            simp only [Act.put, List.setIfInBounds_toArray, List.set_cons_zero, List.set_cons_succ]
            refine wpAnyH_take (i := 34) (oi := ⟨some 125, Op.load 5 (Operand.tmp 124), 5, _, _, some (29, false)⟩) (v := .int .u8 161) rfl (by kernel_rfl) (by kernel_rfl) (by kernel_rfl) (fun _ _ _ h => h) (Or.inl ⟨by rfl, fun w hS => by obtain ⟨_, _, _, hx4, hx5⟩ := hS; go_simp⟩) hHeld21_2 ?_
            simp only [Act.put, List.setIfInBounds_toArray, List.set_cons_zero, List.set_cons_succ]
            refine wpAnyH_take (i := 35) (oi := ⟨some 126, Op.binOp BinOp.neq 5 (Operand.tmp 125) (Operand.const (Value.int IntKind.u8 161)) 5, 4, _, _, some (29, false)⟩) (v := .bool false) rfl (by kernel_rfl) (by kernel_rfl) (by kernel_rfl) (fun _ _ _ h => h) (Or.inl ⟨by rfl, fun w hS => by go_simp⟩) hHeld21_2 ?_
            simp only [Act.put, List.setIfInBounds_toArray, List.set_cons_zero, List.set_cons_succ]
            refine wpAnyH_take (i := 36) (oi := ⟨some 127, Op.pick (Operand.tmp 120) (Operand.const (Value.bool true)) (Operand.tmp 126), 4, _, _, none⟩) (v := .bool false) rfl (by kernel_rfl) (by kernel_rfl) (by kernel_rfl) (fun _ _ _ h => h) (Or.inl ⟨by rfl, fun w hS => by go_simp⟩) hHeld21_2 ?_
            simp only [Act.put, List.setIfInBounds_toArray, List.set_cons_zero, List.set_cons_succ]
            refine wpAnyH_take (i := 37) (oi := ⟨some 128, Op.move (Operand.tmp 127), 4, _, _, none⟩) (v := .bool false) rfl (by kernel_rfl) (by kernel_rfl) (by kernel_rfl) (fun _ _ _ h => h) (Or.inl ⟨by rfl, fun w hS => by go_simp⟩) hHeld21_2 ?_
            simp only [Act.put, List.setIfInBounds_toArray, List.set_cons_zero, List.set_cons_succ]
            refine wpAnyH_take (i := 38) (oi := ⟨some 129, Op.move (Operand.tmp 5), 28, _, _, some (37, false)⟩) (v := Value.slice (some ⟨go, 0, none⟩) mb co) rfl (by kernel_rfl) (by kernel_rfl) (by kernel_rfl) (fun _ _ _ h => h) (Or.inl ⟨by rfl, fun w hS => by go_simp⟩) hHeld21_2 ?_
            simp only [Act.put, List.setIfInBounds_toArray, List.set_cons_zero, List.set_cons_succ]
            refine wpAnyH_take (i := 39) (oi := ⟨some 130, Op.move (Operand.tmp 0), 28, _, _, some (37, false)⟩) (v := Value.slice pb nb cb) rfl (by kernel_rfl) (by kernel_rfl) (by kernel_rfl) (fun _ _ _ h => h) (Or.inl ⟨by rfl, fun w hS => by go_simp⟩) hHeld21_2 ?_
            simp only [Act.put, List.setIfInBounds_toArray, List.set_cons_zero, List.set_cons_succ]
            refine wpAnyH_take (i := 40) (oi := ⟨some 131, Op.call { callee := Callee.builtin Builtin.len, args := #[Operand.tmp 130], argTypes := #[28] }, 3, _, _, some (37, false)⟩) (v := .int .i64 (nb : Int)) rfl (by kernel_rfl) (by kernel_rfl) (by kernel_rfl) (fun _ _ _ h => h) (Or.inl ⟨by rfl, fun w hS => by go_simp⟩) hHeld21_2 ?_
            simp only [Act.put, List.setIfInBounds_toArray, List.set_cons_zero, List.set_cons_succ]
            refine wpAnyH_take (i := 41) (oi := ⟨some 132, Op.binOp BinOp.add 3 (Operand.tmp 131) (Operand.const (Value.int IntKind.i64 2)) 3, 3, _, _, some (37, false)⟩) (v := .int .i64 (nb2 : Int)) rfl (by kernel_rfl) (by kernel_rfl) (by kernel_rfl) (fun _ _ _ h => h) (Or.inl ⟨by rfl, fun w hS => by go_simp⟩) hHeld21_2 ?_
            simp only [Act.put, List.setIfInBounds_toArray, List.set_cons_zero, List.set_cons_succ]
            refine wpAnyH_take (i := 42) (oi := ⟨some 133, Op.indexAddr 28 (Operand.tmp 129) (Operand.tmp 132), 0, _, _, some (37, false)⟩) (v := .pointer (some ⟨go, nb2, none⟩)) rfl (by kernel_rfl) (by kernel_rfl) (by kernel_rfl) (fun _ _ _ h => h) (Or.inl ⟨by rfl, fun w hS => by go_simp⟩) hHeld21_2 ?_
            simp only [Act.put, List.setIfInBounds_toArray, List.set_cons_zero, List.set_cons_succ]
            refine wpAnyH_take (i := 43) (oi := ⟨some 134, Op.load 5 (Operand.tmp 133), 5, _, _, some (37, false)⟩) (v := .int .u8 163) rfl (by kernel_rfl) (by kernel_rfl) (by kernel_rfl) (fun _ _ _ h => h) (Or.inl ⟨by rfl, fun w hS => by obtain ⟨_, _, _, hx4, hx5⟩ := hS; go_simp⟩) hHeld21_2 ?_
            simp only [Act.put, List.setIfInBounds_toArray, List.set_cons_zero, List.set_cons_succ]
            refine wpAnyH_take (i := 44) (oi := ⟨some 135, Op.binOp BinOp.neq 5 (Operand.tmp 134) (Operand.const (Value.int IntKind.u8 163)) 5, 4, _, _, some (37, false)⟩) (v := .bool false) rfl (by kernel_rfl) (by kernel_rfl) (by kernel_rfl) (fun _ _ _ h => h) (Or.inl ⟨by rfl, fun w hS => by go_simp⟩) hHeld21_2 ?_
            simp only [Act.put, List.setIfInBounds_toArray, List.set_cons_zero, List.set_cons_succ]
            refine wpAnyH_take (i := 45) (oi := ⟨some 136, Op.pick (Operand.tmp 128) (Operand.const (Value.bool true)) (Operand.tmp 135), 4, _, _, none⟩) (v := .bool false) rfl (by kernel_rfl) (by kernel_rfl) (by kernel_rfl) (fun _ _ _ h => h) (Or.inl ⟨by rfl, fun w hS => by go_simp⟩) hHeld21_2 ?_
            simp only [Act.put, List.setIfInBounds_toArray, List.set_cons_zero, List.set_cons_succ]
            refine wpAnyH_done (by kernel_rfl) ?_ _
            have hbc14 : Below wc.heap.size wc w21_2 := hbcr.trans (hB21_2.mono hbcr.size)
            have hb214 : Below w2.heap.size w2 w21_2 := hb2r.trans (hB21_2.mono hb2r.size)
            have HY14 : Keep (HRow w21_2 vy X) := ⟨HYr.out.below hB21_2⟩
            have HW14 : Keep (HRow w21_2 vw X) := ⟨HWr.out.below hB21_2⟩
            clear HS21 HYW HHL HYr HWr hneqM hB21_2 hD21
            generalize w21_2 = w14 at *
            go_wp2_with fail
            refine (sort_any _ L w14 (HRH.out w14 hbc14) hnle).mono ?_
            rintro e w15 ⟨vz, Z, rfl, hoz, hpz, hmz, hlz, hb15⟩
            obtain rfl : X = Z := rising_unique X Z HPX.out hpz fun x => by rw [HMX.out, hmz]
            have hrz := HRow.of_owns hoz
            have hbc15 : Below wc.heap.size wc w15 := hbc14.trans (hb15.mono hbc14.size)
            have hb215 : Below w2.heap.size w2 w15 := hb214.trans (hb15.mono hb214.size)
            have HSW : Keep (Calls Try.prog 24 #[vz, vw] w15 fun e w' => e = .returned (.bool true) ∧ ∃ q, w' = w15.drewN q) := ⟨(same_any vz vw X X w15 hrz (HW14.out.below hb15) (by rw [hkx.out]; omega)).mono fun e w' h => ⟨by rw [h.1]; simp, h.2⟩⟩
            have hin15 : RowAt w15 (.slice (some ⟨go, 0, none⟩) nb co) lb := HRow2.out.below hb215
            have hcv1 := conv_row _ lb w15 hin15
            have hcv2 := conv_row _ lb w15 (HB.out w15 (HB2.out.trans (hb215.mono HB2.out.size)))
            generalize strOfNums lb = SB at *
            have HZ15 : Keep (HRow w15 vz X) := ⟨hrz⟩
            have HOZ15 : Keep (w15.ownsRow w14.heap.size 23 32 vz X.length (flatH X)) := ⟨hoz⟩
            have HY15 : Keep (HRow w15 vy X) := ⟨HY14.out.below hb15⟩
            have HW15 : Keep (HRow w15 vw X) := ⟨HW14.out.below hb15⟩
            clear hoz hrz hpz hmz hlz hin15
            go_wp2_with fail
            refine HSW.out.mono ?_
            rintro e w16' ⟨rfl, q, hq16⟩
            have hb16 : Below w15.heap.size w15 w16' := by rw [hq16]; exact grown_below' _ _ _
            clear hcv1 hcv2 HSW hq16
            have hBI : BytesIn w16' go nb := by
              rcases HOwn.out.2 with ⟨e, _⟩ | ⟨g, cap, cur, e, _, h2, h3, _, h4, h5⟩
              · cases e
              · injection e with e
                injection e with e
                injection e with e
                subst e
                have hb2 : Blk w2 go 5 cur := h2
                refine ⟨cur, hb2.below (hb215.trans (hb16.mono hb215.size)) hgo2, fun i hi => ?_⟩
                have h6 : (bv (lb ++ [161, 162, 163]))[i]? = some (.int .u8 ((lb ++ [161, 162, 163]).getD i 0)) := bv_get _ i (by rw [List.length_append, HNB.out]; omega)
                rw [← h5, List.getElem?_take, if_pos (by omega), Array.getElem?_toList] at h6
                exact ⟨_, h6⟩
            have hHI : HashesIn w16' gl n := by
              rcases HOL.out.2 with ⟨e, _⟩ | ⟨g, cap, cur, e, _, h2, h3, _, h4, h5⟩
              · cases e
              · injection e with e
                injection e with e
                injection e with e
                subst e
                have hbl2 : Blk wc gl 23 cur := h2
                refine ⟨cur, hbl2.below (hbc15.trans (hb16.mono hbc15.size)) hglt, fun i hi => ⟨(L ++ [mk, mk])[i]'(by rw [HL2.out]; omega), fun j hj => ?_⟩⟩
                have h6 := flatH_get (L ++ [mk, mk]) i (by rw [HL2.out]; omega) j hj
                rw [encH_get _ _ hj, ← h5, List.getElem?_take, if_pos (by omega), Array.getElem?_toList] at h6
                exact h6
            have hY16 : HRow w16' vy X := HY15.out.below hb16
            have hW16 : HRow w16' vw X := HW15.out.below hb16
            have hZ16 : HRow w16' vz X := HZ15.out.below hb16
            have hbc16 : Below wc.heap.size wc w16' := hbc15.trans (hb16.mono hbc15.size)
            have HK16 : Keep (BytesIn w16' go nb ∧ HashesIn w16' gl n ∧ HRow w16' vy X ∧ HRow w16' vw X ∧ HRow w16' vz X ∧ Below wc.heap.size wc w16') := ⟨hBI, hHI, hY16, hW16, hZ16, hbc16⟩
            clear hBI hHI hY16 hW16 hZ16
            have hgoc : go < wc.heap.size := by have := hB2c.size; omega
            have hgogl : go ≠ gl := HGG.out
            go_wp2_with fail
            go_loopw [18] (fun i wr => ∃ u : Nat, u ≤ nb ∧ i = .int .i64 (u : Int) ∧ BytesIn wr go nb ∧ Grown w16' wr (fun k => k = go)) (fun i _ => nb - (intOf i).toNat)
            case atStart => exact ⟨0, by omega, rfl, HK16.out.1, Grown.refl _ _⟩
            case round =>
              obtain ⟨u, hu', rfl, hbi, hgr⟩ := hrel
              by_cases hlu : u < nb
              · obtain ⟨z, hcz, hfz⟩ := hbi.at hlu
                have f3 : (u : Int) < (nb : Int) := by omega
                have HBI : Keep (BytesIn wr go nb) := ⟨hbi⟩
                have HGR : Keep (Grown w16' wr (fun k => k = go)) := ⟨hgr⟩
                clear hbi hgr
                go_wp2
                refine ⟨⟨u + 1, by omega, by go_num, HBI.out.set _, HGR.out.step (grownBy_setCell _ _ _ _) (fun k e => .inl (by injection e with e; exact e.symm))⟩, ?_⟩
                simp only [intOf]
                omega
              · obtain rfl : u = nb := by omega
                have f3 : ¬ ((u : Int) < (u : Int)) := by omega
                obtain ⟨l2, hl2, hrow2⟩ := hbi.row (c := co) HCO.out
                have HI17 : Keep (HashesIn wr gl n) := ⟨HK16.out.2.1.grown hgr (fun e => hgogl e.symm)⟩
                have HIN : Keep (RowAt wr (.slice (some ⟨go, 0, none⟩) u co) l2) := ⟨hrow2⟩
                have HLN : Keep (l2.length = u) := ⟨hl2⟩
                have ny : ∀ b o n c, vy = .slice (some ⟨b, o, none⟩) n c → ¬ b = go ∧ ¬ b = gl := fun b o n c e => by
                  have h2 := ownsH_block HOY12.out b (by rw [e]; rfl)
                  omega
                have nw : ∀ b o n c, vw = .slice (some ⟨b, o, none⟩) n c → ¬ b = go ∧ ¬ b = gl := fun b o n c e => by
                  have h2 := ownsH_block HOW12.out b (by rw [e]; rfl)
                  omega
                have nz : ∀ b o n c, vz = .slice (some ⟨b, o, none⟩) n c → ¬ b = go ∧ ¬ b = gl := fun b o n c e => by
                  have h2 := ownsH_block HOZ15.out b (by rw [e]; rfl)
                  have h3 := hbc14.size
                  omega
                have HN : Keep ((∀ b o n c, vy = .slice (some ⟨b, o, none⟩) n c → ¬ b = go ∧ ¬ b = gl) ∧ (∀ b o n c, vw = .slice (some ⟨b, o, none⟩) n c → ¬ b = go ∧ ¬ b = gl) ∧ (∀ b o n c, vz = .slice (some ⟨b, o, none⟩) n c → ¬ b = go ∧ ¬ b = gl)) := ⟨ny, nw, nz⟩
                have HR17 : Keep (HRow wr vy X ∧ HRow wr vw X ∧ HRow wr vz X) := ⟨HK16.out.2.2.1.grown hgr (fun b o n c e => (ny b o n c e).1), HK16.out.2.2.2.1.grown hgr (fun b o n c e => (nw b o n c e).1), HK16.out.2.2.2.2.1.grown hgr (fun b o n c e => (nz b o n c e).1)⟩
                have hbw16 : Below w.heap.size w w16' := hB0c.trans (hbc16.mono hB0c.size)
                have HBW : Keep (Below w.heap.size w wr) := ⟨hgr.to_below hbw16 (fun k hk e => by have := HCL0.out; omega) hbw16.size⟩
                clear ny nw nz hbi hgr hrow2 hl2 hbw16
                go_wp2_with fail
                obtain ⟨w17, hw17⟩ : ∃ w17, Keep (wr = w17) := ⟨_, ⟨rfl⟩⟩
                rw [hw17.out] at HIN HR17 HBW HI17 ⊢
                go_loopw [19] (fun i wr => ∃ v : Nat, v ≤ n ∧ i = .int .i64 (v : Int) ∧ HashesIn wr gl n ∧ Grown w17 wr (fun k => k = gl)) (fun i _ => n - (intOf i).toNat)
                case atStart => exact ⟨0, by omega, rfl, HI17.out, Grown.refl _ _⟩
                case round =>
                  obtain ⟨v, hv', rfl, hhi, hgr⟩ := hrel
                  rename World => wq
                  by_cases hlv : v < n
                  · obtain ⟨za, hcv, hfv, hza⟩ := hhi.at hlv
                    have HHI : Keep (HashesIn wq gl n) := ⟨hhi⟩
                    have HGR : Keep (Grown w17 wq (fun k => k = gl)) := ⟨hgr⟩
                    have f4 : (v : Int) < (n : Int) := by omega
                    obtain ⟨m7, hm7⟩ : ∃ m7 : Int, IntKind.i64.wrap (7 * (v : Int)) = m7 := ⟨_, rfl⟩
                    obtain ⟨z7, hz7⟩ : ∃ z7 : Int, IntKind.u8.wrap m7 = z7 := ⟨_, rfl⟩
                    have hz70 : 0 ≤ z7 ∧ z7 < 256 := by rw [← hz7, IntKind.wrap_u8]; omega
                    obtain ⟨zx, hzx⟩ : ∃ zx : Int, bits .xor .u8 za z7 = zx := ⟨_, rfl⟩
                    have hzx0 : 0 ≤ zx ∧ zx < 256 := by rw [← hzx]; exact xor_rng za z7 hza hz70
                    have hfd : wq.drew.frozen? ⟨gl, v * 32, none⟩ = false := hfv
                    have hcd : wq.drew.cell? ⟨gl, v * 32, none⟩ = some (.int .u8 za) := hcv
                    have HNX : Keep (HashesIn (wq.drew.setCell ⟨gl, v * 32, none⟩ (.int .u8 zx)) gl n ∧ Grown w17 (wq.drew.setCell ⟨gl, v * 32, none⟩ (.int .u8 zx)) (fun k => k = gl)) := ⟨by
                      have h1 : HashesIn wq.drew gl n := HHI.out
                      exact h1.set hlv zx hzx0, by
                      have h1 : Grown w17 wq.drew (fun k => k = gl) := HGR.out.belowS ((Below.refl _ _).drew)
                      exact h1.step (grownBy_setCell _ _ _ _) (fun k e => .inl (by injection e with e; exact e.symm))⟩
                    clear hhi hgr
                    go_wp2
                    refine wp_region_held_drew (S := fun _ => True) (by kernel_rfl) trivial (fun hHeld => ?_)
                    refine wpAnyH_take (i := 0) (oi := ⟨some 168, Op.move (Operand.tmp 11), 45, _, _, none⟩) (v := Value.slice (some ⟨gl, 0, none⟩) n cll) rfl (by kernel_rfl) (by kernel_rfl) (by kernel_rfl) (fun _ _ _ h => h) (Or.inl ⟨by rfl, fun w hS => by go_simp⟩) hHeld ?_
                    simp only [Act.put, List.setIfInBounds_toArray, List.set_cons_zero, List.set_cons_succ]
                    refine wpAnyH_take (i := 1) (oi := ⟨some 169, Op.move (Operand.tmp 19), 3, _, _, none⟩) (v := .int .i64 (v : Int)) rfl (by kernel_rfl) (by kernel_rfl) (by kernel_rfl) (fun _ _ _ h => h) (Or.inl ⟨by rfl, fun w hS => by go_simp⟩) hHeld ?_
                    simp only [Act.put, List.setIfInBounds_toArray, List.set_cons_zero, List.set_cons_succ]
                    refine wpAnyH_take (i := 2) (oi := ⟨some 170, Op.indexAddr 45 (Operand.tmp 168) (Operand.tmp 169), 0, _, _, none⟩) (v := .pointer (some ⟨gl, v * 32, none⟩)) rfl (by kernel_rfl) (by kernel_rfl) (by kernel_rfl) (fun _ _ _ h => h) (Or.inl ⟨by rfl, fun w hS => by go_simp⟩) hHeld ?_
                    simp only [Act.put, List.setIfInBounds_toArray, List.set_cons_zero, List.set_cons_succ]
                    refine wpAnyH_take (i := 3) (oi := ⟨some 171, Op.indexAddr 23 (Operand.tmp 170) (Operand.const (Value.int IntKind.i64 0)), 0, _, _, none⟩) (v := .pointer (some ⟨gl, v * 32, none⟩)) rfl (by kernel_rfl) (by kernel_rfl) (by kernel_rfl) (fun _ _ _ h => h) (Or.inl ⟨by rfl, fun w hS => by go_simp⟩) hHeld ?_
                    simp only [Act.put, List.setIfInBounds_toArray, List.set_cons_zero, List.set_cons_succ]
                    refine wpAnyH_take (i := 5) (oi := ⟨some 173, Op.move (Operand.tmp 19), 3, _, _, none⟩) (v := .int .i64 (v : Int)) rfl (by kernel_rfl) (by kernel_rfl) (by kernel_rfl) (fun _ _ _ h => h) (Or.inl ⟨by rfl, fun w hS => by go_simp⟩) hHeld ?_
                    simp only [Act.put, List.setIfInBounds_toArray, List.set_cons_zero, List.set_cons_succ]
                    refine wpAnyH_take (i := 6) (oi := ⟨some 174, Op.binOp BinOp.mul 3 (Operand.const (Value.int IntKind.i64 7)) (Operand.tmp 173) 3, 3, _, _, none⟩) (v := .int .i64 m7) rfl (by kernel_rfl) (by kernel_rfl) (by kernel_rfl) (fun _ _ _ h => h) (Or.inl ⟨by rfl, fun w hS => by go_simp⟩) hHeld ?_
                    simp only [Act.put, List.setIfInBounds_toArray, List.set_cons_zero, List.set_cons_succ]
                    refine wpAnyH_take (i := 7) (oi := ⟨some 175, Op.convert 3 5 (Operand.tmp 174), 5, _, _, none⟩) (v := .int .u8 z7) rfl (by kernel_rfl) (by kernel_rfl) (by kernel_rfl) (fun _ _ _ h => h) (Or.inl ⟨by rfl, fun w hS => by go_simp⟩) hHeld ?_
                    simp only [Act.put, List.setIfInBounds_toArray, List.set_cons_zero, List.set_cons_succ]
                    refine wpAnyH_take (i := 9) (oi := ⟨some 177, Op.indexAddr 45 (Operand.tmp 168) (Operand.tmp 169), 0, _, _, none⟩) (v := .pointer (some ⟨gl, v * 32, none⟩)) rfl (by kernel_rfl) (by kernel_rfl) (by kernel_rfl) (fun _ _ _ h => h) (Or.inl ⟨by rfl, fun w hS => by go_simp⟩) hHeld ?_
                    simp only [Act.put, List.setIfInBounds_toArray, List.set_cons_zero, List.set_cons_succ]
                    refine wpAnyH_ready (rs := [4]) (by kernel_rfl) (by simp) ?_
                    refine AllReadyH.cons (o := ⟨some 172, Op.load 5 (Operand.tmp 171), 5, _, _, none⟩) rfl (fun K hK => ?_) AllReadyH.nil
                    rw [if_pos (by rfl)]
                    go_simp
                    refine hK.out _ _ trivial fun hHeld4 => ?_
                    clear hK
                    refine wpAnyH_take (i := 8) (oi := ⟨some 176, Op.binOp BinOp.xor 5 (Operand.tmp 172) (Operand.tmp 175) 5, 5, _, _, none⟩) (v := .int .u8 zx) rfl (by kernel_rfl) (by kernel_rfl) (by kernel_rfl) (fun _ _ _ h => h) (Or.inl ⟨by rfl, fun w hS => by go_simp⟩) hHeld4 ?_
                    simp only [Act.put, List.setIfInBounds_toArray, List.set_cons_zero, List.set_cons_succ]
                    refine wpAnyH_take (i := 10) (oi := ⟨some 178, Op.indexAddr 23 (Operand.tmp 177) (Operand.const (Value.int IntKind.i64 0)), 0, _, _, none⟩) (v := .pointer (some ⟨gl, v * 32, none⟩)) rfl (by kernel_rfl) (by kernel_rfl) (by kernel_rfl) (fun _ _ _ h => h) (Or.inl ⟨by rfl, fun w hS => by go_simp⟩) hHeld4 ?_
                    simp only [Act.put, List.setIfInBounds_toArray, List.set_cons_zero, List.set_cons_succ]
                    refine wpAnyH_ready (rs := [11]) (by kernel_rfl) (by simp) ?_
                    refine AllReadyH.cons (o := ⟨none, Op.store 5 (Operand.tmp 178) (Operand.tmp 176), 0, _, _, none⟩) rfl (fun K hK => ?_) AllReadyH.nil
                    rw [if_pos (by rfl)]
                    go_simp
                    refine hK.out _ _ trivial fun hHeld11 => ?_
                    clear hK
                    refine wpAnyH_done (by kernel_rfl) ?_ _
                    go_wp2
                    refine ⟨⟨v + 1, by omega, by go_num, HNX.out.1, HNX.out.2⟩, ?_⟩
                    simp only [intOf]
                    omega
                  · obtain rfl : v = n := by omega
                    have f4 : ¬ ((v : Int) < (v : Int)) := by omega
                    obtain ⟨LH, hLH, hrowH⟩ := hhi.row (c := cll) HCLL.out
                    have hIN : RowAt wq (.slice (some ⟨go, 0, none⟩) u co) l2 := HIN.out.grown hgr (fun b o n c e h => by
                      injection e with e
                      injection e with e
                      injection e with e
                      exact hgogl (by rw [e]; exact h))
                    have hyq : HRow wq vy X := HR17.out.1.grown hgr (fun b o n c e => (HN.out.1 b o n c e).2)
                    have hwq : HRow wq vw X := HR17.out.2.1.grown hgr (fun b o n c e => (HN.out.2.1 b o n c e).2)
                    have hzq : HRow wq vz X := HR17.out.2.2.grown hgr (fun b o n c e => (HN.out.2.2 b o n c e).2)
                    have hBq : Below w.heap.size w wq := hgr.to_below HBW.out (fun k hk e => by have := HGLW.out; omega) HBW.out.size
                    have hxl : X.length ≤ 4398046511104 := by rw [hkx.out]; omega
                    have HF : Keep (∀ wx, Below wq.heap.size wq wx → RowAt wx (.slice (some ⟨go, 0, none⟩) u co) l2 ∧ HRow wx (.slice (some ⟨gl, 0, none⟩) v cll) LH ∧ HRow wx vy X ∧ HRow wx vw X ∧ HRow wx vz X) := ⟨fun wx hx => ⟨hIN.below hx, hrowH.below hx, hyq.below hx, hwq.below hx, hzq.below hx⟩⟩
                    have HLH : Keep (LH.length = v) := ⟨hLH⟩
                    have HXL : Keep (X.length ≤ 4398046511104) := ⟨hxl⟩
                    obtain ⟨CI, hCI⟩ : ∃ CI, Keep (encH (shaH l2) = CI) := ⟨_, ⟨rfl⟩⟩
                    have heqI : ∀ w, (binOp .eql 23 (.agg CI.toArray) (.agg CI.toArray)).run Try.prog w = .ok (.bool true) w := fun w => by rw [← hCI.out, run_eqlL]; simp
                    have hll2 : l2.length ≤ 140737488351232 := by rw [HLN.out]; exact hbl
                    clear hhi hgr hIN hyq hwq hzq hrowH hLH hxl
                    go_wp2_with fail
                    have ho1 := of_anyH _ l2 wq (HF.out wq (Below.refl _ _)).1 (by omega)
                    rw [hCI.out] at ho1
                    refine ho1.mono ?_
                    rintro e a1 ⟨rfl, hc1⟩
                    clear ho1
                    go_wp2_with fail
                    have ho2 := refOf_sha _ l2 a1 (HF.out a1 hc1).1 hll2
                    rw [shaH_arr, hCI.out] at ho2
                    refine ho2.mono ?_
                    rintro e a2 ⟨rfl, hc2⟩
                    have hq2 : Below wq.heap.size wq a2 := hc1.trans (hc2.mono hc1.size)
                    clear ho2
                    go_wp2_with fail
                    refine (sort_any _ LH a2 (HF.out a2 hq2).2.1 (by rw [HLH.out]; omega)).mono ?_
                    rintro e a3 ⟨v3, A3, rfl, ho3, hp3, hm3, hl3, hc3⟩
                    have hq3 : Below wq.heap.size wq a3 := hq2.trans (hc3.mono hq2.size)
                    go_wp2_with fail
                    refine (refSort_any v _ LH a3 HLH.out (HF.out a3 hq3).2.1 (by omega)).mono ?_
                    rintro e a4 ⟨v4, A4, rfl, ho4, hp4, hm4, hl4, hc4⟩
                    have hq4 : Below wq.heap.size wq a4 := hq3.trans (hc4.mono hq3.size)
                    obtain rfl : A3 = A4 := rising_unique A3 A4 hp3 hp4 fun x => by rw [hm3, hm4]
                    have hs5 := same_any v3 v4 A3 A3 a4 ((HRow.of_owns ho3).below hc4) (HRow.of_owns ho4) (by rw [HLH.out] at hl3; omega)
                    rw [decide_eq_true (rfl : A3 = A3)] at hs5
                    clear ho3 hp3 hm3 hl3 ho4 hp4 hm4 hl4
                    go_wp2_with fail
                    refine hs5.mono ?_
                    rintro e a5 ⟨rfl, q5, hq5⟩
                    have hq5' : Below wq.heap.size wq a5 := hq4.trans (by rw [hq5]; exact grown_below' _ _ _)
                    clear hs5 hq5
                    go_wp2_with fail
                    have hs6 := same_any vy vw X X a5 (HF.out a5 hq5').2.2.1 (HF.out a5 hq5').2.2.2.1 (by have := HXL.out; omega)
                    rw [decide_eq_true (rfl : X = X)] at hs6
                    refine hs6.mono ?_
                    rintro e a6 ⟨rfl, q6, hq6⟩
                    have hq6' : Below wq.heap.size wq a6 := hq5'.trans (by rw [hq6]; exact grown_below' _ _ _)
                    clear hs6 hq6
                    go_wp2_with fail
                    have hs7 := same_any vz vw X X a6 (HF.out a6 hq6').2.2.2.2 (HF.out a6 hq6').2.2.2.1 (by have := HXL.out; omega)
                    rw [decide_eq_true (rfl : X = X)] at hs7
                    refine hs7.mono ?_
                    rintro e a7 ⟨rfl, q7, hq7⟩
                    have hq7' : Below wq.heap.size wq a7 := hq6'.trans (by rw [hq7]; exact grown_below' _ _ _)
                    clear hs7 hq7
                    go_wp2_with fail
                    refine (fixed_any a7).mono ?_
                    rintro e a8 ⟨rfl, hc8⟩
                    have hq8 : Below wq.heap.size wq a8 := hq7'.trans (hc8.mono hq7'.size)
                    go_wp2
                    go_ret
                    exact ⟨rfl, hBq.trans (hq8.mono hBq.size)⟩

theorem keeps_any (vb vl : Value) (lb : List Int) (L : List Hs) (w : World) (hb : RowAt w vb lb) (hl : HRow w vl L) (hbl : lb.length ≤ 140737488351232) (hll : L.length ≤ 4398046511000) :
    Calls Try.prog 8 #[vb, vl] w fun e w' => e = .returned (.bool true) ∧ Below w.heap.size w w' := by
  obtain ⟨pb, cb, rfl⟩ := row_form hb
  obtain ⟨pl, cl, rfl⟩ := hl.form
  exact keeps_walk pb pl lb.length cb L.length cl lb L w hb hl rfl rfl hbl hll
end Go.Proofs.Ytbbhjgflaiacaaa
