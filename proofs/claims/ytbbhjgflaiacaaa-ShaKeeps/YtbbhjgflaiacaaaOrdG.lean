import Derived.Test.YtbbhjgflaiacaaaOrdF
namespace Go.Proofs.Ytbbhjgflaiacaaa
open Go.RowKit Go.Sort

theorem rangeAt_take {w : World} {b off : Nat} {L : List Hs} (h : w.rangeAt b off (flatH L)) (k : Nat) : w.rangeAt b off (flatH (L.take k)) := fun j v hv => by
  refine h j v ?_
  conv => lhs; rw [← List.take_append_drop k L, flatH_app]
  rw [List.getElem?_append_left (List.getElem?_eq_some_iff.1 hv).1]; exact hv
theorem rangeAt_drop {w : World} {b off : Nat} {L : List Hs} (h : w.rangeAt b off (flatH L)) (k : Nat) (hk : k ≤ L.length) : w.rangeAt b (off + k * 32) (flatH (L.drop k)) := fun j v hv => by
  rw [Nat.add_assoc]
  refine h (k * 32 + j) v ?_
  conv => lhs; rw [← List.take_append_drop k L, flatH_app]
  have hl : (flatH (L.take k)).length = k * 32 := by rw [flatH_len, List.length_take, Nat.min_eq_left hk]
  rw [List.getElem?_append_right (by rw [hl]; omega), hl, show k * 32 + j - k * 32 = j by omega]; exact hv

/-- What a Sort tells. -/
def SortPost (L : List Hs) (w : World) (e : Ending) (w' : World) : Prop :=
  ∃ v' L', e = .returned v' ∧ w'.ownsRow w.heap.size 23 32 v' L'.length (flatH L') ∧ L'.Pairwise Lt ∧ (∀ x, x ∈ L' ↔ x ∈ L) ∧ L'.length ≤ L.length ∧ Below w.heap.size w w'

theorem short_rising : ∀ (L : List Hs), L.length < 2 → L.Pairwise Lt
  | [], _ => by simp
  | [_], _ => by simp
  | _ :: _ :: _, h => by simp only [List.length_cons] at h; omega

set_option maxHeartbeats 1000000 in
theorem refSort_short (v : Value) (L : List Hs) (w : World) (h : HRow w v L) (hl : L.length < 2) : Calls Try.prog 26 #[v] w (SortPost L w) := by
  have HR : Keep (HRow w v L) := ⟨h⟩
  obtain ⟨a, c, hv⟩ := h.form
  have HV : Keep (v = .slice a L.length c) := ⟨hv⟩
  have hl' : ((L.length : Nat) : Int) < 2 := by omega
  rw [hv]
  clear h hv
  go_enter Try.func26, Try.ntmps26
  go_wp2_with (refine wpList_appH rfl (.const (.slice none 0 0)) (.tmp 10) rfl w.heap.size (.slice none 0 0) v [] L rfl (by rw [HV.out]; rfl) (ownsH_nil _ _) HR.out (by simp; omega) (Nat.le_refl _) ?_; intro v5 w5 hown5 hgr5)
  go_ret
  exact ⟨_, L, rfl, hown5, short_rising L hl, fun x => Iff.rfl, Nat.le_refl _, (Below.refl _ _).grown hgr5 (Nat.le_refl _) (fun k hk => by cases hk)⟩

theorem ownsH_mono {w : World} {base base' n : Nat} {v : Value} {xs : List Value} (h : w.ownsRow base 23 32 v n xs) (hb : base' ≤ base) : w.ownsRow base' 23 32 v n xs := by
  refine ⟨h.1, ?_⟩
  rcases h.2 with h2 | ⟨g, cap, cur, h1, h3, h4⟩
  · exact .inl h2
  · exact .inr ⟨g, cap, cur, h1, by omega, h4⟩
theorem ownsH_below {w w' : World} {base n : Nat} {v : Value} {xs : List Value} (h : w.ownsRow base 23 32 v n xs) (hb : Below w.heap.size w w') : w'.ownsRow base 23 32 v n xs := by
  refine ⟨h.1, ?_⟩
  rcases h.2 with h2 | ⟨g, cap, cur, h1, h3, h4, h5⟩
  · exact .inl h2
  · exact .inr ⟨g, cap, cur, h1, h3, by rw [hb.block g (Array.getElem?_eq_some_iff.1 h4).1]; exact h4, h5⟩
/-- A slice's length. -/
def lenV : Value → Nat
  | .slice _ n _ => n
  | _ => 0
theorem HRow.mk {w : World} {b off n c : Nat} {L : List Hs} (hn : n = L.length) (hc : n ≤ c) (h : w.rangeAt b off (flatH L)) : HRow w (.slice (some ⟨b, off, none⟩) n c) L := by
  subst hn
  exact .inr ⟨b, off, c, rfl, hc, h⟩
theorem HRow.tail {w : World} {b off c : Nat} {x : Hs} {A : List Hs} (hc : (x :: A).length ≤ c) (h : w.rangeAt b off (flatH (x :: A))) : HRow w (.slice (if c = 1 then some ⟨b, off, none⟩ else some ⟨b, off + 32, none⟩) A.length (c - 1)) A := by
  simp only [List.length_cons] at hc
  by_cases h1 : c = 1
  · rw [if_pos h1]
    have : A = [] := List.eq_nil_of_length_eq_zero (by omega)
    subst this
    exact .inl ⟨_, _, rfl, rfl, fun h => by cases h⟩
  · rw [if_neg h1]
    have h2 := rangeAt_drop h 1 (by simp)
    rw [Nat.one_mul] at h2
    exact HRow.mk rfl (by omega) h2

set_option maxHeartbeats 1000000 in
set_option maxRecDepth 20000 in
theorem refSort_step (n b off cap : Nat) (L : List Hs) (w : World) (hL : L.length = n) (h : w.rangeAt b off (flatH L)) (h2 : 2 ≤ n) (hn : n ≤ 4398046511104) (hc : n ≤ cap)
    (ih : ∀ (v : Value) (M : List Hs) (w : World), M.length < n → HRow w v M → Calls Try.prog 26 #[v] w (SortPost M w)) :
    Calls Try.prog 26 #[.slice (some ⟨b, off, none⟩) n cap] w (SortPost L w) := by
  have HL : Keep (L.length = n) := ⟨hL⟩
  have HX : Keep (w.rangeAt b off (flatH L)) := ⟨h⟩
  have HI : Keep (∀ (v : Value) (M : List Hs) (w : World), M.length < n → HRow w v M → Calls Try.prog 26 #[v] w (SortPost M w)) := ⟨ih⟩
  have hblt := rangeAt_lt h (by omega)
  clear hL h ih
  obtain ⟨k, hk⟩ : ∃ k, Keep (n / 2 = k) := ⟨_, ⟨rfl⟩⟩
  have hkn : k < n := by have := hk.out; omega
  have hk0 : 0 < k := by have := hk.out; omega
  have q1 : (n : Int) / 2 = (k : Int) := by have := hk.out; omega
  have q2 : IntKind.i64.wrap (k : Int) = (k : Int) := by rw [IntKind.wrap_i64]; omega
  have q3 : (k : Int) ≤ (cap : Int) := by omega
  have q4 : ¬ ((n : Int) < 2) := by omega
  have q5 : (k : Int) ≤ (n : Int) := by omega
  have q6 : (n : Int) ≤ (cap : Int) := by omega
  go_enter Try.func26, Try.ntmps26
  go_wp2_with fail
  refine (HI.out _ (L.take k) w (by rw [List.length_take]; omega) (HRow.mk (by rw [List.length_take, HL.out]; omega) (by omega) (rangeAt_take HX.out k))).mono ?_
  rintro e w1 ⟨va, A0, rfl, hoA, hpA, hmA, hlA, hb1⟩
  have hrA := HRow.of_owns hoA
  clear hoA
  have hX1 := rangeAt_below HX.out hb1 hblt
  rw [List.length_take, HL.out, Nat.min_eq_left (by omega)] at hlA
  go_wp2_with fail
  refine (HI.out _ (L.drop k) w1 (by rw [List.length_drop, HL.out]; omega) (HRow.mk (by rw [List.length_drop, HL.out]) (by omega) (rangeAt_drop hX1 k (by rw [HL.out]; omega)))).mono ?_
  rintro e w2 ⟨vb, B0, rfl, hoB, hpB, hmB, hlB, hb2⟩
  have hrB := HRow.of_owns hoB
  clear hoB
  rw [List.length_drop, HL.out] at hlB
  have hrA2 := hrA.below hb2
  have hb12 : Below w.heap.size w w2 := hb1.trans (hb2.mono hb1.size)
  have HFin : Keep ((mrg A0 B0).Pairwise Lt ∧ (∀ x, x ∈ mrg A0 B0 ↔ x ∈ L) ∧ (mrg A0 B0).length ≤ n) := ⟨mrg_rising A0 B0 hpA hpB, fun x => by
    rw [mrg_mem, hmA, hmB]
    conv => rhs; rw [← List.take_append_drop k L, List.mem_append], by have := mrg_length A0 B0; omega⟩
  obtain ⟨F, hF⟩ : ∃ F, Keep (F = mrg A0 B0) := ⟨_, ⟨rfl⟩⟩
  rw [← hF.out] at HFin
  have HA0 : Keep (HRow w2 va A0) := ⟨hrA2⟩
  have HB0 : Keep (HRow w2 vb B0) := ⟨hrB⟩
  have hsum : A0.length + B0.length ≤ n := by omega
  have HB12 : Keep (Below w.heap.size w w2) := ⟨hb12⟩
  have hown0 : (w2.alloc (.cells #[] 23)).ownsRow w2.heap.size 23 32 (.slice (some ⟨w2.heap.size, 0, none⟩) 0 0) ([] : List Hs).length (flatH []) :=
    ⟨rfl, .inr ⟨w2.heap.size, 0, #[], rfl, Nat.le_refl _, heap_alloc_new w2 _, Nat.le_refl _, by unfold maxLen; omega, rfl, rfl⟩⟩
  have hBel0 := below_new w2 (.cells #[] 23)
  clear hrA hrB hrA2 hpA hpB hmA hmB hb1 hb2 hb12 hX1 hlA hlB
  go_wp2_with (refine wpList_bs rfl 45 0 #[] rfl #[] rfl _ _ (Try.bs0 _) ?_)
  generalize w2.alloc (.cells #[] 23) = w3 at *
  go_loopw [3, 4, 5, 6] (fun a b vo _ wr => ∃ A B O : List Hs, HRow w2 a A ∧ HRow w2 b B ∧ wr.ownsRow w2.heap.size 23 32 vo O.length (flatH O) ∧ O ++ mrg A B = F ∧ O.length + A.length + B.length ≤ n ∧ Below w2.heap.size w2 wr) (fun a b _ _ _ => lenV a + lenV b)
  case atStart => exact ⟨A0, B0, [], HA0.out, HB0.out, hown0, by rw [hF.out]; rfl, by simp only [List.length_nil]; omega, hBel0⟩
  case round =>
    clear hown0 hBel0 HA0 HB0 hsum hF
    obtain ⟨A, B, O, hrA, hrB, hown, hm, hlen, hBel⟩ := hrel
    have hsz := hBel.size
    have HM : Keep (O ++ mrg A B = F) := ⟨hm⟩
    have HRA : Keep (HRow w2 u3 A) := ⟨hrA⟩
    have HRB : Keep (HRow w2 u4 B) := ⟨hrB⟩
    obtain ⟨pa, ca, hua⟩ := hrA.form
    obtain ⟨pb, cb, hub⟩ := hrB.form
    clear hrA hrB hm
    by_cases hAB : A = [] ∨ B = []
    · have HM2 : Keep (O ++ A ++ B = F) := ⟨by
        rw [← HM.out, List.append_assoc]
        rcases hAB with rfl | rfl
        · rw [mrg]; rfl
        · rw [mrg_nil, List.append_nil]⟩
      have HO : Keep (wr.ownsRow w2.heap.size 23 32 u5 O.length (flatH O)) := ⟨hown⟩
      have hblk := ownsH_block hown
      have HBel : Keep (Below w2.heap.size w2 wr) := ⟨hBel⟩
      have HUA : Keep (u3 = .slice pa A.length ca) := ⟨hua⟩
      have HUB : Keep (u4 = .slice pb B.length cb) := ⟨hub⟩
      rw [hua, hub]
      have fin : ∀ v5 w5, w5.ownsRow w2.heap.size 23 32 v5 (O ++ A).length (flatH (O ++ A)) → wr.grownBy w5 u5.ownBlock → Below w2.heap.size w2 w5 ∧ HRow w5 u4 B ∧ w2.heap.size ≤ w5.heap.size ∧ ∀ k, v5.ownBlock = some k → w2.heap.size ≤ k := fun v5 w5 h1 h2 => by
        have h3 := HBel.out.grown h2 hsz hblk
        exact ⟨h3, HRB.out.below h3, h3.size, ownsH_block h1⟩
      have HFN : Keep (∀ v5 w5, w5.ownsRow w2.heap.size 23 32 v5 (O ++ A).length (flatH (O ++ A)) → wr.grownBy w5 u5.ownBlock → Below w2.heap.size w2 w5 ∧ HRow w5 u4 B ∧ w2.heap.size ≤ w5.heap.size ∧ ∀ k, v5.ownBlock = some k → w2.heap.size ≤ k) := ⟨fin⟩
      have hRA2 : HRow wr u3 A := HRA.out.below hBel
      have HRA2 : Keep (HRow wr u3 A) := ⟨hRA2⟩
      clear fin hRA2 hua hub hown hBel
      have hz : ¬ (0 < A.length ∧ 0 < B.length) := by rcases hAB with rfl | rfl <;> simp
      have END : ∀ v5 w5 v7 w7, w5.ownsRow w2.heap.size 23 32 v5 (O ++ A).length (flatH (O ++ A)) → wr.grownBy w5 u5.ownBlock → w7.ownsRow w2.heap.size 23 32 v7 (O ++ A ++ B).length (flatH (O ++ A ++ B)) → w5.grownBy w7 v5.ownBlock → SortPost L w (.returned v7) w7 := fun v5 w5 v7 w7 g1 g2 g3 g4 => by
        obtain ⟨f1, f2, f3, f4⟩ := HFN.out v5 w5 g1 g2
        rw [HM2.out] at g3
        exact ⟨v7, F, rfl, ownsH_mono g3 HB12.out.size, HFin.out.1, HFin.out.2.1, by rw [HL.out]; exact HFin.out.2.2, HB12.out.trans ((f1.grown g4 f3 f4).mono HB12.out.size)⟩
      have HEND : Keep (∀ v5 w5 v7 w7, w5.ownsRow w2.heap.size 23 32 v5 (O ++ A).length (flatH (O ++ A)) → wr.grownBy w5 u5.ownBlock → w7.ownsRow w2.heap.size 23 32 v7 (O ++ A ++ B).length (flatH (O ++ A ++ B)) → w5.grownBy w7 v5.ownBlock → SortPost L w (.returned v7) w7) := ⟨END⟩
      clear END
      by_cases hA0 : A.length = 0
      · have z1 : ¬ (0 < ((A.length : Nat) : Int)) := by omega
        go_wp2_with (first | (refine wpList_appH rfl (.tmp 60) (.tmp 61) rfl w2.heap.size u5 u3 O A rfl (by rw [HUA.out]; rfl) HO.out HRA2.out (by omega) hsz ?_; intro v5 w5 hown5 hgr5) | (refine wpList_appH rfl (.tmp 63) (.tmp 64) rfl w2.heap.size v5 u4 (O ++ A) B rfl (by rw [HUB.out]; rfl) hown5 (HFN.out v5 w5 hown5 hgr5).2.1 (by rw [List.length_append]; omega) (HFN.out v5 w5 hown5 hgr5).2.2.1 ?_; intro v7 w7 hown7 hgr7))
        go_ret
        exact HEND.out v5 w5 v7 w7 hown5 hgr5 hown7 hgr7
      · have z1 : (0 < ((A.length : Nat) : Int)) := by omega
        have z2 : ¬ (0 < ((B.length : Nat) : Int)) := by omega
        go_wp2_with (first | (refine wpList_appH rfl (.tmp 60) (.tmp 61) rfl w2.heap.size u5 u3 O A rfl (by rw [HUA.out]; rfl) HO.out HRA2.out (by omega) hsz ?_; intro v5 w5 hown5 hgr5) | (refine wpList_appH rfl (.tmp 63) (.tmp 64) rfl w2.heap.size v5 u4 (O ++ A) B rfl (by rw [HUB.out]; rfl) hown5 (HFN.out v5 w5 hown5 hgr5).2.1 (by rw [List.length_append]; omega) (HFN.out v5 w5 hown5 hgr5).2.2.1 ?_; intro v7 w7 hown7 hgr7))
        go_ret
        exact HEND.out v5 w5 v7 w7 hown5 hgr5 hown7 hgr7
    · obtain ⟨x, A, rfl⟩ : ∃ x A', A = x :: A' := by cases A with | nil => simp at hAB | cons x A' => exact ⟨x, A', rfl⟩
      obtain ⟨y, B, rfl⟩ : ∃ y B', B = y :: B' := by cases B with | nil => simp at hAB | cons y B' => exact ⟨y, B', rfl⟩
      clear hAB
      subst hua hub
      obtain ⟨ba, oa, rfl, _, hca, rA⟩ := HRA.out.at (by simp)
      obtain ⟨bb, ob, rfl, _, hcb, rB⟩ := HRB.out.at (by simp)
      have HS : Keep (∀ wx, Below wr.heap.size wr wx → wx.rangeAt ba oa (encH x) ∧ wx.rangeAt bb ob (encH y)) := ⟨fun wx hx => by
        have hb := hBel.trans (hx.mono hsz)
        have e1 := rangeAt_below (rangeAt_elem rA 0 (by simp)) hb (rangeAt_lt rA (by simp))
        have e2 := rangeAt_below (rangeAt_elem rB 0 (by simp)) hb (rangeAt_lt rB (by simp))
        rw [Nat.zero_mul, Nat.add_zero] at e1 e2
        exact ⟨e1, e2⟩⟩
      have HTA : Keep (HRow w2 (.slice (if ca = 1 then some ⟨ba, oa, none⟩ else some ⟨ba, oa + 32, none⟩) A.length (ca - 1)) A) := ⟨HRow.tail hca rA⟩
      have HTB : Keep (HRow w2 (.slice (if cb = 1 then some ⟨bb, ob, none⟩ else some ⟨bb, ob + 32, none⟩) B.length (cb - 1)) B) := ⟨HRow.tail hcb rB⟩
      clear rA rB
      have HC : Keep (∀ w, Calls Try.prog 23 #[.agg (encH x).toArray, .agg (encH y).toArray] w fun e w' => e = .returned (.int .i64 (cf x y)) ∧ Below w.heap.size w w') := ⟨fun w => by
        rw [encH_arr, encH_arr]
        refine (refCompare_any _ _ w).mono fun e w' h => ⟨h.1, ?_⟩
        obtain ⟨q, os, rfl⟩ := h.2
        exact grown_below w q os⟩
      have hi1 := Try.size23L x
      have hi2 := Try.size23L y
      have hu := Try.underlying23
      have hbsA : ∀ w, (Instr.buildSlice 45 1 #[(0, .agg (encH x).toArray)]).run Try.prog w = .ok (.slice (some ⟨w.heap.size, 0, none⟩) 1 1) (w.alloc (.cells (encH x).toArray 23)) := fun w => by rw [encH_arr]; exact Try.bs1 _ w
      have hbsB : ∀ w, (Instr.buildSlice 45 1 #[(0, .agg (encH y).toArray)]).run Try.prog w = .ok (.slice (some ⟨w.heap.size, 0, none⟩) 1 1) (w.alloc (.cells (encH y).toArray 23)) := fun w => by rw [encH_arr]; exact Try.bs1 _ w
      have hone : ∀ (z : Hs) (w : World), HRow (w.alloc (.cells (encH z).toArray 23)) (.slice (some ⟨w.heap.size, 0, none⟩) 1 1) [z] := fun z w => HRow.mk rfl (Nat.le_refl _) fun j v hv => by
        rw [Nat.zero_add, (Blk.new w 23 _).cell]; simpa [flatH] using hv
      have HOA : Keep (∀ w : World, HRow (w.alloc (.cells (encH x).toArray 23)) (.slice (some ⟨w.heap.size, 0, none⟩) 1 1) [x]) := ⟨hone x⟩
      have HOB : Keep (∀ w : World, HRow (w.alloc (.cells (encH y).toArray 23)) (.slice (some ⟨w.heap.size, 0, none⟩) 1 1) [y]) := ⟨hone y⟩
      obtain ⟨r, hr⟩ : ∃ r, Keep (r = cf x y) := ⟨_, ⟨rfl⟩⟩
      rw [← hr.out] at HC
      have HM1 : Keep (r < 0 → O ++ [x] ++ mrg A (y :: B) = F) := ⟨fun h => by rw [← HM.out, mrg, if_pos (by rw [← hr.out]; exact h)]; simp⟩
      have HM2 : Keep (r = 0 → O ++ [x] ++ mrg A B = F) := ⟨fun h => by rw [← HM.out, mrg, if_neg (by rw [← hr.out]; omega), if_pos (by rw [← hr.out]; exact h)]; simp⟩
      have HM3 : Keep (0 < r → O ++ [y] ++ mrg (x :: A) B = F) := ⟨fun h => by rw [← HM.out, mrg, if_neg (by rw [← hr.out]; omega), if_neg (by rw [← hr.out]; omega)]; simp⟩
      simp only [List.length_cons] at hca hcb hlen
      generalize encH x = CA at *
      generalize encH y = CB at *
      clear hone hr HM
      have HBel : Keep (Below w2.heap.size w2 wr) := ⟨hBel⟩
      have hD0 : Below wr.heap.size wr wr.drew := (Below.refl _ _).drew
      have HO5 : Keep (∀ w5 o, Below wr.heap.size wr w5 → (w5.alloc o).ownsRow w2.heap.size 23 32 u5 O.length (flatH O)) := ⟨fun w5 o h => World.ownsRow.alloc (w := w5) (ownsH_below hown h) o⟩
      have hblk := ownsH_block hown
      clear hown hBel
      simp only [List.length_cons]
      have p1 : (0 : Int) < ((A.length + 1 : Nat) : Int) := by omega
      have p2 : (0 : Int) < ((B.length + 1 : Nat) : Int) := by omega
      have p3 : (1 : Int) ≤ ((A.length + 1 : Nat) : Int) := by omega
      have p4 : (1 : Int) ≤ ((B.length + 1 : Nat) : Int) := by omega
      go_wp2
      refine wp_region_held_drew (S := fun w' => w'.rangeAt ba oa CA ∧ w'.rangeAt bb ob CB) (by kernel_rfl) (HS.out _ hD0) (fun hHeld => ?_)
      refine wpAnyH_take (i := 0) (oi := ⟨some 33, Op.move (Operand.tmp 3), 45, _, _, none⟩) (v := Value.slice (some ⟨ba, oa, none⟩) (A.length + 1) ca) rfl (by kernel_rfl) (by kernel_rfl) (by kernel_rfl) (fun _ _ _ h => h) (Or.inl ⟨by rfl, fun w hS => by go_simp⟩) hHeld ?_
      simp only [Act.put, List.setIfInBounds_toArray, List.set_cons_zero, List.set_cons_succ]
      refine wpAnyH_take (i := 1) (oi := ⟨some 34, Op.indexAddr 45 (Operand.tmp 33) (Operand.const (Value.int IntKind.i64 0)), 0, _, _, none⟩) (v := .pointer (some ⟨ba, oa, none⟩)) rfl (by kernel_rfl) (by kernel_rfl) (by kernel_rfl) (fun _ _ _ h => h) (Or.inl ⟨by rfl, fun w hS => by go_simp⟩) hHeld ?_
      simp only [Act.put, List.setIfInBounds_toArray, List.set_cons_zero, List.set_cons_succ]
      refine wpAnyH_take (i := 2) (oi := ⟨some 35, Op.load 23 (Operand.tmp 34), 23, _, _, none⟩) (v := .agg (CA).toArray) rfl (by kernel_rfl) (by kernel_rfl) (by kernel_rfl) (fun _ _ _ h => h) (yieldsIf_load_mid (by rfl) 23 (Operand.tmp 34) rfl ba oa rfl CA _ (fun w hS => hS.1) hu rfl hi1) hHeld ?_
      simp only [Act.put, List.setIfInBounds_toArray, List.set_cons_zero, List.set_cons_succ]
      refine wpAnyH_take (i := 3) (oi := ⟨some 36, Op.move (Operand.tmp 4), 45, _, _, none⟩) (v := Value.slice (some ⟨bb, ob, none⟩) (B.length + 1) cb) rfl (by kernel_rfl) (by kernel_rfl) (by kernel_rfl) (fun _ _ _ h => h) (Or.inl ⟨by rfl, fun w hS => by go_simp⟩) hHeld ?_
      simp only [Act.put, List.setIfInBounds_toArray, List.set_cons_zero, List.set_cons_succ]
      refine wpAnyH_take (i := 4) (oi := ⟨some 37, Op.indexAddr 45 (Operand.tmp 36) (Operand.const (Value.int IntKind.i64 0)), 0, _, _, none⟩) (v := .pointer (some ⟨bb, ob, none⟩)) rfl (by kernel_rfl) (by kernel_rfl) (by kernel_rfl) (fun _ _ _ h => h) (Or.inl ⟨by rfl, fun w hS => by go_simp⟩) hHeld ?_
      simp only [Act.put, List.setIfInBounds_toArray, List.set_cons_zero, List.set_cons_succ]
      refine wpAnyH_take (i := 5) (oi := ⟨some 38, Op.load 23 (Operand.tmp 37), 23, _, _, none⟩) (v := .agg (CB).toArray) rfl (by kernel_rfl) (by kernel_rfl) (by kernel_rfl) (fun _ _ _ h => h) (yieldsIf_load_mid (by rfl) 23 (Operand.tmp 37) rfl bb ob rfl CB _ (fun w hS => hS.2) hu rfl hi2) hHeld ?_
      simp only [Act.put, List.setIfInBounds_toArray, List.set_cons_zero, List.set_cons_succ]
      refine wpAnyH_ready (rs := [6]) (by kernel_rfl) (by simp) ?_
      refine AllReadyH.cons (o := ⟨some 39, Op.call { callee := Callee.value (Operand.func 23), args := #[Operand.tmp 35, Operand.tmp 38], argTypes := #[23, 23] }, 3, _, _, none⟩) rfl (fun K hK => ?_) AllReadyH.nil
      rw [if_pos (by rfl)]
      refine wp_callF 23 #[.tmp 35, .tmp 38] #[23, 23] rfl Try.enter23 #[.agg CA.toArray, .agg CB.toArray] (by simp [Act.eval]) (fun v w' => v = .int .i64 r ∧ Below wr.drew.heap.size wr.drew w') ((HC.out wr.drew).mono fun e w' h => ⟨_, h.1, rfl, h.2⟩) ?_
      rintro v w5 ⟨rfl, hb5⟩
      have hB5 : Below wr.heap.size wr w5 := hD0.trans (hb5.mono hD0.size)
      refine hK.out _ _ (HS.out _ hB5) fun hHeld5 => ?_
      clear hK
      simp only [Act.put, List.setIfInBounds_toArray, List.set_cons_zero, List.set_cons_succ]
      refine wpAnyH_take (i := 7) (oi := ⟨some 6, Op.assign (Operand.tmp 39), 3, _, _, none⟩) (v := .int .i64 r) rfl (by kernel_rfl) (by kernel_rfl) (by kernel_rfl) (fun _ _ _ h => h) (Or.inl ⟨by rfl, fun w hS => by go_simp⟩) hHeld5 ?_
      simp only [Act.put, List.setIfInBounds_toArray, List.set_cons_zero, List.set_cons_succ]
      refine wpAnyH_done (by kernel_rfl) ?_ _
      have HZ : Keep (∀ o, w2.heap.size ≤ (w5.alloc o).heap.size) := ⟨fun o => by have := hB5.size; simp; omega⟩
      have HBE : Keep (∀ o w7, (w5.alloc o).grownBy w7 u5.ownBlock → Below w2.heap.size w2 w7) := ⟨fun o w7 hg => by
        have h5 := HBel.out.trans (hB5.mono hsz)
        exact (h5.alloc h5.size o).grown hg (HZ.out o) hblk⟩
      rcases Int.lt_trichotomy r 0 with hr | hr | hr
      · have m1 := HM1.out hr
        have HMM : Keep (O ++ [x] ++ mrg A (y :: B) = F) := ⟨m1⟩
        clear HM1 HM2 HM3 m1
        have d1 : r ≤ 0 := by omega
        have d2 : ¬ (0 ≤ r) := by omega
        go_wp2_with (first | (refine wpList_load_mid rfl 23 (.tmp 44) rfl ba oa rfl CA (.array 32 5) (HS.out _ hB5).1 hu rfl hi1 ?_; refine wpList_bs rfl 45 1 #[(0, .tmp 45)] rfl #[(0, .agg CA.toArray)] (by simp [Act.eval, Act.put]) _ _ (hbsA _) ?_; refine wpList_appH rfl (.tmp 42) (.tmp 46) rfl w2.heap.size u5 _ O [x] rfl rfl (HO5.out _ _ hB5) (HOA.out _) (by simp only [List.length_cons, List.length_nil]; omega) (HZ.out _) ?_; intro v7 w7 hown7 hgr7))
        refine ⟨⟨A, y :: B, O ++ [x], HTA.out, HRB.out, hown7, HMM.out, (by simp only [List.length_append, List.length_cons, List.length_nil]; omega), (HBE.out _ _ hgr7)⟩, by simp only [lenV]; omega⟩
      · have m1 := HM2.out hr
        have HMM : Keep (O ++ [x] ++ mrg A B = F) := ⟨m1⟩
        clear HM1 HM2 HM3 m1
        have d1 : r ≤ 0 := by omega
        have d2 : 0 ≤ r := by omega
        clear hr
        go_wp2_with (first | (refine wpList_load_mid rfl 23 (.tmp 44) rfl ba oa rfl CA (.array 32 5) (HS.out _ hB5).1 hu rfl hi1 ?_; refine wpList_bs rfl 45 1 #[(0, .tmp 45)] rfl #[(0, .agg CA.toArray)] (by simp [Act.eval, Act.put]) _ _ (hbsA _) ?_; refine wpList_appH rfl (.tmp 42) (.tmp 46) rfl w2.heap.size u5 _ O [x] rfl rfl (HO5.out _ _ hB5) (HOA.out _) (by simp only [List.length_cons, List.length_nil]; omega) (HZ.out _) ?_; intro v7 w7 hown7 hgr7))
        refine ⟨⟨A, B, O ++ [x], HTA.out, HTB.out, hown7, HMM.out, (by simp only [List.length_append, List.length_cons, List.length_nil]; omega), (HBE.out _ _ hgr7)⟩, by simp only [lenV]; omega⟩
      · have m1 := HM3.out hr
        have HMM : Keep (O ++ [y] ++ mrg (x :: A) B = F) := ⟨m1⟩
        clear HM1 HM2 HM3 m1
        have d1 : ¬ (r ≤ 0) := by omega
        have d2 : 0 ≤ r := by omega
        go_wp2_with (first | (refine wpList_load_mid rfl 23 (.tmp 52) rfl bb ob rfl CB (.array 32 5) (HS.out _ hB5).2 hu rfl hi2 ?_; refine wpList_bs rfl 45 1 #[(0, .tmp 53)] rfl #[(0, .agg CB.toArray)] (by simp [Act.eval, Act.put]) _ _ (hbsB _) ?_; refine wpList_appH rfl (.tmp 50) (.tmp 54) rfl w2.heap.size u5 _ O [y] rfl rfl (HO5.out _ _ hB5) (HOB.out _) (by simp only [List.length_cons, List.length_nil]; omega) (HZ.out _) ?_; intro v7 w7 hown7 hgr7))
        refine ⟨⟨x :: A, B, O ++ [y], HRA.out, HTB.out, hown7, HMM.out, (by simp only [List.length_append, List.length_cons, List.length_nil]; omega), (HBE.out _ _ hgr7)⟩, by simp only [lenV]; omega⟩

/-- The document's Sort. -/
theorem refSort_any : ∀ (n : Nat) (v : Value) (L : List Hs) (w : World), L.length = n → HRow w v L → n ≤ 4398046511104 → Calls Try.prog 26 #[v] w (SortPost L w) := by
  intro n
  induction n using Nat.strongRecOn with
  | _ n ih =>
    intro v L w hL hr hn
    by_cases h2 : L.length < 2
    · exact refSort_short v L w hr h2
    · obtain ⟨a, c, rfl⟩ := hr.form
      obtain ⟨b, off, rfl, _, hc, hx⟩ := hr.at (by omega)
      subst hL
      exact refSort_step L.length b off c L w rfl hx (by omega) hn hc fun v M w hM hr => ih M.length hM v M w rfl hr (by omega)
end Go.Proofs.Ytbbhjgflaiacaaa
