import Derived.Test.YtjklmkeedhgncaaA18
import Derived.Test.YtjklmkeedhgncaaA22
import Derived.Test.YtjklmkeedhgncaaA21
import Derived.Deep.RegionHeld3
namespace Go.Proofs.Ytjklmkeedhgncaa
open Go.RowKit
set_option linter.unusedSimpArgs false
set_option linter.unusedVariables false
set_option maxRecDepth 8000 in
theorem climb_lo_s (B x : Nat) (h : List Int) (qs : List Hs) (y : Hs) (IH : ∀ (b off cap n i : Nat) (R : List (List Int)) (w : World), 1 ≤ n → n < 9223372036854775808 → i < n → BkH B w x R → R.length + qs.length + 1 ≤ 4398046511104 → (b < B ∧ qs.length ≤ cap ∧ w.rangeAt b off (flatH qs)) → B ≤ w.heap.size → (climbL n i h qs).isSome = true → Calls Try.prog 80 #[.pointer (some ⟨x, 0, none⟩), .int .i64 (n : Int), .int .i64 (i : Int), .agg (bytesA 32 (hof h)), .slice (some ⟨b, off, none⟩) qs.length cap] w (CP B x n i h qs R w))
  (b off cap n i m p q : Nat) (R : List (List Int)) (w : World) (t : List Int) (rt : List (List Int)) (ht : t.length = 32) (hm : Keep (RtP.half n = m)) (hq : Keep (qs.length = q)) (hqq : qs.length = q) (hp : p = q + 1) (Hcl : Keep (climbL m i h qs = some (t, rt))) (hn : 2 ≤ n) (Hn : Keep (n < 9223372036854775808)) (hi : i < n) (hlo : i < m) (hK : BkH B w x R) (hN : R.length + p + 1 ≤ 4398046511104) (hbB : b < B) (hcap : p ≤ cap) (hP : w.rangeAt b off (flatH (qs ++ [y]))) (hB : B ≤ w.heap.size) :
  Calls Try.prog 80 #[.pointer (some ⟨x, 0, none⟩), .int .i64 (n : Int), .int .i64 (i : Int), .agg (bytesA 32 (hof h)), .slice (some ⟨b, off, none⟩) p cap] w (CP B x n i h (qs ++ [y]) R w) := by
 have hh := RtP.half_le hn
 rw [hm.out] at hh
 have HL : Keep (R.length + qs.length + 1 ≤ 4398046511104) := ⟨by rw [hqq]; omega⟩
 have HPq : Keep (∀ wx, Below B w wx → (b < B ∧ qs.length ≤ cap ∧ wx.rangeAt b off (flatH qs))) := ⟨fun wx hb => ⟨hbB, by omega, fun j v hv => rangeAt_below hP hb hbB j v (by rw [flatH_app]; exact List.getElem?_append_left (List.getElem?_eq_some_iff.1 hv).1 ▸ hv)⟩⟩
 have HP := Keep.mk hP
 have HN := Keep.mk hN
 have HB := Keep.mk hB
 have HT := Keep.mk ht
 have HK := Keep.mk hK
 clear hK
 have hn1 : ((n : Int) == 1) = false := by simp; omega
 have hp1 : ((p : Int) == 0) = false := by simp; omega
 have hpq : IntKind.i64.wrap ((p : Int) - 1) = (q : Int) := by rw [IntKind.wrap_i64]; omega
 have hqp : (q : Int) < (p : Int) := by omega
 have hlo' : (i : Int) < (m : Int) := by omega
 skip
 skip
 clear hP hN hB hp
 go_enter Try.func80, Try.ntmps80
 refine wp_seq_k fun K1 hK1 => rgn ?_
 refine WL.box (by kernel_rfl) 25 (.tmp 3) rfl (bytesA 32 (hof h)) rfl ?_
 have C1 := Keep.mk (Blk.new w 25 (bytesA 32 (hof h)))
 have b1 := Keep.mk (below_new w (.cells (bytesA 32 (hof h)) 25))
 change WL _ _ _ _ _ (w.alloc (.cells (bytesA 32 (hof h)) 25))
 generalize w.alloc (.cells (bytesA 32 (hof h)) 25) = w1 at *
 obtain ⟨c, hc0⟩ : ∃ z, Keep (z = w.heap.size) := ⟨_, ⟨rfl⟩⟩
 rw [← hc0.out] at C1 ⊢
 simp only [Act.put, pqA, pqB, pqC]
 refine WL.new (by kernel_rfl) 25 rfl _ Try.new25 ?_
 have R2 := Keep.mk (Blk.new w1 25 (bytesA 32 fun _ => 0))
 have b2 := Keep.mk (below_new w1 (.cells (bytesA 32 fun _ => 0) 25))
 change WL _ _ _ _ _ (w1.alloc (.cells (bytesA 32 fun _ => 0) 25))
 generalize w1.alloc (.cells (bytesA 32 fun _ => 0) 25) = w2 at *
 obtain ⟨r, hr0⟩ : ∃ z, Keep (z = w1.heap.size) := ⟨_, ⟨rfl⟩⟩
 rw [← hr0.out] at R2 ⊢
 have C2 := Keep.mk (C1.out.below b2.out C1.out.lt)
 have B2 : Keep (Below w.heap.size w w2) := ⟨b1.out.trans (b2.out.mono b1.out.size)⟩
 have G2 : Keep (Grown w w2 (BkS B w)) := ⟨Grown.below B2.out⟩
 have hrw : Keep (w.heap.size ≤ r) := ⟨by rw [hr0.out]; exact b1.out.size⟩
 have eC2r : Keep (c ≠ r) := ⟨by have := C1.out.lt; have := hr0.out; omega⟩
 have BK2 := Keep.mk (HK.out.below B2.out)
 clear C1 b1 b2 hr0 hc0
 simp only [Act.put, pqA, pqB, pqC]
 refine VbF ?_
 refine WL.nil (hK1 _ _ ?_)
 refine wp_seq_k fun K2 hK2 => ?_
 refine wp_seq_k fun K3 hK3 => rgn ?_
 refine VlS (.int .i64 (n : Int)) ?_
 refine VbF ?_
 refine WL.nil (hK3 _ _ ?_)
 refine wp_cond_false rfl ?_
 refine wp_skip ?_
 refine hK2 _ _ ?_
 refine wp_seq_k fun K4 hK4 => ?_
 refine wp_seq_k fun K5 hK5 => rgn ?_
 refine VlS (.slice (some ⟨b, off, none⟩) p cap) ?_
 refine VlS (.int .i64 (p : Int)) ?_
 refine VbF ?_
 refine WL.nil (hK5 _ _ ?_)
 refine wp_cond_false rfl ?_
 refine wp_skip ?_
 refine hK4 _ _ ?_
 refine wp_seq_k fun K6 hK6 => rgn ?_
 refine VlS (.slice (some ⟨b, off, none⟩) p cap) ?_
 refine VlS (.slice (some ⟨b, off, none⟩) p cap) ?_
 refine VlS (.int .i64 (p : Int)) ?_
 refine VlS (.int .i64 (q : Int)) ?_
 refine VlS (.pointer (some ⟨b, off + q * 32, none⟩)) ?_
 have hat : w2.rangeAt b (off + q * 32) (bytesA 32 y.f).toList := by
  have h1 := rangeAt_elem (rangeAt_below HP.out (G2.out.bkBelow HB.out) hbB) q (by rw [List.length_append, hq.out]; simp)
  have h2 : (qs ++ [y])[q]'(by rw [List.length_append, hq.out]; simp) = y := by subst hqq; simp
  rw [h2] at h1
  exact h1
 refine WL.midA (by kernel_rfl) 25 (.tmp 33) rfl b (off + q * 32) rfl (bytesA 32 y.f) _ hat Try.underlying25 rfl (Try.size25B _) ?_
 clear hat
 simp only [Act.put, pqA, pqB, pqC]
 refine WL.new (by kernel_rfl) 25 rfl _ Try.new25 ?_
 have D3 := Keep.mk (Blk.new w2 25 (bytesA 32 fun _ => 0))
 have b3 := Keep.mk (below_new w2 (.cells (bytesA 32 fun _ => 0) 25))
 change WL _ _ _ _ _ (w2.alloc (.cells (bytesA 32 fun _ => 0) 25))
 generalize w2.alloc (.cells (bytesA 32 fun _ => 0) 25) = w3 at *
 obtain ⟨d, hd0⟩ : ∃ z, Keep (z = w2.heap.size) := ⟨_, ⟨rfl⟩⟩
 rw [← hd0.out] at D3 ⊢
 have BK3 := Keep.mk (BK2.out.below b3.out)
 have G3 : Keep (Grown w w3 (BkS B w)) := ⟨G2.out.belowS b3.out⟩
 have hdw : Keep (w.heap.size ≤ d) := ⟨by rw [hd0.out]; exact G2.out.size⟩
 have R3 := Keep.mk (R2.out.below b3.out R2.out.lt)
 have eR3d : Keep (r ≠ d) := ⟨by have := R2.out.lt; have := hd0.out; omega⟩
 have C3 := Keep.mk (C2.out.below b3.out C2.out.lt)
 have eC3d : Keep (c ≠ d) := ⟨by have := C2.out.lt; have := hd0.out; omega⟩
 clear b3 hd0
 simp only [Act.put, pqA, pqB, pqC]
 refine WL.storeR (by kernel_rfl) 25 (.tmp 12) (.tmp 34) rfl d (bytesA 32 y.f) rfl rfl 25 (bytesA 32 fun _ => 0) D3.out (Try.size25B _) (bytesA_sizes _ _ _) (bytesA_one _ _) ?_
 have D4 := Keep.mk (D3.out.setRow (bytesA 32 y.f))
 have BK4 := Keep.mk (BK3.out.setRow D3.out (bytesA 32 y.f) (by decide) (by decide) (by decide))
 have G4 : Keep (Grown w (w3.setRow d (bytesA 32 y.f)) (BkS B w)) := ⟨G3.out.next (Grown.setRow w3 d _ (S := fun k => k = d) fun _ => rfl) fun k hk e => by have := hdw.out; omega⟩
 have R4 := Keep.mk (R3.out.setRow_ne eR3d.out (bytesA 32 y.f))
 have C4 := Keep.mk (C3.out.setRow_ne eC3d.out (bytesA 32 y.f))
 generalize w3.setRow d (bytesA 32 y.f) = w4 at *
 simp only [Act.put]
 refine WL.nil (hK6 _ _ ?_)
 refine wp_seq_k fun K7 hK7 => rgn ?_
 refine VlS (.slice (some ⟨b, off, none⟩) p cap) ?_
 refine VlS (.slice (some ⟨b, off, none⟩) p cap) ?_
 refine VlS (.int .i64 (p : Int)) ?_
 refine VlS (.int .i64 (q : Int)) ?_
 refine WL.slr (by kernel_rfl) 67 (.tmp 35) none (some (.tmp 38)) rfl (.slice (some ⟨b, off, none⟩) p cap) none (some (.int .i64 (q : Int))) (.slice (some ⟨b, off, none⟩) q cap) rfl rfl rfl (slH_h _ p cap q (by omega) _) ?_
 simp only [Act.put, pqA, pqB, pqC]
 refine VlS (.slice (some ⟨b, off, none⟩) q cap) ?_
 refine WL.nil (hK7 _ _ ?_)
 refine wp_seq_k fun K8 hK8 => rgn ?_
 refine VlS (.int .i64 (n : Int)) ?_
 refine WL.callF (by kernel_rfl) 77 _ _ rfl Try.in77 #[.int .i64 (n : Int)] (by simp [Act.eval]) ?_
 refine (half_any n w4 (by omega) Hn.out).mono ?_
 rintro e w1_ ⟨rfl, hw_⟩
 refine ⟨_, rfl, ?_⟩
 have hw_ := hw_.symm
 subst hw_
 rw [hm.out]
 simp only [Act.put, pqA, pqB, pqC]
 refine VlS (.int .i64 (m : Int)) ?_
 refine WL.nil (hK8 _ _ ?_)
 refine wp_seq_k fun K9 hK9 => ?_
 refine wp_seq_k fun K10 hK10 => rgn ?_
 refine VlS (.int .i64 (i : Int)) ?_
 refine VlS (.int .i64 (m : Int)) ?_
 refine VbT ?_
 refine WL.nil (hK10 _ _ ?_)
 refine wp_cond_true rfl ?_
 refine wp_seq_k fun K11 hK11 => rgn ?_
 refine VlS (.pointer (some ⟨x, 0, none⟩)) ?_
 refine VlS (.int .i64 (m : Int)) ?_
 refine VlS (.int .i64 (i : Int)) ?_
 refine WL.row (by kernel_rfl) 25 (.tmp 8) rfl c rfl 25 (bytesA 32 (hof h)) _ C4.out Try.underlying25 rfl (Try.size25B _) ?_
 simp only [Act.put, pqA, pqB, pqC]
 refine VlS (.slice (some ⟨b, off, none⟩) q cap) ?_
 have hrc := IH b off cap m i R w4 (by omega) (by have := Hn.out; omega) (by omega) BK4.out HL.out (HPq.out w4 (G4.out.bkBelow HB.out)) (Nat.le_trans HB.out G4.out.size) (by rw [Hcl.out]; rfl)
 rw [hq.out] at hrc
 refine WL.callF (by kernel_rfl) 80 _ _ rfl Try.in80 #[.pointer (some ⟨x, 0, none⟩), .int .i64 (m : Int), .int .i64 (i : Int), .agg (bytesA 32 (hof h)), .slice (some ⟨b, off, none⟩) q cap] (by simp [Act.eval]) ?_
 refine (hrc).mono ?_
 rintro e w5 ⟨cc, ok, rs, rfl, k1, k2, k3, k4⟩
 refine ⟨_, rfl, ?_⟩
 rw [Hcl.out] at k4
 obtain ⟨rfl, hct, rfl⟩ := k4
 have BK5 := Keep.mk k1
 have N5 := Keep.mk k2
 have G5 : Keep (Grown w w5 (BkS B w)) := ⟨BkS.next G4.out k3⟩
 have R5 := Keep.mk (R4.out.bk k3 (by decide) (by decide))
 have C5 := Keep.mk (C4.out.bk k3 (by decide) (by decide))
 have D5 := Keep.mk (D4.out.bk k3 (by decide) (by decide))
 have HCT := Keep.mk hct
 clear hrc k1 k2 k3 hct
 simp only [Act.put, pqA, pqB, pqC]
 refine VlS (.tuple #[.agg (bytesA 32 cc), .bool true]) ?_
 refine VlS (.agg (bytesA 32 cc)) ?_
 refine VbT ?_
 refine WL.new (by kernel_rfl) 25 rfl _ Try.new25 ?_
 have U6 := Keep.mk (Blk.new w5 25 (bytesA 32 fun _ => 0))
 have b6 := Keep.mk (below_new w5 (.cells (bytesA 32 fun _ => 0) 25))
 change WL _ _ _ _ _ (w5.alloc (.cells (bytesA 32 fun _ => 0) 25))
 generalize w5.alloc (.cells (bytesA 32 fun _ => 0) 25) = w6 at *
 obtain ⟨u, hu0⟩ : ∃ z, Keep (z = w5.heap.size) := ⟨_, ⟨rfl⟩⟩
 rw [← hu0.out] at U6 ⊢
 have BK6 := Keep.mk (BK5.out.below b6.out)
 have G6 : Keep (Grown w w6 (BkS B w)) := ⟨G5.out.belowS b6.out⟩
 have huw : Keep (w.heap.size ≤ u) := ⟨by rw [hu0.out]; exact G5.out.size⟩
 have R6 := Keep.mk (R5.out.below b6.out R5.out.lt)
 have eR6u : Keep (r ≠ u) := ⟨by have := R5.out.lt; have := hu0.out; omega⟩
 have C6 := Keep.mk (C5.out.below b6.out C5.out.lt)
 have eC6u : Keep (c ≠ u) := ⟨by have := C5.out.lt; have := hu0.out; omega⟩
 have D6 := Keep.mk (D5.out.below b6.out D5.out.lt)
 have eD6u : Keep (d ≠ u) := ⟨by have := D5.out.lt; have := hu0.out; omega⟩
 clear b6 hu0
 simp only [Act.put, pqA, pqB, pqC]
 refine WL.storeR (by kernel_rfl) 25 (.tmp 15) (.tmp 52) rfl u (bytesA 32 cc) rfl rfl 25 (bytesA 32 fun _ => 0) U6.out (Try.size25B _) (bytesA_sizes _ _ _) (bytesA_one _ _) ?_
 have U7 := Keep.mk (U6.out.setRow (bytesA 32 cc))
 have BK7 := Keep.mk (BK6.out.setRow U6.out (bytesA 32 cc) (by decide) (by decide) (by decide))
 have G7 : Keep (Grown w (w6.setRow u (bytesA 32 cc)) (BkS B w)) := ⟨G6.out.next (Grown.setRow w6 u _ (S := fun k => k = u) fun _ => rfl) fun k hk e => by have := huw.out; omega⟩
 have R7 := Keep.mk (R6.out.setRow_ne eR6u.out (bytesA 32 cc))
 have C7 := Keep.mk (C6.out.setRow_ne eC6u.out (bytesA 32 cc))
 have D7 := Keep.mk (D6.out.setRow_ne eD6u.out (bytesA 32 cc))
 generalize w6.setRow u (bytesA 32 cc) = w7 at *
 simp only [Act.put]
 refine VbT ?_
 refine WL.nil (hK11 _ _ ?_)
 refine wp_seq_k fun K12 hK12 => ?_
 refine wp_seq_k fun K13 hK13 => rgn ?_
 refine VbT ?_
 refine VbF ?_
 refine WL.nil (hK13 _ _ ?_)
 refine wp_cond_false rfl ?_
 refine wp_skip ?_
 refine hK12 _ _ ?_
 refine wp_seq_k fun K14 hK14 => rgn ?_
 refine VlS (.pointer (some ⟨x, 0, none⟩)) ?_
 refine WL.row (by kernel_rfl) 25 (.tmp 15) rfl u rfl 25 (bytesA 32 cc) _ U7.out Try.underlying25 rfl (Try.size25B _) ?_
 simp only [Act.put, pqA, pqB, pqC]
 refine WL.row (by kernel_rfl) 25 (.tmp 12) rfl d rfl 25 (bytesA 32 y.f) _ D7.out Try.underlying25 rfl (Try.size25B _) ?_
 simp only [Act.put, pqA, pqB, pqC]
 have hin := inner_any B x (cc) (y.f) (R ++ rs) w7 BK7.out (by have := HN.out; have := N5.out; rw [List.length_append]; omega) (Nat.le_trans HB.out G7.out.size)
 refine WL.callF (by kernel_rfl) 78 _ _ rfl Try.in78 #[.pointer (some ⟨x, 0, none⟩), .agg (bytesA 32 (cc)), .agg (bytesA 32 (y.f))] (by simp [Act.eval]) ?_
 refine (hin).mono ?_
 rintro e w8 ⟨rfl, k1, k2⟩
 refine ⟨_, rfl, ?_⟩
 have BK8 := Keep.mk k1
 have G8 : Keep (Grown w w8 (BkS B w)) := ⟨BkS.next G7.out k2⟩
 have R8 := Keep.mk (R7.out.bk k2 (by decide) (by decide))
 clear hin k1 k2
 simp only [Act.put, pqA, pqB, pqC]
 refine WL.storeR (by kernel_rfl) 25 (.tmp 10) (.tmp 60) rfl r (bytesA 32 (shaP (RtP.innR (hl 32 (cc)) (hl 32 (y.f))))) rfl rfl 25 (bytesA 32 fun _ => 0) R8.out (Try.size25B _) (bytesA_sizes _ _ _) (bytesA_one _ _) ?_
 have R9 := Keep.mk (R8.out.setRow (bytesA 32 (shaP (RtP.innR (hl 32 (cc)) (hl 32 (y.f))))))
 have BK9 := Keep.mk (BK8.out.setRow R8.out (bytesA 32 (shaP (RtP.innR (hl 32 (cc)) (hl 32 (y.f))))) (by decide) (by decide) (by decide))
 have G9 : Keep (Grown w (w8.setRow r (bytesA 32 (shaP (RtP.innR (hl 32 (cc)) (hl 32 (y.f)))))) (BkS B w)) := ⟨G8.out.next (Grown.setRow w8 r _ (S := fun k => k = r) fun _ => rfl) fun k hk e => by have := hrw.out; omega⟩
 
 generalize w8.setRow r (bytesA 32 (shaP (RtP.innR (hl 32 (cc)) (hl 32 (y.f))))) = w9 at *
 simp only [Act.put]
 refine VbT ?_
 refine WL.nil (hK14 _ _ ?_)
 refine wp_ret ?_
 try simp only [Exit.inBlock, Exit.then]
 refine bodyPost_ret (v := .tuple #[.agg (bytesA 32 (shaP (RtP.innR (hl 32 (cc)) (hl 32 (y.f))))), .bool true]) (results_cell_row2 Try.results80 _ _ r 25 _ (0, 0) _ _ rfl rfl R9.out Try.underlying25 rfl (Try.size25B _)) rfl ?_
 have hlc : hl 32 cc = t := by rw [hl_of_arr HCT.out, hl_hof HT.out]
 refine ⟨_, _, rs ++ [RtP.innR (hl 32 (cc)) (hl 32 (y.f))], rfl, by rw [← List.append_assoc]; exact BK9.out, by have := N5.out; rw [List.length_append, List.length_append]; simp; omega, G9.out, ?_⟩
 rw [climbL_lo (by omega) (by rw [hm.out]; exact hlo), hm.out, Hcl.out]
 refine ⟨rfl, ?_, ?_⟩
 ·rw [shaL, hof_hl, hlc]; rfl
 ·rw [hlc]; rfl
set_option maxRecDepth 8000 in
theorem climb_hi_s (B x : Nat) (h : List Int) (qs : List Hs) (y : Hs) (IH : ∀ (b off cap n i : Nat) (R : List (List Int)) (w : World), 1 ≤ n → n < 9223372036854775808 → i < n → BkH B w x R → R.length + qs.length + 1 ≤ 4398046511104 → (b < B ∧ qs.length ≤ cap ∧ w.rangeAt b off (flatH qs)) → B ≤ w.heap.size → (climbL n i h qs).isSome = true → Calls Try.prog 80 #[.pointer (some ⟨x, 0, none⟩), .int .i64 (n : Int), .int .i64 (i : Int), .agg (bytesA 32 (hof h)), .slice (some ⟨b, off, none⟩) qs.length cap] w (CP B x n i h qs R w))
  (b off cap n i m p q : Nat) (R : List (List Int)) (w : World) (t : List Int) (rt : List (List Int)) (ht : t.length = 32) (hm : Keep (RtP.half n = m)) (hq : Keep (qs.length = q)) (hqq : qs.length = q) (hp : p = q + 1) (Hcl : Keep (climbL (n - m) (i - m) h qs = some (t, rt))) (hn : 2 ≤ n) (Hn : Keep (n < 9223372036854775808)) (hi : i < n) (hlo : ¬ i < m) (hK : BkH B w x R) (hN : R.length + p + 1 ≤ 4398046511104) (hbB : b < B) (hcap : p ≤ cap) (hP : w.rangeAt b off (flatH (qs ++ [y]))) (hB : B ≤ w.heap.size) :
  Calls Try.prog 80 #[.pointer (some ⟨x, 0, none⟩), .int .i64 (n : Int), .int .i64 (i : Int), .agg (bytesA 32 (hof h)), .slice (some ⟨b, off, none⟩) p cap] w (CP B x n i h (qs ++ [y]) R w) := by
 have hh := RtP.half_le hn
 rw [hm.out] at hh
 have HL : Keep (R.length + qs.length + 1 ≤ 4398046511104) := ⟨by rw [hqq]; omega⟩
 have HPq : Keep (∀ wx, Below B w wx → (b < B ∧ qs.length ≤ cap ∧ wx.rangeAt b off (flatH qs))) := ⟨fun wx hb => ⟨hbB, by omega, fun j v hv => rangeAt_below hP hb hbB j v (by rw [flatH_app]; exact List.getElem?_append_left (List.getElem?_eq_some_iff.1 hv).1 ▸ hv)⟩⟩
 have HP := Keep.mk hP
 have HN := Keep.mk hN
 have HB := Keep.mk hB
 have HT := Keep.mk ht
 have HK := Keep.mk hK
 clear hK
 have hn1 : ((n : Int) == 1) = false := by simp; omega
 have hp1 : ((p : Int) == 0) = false := by simp; omega
 have hpq : IntKind.i64.wrap ((p : Int) - 1) = (q : Int) := by rw [IntKind.wrap_i64]; omega
 have hqp : (q : Int) < (p : Int) := by omega
 have hlo' : ¬ (i : Int) < (m : Int) := by omega
 have hwn : IntKind.i64.wrap ((n : Int) - (m : Int)) = ((n - m : Nat) : Int) := by rw [IntKind.wrap_i64]; have := Hn.out; omega
 have hwi : IntKind.i64.wrap ((i : Int) - (m : Int)) = ((i - m : Nat) : Int) := by rw [IntKind.wrap_i64]; have := Hn.out; omega
 clear hP hN hB hp
 go_enter Try.func80, Try.ntmps80
 refine wp_seq_k fun K1 hK1 => rgn ?_
 refine WL.box (by kernel_rfl) 25 (.tmp 3) rfl (bytesA 32 (hof h)) rfl ?_
 have C1 := Keep.mk (Blk.new w 25 (bytesA 32 (hof h)))
 have b1 := Keep.mk (below_new w (.cells (bytesA 32 (hof h)) 25))
 change WL _ _ _ _ _ (w.alloc (.cells (bytesA 32 (hof h)) 25))
 generalize w.alloc (.cells (bytesA 32 (hof h)) 25) = w1 at *
 obtain ⟨c, hc0⟩ : ∃ z, Keep (z = w.heap.size) := ⟨_, ⟨rfl⟩⟩
 rw [← hc0.out] at C1 ⊢
 simp only [Act.put, pqA, pqB, pqC]
 refine WL.new (by kernel_rfl) 25 rfl _ Try.new25 ?_
 have R2 := Keep.mk (Blk.new w1 25 (bytesA 32 fun _ => 0))
 have b2 := Keep.mk (below_new w1 (.cells (bytesA 32 fun _ => 0) 25))
 change WL _ _ _ _ _ (w1.alloc (.cells (bytesA 32 fun _ => 0) 25))
 generalize w1.alloc (.cells (bytesA 32 fun _ => 0) 25) = w2 at *
 obtain ⟨r, hr0⟩ : ∃ z, Keep (z = w1.heap.size) := ⟨_, ⟨rfl⟩⟩
 rw [← hr0.out] at R2 ⊢
 have C2 := Keep.mk (C1.out.below b2.out C1.out.lt)
 have B2 : Keep (Below w.heap.size w w2) := ⟨b1.out.trans (b2.out.mono b1.out.size)⟩
 have G2 : Keep (Grown w w2 (BkS B w)) := ⟨Grown.below B2.out⟩
 have hrw : Keep (w.heap.size ≤ r) := ⟨by rw [hr0.out]; exact b1.out.size⟩
 have eC2r : Keep (c ≠ r) := ⟨by have := C1.out.lt; have := hr0.out; omega⟩
 have BK2 := Keep.mk (HK.out.below B2.out)
 clear C1 b1 b2 hr0 hc0
 simp only [Act.put, pqA, pqB, pqC]
 refine VbF ?_
 refine WL.nil (hK1 _ _ ?_)
 refine wp_seq_k fun K2 hK2 => ?_
 refine wp_seq_k fun K3 hK3 => rgn ?_
 refine VlS (.int .i64 (n : Int)) ?_
 refine VbF ?_
 refine WL.nil (hK3 _ _ ?_)
 refine wp_cond_false rfl ?_
 refine wp_skip ?_
 refine hK2 _ _ ?_
 refine wp_seq_k fun K4 hK4 => ?_
 refine wp_seq_k fun K5 hK5 => rgn ?_
 refine VlS (.slice (some ⟨b, off, none⟩) p cap) ?_
 refine VlS (.int .i64 (p : Int)) ?_
 refine VbF ?_
 refine WL.nil (hK5 _ _ ?_)
 refine wp_cond_false rfl ?_
 refine wp_skip ?_
 refine hK4 _ _ ?_
 refine wp_seq_k fun K6 hK6 => rgn ?_
 refine VlS (.slice (some ⟨b, off, none⟩) p cap) ?_
 refine VlS (.slice (some ⟨b, off, none⟩) p cap) ?_
 refine VlS (.int .i64 (p : Int)) ?_
 refine VlS (.int .i64 (q : Int)) ?_
 refine VlS (.pointer (some ⟨b, off + q * 32, none⟩)) ?_
 have hat : w2.rangeAt b (off + q * 32) (bytesA 32 y.f).toList := by
  have h1 := rangeAt_elem (rangeAt_below HP.out (G2.out.bkBelow HB.out) hbB) q (by rw [List.length_append, hq.out]; simp)
  have h2 : (qs ++ [y])[q]'(by rw [List.length_append, hq.out]; simp) = y := by subst hqq; simp
  rw [h2] at h1
  exact h1
 refine WL.midA (by kernel_rfl) 25 (.tmp 33) rfl b (off + q * 32) rfl (bytesA 32 y.f) _ hat Try.underlying25 rfl (Try.size25B _) ?_
 clear hat
 simp only [Act.put, pqA, pqB, pqC]
 refine WL.new (by kernel_rfl) 25 rfl _ Try.new25 ?_
 have D3 := Keep.mk (Blk.new w2 25 (bytesA 32 fun _ => 0))
 have b3 := Keep.mk (below_new w2 (.cells (bytesA 32 fun _ => 0) 25))
 change WL _ _ _ _ _ (w2.alloc (.cells (bytesA 32 fun _ => 0) 25))
 generalize w2.alloc (.cells (bytesA 32 fun _ => 0) 25) = w3 at *
 obtain ⟨d, hd0⟩ : ∃ z, Keep (z = w2.heap.size) := ⟨_, ⟨rfl⟩⟩
 rw [← hd0.out] at D3 ⊢
 have BK3 := Keep.mk (BK2.out.below b3.out)
 have G3 : Keep (Grown w w3 (BkS B w)) := ⟨G2.out.belowS b3.out⟩
 have hdw : Keep (w.heap.size ≤ d) := ⟨by rw [hd0.out]; exact G2.out.size⟩
 have R3 := Keep.mk (R2.out.below b3.out R2.out.lt)
 have eR3d : Keep (r ≠ d) := ⟨by have := R2.out.lt; have := hd0.out; omega⟩
 have C3 := Keep.mk (C2.out.below b3.out C2.out.lt)
 have eC3d : Keep (c ≠ d) := ⟨by have := C2.out.lt; have := hd0.out; omega⟩
 clear b3 hd0
 simp only [Act.put, pqA, pqB, pqC]
 refine WL.storeR (by kernel_rfl) 25 (.tmp 12) (.tmp 34) rfl d (bytesA 32 y.f) rfl rfl 25 (bytesA 32 fun _ => 0) D3.out (Try.size25B _) (bytesA_sizes _ _ _) (bytesA_one _ _) ?_
 have D4 := Keep.mk (D3.out.setRow (bytesA 32 y.f))
 have BK4 := Keep.mk (BK3.out.setRow D3.out (bytesA 32 y.f) (by decide) (by decide) (by decide))
 have G4 : Keep (Grown w (w3.setRow d (bytesA 32 y.f)) (BkS B w)) := ⟨G3.out.next (Grown.setRow w3 d _ (S := fun k => k = d) fun _ => rfl) fun k hk e => by have := hdw.out; omega⟩
 have R4 := Keep.mk (R3.out.setRow_ne eR3d.out (bytesA 32 y.f))
 have C4 := Keep.mk (C3.out.setRow_ne eC3d.out (bytesA 32 y.f))
 generalize w3.setRow d (bytesA 32 y.f) = w4 at *
 simp only [Act.put]
 refine WL.nil (hK6 _ _ ?_)
 refine wp_seq_k fun K7 hK7 => rgn ?_
 refine VlS (.slice (some ⟨b, off, none⟩) p cap) ?_
 refine VlS (.slice (some ⟨b, off, none⟩) p cap) ?_
 refine VlS (.int .i64 (p : Int)) ?_
 refine VlS (.int .i64 (q : Int)) ?_
 refine WL.slr (by kernel_rfl) 67 (.tmp 35) none (some (.tmp 38)) rfl (.slice (some ⟨b, off, none⟩) p cap) none (some (.int .i64 (q : Int))) (.slice (some ⟨b, off, none⟩) q cap) rfl rfl rfl (slH_h _ p cap q (by omega) _) ?_
 simp only [Act.put, pqA, pqB, pqC]
 refine VlS (.slice (some ⟨b, off, none⟩) q cap) ?_
 refine WL.nil (hK7 _ _ ?_)
 refine wp_seq_k fun K8 hK8 => rgn ?_
 refine VlS (.int .i64 (n : Int)) ?_
 refine WL.callF (by kernel_rfl) 77 _ _ rfl Try.in77 #[.int .i64 (n : Int)] (by simp [Act.eval]) ?_
 refine (half_any n w4 (by omega) Hn.out).mono ?_
 rintro e w1_ ⟨rfl, hw_⟩
 refine ⟨_, rfl, ?_⟩
 have hw_ := hw_.symm
 subst hw_
 rw [hm.out]
 simp only [Act.put, pqA, pqB, pqC]
 refine VlS (.int .i64 (m : Int)) ?_
 refine WL.nil (hK8 _ _ ?_)
 refine wp_seq_k fun K9 hK9 => ?_
 refine wp_seq_k fun K10 hK10 => rgn ?_
 refine VlS (.int .i64 (i : Int)) ?_
 refine VlS (.int .i64 (m : Int)) ?_
 refine VbF ?_
 refine WL.nil (hK10 _ _ ?_)
 refine wp_cond_false rfl ?_
 refine wp_skip ?_
 refine hK9 _ _ ?_
 refine wp_seq_k fun K11 hK11 => rgn ?_
 refine VlS (.pointer (some ⟨x, 0, none⟩)) ?_
 refine VlS (.int .i64 (n : Int)) ?_
 refine VlS (.int .i64 (m : Int)) ?_
 refine VlS (.int .i64 ((n - m : Nat) : Int)) ?_
 refine VlS (.int .i64 (i : Int)) ?_
 refine VlS (.int .i64 (m : Int)) ?_
 refine VlS (.int .i64 ((i - m : Nat) : Int)) ?_
 refine WL.row (by kernel_rfl) 25 (.tmp 8) rfl c rfl 25 (bytesA 32 (hof h)) _ C4.out Try.underlying25 rfl (Try.size25B _) ?_
 simp only [Act.put, pqA, pqB, pqC]
 refine VlS (.slice (some ⟨b, off, none⟩) q cap) ?_
 have hrc := IH b off cap (n - m) (i - m) R w4 (by omega) (by have := Hn.out; omega) (by omega) BK4.out HL.out (HPq.out w4 (G4.out.bkBelow HB.out)) (Nat.le_trans HB.out G4.out.size) (by rw [Hcl.out]; rfl)
 rw [hq.out] at hrc
 refine WL.callF (by kernel_rfl) 80 _ _ rfl Try.in80 #[.pointer (some ⟨x, 0, none⟩), .int .i64 ((n - m : Nat) : Int), .int .i64 ((i - m : Nat) : Int), .agg (bytesA 32 (hof h)), .slice (some ⟨b, off, none⟩) q cap] (by simp [Act.eval]) ?_
 refine (hrc).mono ?_
 rintro e w5 ⟨cc, ok, rs, rfl, k1, k2, k3, k4⟩
 refine ⟨_, rfl, ?_⟩
 rw [Hcl.out] at k4
 obtain ⟨rfl, hct, rfl⟩ := k4
 have BK5 := Keep.mk k1
 have N5 := Keep.mk k2
 have G5 : Keep (Grown w w5 (BkS B w)) := ⟨BkS.next G4.out k3⟩
 have R5 := Keep.mk (R4.out.bk k3 (by decide) (by decide))
 have C5 := Keep.mk (C4.out.bk k3 (by decide) (by decide))
 have D5 := Keep.mk (D4.out.bk k3 (by decide) (by decide))
 have HCT := Keep.mk hct
 clear hrc k1 k2 k3 hct
 simp only [Act.put, pqA, pqB, pqC]
 refine VlS (.tuple #[.agg (bytesA 32 cc), .bool true]) ?_
 refine VlS (.agg (bytesA 32 cc)) ?_
 refine VbT ?_
 refine WL.new (by kernel_rfl) 25 rfl _ Try.new25 ?_
 have U6 := Keep.mk (Blk.new w5 25 (bytesA 32 fun _ => 0))
 have b6 := Keep.mk (below_new w5 (.cells (bytesA 32 fun _ => 0) 25))
 change WL _ _ _ _ _ (w5.alloc (.cells (bytesA 32 fun _ => 0) 25))
 generalize w5.alloc (.cells (bytesA 32 fun _ => 0) 25) = w6 at *
 obtain ⟨u, hu0⟩ : ∃ z, Keep (z = w5.heap.size) := ⟨_, ⟨rfl⟩⟩
 rw [← hu0.out] at U6 ⊢
 have BK6 := Keep.mk (BK5.out.below b6.out)
 have G6 : Keep (Grown w w6 (BkS B w)) := ⟨G5.out.belowS b6.out⟩
 have huw : Keep (w.heap.size ≤ u) := ⟨by rw [hu0.out]; exact G5.out.size⟩
 have R6 := Keep.mk (R5.out.below b6.out R5.out.lt)
 have eR6u : Keep (r ≠ u) := ⟨by have := R5.out.lt; have := hu0.out; omega⟩
 have C6 := Keep.mk (C5.out.below b6.out C5.out.lt)
 have eC6u : Keep (c ≠ u) := ⟨by have := C5.out.lt; have := hu0.out; omega⟩
 have D6 := Keep.mk (D5.out.below b6.out D5.out.lt)
 have eD6u : Keep (d ≠ u) := ⟨by have := D5.out.lt; have := hu0.out; omega⟩
 clear b6 hu0
 simp only [Act.put, pqA, pqB, pqC]
 refine WL.storeR (by kernel_rfl) 25 (.tmp 17) (.tmp 72) rfl u (bytesA 32 cc) rfl rfl 25 (bytesA 32 fun _ => 0) U6.out (Try.size25B _) (bytesA_sizes _ _ _) (bytesA_one _ _) ?_
 have U7 := Keep.mk (U6.out.setRow (bytesA 32 cc))
 have BK7 := Keep.mk (BK6.out.setRow U6.out (bytesA 32 cc) (by decide) (by decide) (by decide))
 have G7 : Keep (Grown w (w6.setRow u (bytesA 32 cc)) (BkS B w)) := ⟨G6.out.next (Grown.setRow w6 u _ (S := fun k => k = u) fun _ => rfl) fun k hk e => by have := huw.out; omega⟩
 have R7 := Keep.mk (R6.out.setRow_ne eR6u.out (bytesA 32 cc))
 have C7 := Keep.mk (C6.out.setRow_ne eC6u.out (bytesA 32 cc))
 have D7 := Keep.mk (D6.out.setRow_ne eD6u.out (bytesA 32 cc))
 generalize w6.setRow u (bytesA 32 cc) = w7 at *
 simp only [Act.put]
 refine VbT ?_
 refine WL.nil (hK11 _ _ ?_)
 refine wp_seq_k fun K12 hK12 => ?_
 refine wp_seq_k fun K13 hK13 => rgn ?_
 refine VbT ?_
 refine VbF ?_
 refine WL.nil (hK13 _ _ ?_)
 refine wp_cond_false rfl ?_
 refine wp_skip ?_
 refine hK12 _ _ ?_
 refine wp_seq_k fun K14 hK14 => rgn ?_
 refine VlS (.pointer (some ⟨x, 0, none⟩)) ?_
 refine WL.row (by kernel_rfl) 25 (.tmp 12) rfl d rfl 25 (bytesA 32 y.f) _ D7.out Try.underlying25 rfl (Try.size25B _) ?_
 simp only [Act.put, pqA, pqB, pqC]
 refine WL.row (by kernel_rfl) 25 (.tmp 17) rfl u rfl 25 (bytesA 32 cc) _ U7.out Try.underlying25 rfl (Try.size25B _) ?_
 simp only [Act.put, pqA, pqB, pqC]
 have hin := inner_any B x (y.f) (cc) (R ++ rs) w7 BK7.out (by have := HN.out; have := N5.out; rw [List.length_append]; omega) (Nat.le_trans HB.out G7.out.size)
 refine WL.callF (by kernel_rfl) 78 _ _ rfl Try.in78 #[.pointer (some ⟨x, 0, none⟩), .agg (bytesA 32 (y.f)), .agg (bytesA 32 (cc))] (by simp [Act.eval]) ?_
 refine (hin).mono ?_
 rintro e w8 ⟨rfl, k1, k2⟩
 refine ⟨_, rfl, ?_⟩
 have BK8 := Keep.mk k1
 have G8 : Keep (Grown w w8 (BkS B w)) := ⟨BkS.next G7.out k2⟩
 have R8 := Keep.mk (R7.out.bk k2 (by decide) (by decide))
 clear hin k1 k2
 simp only [Act.put, pqA, pqB, pqC]
 refine WL.storeR (by kernel_rfl) 25 (.tmp 10) (.tmp 80) rfl r (bytesA 32 (shaP (RtP.innR (hl 32 (y.f)) (hl 32 (cc))))) rfl rfl 25 (bytesA 32 fun _ => 0) R8.out (Try.size25B _) (bytesA_sizes _ _ _) (bytesA_one _ _) ?_
 have R9 := Keep.mk (R8.out.setRow (bytesA 32 (shaP (RtP.innR (hl 32 (y.f)) (hl 32 (cc))))))
 have BK9 := Keep.mk (BK8.out.setRow R8.out (bytesA 32 (shaP (RtP.innR (hl 32 (y.f)) (hl 32 (cc))))) (by decide) (by decide) (by decide))
 have G9 : Keep (Grown w (w8.setRow r (bytesA 32 (shaP (RtP.innR (hl 32 (y.f)) (hl 32 (cc)))))) (BkS B w)) := ⟨G8.out.next (Grown.setRow w8 r _ (S := fun k => k = r) fun _ => rfl) fun k hk e => by have := hrw.out; omega⟩
 
 generalize w8.setRow r (bytesA 32 (shaP (RtP.innR (hl 32 (y.f)) (hl 32 (cc))))) = w9 at *
 simp only [Act.put]
 refine VbT ?_
 refine WL.nil (hK14 _ _ ?_)
 refine wp_ret ?_
 try simp only [Exit.inBlock, Exit.then]
 refine bodyPost_ret (v := .tuple #[.agg (bytesA 32 (shaP (RtP.innR (hl 32 (y.f)) (hl 32 (cc))))), .bool true]) (results_cell_row2 Try.results80 _ _ r 25 _ (0, 0) _ _ rfl rfl R9.out Try.underlying25 rfl (Try.size25B _)) rfl ?_
 have hlc : hl 32 cc = t := by rw [hl_of_arr HCT.out, hl_hof HT.out]
 refine ⟨_, _, rs ++ [RtP.innR (hl 32 (y.f)) (hl 32 (cc))], rfl, by rw [← List.append_assoc]; exact BK9.out, by have := N5.out; rw [List.length_append, List.length_append]; simp; omega, G9.out, ?_⟩
 rw [climbL_hi (by omega) (by rw [hm.out]; exact hlo), hm.out, Hcl.out]
 refine ⟨rfl, ?_, ?_⟩
 ·rw [shaL, hof_hl, hlc]; rfl
 ·rw [hlc]; rfl
theorem climb_sat (B x : Nat) (h : List Int) (hh : h.length = 32) : ∀ (k : Nat) (ps : List Hs), ps.length = k → ∀ (b off cap n i : Nat) (R : List (List Int)) (w : World), 1 ≤ n → n < 9223372036854775808 → i < n → BkH B w x R → R.length + ps.length + 1 ≤ 4398046511104 → (b < B ∧ ps.length ≤ cap ∧ w.rangeAt b off (flatH ps)) → B ≤ w.heap.size → (climbL n i h ps).isSome = true → Calls Try.prog 80 #[.pointer (some ⟨x, 0, none⟩), .int .i64 (n : Int), .int .i64 (i : Int), .agg (bytesA 32 (hof h)), .slice (some ⟨b, off, none⟩) ps.length cap] w (CP B x n i h ps R w)
 | k, ps, hk, b, off, cap, n, i, R, w, h1, h2, hi, hK, hN, hP, hB, hs => by
  by_cases e1 : n = 1
  ·subst e1
   exact climb_end B x i ps.length cap _ h ps R w ⟨rfl⟩ hK
  ·match k, hk with
   | 0, hk =>
    obtain rfl := List.eq_nil_of_length_eq_zero hk
    rw [climbL_short i h (by omega)] at hs
    cases hs
   | k + 1, hk =>
    obtain ⟨qs, y, rfl⟩ : ∃ qs y, ps = qs ++ [y] := ⟨ps.dropLast, ps.getLast (by intro e; subst e; simp at hk), (List.dropLast_concat_getLast _).symm⟩
    have hl : (qs ++ [y]).length = qs.length + 1 := by simp
    rw [hl] at hN hP hk ⊢
    have IH := climb_sat B x h hh k qs (by omega)
    by_cases hlo : i < RtP.half n
    ·cases e : climbL (RtP.half n) i h qs with
     | none => rw [climbL_lo (by omega) hlo, e] at hs; cases hs
     | some z => exact climb_lo_s B x h qs y IH b off cap n i _ _ _ R w z.1 z.2 (RtP.climb_len shaL shaL_len _ _ _ _ _ _ _ hh e) ⟨rfl⟩ ⟨rfl⟩ rfl rfl ⟨e⟩ (by omega) ⟨h2⟩ hi hlo hK (by omega) hP.1 hP.2.1 hP.2.2 hB
    ·cases e : climbL (n - RtP.half n) (i - RtP.half n) h qs with
     | none => rw [climbL_hi (by omega) hlo, e] at hs; cases hs
     | some z => exact climb_hi_s B x h qs y IH b off cap n i _ _ _ R w z.1 z.2 (RtP.climb_len shaL shaL_len _ _ _ _ _ _ _ hh e) ⟨rfl⟩ ⟨rfl⟩ rfl rfl ⟨e⟩ (by omega) ⟨h2⟩ hi hlo hK (by omega) hP.1 hP.2.1 hP.2.2 hB
theorem climb_sm (B x n i : Nat) (h : List Int) (hh : h.length = 32) (v : Value) (ps : List Hs) (R : List (List Int)) (w : World) (h1 : 1 ≤ n) (h2 : n < 9223372036854775808) (hi : i < n) (hK : BkH B w x R) (hN : R.length + ps.length + 1 ≤ 4398046511104) (hP : HPa B w v ps) (hB : B ≤ w.heap.size) (hs : (climbL n i h ps).isSome = true) :
  Calls Try.prog 80 #[.pointer (some ⟨x, 0, none⟩), .int .i64 (n : Int), .int .i64 (i : Int), .agg (bytesA 32 (hof h)), v] w (CP B x n i h ps R w) := by
 rcases hP with ⟨a, c, rfl, rfl⟩ | ⟨b, off, cap, rfl, h3, h4, h5⟩
 ·by_cases e1 : n = 1
  ·subst e1
   exact climb_end B x i 0 c a h [] R w ⟨rfl⟩ hK
  ·rw [climbL_short i h (by omega)] at hs
   cases hs
 ·exact climb_sat B x h hh _ ps rfl b off cap n i R w h1 h2 hi hK hN ⟨h4, h3, h5⟩ hB hs
set_option maxRecDepth 8000 in
set_option maxHeartbeats 1000000 in
theorem rg_ys (B x n : Nat) (y : LV) (root : Hs) (rows : List (List Int)) (w : World) (hn : 0 < n) (Hn : Keep (n < 9223372036854775808)) (hkm : kmay y.c.k = true) (i : Nat) (hi : Keep (y.num = (i : Int))) (hin : i < n) (t : List Int) (rt : List (List Int)) (hcl : Keep (climbL n i (lfH y) y.ps = some (t, rt))) (xt : Hs) (hxt : Keep (xt = shaH (RtP.topR le8 n t))) (HE : Keep (decide (xt = root) = true)) (hK : BkH B w x rows) (hL : LfAt B w y) (hsz : y.c.s.size + y.c.l.length ≤ 140737488350000) (hN : rows.length + y.ps.length + 3 ≤ 4398046511104) (hB : B ≤ w.heap.size) : Calls Try.prog 59 #[.pointer (some ⟨x, 0, none⟩), .agg (bytesA 32 root.f), .int .i64 (n : Int), .agg (lvA y)] w (RgP B x n y root rows w) := by
 have hres : Keep ((okL (n : Int) y && rgtB n y root) = true) := ⟨by
  unfold rgtB okL; rw [hi.out, Int.toNat_natCast, hcl.out, hkm]; simp only; rw [← hxt.out, HE.out]; simp; omega⟩
 have HK := Keep.mk hK
 have HN := Keep.mk hN
 have HB := Keep.mk hB
 have HLf : Keep (∀ wx, Below w.heap.size w wx → LfAt w.heap.size wx y) := ⟨fun wx hb => (hL.mono hB).below hb⟩
 have HPa5 : Keep (∀ wx, Below B w wx → HPa B wx y.pv y.ps) := ⟨fun wx hb => hL.pa.below hb⟩
 have HF : Keep ((0 ≤ y.c.k ∧ y.c.k < 9223372036854775808) ∧ y.c.s.size + y.c.l.length ≤ 140737488350000) := ⟨by have h := hkm; unfold kmay at h; simp at h; omega⟩
 have hck : Keep ((y.c.k.toNat : Int) = y.c.k) := ⟨by have := HF.out; omega⟩
 have hz1 : ¬ y.num < 0 := by have := hi.out; omega
 have hz2 : ¬ y.num ≥ (n : Int) := by have := hi.out; omega
 have hz2' : ¬ (n : Int) ≤ y.num := by have := hi.out; omega
 have HTl : Keep (t.length = 32) := ⟨RtP.climb_len shaL shaL_len _ _ _ _ _ _ _ (shaL_len _) hcl.out⟩
 obtain ⟨ht_, hte⟩ : ∃ z : Array Value, Keep (z = bytesA 32 xt.f) := ⟨_, ⟨rfl⟩⟩
 clear hK hL hN hB hsz
 go_enter Try.func59, Try.ntmps59
 refine wp_seq_k fun K1 hK1 => rgn ?_
 refine WL.box (by kernel_rfl) 25 (.tmp 1) rfl (bytesA 32 root.f) rfl ?_
 have Q1 := Keep.mk (Blk.new w 25 (bytesA 32 root.f))
 have b_ := below_new w (.cells (bytesA 32 root.f) 25)
 change WL _ _ _ _ _ (w.alloc (.cells (bytesA 32 root.f) 25))
 generalize w.alloc (.cells (bytesA 32 root.f) 25) = w1 at *
 obtain ⟨q, hq0⟩ : ∃ z, Keep (z = w.heap.size) := ⟨_, ⟨rfl⟩⟩
 rw [← hq0.out] at Q1 ⊢
 have B1 : Keep (Below w.heap.size w w1) := ⟨b_⟩
 have gq : Keep (w.heap.size ≤ q) := ⟨by rw [hq0.out]; exact Nat.le_refl _⟩
 clear b_
 simp only [Act.put, pqA, pqB, pqC]
 refine WL.box (by kernel_rfl) 69 (.tmp 3) rfl (lvA y) rfl ?_
 have Z2 := Keep.mk (Blk.new w1 69 (lvA y))
 have b_ := below_new w1 (.cells (lvA y) 69)
 change WL _ _ _ _ _ (w1.alloc (.cells (lvA y) 69))
 generalize w1.alloc (.cells (lvA y) 69) = w2 at *
 obtain ⟨z, hz0⟩ : ∃ z, Keep (z = w1.heap.size) := ⟨_, ⟨rfl⟩⟩
 rw [← hz0.out] at Z2 ⊢
 have Q2 := Keep.mk (Q1.out.below b_ Q1.out.lt)
 have B2 : Keep (Below w.heap.size w w2) := ⟨B1.out.trans (b_.mono B1.out.size)⟩
 have gz : Keep (w.heap.size ≤ z) := ⟨by rw [hz0.out]; exact B1.out.size⟩
 clear b_
 have BK2 := Keep.mk (HK.out.below B2.out)
 have G2 : Keep (Grown w w2 (BkS B w)) := ⟨Grown.below B2.out⟩
 have z0 : w2.cell? ⟨z, 0, none⟩ = some (.int .i64 y.num) := Z2.out.c 0 rfl
 have z1 : w2.cell? ⟨z, 1, none⟩ = some (.int .i64 y.c.k) := Z2.out.c 1 rfl
 simp only [Act.put, pqA, pqB, pqC]
 refine VbF ?_
 refine WL.nil (hK1 _ _ ?_)
 refine wp_seq_k fun K2 hK2 => rgn ?_
 refine VlS (.pointer (some ⟨z, 1, none⟩)) ?_
 refine VlS (.pointer (some ⟨z, 1, none⟩)) ?_
 refine VlS (.int .i64 y.c.k) ?_
 refine WL.callF (by kernel_rfl) 31 _ _ rfl Try.in31 #[.int .i64 y.c.k] (by simp [Act.eval]) ?_
 refine (kmay_any y.c.k _).mono ?_
 rintro e w1_ ⟨rfl, hw_⟩
 refine ⟨_, rfl, ?_⟩
 have hw_ := hw_.symm
 subst hw_
 rw [hkm]
 simp only [Act.put, pqA, pqB, pqC]
 refine VbT ?_
 refine WL.nil (hK2 _ _ ?_)
 refine wp_seq_k fun K3 hK3 => ?_
 refine wp_seq_k fun K4 hK4 => rgn ?_
 refine VbT ?_
 refine VbF ?_
 refine VbF ?_
 refine VlS (.pointer (some ⟨z, 0, none⟩)) ?_
 refine VlS (.int .i64 y.num) ?_
 refine VbF ?_
 refine VbF ?_
 refine VbF ?_
 refine VlS (.pointer (some ⟨z, 0, none⟩)) ?_
 refine VlS (.int .i64 y.num) ?_
 refine VlS (.int .i64 (n : Int)) ?_
 refine VbF ?_
 refine VbF ?_
 refine WL.nil (hK4 _ _ ?_)
 refine wp_cond_false rfl ?_
 refine wp_skip ?_
 refine hK3 _ _ ?_
 refine wp_seq_k fun K5 hK5 => rgn ?_
 refine VlS (.pointer (some ⟨x, 0, none⟩)) ?_
 refine VlS (.pointer (some ⟨z, 1, none⟩)) ?_
 clear z0 z1
 refine WL.midA (by kernel_rfl) 40 (.tmp 31) rfl z 1 rfl (cvA y.c) _ (by have h := rng_mid (blk_range Z2.out); rw [Nat.zero_add] at h; exact h) Try.underlying40 rfl (Try.sizeC _ _ _) ?_
 simp only [Act.put, pqA, pqB, pqC]
 have hlf := leaf_any B x y.c.k.toNat y.c.s y.c.v y.c.l rows w2 BK2.out (HLf.out w2 B2.out).row (fun h0 k hk => Nat.lt_of_lt_of_le ((HLf.out w2 B2.out).rlt h0 k hk) B2.out.size) (by have := HF.out; omega) HF.out.2 (by have := HN.out; omega) (Nat.le_trans HB.out B2.out.size)
 rw [hck.out] at hlf
 refine WL.callF (by kernel_rfl) 76 _ _ rfl Try.in76 #[.pointer (some ⟨x, 0, none⟩), .agg (cvA y.c)] (by simp [Act.eval]) ?_
 refine (hlf).mono ?_
 rintro e w3 ⟨rfl, k1, k2⟩
 refine ⟨_, rfl, ?_⟩
 change WL _ _ _ _ (Act.put _ _ (.agg (bytesA 32 (shaP (RtP.leafR numL y.c.ce))))) w3
 rw [show bytesA 32 (shaP (RtP.leafR numL y.c.ce)) = (bytesA 32 (hof (lfH y))) from by unfold lfH shaL; rw [hof_hl]]
 have BK3 : Keep (BkH B w3 x (rows ++ [RtP.leafR numL y.c.ce])) := ⟨k1⟩
 have G3 : Keep (Grown w w3 (BkS B w)) := ⟨BkS.next G2.out k2⟩
 have Q3 := Keep.mk (Q2.out.bk k2 (by decide) (by decide))
 have Z3 := Keep.mk (Z2.out.bk k2 (by decide) (by decide))
 clear hlf k1 k2
 simp only [Act.put, pqA, pqB, pqC]
 refine WL.new (by kernel_rfl) 25 rfl _ Try.new25 ?_
 have b_ := below_new w3 (.cells (bytesA 32 fun _ => 0) 25)
 have H4 := Keep.mk (Blk.new w3 25 (bytesA 32 fun _ => 0))
 have G4 := Keep.mk (G3.out.belowS b_)
 have BK4 := Keep.mk (BK3.out.below b_)
 have Q4 := Keep.mk (Q3.out.below b_ Q3.out.lt)
 have nQ3h : Keep (q ≠ w3.heap.size) := ⟨by have := Q3.out.lt; omega⟩
 have Z4 := Keep.mk (Z3.out.below b_ Z3.out.lt)
 have nZ3h : Keep (z ≠ w3.heap.size) := ⟨by have := Z3.out.lt; omega⟩
 have gh : Keep (w.heap.size ≤ w3.heap.size) := ⟨G3.out.size⟩
 change WL _ _ _ _ _ (w3.alloc (.cells (bytesA 32 fun _ => 0) 25))
 generalize w3.alloc (.cells (bytesA 32 fun _ => 0) 25) = w4 at *
 obtain ⟨h, hh⟩ : ∃ z, Keep (z = w3.heap.size) := ⟨_, ⟨rfl⟩⟩
 rw [← hh.out] at H4 gh nQ3h nZ3h ⊢
 clear b_ hh
 simp only [Act.put, pqA, pqB, pqC]
 refine WL.storeR (by kernel_rfl) 25 (.tmp 10) (.tmp 33) rfl h (bytesA 32 (hof (lfH y))) rfl rfl 25 (bytesA 32 fun _ => 0) H4.out (Try.size25B _) (bytesA_sizes _ _ _) (bytesA_one _ _) ?_
 have H5 := Keep.mk (H4.out.setRow (bytesA 32 (hof (lfH y))))
 have BK5 := Keep.mk (BK4.out.setRow H4.out (bytesA 32 (hof (lfH y))) (by decide) (by decide) (by decide))
 have G5 : Keep (Grown w (w4.setRow h (bytesA 32 (hof (lfH y)))) (BkS B w)) := ⟨G4.out.next (Grown.setRow w4 h (bytesA 32 (hof (lfH y))) (S := fun k => k = h) fun _ => rfl) fun k hk e => by have := gh.out; omega⟩
 have Q5 := Keep.mk (Q4.out.setRow_ne nQ3h.out (bytesA 32 (hof (lfH y))))
 have Z5 := Keep.mk (Z4.out.setRow_ne nZ3h.out (bytesA 32 (hof (lfH y))))
 generalize w4.setRow h (bytesA 32 (hof (lfH y))) = w5 at *
 simp only [Act.put]
 refine WL.nil (hK5 _ _ ?_)
 refine wp_seq_k fun K6 hK6 => rgn ?_
 refine VlS (.pointer (some ⟨x, 0, none⟩)) ?_
 refine VlS (.int .i64 (n : Int)) ?_
 refine VlS (.pointer (some ⟨z, 0, none⟩)) ?_
 have z0 : w5.cell? ⟨z, 0, none⟩ = some (.int .i64 (i : Int)) := by rw [← hi.out]; exact Z5.out.c 0 rfl
 have z4 : w5.cell? ⟨z, 4, none⟩ = some y.pv := Z5.out.c 4 rfl
 refine VlS (.int .i64 (i : Int)) ?_
 refine WL.row (by kernel_rfl) 25 (.tmp 10) rfl h rfl 25 (bytesA 32 (hof (lfH y))) _ H5.out Try.underlying25 rfl (Try.size25B _) ?_
 simp only [Act.put, pqA, pqB, pqC]
 refine VlS (.pointer (some ⟨z, 4, none⟩)) ?_
 refine VlS (y.pv) ?_
 clear z0 z4
 have hc := climb_sm B x n i (lfH y) (shaL_len _) y.pv y.ps (rows ++ [RtP.leafR numL y.c.ce]) w5 (by omega) Hn.out hin BK5.out (by have := HN.out; rw [List.length_append, List.length_singleton]; omega) (HPa5.out w5 (G5.out.bkBelow HB.out)) (Nat.le_trans HB.out G5.out.size) (by rw [hcl.out]; rfl)
 refine WL.callF (by kernel_rfl) 80 _ _ rfl Try.in80 #[.pointer (some ⟨x, 0, none⟩), .int .i64 (n : Int), .int .i64 (i : Int), .agg (bytesA 32 (hof (lfH y))), y.pv] (by simp [Act.eval]) ?_
 refine (hc).mono ?_
 rintro e w6 ⟨cc, ok, rs, rfl, k1, k2, k3, k4⟩
 refine ⟨_, rfl, ?_⟩
 rw [hcl.out] at k4
 obtain ⟨hok, hct, hrs⟩ := k4
 subst hok
 rw [hrs] at k1 k2
 clear hrs
 have BK6 := Keep.mk k1
 have N6 := Keep.mk k2
 have G6 : Keep (Grown w w6 (BkS B w)) := ⟨BkS.next G5.out k3⟩
 have Q6 := Keep.mk (Q5.out.bk k3 (by decide) (by decide))
 have HCT : Keep (hl 32 cc = t) := ⟨by rw [hl_of_arr hct, hl_hof HTl.out]⟩
 clear hct
 clear hc k1 k2 k3
 simp only [Act.put, pqA, pqB, pqC]
 refine VlS (.tuple #[.agg (bytesA 32 cc), .bool true]) ?_
 refine VlS (.agg (bytesA 32 cc)) ?_
 refine VbT ?_
 refine WL.new (by kernel_rfl) 25 rfl _ Try.new25 ?_
 have b_ := below_new w6 (.cells (bytesA 32 fun _ => 0) 25)
 have H7 := Keep.mk (Blk.new w6 25 (bytesA 32 fun _ => 0))
 have G7 := Keep.mk (G6.out.belowS b_)
 have BK7 := Keep.mk (BK6.out.below b_)
 have Q7 := Keep.mk (Q6.out.below b_ Q6.out.lt)
 have nQ6u : Keep (q ≠ w6.heap.size) := ⟨by have := Q6.out.lt; omega⟩
 have gu : Keep (w.heap.size ≤ w6.heap.size) := ⟨G6.out.size⟩
 change WL _ _ _ _ _ (w6.alloc (.cells (bytesA 32 fun _ => 0) 25))
 generalize w6.alloc (.cells (bytesA 32 fun _ => 0) 25) = w7 at *
 obtain ⟨u, hu⟩ : ∃ z, Keep (z = w6.heap.size) := ⟨_, ⟨rfl⟩⟩
 rw [← hu.out] at H7 gu nQ6u ⊢
 clear b_ hu
 simp only [Act.put, pqA, pqB, pqC]
 refine WL.storeR (by kernel_rfl) 25 (.tmp 11) (.tmp 43) rfl u (bytesA 32 cc) rfl rfl 25 (bytesA 32 fun _ => 0) H7.out (Try.size25B _) (bytesA_sizes _ _ _) (bytesA_one _ _) ?_
 have H8 := Keep.mk (H7.out.setRow (bytesA 32 cc))
 have BK8 := Keep.mk (BK7.out.setRow H7.out (bytesA 32 cc) (by decide) (by decide) (by decide))
 have G8 : Keep (Grown w (w7.setRow u (bytesA 32 cc)) (BkS B w)) := ⟨G7.out.next (Grown.setRow w7 u (bytesA 32 cc) (S := fun k => k = u) fun _ => rfl) fun k hk e => by have := gu.out; omega⟩
 have Q8 := Keep.mk (Q7.out.setRow_ne nQ6u.out (bytesA 32 cc))
 generalize w7.setRow u (bytesA 32 cc) = w8 at *
 simp only [Act.put]
 refine VbT ?_
 refine WL.nil (hK6 _ _ ?_)
 refine wp_seq_k fun K7 hK7 => ?_
 refine wp_seq_k fun K8 hK8 => rgn ?_
 refine VbT ?_
 refine VbF ?_
 refine WL.nil (hK8 _ _ ?_)
 refine wp_cond_false rfl ?_
 refine wp_skip ?_
 refine hK7 _ _ ?_
 refine wp_seq_k fun K9 hK9 => ?_
 obtain ⟨hc_, hce⟩ : ∃ z : Array Value, Keep (z = bytesA 32 cc) := ⟨_, ⟨rfl⟩⟩
 obtain ⟨hr_, hre⟩ : ∃ z : Array Value, Keep (z = (bytesA 32 root.f)) := ⟨_, ⟨rfl⟩⟩
 have Ud : Keep (Blk w8.drew u 25 hc_) := ⟨by rw [hce.out]; exact H8.out⟩
 have Qd : Keep (Blk w8.drew q 25 hr_) := ⟨by rw [hre.out]; exact Q8.out⟩
 have bq := (Below.refl w8.heap.size w8).drew
 have BKd := Keep.mk (BK8.out.below bq)
 have Gd : Keep (Grown w w8.drew (BkS B w)) := ⟨G8.out.belowS bq⟩
 clear H8 Q8 BK8 G8 bq
 have HTP : Keep (Calls Try.prog 52 #[.pointer (some ⟨x, 0, none⟩), .int .i64 (n : Int), .agg hc_] w8.drew fun e w' => e = .returned (.agg ht_) ∧ BkH B w' x (rows ++ [RtP.leafR numL y.c.ce] ++ rt ++ [RtP.topR le8 n t]) ∧ Grown w8.drew w' (BkS B w8.drew)) := ⟨by
  have h := top_any B x n cc (rows ++ [RtP.leafR numL y.c.ce] ++ rt) w8.drew BKd.out Hn.out (by have := N6.out; have := HN.out; simp; omega) (Nat.le_trans HB.out Gd.out.size)
  rw [HCT.out] at h
  rw [hce.out, hte.out, hxt.out, ← encH_arr, ← shaH_arr]
  exact h⟩
 refine wp_region_held_drew (S := fun wx => wx.rangeAt u 0 hc_.toList ∧ wx.rangeAt q 0 hr_.toList) (by kernel_rfl) (⟨blk_range Ud.out, blk_range Qd.out⟩) (fun hHeld => ?_)
 refine tkS (i := 0) (oi := ⟨some 47, Op.move (Operand.tmp 0), 58, _, _, none⟩) (v := .pointer (some ⟨x, 0, none⟩)) rfl (Or.inl ⟨by rfl, fun w hS => by obtain ⟨hS1, hS2⟩ := hS; clear hS1 hS2; go_simp⟩) hHeld ?_
 refine tkS (i := 1) (oi := ⟨some 48, Op.move (Operand.tmp 2), 3, _, _, none⟩) (v := .int .i64 (n : Int)) rfl (Or.inl ⟨by rfl, fun w hS => by obtain ⟨hS1, hS2⟩ := hS; clear hS1 hS2; go_simp⟩) hHeld ?_
 refine tkS (i := 2) (oi := ⟨some 49, Op.load 25 (Operand.tmp 11), 25, _, _, none⟩) (v := .agg hc_) rfl (yieldsIf_ld (by rfl) (Operand.tmp 11) 25 rfl u 0 rfl hc_ _ Try.underlying25 rfl (by rw [hce.out]; exact Try.size25B _) fun w hS => hS.1) hHeld ?_
 refine tkS (i := 4) (oi := ⟨some 51, Op.load 25 (Operand.tmp 5), 25, _, _, none⟩) (v := .agg hr_) rfl (yieldsIf_ld (by rfl) (Operand.tmp 5) 25 rfl q 0 rfl hr_ _ Try.underlying25 rfl (by rw [hre.out]; exact Try.size25B _) fun w hS => hS.2) hHeld ?_
 refine wpAnyH_ready (rs := [3]) (by kernel_rfl) (by simp) ?_
 refine AllReadyH.cons (o := ⟨some 50, Op.call { callee := Callee.value (Operand.func 52), args := #[Operand.tmp 47, Operand.tmp 48, Operand.tmp 49], argTypes := #[58, 3, 25] }, 25, _, _, none⟩) rfl (fun K hK => ?_) AllReadyH.nil
 rw [if_pos (by rfl)]
 refine wp_callF 52 _ _ rfl Try.in52 #[.pointer (some ⟨x, 0, none⟩), .int .i64 (n : Int), .agg hc_] (by simp [Act.eval]) (fun vz wz => vz = .agg ht_ ∧ BkH B wz x (rows ++ [RtP.leafR numL y.c.ce] ++ rt ++ [RtP.topR le8 n t]) ∧ Grown w8.drew wz (BkS B w8.drew)) ?_ ?_
 ·refine (HTP.out).mono ?_
  rintro e wz ⟨rfl, k1, k2⟩
  exact ⟨_, rfl, rfl, k1, k2⟩
 rintro vz w9 ⟨rfl, k1, k2⟩
 have BK9 := Keep.mk k1
 have G9 : Keep (Grown w w9 (BkS B w)) := ⟨BkS.next Gd.out k2⟩
 have U9 := Keep.mk (Ud.out.bk k2 (by decide) (by decide))
 have Q9 := Keep.mk (Qd.out.bk k2 (by decide) (by decide))
 clear k1 k2 Ud Qd BKd Gd
 refine hK _ _ (⟨blk_range U9.out, blk_range Q9.out⟩) fun hH1 => ?_
 clear hK
 simp only [Act.put, pqA, pqB, pqC]
 refine tkS (i := 5) (oi := ⟨some 52, Op.binOp BinOp.eql 25 (Operand.tmp 50) (Operand.tmp 51) 25, 4, _, _, none⟩) (v := .bool true) rfl (Or.inl ⟨by rfl, fun w hS => by have hq_ := eqB hte.out hre.out HE.out w; clear hS; go_simp⟩) hH1 ?_
 refine tkS (i := 6) (oi := ⟨some 8, Op.assign (Operand.tmp 52), 4, _, _, none⟩) (v := .bool true) rfl (Or.inl ⟨by rfl, fun w hS => by obtain ⟨hS1, hS2⟩ := hS; clear hS1 hS2; go_simp⟩) hH1 ?_
 refine wpAnyH_done (by kernel_rfl) ?_ _
 refine hK9 _ _ ?_
 refine wp_ret ?_
 go_ret
 refine ⟨_, by rw [hres.out]; rfl, BK9.out, rfl, ?_, by have := N6.out; simp; omega, G9.out⟩
 intro _
 unfold rwsOf
 rw [hi.out, Int.toNat_natCast, hcl.out]
 simp
theorem right_ys (B x n : Nat) (y : LV) (root : Hs) (rows : List (List Int)) (w : World) (hn : 0 < n) (Hn : n < 9223372036854775808) (hK : BkH B w x rows) (hL : LfAt B w y) (hsz : y.c.s.size + y.c.l.length ≤ 140737488350000) (hN : rows.length + y.ps.length + 3 ≤ 4398046511104) (hB : B ≤ w.heap.size) (hy : (okL (n : Int) y && rgtB n y root) = true) : Calls Try.prog 59 #[.pointer (some ⟨x, 0, none⟩), .agg (bytesA 32 root.f), .int .i64 (n : Int), .agg (lvA y)] w (RgP B x n y root rows w) := by
 rw [Bool.and_eq_true] at hy
 obtain ⟨h1, h2⟩ := hy
 unfold okL at h1
 simp only [Bool.and_eq_true, decide_eq_true_iff] at h1
 obtain ⟨i, hi⟩ : ∃ i : Nat, y.num = (i : Int) := ⟨y.num.toNat, by omega⟩
 unfold rgtB at h2
 rw [hi, Int.toNat_natCast] at h2
 cases e : climbL n i (lfH y) y.ps with
 | none => rw [e] at h2; cases h2
 | some z =>
  rw [e] at h2
  exact rg_ys B x n y root rows w hn ⟨Hn⟩ h1.2.2 i ⟨hi⟩ (by omega) z.1 z.2 ⟨e⟩ _ ⟨rfl⟩ ⟨h2⟩ hK hL hsz hN hB
theorem says_ts (v : Value) (n kind : Int) (key : ByteArray) (ls : List LV) (w : World) (hL : LsV w.heap.size w v ls) (h1 : 1 ≤ ls.length) (h2 : ls.length ≤ 2) (hn : 1 ≤ n ∧ n ≤ 9223372036854775807) (hx : ∀ x ∈ ls, 0 ≤ x.num ∧ x.num < n) (ha : ansB n ls kind key = true) : Calls Try.prog 60 #[.int .i64 kind, .string key, .agg (wtA n v)] w fun e w' => e = .returned (.int .i64 (saysI n ls kind key)) ∧ Below w.heap.size w w' := by
 obtain ⟨la, cap, rfl, hA⟩ := hL.form
 obtain ⟨b, off, rfl, h⟩ := hA (by omega)
 match ls, h1, h2, hx, h, ha with
 | [x], _, _, hx, h, ha =>
  have hx := hx x (by simp)
  simp only [ansB, Bool.or_eq_true, Bool.and_eq_true, decide_eq_true_iff] at ha
  rcases ha with hs | ⟨hs, hz⟩ | ⟨hs, hz⟩
  ·exact sy_eq b off cap n kind key x w hs hn hx h
  ·exact sy_g0 b off cap n kind key x w hs hz hn hx h
  ·exact sy_l0 b off cap n kind key x w hs hz hn hx h
 | [x, y], _, _, hx, h, ha =>
  have hx := hx x (by simp)
  simp only [ansB, Bool.and_eq_true, decide_eq_true_iff] at ha
  exact sy_xc b off cap n kind key x y w ha.2.1 ha.2.2 ha.1 hn hx h
set_option maxRecDepth 8000 in
set_option maxHeartbeats 2000000 in
theorem wk_ts (b off m cap n : Nat) (kind : Int) (key : ByteArray) (ls : List LV) (root : Hs) (w : World) (hkm : kmay kind = true) (hml : Keep (ls.length = m)) (hm1 : 1 ≤ m) (hm2 : m ≤ 2) (hmc : m ≤ cap) (hn : 0 < n) (Hn : Keep (n < 9223372036854775808)) (HPs : Keep (SmP ls)) (HLs : Keep (LsAt w.heap.size w b off ls)) (HTk0 : Keep (takB root (n : Int) kind key ls = true)) (Hall0 : Keep (∀ y ∈ ls, (okL (n : Int) y && rgtB n y root) = true)) (Han0 : Keep (ansB (n : Int) ls kind key = true)) : Calls Try.prog 39 #[.agg (bytesA 32 root.f), .int .i64 kind, .string key, .agg (wtA (n : Int) (.slice (some ⟨b, off, none⟩) m cap))] w (WkP root (n : Int) kind key ls w) := by
 have hn0 : ((n : Int) == 0) = false := by simp; omega
 have hn0' : ¬ n = 0 := by omega
 have hm3 : ¬ (m : Int) > 2 := by omega
 have hm4 : ¬ 2 < (m : Int) := by omega
 have hm0 : ((m : Int) == 0) = false := by simp; omega
 have hm0' : ¬ m = 0 := by omega
 go_enter Try.func39, Try.ntmps39
 refine wp_seq_k fun K1 hK1 => rgn ?_
 refine WL.box (by kernel_rfl) 25 (.tmp 0) rfl (bytesA 32 root.f) rfl ?_
 have Q1 := Keep.mk (Blk.new w 25 (bytesA 32 root.f))
 have b_ := below_new w (.cells (bytesA 32 root.f) 25)
 change WL _ _ _ _ _ (w.alloc (.cells (bytesA 32 root.f) 25))
 generalize w.alloc (.cells (bytesA 32 root.f) 25) = w1 at *
 obtain ⟨q, hq0⟩ : ∃ z, Keep (z = w.heap.size) := ⟨_, ⟨rfl⟩⟩
 rw [← hq0.out] at Q1 ⊢
 have B1 : Keep (Below w.heap.size w w1) := ⟨b_⟩
 have gq : Keep (w.heap.size ≤ q) := ⟨by rw [hq0.out]; exact Nat.le_refl _⟩
 clear b_
 simp only [Act.put, pqA, pqB, pqC]
 refine WL.box (by kernel_rfl) 31 (.tmp 3) rfl (wtA (n : Int) (.slice (some ⟨b, off, none⟩) m cap)) rfl ?_
 have D2 := Keep.mk (Blk.new w1 31 (wtA (n : Int) (.slice (some ⟨b, off, none⟩) m cap)))
 have b_ := below_new w1 (.cells (wtA (n : Int) (.slice (some ⟨b, off, none⟩) m cap)) 31)
 change WL _ _ _ _ _ (w1.alloc (.cells (wtA (n : Int) (.slice (some ⟨b, off, none⟩) m cap)) 31))
 generalize w1.alloc (.cells (wtA (n : Int) (.slice (some ⟨b, off, none⟩) m cap)) 31) = w2 at *
 obtain ⟨d, hd0⟩ : ∃ z, Keep (z = w1.heap.size) := ⟨_, ⟨rfl⟩⟩
 rw [← hd0.out] at D2 ⊢
 have Q2 := Keep.mk (Q1.out.below b_ Q1.out.lt)
 have B2 : Keep (Below w.heap.size w w2) := ⟨B1.out.trans (b_.mono B1.out.size)⟩
 have gd : Keep (w.heap.size ≤ d) := ⟨by rw [hd0.out]; exact B1.out.size⟩
 clear b_
 simp only [Act.put, pqA, pqB, pqC]
 refine WL.new (by kernel_rfl) 40 rfl _ Try.newC ?_
 have R3 := Keep.mk (Blk.new w2 40 #[.int .i64 0, .string ByteArray.empty, .slice none 0 0])
 have b_ := below_new w2 (.cells #[.int .i64 0, .string ByteArray.empty, .slice none 0 0] 40)
 change WL _ _ _ _ _ (w2.alloc (.cells #[.int .i64 0, .string ByteArray.empty, .slice none 0 0] 40))
 generalize w2.alloc (.cells #[.int .i64 0, .string ByteArray.empty, .slice none 0 0] 40) = w3 at *
 obtain ⟨r, hr0⟩ : ∃ z, Keep (z = w2.heap.size) := ⟨_, ⟨rfl⟩⟩
 rw [← hr0.out] at R3 ⊢
 have Q3 := Keep.mk (Q2.out.below b_ Q2.out.lt)
 have D3 := Keep.mk (D2.out.below b_ D2.out.lt)
 have B3 : Keep (Below w.heap.size w w3) := ⟨B2.out.trans (b_.mono B2.out.size)⟩
 have gr : Keep (w.heap.size ≤ r) := ⟨by rw [hr0.out]; exact B2.out.size⟩
 clear b_
 simp only [Act.put, pqA, pqB, pqC]
 refine VbF ?_
 refine VlS (.int .i64 0) ?_
 refine VlS (.slice none 0 0) ?_
 refine WL.nil (hK1 _ _ ?_)
 refine wp_seq_k fun K2 hK2 => rgn ?_
 refine WL.bld (by kernel_rfl) 61 #[] rfl [] (by simp) _ bld_bk ?_
 simp only [Act.put, pqA, pqB, pqC]
 refine WL.box (by kernel_rfl) 61 (.tmp 17) rfl #[.slice none 0 0] rfl ?_
 have K4 := Keep.mk (BkH.new w3)
 have b_ := below_new w3 (.cells #[.slice none 0 0] 61)
 generalize w3.alloc (.cells #[.slice none 0 0] 61) = w4 at *
 obtain ⟨x, hx⟩ : ∃ z, Keep (z = w3.heap.size) := ⟨_, ⟨rfl⟩⟩
 have BK4 : Keep (BkH w.heap.size w4 x []) := ⟨by
  have h := K4.out
  rw [hx.out]
  exact ⟨Nat.le_trans B3.out.size h.ge, by
   obtain ⟨vr, cs, h1, h2, h3, h4⟩ := h.ex
   have hn : cs.length = 0 := by rw [h3]; rfl
   exact ⟨vr, cs, h1, ⟨h2.1, by
    rcases h2.2 with h5 | ⟨g', c', cur, h5, h6, h7⟩
    ·exact .inl h5
    ·exact .inr ⟨g', c', cur, h5, Nat.le_trans B3.out.size h6, h7⟩⟩, h3, h4⟩⟩⟩
 rw [← hx.out]
 have Q4 := Keep.mk (Q3.out.below b_ Q3.out.lt)
 have D4 := Keep.mk (D3.out.below b_ D3.out.lt)
 have R4 := Keep.mk (R3.out.below b_ R3.out.lt)
 have B4 : Keep (Below w.heap.size w w4) := ⟨B3.out.trans (b_.mono B3.out.size)⟩
 clear b_ K4 Q3 D3 R3 hx
 have w0_ : w4.cell? ⟨d, 0, none⟩ = some (.int .i64 (n : Int)) := D4.out.c 0 rfl
 have w1_ : w4.cell? ⟨d, 1, none⟩ = some (.slice (some ⟨b, off, none⟩) m cap) := D4.out.c 1 rfl
 simp only [Act.put, pqA, pqB, pqC]
 refine VlS (.pointer (some ⟨x, 0, none⟩)) ?_
 refine WL.nil (hK2 _ _ ?_)
 refine wp_seq_k fun K3 hK3 => rgn ?_
 refine VlS (.int .i64 kind) ?_
 refine WL.callF (by kernel_rfl) 31 _ _ rfl Try.in31 #[.int .i64 kind] (by simp [Act.eval]) ?_
 refine (kmay_any kind _).mono ?_
 rintro e w1_z ⟨rfl, hw_⟩
 refine ⟨_, rfl, ?_⟩
 have hw_ := hw_.symm
 subst hw_
 rw [hkm]
 simp only [Act.put, pqA, pqB, pqC]
 refine VbT ?_
 refine WL.nil (hK3 _ _ ?_)
 refine wp_seq_k fun K4 hK4 => ?_
 refine wp_seq_k fun K5 hK5 => rgn ?_
 refine VbT ?_
 refine VbF ?_
 refine WL.nil (hK5 _ _ ?_)
 refine wp_cond_false rfl ?_
 refine wp_skip ?_
 refine hK4 _ _ ?_
 refine wp_seq_k fun K6 hK6 => ?_
 refine wp_seq_k fun K7 hK7 => rgn ?_
 refine VlS (.pointer (some ⟨d, 0, none⟩)) ?_
 refine VlS (.int .i64 (n : Int)) ?_
 refine VbF ?_
 refine VbF ?_
 refine VlS (.pointer (some ⟨d, 1, none⟩)) ?_
 refine VlS (.slice (some ⟨b, off, none⟩) m cap) ?_
 refine VlS (.int .i64 (m : Int)) ?_
 refine VbF ?_
 refine VbF ?_
 refine VbF ?_
 refine VlS (.pointer (some ⟨d, 0, none⟩)) ?_
 refine VlS (.int .i64 (n : Int)) ?_
 refine VbF ?_
 refine VlS (.pointer (some ⟨d, 1, none⟩)) ?_
 refine VlS (.slice (some ⟨b, off, none⟩) m cap) ?_
 refine VlS (.int .i64 (m : Int)) ?_
 refine VbF ?_
 refine VbF ?_
 refine VbF ?_
 refine WL.nil (hK7 _ _ ?_)
 refine wp_cond_false rfl ?_
 refine wp_skip ?_
 refine hK6 _ _ ?_
 refine wp_seq_k fun K8 hK8 => ?_
 refine wp_seq_k fun K9 hK9 => rgn ?_
 refine VlS (.pointer (some ⟨d, 0, none⟩)) ?_
 refine VlS (.int .i64 (n : Int)) ?_
 refine VbF ?_
 refine WL.nil (hK9 _ _ ?_)
 refine wp_cond_false rfl ?_
 refine wp_skip ?_
 refine hK8 _ _ ?_
 refine wp_seq_k fun K10 hK10 => ?_
 refine wp_seq_k fun K11 hK11 => rgn ?_
 refine VlS (.int .i64 0) ?_
 refine WL.nil (hK11 _ _ ?_)
 refine wp_block ?_
 refine wp_loop (fun ac wr => ∃ (t : Nat), ac = apF (fun f => { tmps := #[.agg (bytesA 32 root.f), .int .i64 kind, .string key, .agg (wtA (n : Int) (.slice (some ⟨b, off, none⟩) m cap)), .pointer (some ⟨q, 0, none⟩), undef, undef, .pointer (some ⟨d, 0, none⟩), .pointer (some ⟨r, 0, none⟩), f 9, f 10, f 11, .pointer (some ⟨x, 0, none⟩), .bool true, .int .i64 (t : Int), f 15, undef, .agg #[.slice none 0 0], .pointer (some ⟨x, 0, none⟩), .int .i64 kind, .bool true, .bool true, .bool false, undef, .pointer (some ⟨d, 0, none⟩), .int .i64 (n : Int), .bool false, .bool false, .pointer (some ⟨d, 1, none⟩), .slice (some ⟨b, off, none⟩) m cap, .int .i64 (m : Int), .bool false, .bool false, .bool false, .pointer (some ⟨d, 0, none⟩), .int .i64 (n : Int), .bool false, .pointer (some ⟨d, 1, none⟩), .slice (some ⟨b, off, none⟩) m cap, .int .i64 (m : Int), .bool false, .bool false, .bool false, undef, .pointer (some ⟨d, 0, none⟩), .int .i64 (n : Int), .bool false, undef, undef, undef, undef, undef, undef, undef, undef, undef, undef, undef, undef, undef, undef, undef, f 62, f 63, f 64, f 65, f 66, f 67, f 68, f 69, f 70, f 71, f 72, f 73, f 74, f 75, f 76, f 77, f 78, f 79, f 80, f 81, f 82, f 83, f 84, f 85, undef, undef, undef, undef, undef, undef, undef, undef, undef, undef, undef, undef, undef, undef, undef, undef, undef, undef, undef, undef, undef, undef, undef, undef, undef, undef, undef], defers := [] }) ac ∧ t ≤ m ∧ Blk wr q 25 (bytesA 32 root.f) ∧ Blk wr d 31 (wtA (n : Int) (.slice (some ⟨b, off, none⟩) m cap)) ∧ Blk wr r 40 #[.int .i64 0, .string ByteArray.empty, .slice none 0 0] ∧ BkH w.heap.size wr x ((ls.take t).flatMap (rwsOf n)) ∧ Below w.heap.size w wr ∧ (∀ (i : Nat) (y : LV), i < t → ls[i]? = some y → (okL (n : Int) y && rgtB n y root) = true)) (fun a _ => m - (intOf (a.tmps.getD 14 undef)).toNat) ⟨0, rfl, by omega, Q4.out, D4.out, R4.out, (by simpa using BK4.out), B4.out, fun i y hi _ => by omega⟩ ?_
 rintro ac wr ⟨t, hac, ht, hQ, hD, hR, hBK, hb, hI2⟩
 obtain ⟨f, rfl⟩ := unF hac
 have Q5 := Keep.mk hQ
 have D5 := Keep.mk hD
 have R5 := Keep.mk hR
 have BK5 := Keep.mk hBK
 have B5 := Keep.mk hb
 have HI_ := Keep.mk hI2
 clear hQ hD hR hBK hb hI2
 try clear w0_ w1_
 have w0_ : wr.cell? ⟨d, 0, none⟩ = some (.int .i64 (n : Int)) := D5.out.c 0 rfl
 have w1_ : wr.cell? ⟨d, 1, none⟩ = some (.slice (some ⟨b, off, none⟩) m cap) := D5.out.c 1 rfl
 by_cases htl : t < m
 ·have htl' : (t : Int) < (m : Int) := by omega
  have hw3 : IntKind.i64.wrap ((t : Int) + 1) = ((t + 1 : Nat) : Int) := by rw [IntKind.wrap_i64]; omega
  obtain ⟨y, Hy⟩ : ∃ z, Keep (ls[t]? = some z) := ⟨ls[t]'(by rw [hml.out]; exact htl), ⟨List.getElem?_eq_getElem _⟩⟩
  have Hm : Keep (y ∈ ls) := ⟨List.mem_of_getElem? Hy.out⟩
  have HNr : Keep (((ls.take t).flatMap (rwsOf n)).length + y.ps.length + 3 ≤ 4398046511104) := ⟨rows_len hml.out hm2 HPs.out t y Hm.out⟩
  refine wp_seq_k fun K12 hK12 => ?_
  refine wp_seq_k fun K13 hK13 => rgn ?_
  refine VlS (.int .i64 (t : Int)) ?_
  refine VlS (.pointer (some ⟨d, 1, none⟩)) ?_
  refine VlS (.slice (some ⟨b, off, none⟩) m cap) ?_
  refine VlS (.int .i64 (m : Int)) ?_
  refine VbT ?_
  refine WL.nil (hK13 _ _ ?_)
  refine wp_cond_true rfl ?_
  refine wp_skip ?_
  refine hK12 _ _ ?_
  refine wp_seq_k fun K14 hK14 => ?_
  refine wp_block ?_
  refine wp_seq_k fun K15 hK15 => ?_
  obtain ⟨hr_, hre⟩ : ∃ z : Array Value, Keep (z = (bytesA 32 root.f)) := ⟨_, ⟨rfl⟩⟩
  have bq := (Below.refl wr.heap.size wr).drew
  have Qd : Keep (Blk wr.drew q 25 (bytesA 32 root.f)) := ⟨Q5.out⟩
  have Dd : Keep (Blk wr.drew d 31 (wtA (n : Int) (.slice (some ⟨b, off, none⟩) m cap))) := ⟨D5.out⟩
  have Rd : Keep (Blk wr.drew r 40 #[.int .i64 0, .string ByteArray.empty, .slice none 0 0]) := ⟨R5.out⟩
  have BKd := Keep.mk (BK5.out.below bq)
  have Bd : Keep (Below w.heap.size w wr.drew) := ⟨B5.out.drew⟩
  clear w0_ w1_ Q5 D5 R5 BK5 B5 bq
  have hS0 : Keep (∀ wx : World, Below w.heap.size w wx → Blk wx q 25 (bytesA 32 root.f) → Blk wx d 31 (wtA (n : Int) (.slice (some ⟨b, off, none⟩) m cap)) → (wx.rangeAt q 0 hr_.toList ∧ wx.cell? ⟨d, 0, none⟩ = some (.int .i64 (n : Int)) ∧ wx.cell? ⟨d, 1, none⟩ = some (.slice (some ⟨b, off, none⟩) m cap) ∧ wx.rangeAt b (off + t * 5) (lvA y).toList)) := ⟨fun wx hb h1 h2 => ⟨by rw [hre.out]; exact blk_range h1, h2.c 0 rfl, h2.c 1 rfl, (HLs.out.below hb).at_ t y Hy.out⟩⟩
  have HRG : Keep (Calls Try.prog 59 #[.pointer (some ⟨x, 0, none⟩), .agg hr_, .int .i64 (n : Int), .agg (lvA y)] wr.drew (RgP w.heap.size x n y root ((ls.take t).flatMap (rwsOf n)) wr.drew)) := ⟨by
   rw [hre.out]
   exact right_ys w.heap.size x n y root _ wr.drew hn Hn.out BKd.out ((HLs.out.below Bd.out).lf y Hm.out) (HPs.out y Hm.out).1 HNr.out Bd.out.size (Hall0.out y Hm.out)⟩
  obtain ⟨ok, hok⟩ : ∃ z, Keep ((okL (n : Int) y && rgtB n y root) = z) := ⟨_, ⟨rfl⟩⟩
  refine wp_region_held_drew (S := fun wx => wx.rangeAt q 0 hr_.toList ∧ wx.cell? ⟨d, 0, none⟩ = some (.int .i64 (n : Int)) ∧ wx.cell? ⟨d, 1, none⟩ = some (.slice (some ⟨b, off, none⟩) m cap) ∧ wx.rangeAt b (off + t * 5) (lvA y).toList) (by kernel_rfl) (hS0.out _ Bd.out Qd.out Dd.out) (fun hHeld => ?_)
  refine tkS (i := 0) (oi := ⟨some 69, Op.move (Operand.tmp 12), 58, _, _, none⟩) (v := .pointer (some ⟨x, 0, none⟩)) rfl (Or.inl ⟨by rfl, fun w hS => by obtain ⟨hS1, hS2, hS3, hS4⟩ := hS; clear hS1 hS4; go_simp⟩) hHeld ?_
  refine tkS (i := 1) (oi := ⟨some 70, Op.load 25 (Operand.tmp 4), 25, _, _, none⟩) (v := .agg hr_) rfl (yieldsIf_ld (by rfl) (Operand.tmp 4) 25 rfl q 0 rfl hr_ _ Try.underlying25 rfl (by rw [hre.out]; exact Try.size25B _) fun w hS => hS.1) hHeld ?_
  refine tkS (i := 2) (oi := ⟨some 71, Op.fieldAddr 31 (Operand.tmp 7) 0, 0, _, _, none⟩) (v := .pointer (some ⟨d, 0, none⟩)) rfl (Or.inl ⟨by rfl, fun w hS => by obtain ⟨hS1, hS2, hS3, hS4⟩ := hS; clear hS1 hS4; go_simp⟩) hHeld ?_
  refine tkS (i := 4) (oi := ⟨some 73, Op.fieldAddr 31 (Operand.tmp 7) 1, 0, _, _, none⟩) (v := .pointer (some ⟨d, 1, none⟩)) rfl (Or.inl ⟨by rfl, fun w hS => by obtain ⟨hS1, hS2, hS3, hS4⟩ := hS; clear hS1 hS4; go_simp⟩) hHeld ?_
  refine tkS (i := 6) (oi := ⟨some 75, Op.move (Operand.tmp 14), 3, _, _, none⟩) (v := .int .i64 (t : Int)) rfl (Or.inl ⟨by rfl, fun w hS => by obtain ⟨hS1, hS2, hS3, hS4⟩ := hS; clear hS1 hS4; go_simp⟩) hHeld ?_
  refine tkS (i := 3) (oi := ⟨some 72, Op.load 3 (Operand.tmp 71), 3, _, _, none⟩) (v := .int .i64 (n : Int)) rfl (Or.inl ⟨by rfl, fun w hS => by obtain ⟨hS1, hS2, hS3, hS4⟩ := hS; clear hS1 hS4; go_simp⟩) hHeld ?_
  refine tkS (i := 5) (oi := ⟨some 74, Op.load 29 (Operand.tmp 73), 29, _, _, none⟩) (v := .slice (some ⟨b, off, none⟩) m cap) rfl (Or.inl ⟨by rfl, fun w hS => by obtain ⟨hS1, hS2, hS3, hS4⟩ := hS; clear hS1 hS4; go_simp⟩) hHeld ?_
  refine tkS (i := 7) (oi := ⟨some 76, Op.indexAddr 29 (Operand.tmp 74) (Operand.tmp 75), 0, _, _, none⟩) (v := .pointer (some ⟨b, off + t * 5, none⟩)) rfl (Or.inl ⟨by rfl, fun w hS => by obtain ⟨hS1, hS2, hS3, hS4⟩ := hS; clear hS1 hS4; go_simp⟩) hHeld ?_
  refine tkS (i := 8) (oi := ⟨some 77, Op.load 69 (Operand.tmp 76), 69, _, _, none⟩) (v := .agg (lvA y)) rfl (yieldsIf_ld (by rfl) (Operand.tmp 76) 69 rfl b (off + t * 5) rfl (lvA y) _ Try.underlying69 rfl (Try.sizeLf y) fun w hS => hS.2.2.2) hHeld ?_
  refine wpAnyH_ready (rs := [9]) (by kernel_rfl) (by simp) ?_
  refine AllReadyH.cons (o := ⟨some 78, Op.call { callee := Callee.value (Operand.func 59), args := #[Operand.tmp 69, Operand.tmp 70, Operand.tmp 72, Operand.tmp 77], argTypes := #[58, 25, 3, 69] }, 4, _, _, none⟩) rfl (fun K hK => ?_) AllReadyH.nil
  rw [if_pos (by rfl)]
  refine wp_callF 59 _ _ rfl Try.in59 #[.pointer (some ⟨x, 0, none⟩), .agg hr_, .int .i64 (n : Int), .agg (lvA y)] (by simp [Act.eval]) (fun vz wz => ∃ rows', vz = .bool ok ∧ BkH w.heap.size wz x rows' ∧ (ok = true → rows' = ((ls.take t).flatMap (rwsOf n)) ++ rwsOf n y) ∧ Grown wr.drew wz (BkS w.heap.size wr.drew)) ?_ ?_
  ·refine (HRG.out).mono ?_
   rintro e wz ⟨rows', rfl, k1, _, k2, _, k3⟩
   exact ⟨_, rfl, rows', by rw [hok.out], k1, by rw [← hok.out]; exact k2, k3⟩
  rintro vz w6 ⟨rows6, rfl, k1, k2, k3⟩
  have BK6 := Keep.mk k1
  have HRw := Keep.mk k2
  have B6 : Keep (Below w.heap.size w w6) := ⟨Bd.out.trans (k3.bkBelow Bd.out.size)⟩
  have Q6 := Keep.mk (Qd.out.bk k3 (by decide) (by decide))
  have D6 := Keep.mk (Dd.out.bk k3 (by decide) (by decide))
  have R6 := Keep.mk (Rd.out.bk k3 (by decide) (by decide))
  clear k1 k2 k3 Qd Dd Rd BKd Bd HRG
  refine hK _ _ (hS0.out _ B6.out Q6.out D6.out) fun hH_ => ?_
  clear hK
  simp only [Act.put, pqA, pqB, pqC]
  refine tkS (i := 10) (oi := ⟨some 15, Op.assign (Operand.tmp 78), 4, _, _, none⟩) (v := .bool ok) rfl (Or.inl ⟨by rfl, fun w hS => by obtain ⟨hS1, hS2, hS3, hS4⟩ := hS; clear hS1 hS4; go_simp⟩) hH_ ?_
  refine wpAnyH_done (by kernel_rfl) ?_ _
  refine hK15 _ _ ?_
  refine wp_seq_k fun K16 hK16 => ?_
  obtain rfl : ok = true := hok.out.symm.trans (Hall0.out y Hm.out)
  refine rgn ?_
  refine VbT ?_
  refine VbF ?_
  refine WL.nil (hK16 _ _ ?_)
  refine wp_cond_false rfl ?_
  refine wp_skip ?_
  refine hK14 _ _ ?_
  refine rgn ?_
  refine VlS (.int .i64 (t : Int)) ?_
  refine VlS (.int .i64 ((t + 1 : Nat) : Int)) ?_
  refine VlS (.int .i64 ((t + 1 : Nat) : Int)) ?_
  refine WL.nil ?_
  refine ⟨⟨t + 1, rfl, by omega, Q6.out, D6.out, R6.out, ?_, B6.out, fun i y' hi hy => ?_⟩, ?_⟩
  ·have h := BK6.out
   rw [HRw.out rfl] at h
   have e : (ls.take (t + 1)).flatMap (rwsOf n) = (ls.take t).flatMap (rwsOf n) ++ rwsOf n y := by
    rw [List.take_add_one, List.flatMap_append, Hy.out]; simp
   rw [e]; exact h
  ·by_cases e : i = t
   ·subst e; rw [Hy.out] at hy; injection hy with hy; subst hy; exact hok.out
   ·exact HI_.out i y' (by omega) hy
  ·simp only [intOf]; show m - (((t + 1 : Nat) : Int)).toNat < m - ((t : Int)).toNat; omega
 ·have htl' : ¬ (t : Int) < (m : Int) := by omega
  have Hall : Keep (∀ y ∈ ls, (okL (n : Int) y && rgtB n y root) = true) := ⟨fun y hy => by
   obtain ⟨i, hi, e⟩ := List.getElem_of_mem hy
   exact HI_.out i y (by rw [hml.out] at hi; omega) (by rw [List.getElem?_eq_getElem hi, e])⟩
  have BK7 : Keep (BkH w.heap.size wr x (ls.flatMap (rwsOf n))) := ⟨by have h := BK5.out; rw [List.take_of_length_le (by rw [hml.out]; omega)] at h; exact h⟩
  have Hr0 : Keep (0 < (ls.flatMap (rwsOf n)).length) := ⟨rows_pos hml.out hm1 Hall.out⟩
  have hsy := says_ts (.slice (some ⟨b, off, none⟩) m cap) (n : Int) kind key ls wr ((LsV.below (.inr ⟨b, off, cap, by rw [hml.out], by rw [hml.out]; exact hmc, HLs.out⟩) B5.out).mono B5.out.size) (by rw [hml.out]; exact hm1) (by rw [hml.out]; exact hm2) (by have := Hn.out; omega) (fun y hy => by have h := Hall.out y hy; simp [okL] at h; omega) Han0.out
  obtain ⟨sv, hsv⟩ : ∃ z, Keep (saysI (n : Int) ls kind key = z) := ⟨_, ⟨rfl⟩⟩
  rw [hsv.out] at hsy
  have HSY := Keep.mk hsy
  have HSV : Keep (sv = -1 ∨ sv = 0 ∨ sv = 1) := ⟨by rw [← hsv.out]; exact says_vals⟩
  have HTK : Keep (takB root (n : Int) kind key ls = decide (0 ≤ sv)) := ⟨by rw [← hsv.out]; exact tak_says (by omega) hml.out hm1 hm2 Hall.out⟩
  have HTE : Keep (tellB ls kind key = decide (sv = 1)) := ⟨by rw [← hsv.out]; exact (ans_says (by rw [hml.out]; exact hm1) (by rw [hml.out]; exact hm2)).2⟩
  clear hsy BK5 HI_
  refine wp_seq_k fun K17 hK17 => ?_
  refine wp_seq_k fun K18 hK18 => rgn ?_
  refine VlS (.int .i64 (t : Int)) ?_
  refine VlS (.pointer (some ⟨d, 1, none⟩)) ?_
  refine VlS (.slice (some ⟨b, off, none⟩) m cap) ?_
  refine VlS (.int .i64 (m : Int)) ?_
  refine VbF ?_
  refine WL.nil (hK18 _ _ ?_)
  refine wp_cond_false rfl ?_
  refine wp_exit ?_
  refine hK10 _ _ ?_
  refine wp_seq_k fun K19 hK19 => rgn ?_
  refine VlS (.int .i64 kind) ?_
  refine VlS (.string key) ?_
  refine WL.row (by kernel_rfl) 31 (.tmp 7) rfl d rfl 31 (wtA (n : Int) (.slice (some ⟨b, off, none⟩) m cap)) _ D5.out Try.underlying31 rfl (by rfl) ?_
  simp only [Act.put, pqA, pqB, pqC]
  clear w0_ w1_
  refine WL.callF (by kernel_rfl) 60 _ _ rfl Try.in60 #[.int .i64 kind, .string key, .agg (wtA (n : Int) (.slice (some ⟨b, off, none⟩) m cap))] (by simp [Act.eval]) ?_
  refine (HSY.out).mono ?_
  rintro e w6 ⟨rfl, k1⟩
  refine ⟨_, rfl, ?_⟩
  have BK8 := Keep.mk (BK7.out.below k1)
  have B8 : Keep (Below w.heap.size w w6) := ⟨B5.out.trans (k1.mono B5.out.size)⟩
  have Q8 := Keep.mk (Q5.out.below k1 Q5.out.lt)
  have D8 := Keep.mk (D5.out.below k1 D5.out.lt)
  have R8 := Keep.mk (R5.out.below k1 R5.out.lt)
  clear k1 Q5 D5 R5 BK7 B5 HSY
  simp only [Act.put, pqA, pqB, pqC]
  refine VlS (.int .i64 sv) ?_
  refine WL.nil (hK19 _ _ ?_)
  refine wp_seq_k fun K20 hK20 => ?_
  refine wp_seq_k fun K21 hK21 => ?_
  have HSV2 : sv = 0 ∨ sv = 1 := by
   rcases HSV.out with e1 | e1
   ·exfalso; have h := HTK.out; rw [HTk0.out, e1] at h; simp at h
   ·exact e1
  rcases HSV2 with e1 | e1
  ·subst e1
   have hEI := chkE_ok (root := root) (n := (n : Int)) (key := key) (ls := ls) hkm (by rw [HTK.out]; rfl)
   have hE := Keep.mk hEI.1
   have hI : Keep (chkI root (n : Int) kind key ls = false) := ⟨by rw [hEI.2, HTE.out]; rfl⟩
   clear hEI HTK HTE HSV hsv
   refine rgn ?_
   refine VlS (.int .i64 0) ?_
   refine VbF ?_
   refine WL.nil (hK21 _ _ ?_)
   refine wp_cond_false rfl ?_
   refine wp_skip ?_
   refine hK20 _ _ ?_
   refine wp_seq_k fun K22 hK22 => ?_
   refine wp_seq_k fun K23 hK23 => rgn ?_
   refine VlS (.int .i64 0) ?_
   refine VbT ?_
   refine WL.nil (hK23 _ _ ?_)
   refine wp_cond_true rfl ?_
   refine wp_seq_k fun K24 hK24 => ?_
   have BKd := Keep.mk (BK8.out.below (Below.refl w6.heap.size w6).drew)
   obtain ⟨vr, us0, cvr, -, -⟩ := BKd.out.rsv Hr0.out
   have Rd : Keep (Blk w6.drew r 40 #[.int .i64 0, .string ByteArray.empty, .slice none 0 0]) := ⟨R8.out⟩
   have Bd : Keep (Below w.heap.size w w6.drew) := ⟨B8.out.drew⟩
   have hxr : Keep (x ≠ r) := ⟨fun e => absurd (BKd.out.typX.one (show Typ w6.drew x 40 from e ▸ Rd.out.typ)) (by decide)⟩
   refine wp_region_held_drew (S := fun wx => wx.cell? ⟨x, 0, none⟩ = some vr) (by kernel_rfl) (cvr) (fun hHeld => ?_)
   refine TkG (i := 1) (oi := ⟨some 100, Op.move (Operand.tmp 12), 58, _, _, none⟩) (v := .pointer (some ⟨x, 0, none⟩)) rfl hHeld ?_
   refine TkG (i := 2) (oi := ⟨some 101, Op.nilCheck (Operand.tmp 100), 0, _, _, none⟩) (v := .pointer (some ⟨x, 0, none⟩)) rfl hHeld ?_
   refine TkG (i := 3) (oi := ⟨some 102, Op.fieldAddr 61 (Operand.tmp 101) 0, 0, _, _, none⟩) (v := .pointer (some ⟨x, 0, none⟩)) rfl hHeld ?_
   refine TkG (i := 4) (oi := ⟨some 103, Op.load 59 (Operand.tmp 102), 59, _, _, none⟩) (v := vr) rfl hHeld ?_
   refine wpAnyH_ready (rs := [0]) (by kernel_rfl) (by simp) ?_
   refine AllReadyH.cons (o := ⟨some 99, Op.build 40 #[], 40, _, _, none⟩) rfl (fun K hK => ?_) AllReadyH.nil
   rw [if_pos (by rfl)]
   refine wp_bldG 40 #[] rfl #[.int .i64 0, .string ByteArray.empty, .slice none 0 0] (by simpa using bldC) ?_
   refine hK _ _ cvr fun hH_ => ?_
   clear hK
   simp only [Act.put, pqA, pqB, pqC]
   refine wpAnyH_ready (rs := [5]) (by kernel_rfl) (by simp) ?_
   refine AllReadyH.cons (o := ⟨none, Op.store 40 (Operand.tmp 8) (Operand.tmp 99), 0, _, _, none⟩) rfl (fun K hK => ?_) AllReadyH.nil
   rw [if_pos (by rfl)]
   refine wp_store_row 40 (.tmp 8) (.tmp 99) rfl r #[.int .i64 0, .string ByteArray.empty, .slice none 0 0] rfl rfl 40 #[.int .i64 0, .string ByteArray.empty, .slice none 0 0] Rd.out (Try.sizeC _ _ _) rfl (by simp [Value.oneCell']) ?_
   have R9 := Keep.mk (Rd.out.setRow #[.int .i64 0, .string ByteArray.empty, .slice none 0 0])
   have g_ : Grown w6.drew (w6.drew.setRow r #[.int .i64 0, .string ByteArray.empty, .slice none 0 0]) (fun k => k = r) := Grown.setRow _ r #[.int .i64 0, .string ByteArray.empty, .slice none 0 0] fun _ => rfl
   have cvr9 := g_.cell cvr hxr.out
   have BK9 := Keep.mk (BKd.out.setRow Rd.out #[.int .i64 0, .string ByteArray.empty, .slice none 0 0] (by decide) (by decide) (by decide))
   have B9 : Keep (Below w.heap.size w (w6.drew.setRow r #[.int .i64 0, .string ByteArray.empty, .slice none 0 0])) := ⟨below_setRow Bd.out gr.out _⟩
   generalize w6.drew.setRow r #[.int .i64 0, .string ByteArray.empty, .slice none 0 0] = w9 at *
   clear g_
   have RS9 : Keep (∃ us, RsO w9 vr us _) := ⟨by
    obtain ⟨vr', us', c', h1, _⟩ := BK9.out.rso Hr0.out
    obtain rfl : vr' = vr := Option.some.inj (c'.symm.trans cvr9)
    exact ⟨us', h1⟩⟩
   refine hK _ _ cvr9 fun hH_ => ?_
   clear hK
   simp only [Act.put, pqA, pqB, pqC]
   refine TkG (i := 6) (oi := ⟨some 9, Op.assign (Operand.const (Value.bool false)), 4, _, _, none⟩) (v := .bool false) rfl hH_ ?_
   refine TkG (i := 7) (oi := ⟨some 10, Op.assign (Operand.const (Value.int IntKind.i64 0)), 26, _, _, none⟩) (v := .int .i64 0) rfl hH_ ?_
   refine TkG (i := 8) (oi := ⟨some 11, Op.assign (Operand.tmp 103), 59, _, _, none⟩) (v := vr) rfl hH_ ?_
   refine wpAnyH_done (by kernel_rfl) ?_ _
   refine hK24 _ _ ?_
   refine wp_ret ?_
   try simp only [Exit.inBlock, Exit.then]
   refine bodyPost_ret (v := .tuple #[.agg #[.int .i64 0, .string ByteArray.empty, .slice none 0 0], .bool false, .int .i64 0, vr]) (results_cell_row4 Try.results39 _ _ r 40 _ (0, 0) _ _ _ _ rfl rfl rfl rfl R9.out Try.underlying40 rfl (Try.sizeC _ _ _)) rfl ⟨⟨0, ByteArray.empty, .slice none 0 0, []⟩, vr, ?_, .inl ⟨rfl, rfl⟩, B9.out, fun _ => rfl, fun y' h => (by rw [hI.out] at h; cases h), fun _ => by unfold wlkR; rw [if_neg (by omega), Int.toNat_natCast]; exact RS9.out⟩
   rw [hE.out, hI.out] <;> rfl
  ·subst e1
   have hEI := chkE_ok (root := root) (n := (n : Int)) (key := key) (ls := ls) hkm (by rw [HTK.out]; rfl)
   have hE := Keep.mk hEI.1
   have hI : Keep (chkI root (n : Int) kind key ls = true) := ⟨by rw [hEI.2, HTE.out]; rfl⟩
   obtain ⟨y, hly⟩ : ∃ y, Keep (ls = [y]) := by
    have h := HTE.out
    unfold tellB at h
    split at h
    ·exact ⟨_, ⟨rfl⟩⟩
    ·simp at h
   obtain rfl : m = 1 := by have := hml.out; rw [hly.out] at this; simpa using this.symm
   clear hEI HTK HTE HSV hsv
   refine rgn ?_
   refine VlS (.int .i64 1) ?_
   refine VbF ?_
   refine WL.nil (hK21 _ _ ?_)
   refine wp_cond_false rfl ?_
   refine wp_skip ?_
   refine hK20 _ _ ?_
   refine wp_seq_k fun K25 hK25 => ?_
   refine wp_seq_k fun K26 hK26 => rgn ?_
   refine VlS (.int .i64 1) ?_
   refine VbF ?_
   refine WL.nil (hK26 _ _ ?_)
   refine wp_cond_false rfl ?_
   refine wp_skip ?_
   refine hK25 _ _ ?_
   refine wp_seq_k fun K27 hK27 => ?_
   have BKd := Keep.mk (BK8.out.below (Below.refl w6.heap.size w6).drew)
   obtain ⟨vr, us0, cvr, -, -⟩ := BKd.out.rsv Hr0.out
   have Rd : Keep (Blk w6.drew r 40 #[.int .i64 0, .string ByteArray.empty, .slice none 0 0]) := ⟨R8.out⟩
   have Dd : Keep (Blk w6.drew d 31 (wtA (n : Int) (.slice (some ⟨b, off, none⟩) 1 cap))) := ⟨D8.out⟩
   have Bd : Keep (Below w.heap.size w w6.drew) := ⟨B8.out.drew⟩
   have hxr : Keep (x ≠ r) := ⟨fun e => absurd (BKd.out.typX.one (show Typ w6.drew x 40 from e ▸ Rd.out.typ)) (by decide)⟩
   have HLy : Keep (∀ wx : World, Below w.heap.size w wx → wx.rangeAt b (off + 1) (cvA y.c).toList ∧ RowAt wx y.c.v y.c.l) := ⟨fun wx hb => by
    have h := HLs.out.below hb
    rw [hly.out] at h
    have h2 := h.at_ 0 y rfl
    exact ⟨rng_mid (by simpa using h2), (h.lf y (by simp)).row⟩⟩
   have HYo : Keep ((cvA y.c).all (·.oneCell') = true) := ⟨by
    obtain ⟨a_, m_, e_⟩ := row_form (HLy.out w (Below.refl _ _)).2
    unfold cvA; rw [e_]; simp [Value.oneCell']⟩
   refine wp_region_held_drew (S := fun wx => wx.cell? ⟨x, 0, none⟩ = some vr ∧ wx.cell? ⟨d, 1, none⟩ = some (.slice (some ⟨b, off, none⟩) 1 cap) ∧ wx.rangeAt b (off + 1) (cvA y.c).toList) (by kernel_rfl) (⟨cvr, Dd.out.c 1 rfl, (HLy.out _ Bd.out).1⟩) (fun hHeld => ?_)
   refine tkS (i := 0) (oi := ⟨some 104, Op.fieldAddr 31 (Operand.tmp 7) 1, 0, _, _, none⟩) (v := .pointer (some ⟨d, 1, none⟩)) rfl (Or.inl ⟨by rfl, fun w hS => by obtain ⟨hS1, hS2, hS3⟩ := hS; clear hS3; go_simp⟩) hHeld ?_
   refine tkS (i := 5) (oi := ⟨some 109, Op.move (Operand.tmp 12), 58, _, _, none⟩) (v := .pointer (some ⟨x, 0, none⟩)) rfl (Or.inl ⟨by rfl, fun w hS => by obtain ⟨hS1, hS2, hS3⟩ := hS; clear hS3; go_simp⟩) hHeld ?_
   refine tkS (i := 1) (oi := ⟨some 105, Op.load 29 (Operand.tmp 104), 29, _, _, none⟩) (v := .slice (some ⟨b, off, none⟩) 1 cap) rfl (Or.inl ⟨by rfl, fun w hS => by obtain ⟨hS1, hS2, hS3⟩ := hS; clear hS3; go_simp⟩) hHeld ?_
   refine tkS (i := 6) (oi := ⟨some 110, Op.nilCheck (Operand.tmp 109), 0, _, _, none⟩) (v := .pointer (some ⟨x, 0, none⟩)) rfl (Or.inl ⟨by rfl, fun w hS => by obtain ⟨hS1, hS2, hS3⟩ := hS; clear hS3; go_simp⟩) hHeld ?_
   refine tkS (i := 2) (oi := ⟨some 106, Op.indexAddr 29 (Operand.tmp 105) (Operand.const (Value.int IntKind.i64 0)), 0, _, _, none⟩) (v := .pointer (some ⟨b, off, none⟩)) rfl (Or.inl ⟨by rfl, fun w hS => by obtain ⟨hS1, hS2, hS3⟩ := hS; clear hS3; go_simp⟩) hHeld ?_
   refine tkS (i := 7) (oi := ⟨some 111, Op.fieldAddr 61 (Operand.tmp 110) 0, 0, _, _, none⟩) (v := .pointer (some ⟨x, 0, none⟩)) rfl (Or.inl ⟨by rfl, fun w hS => by obtain ⟨hS1, hS2, hS3⟩ := hS; clear hS3; go_simp⟩) hHeld ?_
   refine tkS (i := 3) (oi := ⟨some 107, Op.fieldAddr 69 (Operand.tmp 106) 1, 0, _, _, none⟩) (v := .pointer (some ⟨b, off + 1, none⟩)) rfl (Or.inl ⟨by rfl, fun w hS => by obtain ⟨hS1, hS2, hS3⟩ := hS; clear hS3; go_simp⟩) hHeld ?_
   refine tkS (i := 8) (oi := ⟨some 112, Op.load 59 (Operand.tmp 111), 59, _, _, none⟩) (v := vr) rfl (Or.inl ⟨by rfl, fun w hS => by obtain ⟨hS1, hS2, hS3⟩ := hS; clear hS3; go_simp⟩) hHeld ?_
   refine tkS (i := 4) (oi := ⟨some 108, Op.load 40 (Operand.tmp 107), 40, _, _, none⟩) (v := .agg (cvA y.c)) rfl (yieldsIf_ld (by rfl) (Operand.tmp 107) 40 rfl b (off + 1) rfl (cvA y.c) _ Try.underlying40 rfl (Try.sizeC _ _ _) fun w hS => hS.2.2) hHeld ?_
   refine wpAnyH_ready (rs := [9]) (by kernel_rfl) (by simp) ?_
   refine AllReadyH.cons (o := ⟨none, Op.store 40 (Operand.tmp 8) (Operand.tmp 108), 0, _, _, none⟩) rfl (fun K hK => ?_) AllReadyH.nil
   rw [if_pos (by rfl)]
   refine wp_store_row 40 (.tmp 8) (.tmp 108) rfl r (cvA y.c) rfl rfl 40 #[.int .i64 0, .string ByteArray.empty, .slice none 0 0] Rd.out (Try.sizeC _ _ _) rfl HYo.out ?_
   have R9 := Keep.mk (Rd.out.setRow (cvA y.c))
   have g_ : Grown w6.drew (w6.drew.setRow r (cvA y.c)) (fun k => k = r) := Grown.setRow _ r (cvA y.c) fun _ => rfl
   have cvr9 := g_.cell cvr hxr.out
   have D9 := Keep.mk (Dd.out.setRow_ne (blk_ne Dd.out Rd.out (by decide)) (cvA y.c))
   have BK9 := Keep.mk (BKd.out.setRow Rd.out (cvA y.c) (by decide) (by decide) (by decide))
   have B9 : Keep (Below w.heap.size w (w6.drew.setRow r (cvA y.c))) := ⟨below_setRow Bd.out gr.out _⟩
   generalize w6.drew.setRow r (cvA y.c) = w9 at *
   clear g_
   have RS9 : Keep (∃ us, RsO w9 vr us (ls.flatMap (rwsOf n))) := ⟨by
    obtain ⟨vr', us', c', h1, _⟩ := BK9.out.rso Hr0.out
    obtain rfl : vr' = vr := Option.some.inj (c'.symm.trans cvr9)
    exact ⟨us', h1⟩⟩
   refine hK _ _ ⟨cvr9, D9.out.c 1 rfl, (HLy.out _ B9.out).1⟩ fun hH_ => ?_
   clear hK
   simp only [Act.put, pqA, pqB, pqC]
   refine tkS (i := 10) (oi := ⟨some 9, Op.assign (Operand.const (Value.bool true)), 4, _, _, none⟩) (v := .bool true) rfl (Or.inl ⟨by rfl, fun w hS => by obtain ⟨hS1, hS2, hS3⟩ := hS; clear hS3; go_simp⟩) hH_ ?_
   refine tkS (i := 11) (oi := ⟨some 10, Op.assign (Operand.const (Value.int IntKind.i64 0)), 26, _, _, none⟩) (v := .int .i64 0) rfl (Or.inl ⟨by rfl, fun w hS => by obtain ⟨hS1, hS2, hS3⟩ := hS; clear hS3; go_simp⟩) hH_ ?_
   refine tkS (i := 12) (oi := ⟨some 11, Op.assign (Operand.tmp 112), 59, _, _, none⟩) (v := vr) rfl (Or.inl ⟨by rfl, fun w hS => by obtain ⟨hS1, hS2, hS3⟩ := hS; clear hS3; go_simp⟩) hH_ ?_
   refine wpAnyH_done (by kernel_rfl) ?_ _
   refine hK27 _ _ ?_
   refine wp_ret ?_
   try simp only [Exit.inBlock, Exit.then]
   refine bodyPost_ret (v := .tuple #[.agg (cvA y.c), .bool true, .int .i64 0, vr]) (results_cell_row4 Try.results39 _ _ r 40 _ (0, 0) _ _ _ _ rfl rfl rfl rfl R9.out Try.underlying40 rfl (Try.sizeC _ _ _)) rfl ⟨y.c, vr, ?_, (HLy.out _ B9.out).2, B9.out, fun h => (by rw [hI.out] at h; cases h), fun y' _ hy => by rw [hly.out] at hy; injection hy with hy; rw [hy], fun _ => by unfold wlkR; rw [if_neg (by omega), Int.toNat_natCast]; exact RS9.out⟩
   rw [hE.out, hI.out] <;> rfl
theorem walk_ts (v : Value) (n kind : Int) (key : ByteArray) (ls : List LV) (root : Hs) (w : World) (hL : LsV w.heap.size w v ls) (hn : n < 9223372036854775808) (hSm : SmP ls) (hE : chkE root n kind key ls = 0) : Calls Try.prog 39 #[.agg (bytesA 32 root.f), .int .i64 kind, .string key, .agg (wtA n v)] w (WkP root n kind key ls w) := by
 have hk : kmay kind = true := by
  unfold chkE at hE
  cases e : kmay kind
  ·rw [e] at hE; simp at hE
  ·rfl
 have hT : takB root n kind key ls = true := by
  unfold chkE at hE
  rw [hk] at hE
  cases e : takB root n kind key ls
  ·rw [e] at hE; simp at hE
  ·rfl
 have hT0 := hT
 unfold takB at hT
 simp only [Bool.and_eq_true] at hT
 obtain ⟨hf, han, hrt⟩ := hT
 unfold formB at hf
 unfold rtB at hrt
 obtain ⟨la, cap, rfl, hla⟩ := hL.form
 by_cases h0 : n = 0
 ·subst h0
  rw [if_pos rfl] at hf hrt
  have hls : ls = [] := List.eq_nil_of_length_eq_zero (by simpa using hf)
  subst hls
  exact wk_zero_t la cap kind key root _ _ w hk ⟨rfl⟩ ⟨rfl⟩ ⟨hrt⟩
 ·rw [if_neg h0] at hf hrt
  by_cases h3 : n < 0 ∨ ls.length < 1 ∨ 2 < ls.length
  ·rw [if_pos h3] at hf; cases hf
  ·rw [if_neg h3, List.all_eq_true] at hf
   rw [List.all_eq_true] at hrt
   rcases hL with ⟨a, c, _, h⟩ | ⟨b, off, cap', hv, h5, h6⟩
   ·subst h; simp at h3
   ·injection hv with e1 e2 e3
    subst e1 e3
    obtain ⟨m, rfl⟩ : ∃ m : Nat, n = (m : Int) := ⟨n.toNat, by omega⟩
    exact wk_ts b off _ cap m kind key ls root w hk ⟨rfl⟩ (by omega) (by omega) h5 (by omega) ⟨by omega⟩ ⟨hSm⟩ ⟨h6⟩ ⟨hT0⟩ ⟨fun y hy => by rw [hf y hy]; have := hrt y hy; rw [Int.toNat_natCast] at this; rw [this]; rfl⟩ ⟨han⟩

theorem Try.in20 (w : World) (vs : Array Value) : (callFunc 20 vs).run Try.prog w = .ok (.enter 20 vs) w := by kernel_rfl
theorem climb_ok : ∀ (k n i : Nat) (h : List Int) (p : List (List Int)) (t : List Int) (rs : List (List Int)), Byts h → h.length = 32 → (∀ b ∈ p, Byts b ∧ b.length = 32) → RtP.climb shaL k n i h p = some (t, rs) → (Byts t ∧ t.length = 32) ∧ (∀ r ∈ rs, RowOk r) ∧ rs.length ≤ p.length
 | 0, _, _, _, _, _, _, _, _, _, e => by simp [RtP.climb] at e
 | k + 1, n, i, h, p, t, rs, hb, hl, hp, e => by
  unfold RtP.climb at e
  by_cases hn : n ≤ 1
  ·rw [if_pos hn] at e
   cases p with
   | nil => simp at e; obtain ⟨rfl, rfl⟩ := e; exact ⟨⟨hb, hl⟩, fun r hr => by simp at hr, by simp⟩
   | cons b q => cases e
  ·rw [if_neg hn] at e
   cases p with
   | nil => cases e
   | cons b q =>
    have hb0 := hp b (by simp)
    simp only at e
    by_cases hi : i < RtP.half n
    ·rw [if_pos hi] at e
     cases hc : RtP.climb shaL k (RtP.half n) i h q with
     | none => rw [hc] at e; cases e
     | some z =>
      obtain ⟨x, rx⟩ := z
      rw [hc] at e
      simp at e
      obtain ⟨rfl, rfl⟩ := e
      obtain ⟨h1, h2, h3⟩ := climb_ok k _ _ _ _ _ _ hb hl (fun b hb => hp b (by simp [hb])) hc
      refine ⟨⟨shaL_byts _, shaL_len _⟩, fun r hr => ?_, by simp; omega⟩
      rcases List.mem_append.1 hr with hr | hr
      ·exact h2 r hr
      ·rw [List.mem_singleton.1 hr]; exact innR_ok h1.1 hb0.1 h1.2 hb0.2
    ·rw [if_neg hi] at e
     cases hc : RtP.climb shaL k (n - RtP.half n) (i - RtP.half n) h q with
     | none => rw [hc] at e; cases e
     | some z =>
      obtain ⟨x, rx⟩ := z
      rw [hc] at e
      simp at e
      obtain ⟨rfl, rfl⟩ := e
      obtain ⟨h1, h2, h3⟩ := climb_ok k _ _ _ _ _ _ hb hl (fun b hb => hp b (by simp [hb])) hc
      refine ⟨⟨shaL_byts _, shaL_len _⟩, fun r hr => ?_, by simp; omega⟩
      rcases List.mem_append.1 hr with hr | hr
      ·exact h2 r hr
      ·rw [List.mem_singleton.1 hr]; exact innR_ok hb0.1 h1.1 hb0.2 h1.2
theorem topR_ok {n : Nat} {t : List Int} (h1 : Byts t) (h2 : t.length = 32) : RowOk (RtP.topR le8 n t) := by
 have e : RtP.topR le8 n t = [2] ++ (le8 n ++ (if 0 < n then t else [])) := rfl
 rw [e]
 by_cases h : 0 < n
 ·rw [if_pos h]
  exact ⟨(Byts.one (by omega)).app ((le8_byts _).app h1), by simp [le8_len, h2]⟩
 ·rw [if_neg h]
  exact ⟨(Byts.one (by omega)).app ((le8_byts _).app Byts.nil), by simp [le8_len]⟩
theorem rws_ok {n : Nat} {x : LV} {root : Hs} (h1 : okL (n : Int) x = true) (h2 : rgtB n x root = true) (hs : x.c.s.size + x.c.l.length ≤ 140737488350000) (hb : Byts x.c.l) : (∀ r ∈ rwsOf n x, RowOk r) ∧ (rwsOf n x).length ≤ x.ps.length + 2 ∧ 0 < (rwsOf n x).length := by
 unfold rgtB at h2
 unfold rwsOf
 cases hc : climbL n x.num.toNat (lfH x) x.ps with
 | none => rw [hc] at h2; cases h2
 | some z =>
  obtain ⟨t, rt⟩ := z
  obtain ⟨g1, g2, g3⟩ := climb_ok _ _ _ _ _ _ _ (show Byts (lfH x) from shaL_byts _) (show (lfH x).length = 32 from shaL_len _) (fun b hb => by
   obtain ⟨p, _, rfl⟩ := List.mem_map.1 hb
   exact ⟨hsL_byts p, hsL_len p⟩) hc
  simp at g3
  refine ⟨fun r hr => ?_, by simp; omega, by simp⟩
  simp at hr
  rcases hr with hr | hr | hr
  ·rw [hr]; exact leafR_ok (leaf_fit h1 hs) hb
  ·exact g2 r hr
  ·rw [hr]; exact topR_ok g1.1 g1.2
theorem wlk_ok {n kind : Int} {key : ByteArray} {ls : List LV} {root : Hs} (hE : chkE root n kind key ls = 0) (hS : SmP ls) (hB : ∀ x ∈ ls, Byts x.c.l) : (∀ r ∈ wlkR n ls, RowOk r) ∧ (wlkR n ls).length ≤ 2000000000004 ∧ 0 < (wlkR n ls).length := by
 have hT : takB root n kind key ls = true := by
  unfold chkE at hE
  cases e1 : kmay kind
  ·rw [e1] at hE; simp at hE
  ·rw [e1] at hE
   cases e : takB root n kind key ls
   ·rw [e] at hE; simp at hE
   ·rfl
 unfold takB at hT
 simp only [Bool.and_eq_true] at hT
 obtain ⟨hf, _, hrt⟩ := hT
 unfold formB at hf
 unfold rtB at hrt
 unfold wlkR
 by_cases h0 : n = 0
 ·rw [if_pos h0]
  refine ⟨fun r hr => ?_, by simp, by simp⟩
  rw [List.mem_singleton.1 hr]
  exact ⟨(Byts.one (by omega)).app ((le8_byts 0).app Byts.nil), by simp [le8_len]⟩
 ·rw [if_neg h0] at hf hrt ⊢
  by_cases h3 : n < 0 ∨ ls.length < 1 ∨ 2 < ls.length
  ·rw [if_pos h3] at hf; cases hf
  ·rw [if_neg h3] at hf
   rw [List.all_eq_true] at hf hrt
   have hok : ∀ x ∈ ls, (∀ r ∈ rwsOf n.toNat x, RowOk r) ∧ (rwsOf n.toNat x).length ≤ x.ps.length + 2 ∧ 0 < (rwsOf n.toNat x).length := fun x hx => rws_ok (by rw [show ((n.toNat : Nat) : Int) = n by omega]; exact hf x hx) (hrt x hx) (hS x hx).1 (hB x hx)
   refine ⟨fun r hr => ?_, ?_⟩
   ·obtain ⟨x, hx, hr⟩ := List.mem_flatMap.1 hr
    exact (hok x hx).1 r hr
   ·match ls, h3 with
    | [], h3 => simp at h3
    | [x], _ =>
     have a1 := hok x (by simp)
     have a2 := (hS x (by simp)).2
     simp
     omega
    | [x, y], _ =>
     have a1 := hok x (by simp)
     have a2 := (hS x (by simp)).2
     have b1 := hok y (by simp)
     have b2 := (hS y (by simp)).2
     simp
     omega
    | _ :: _ :: _ :: _, h3 => simp at h3
set_option maxRecDepth 8000 in
set_option maxHeartbeats 1000000 in
theorem clash_at (v : Value) (L : List CV) (ua : Option Addr) (ul uc : Nat) (n kind : Int) (key : ByteArray) (ls : List LV) (root : Hs) (w : World) (HC : Keep (CsV w.heap.size w v L)) (HF : Keep (Fit L)) (HN : Keep (L.length ≤ 549755813888)) (HL : Keep (LsV w.heap.size w (.slice ua ul uc) ls)) (Hn : Keep (n < 9223372036854775808)) (HSm : Keep (SmP ls)) (hE : Keep (chkE root n kind key ls = 0)) (HWk : Keep ((∀ r ∈ wlkR n ls, RowOk r) ∧ (wlkR n ls).length ≤ 2000000000004 ∧ 0 < (wlkR n ls).length)) (HOk : Keep (∀ r ∈ rootS L ++ wlkR n ls, RowOk r)) :
  Calls Try.prog 20 #[v, .agg (bytesA 32 root.f), .int .i64 kind, .string key, .agg (wtA n (.slice ua ul uc))] w fun e w' => ∃ b : Bool, e = .returned (.bool b) ∧ (RtP.Cl shaL (rootS L ++ wlkR n ls) → b = true) ∧ Below w.heap.size w w' := by
 go_enter Try.func20, Try.ntmps20
 refine wp_seq_k fun K1 hK1 => rgn ?_
 refine WL.box (by kernel_rfl) 25 (.tmp 1) rfl (bytesA 32 root.f) rfl ?_
 have A1 := Keep.mk (Blk.new w 25 (bytesA 32 root.f))
 have b_ := below_new w (.cells (bytesA 32 root.f) 25)
 change WL _ _ _ _ _ (w.alloc (.cells (bytesA 32 root.f) 25))
 generalize w.alloc (.cells (bytesA 32 root.f) 25) = w1 at *
 obtain ⟨a, ha0⟩ : ∃ z, Keep (z = w.heap.size) := ⟨_, ⟨rfl⟩⟩
 rw [← ha0.out] at A1 ⊢
 have B1 : Keep (Below w.heap.size w w1) := ⟨b_⟩
 have ga : Keep (w.heap.size ≤ a) := ⟨by rw [ha0.out]; exact Nat.le_refl _⟩
 clear b_
 simp only [Act.put, pqA, pqB, pqC]
 refine WL.box (by kernel_rfl) 31 (.tmp 4) rfl (wtA n (.slice ua ul uc)) rfl ?_
 have D2 := Keep.mk (Blk.new w1 31 (wtA n (.slice ua ul uc)))
 have b_ := below_new w1 (.cells (wtA n (.slice ua ul uc)) 31)
 change WL _ _ _ _ _ (w1.alloc (.cells (wtA n (.slice ua ul uc)) 31))
 generalize w1.alloc (.cells (wtA n (.slice ua ul uc)) 31) = w2 at *
 obtain ⟨d, hd0⟩ : ∃ z, Keep (z = w1.heap.size) := ⟨_, ⟨rfl⟩⟩
 rw [← hd0.out] at D2 ⊢
 have A2 := Keep.mk (A1.out.below b_ A1.out.lt)
 have B2 : Keep (Below w.heap.size w w2) := ⟨B1.out.trans (b_.mono B1.out.size)⟩
 have gd : Keep (w.heap.size ≤ d) := ⟨by rw [hd0.out]; exact B1.out.size⟩
 clear b_
 simp only [Act.put, pqA, pqB, pqC]
 refine VbF ?_
 refine WL.nil (hK1 _ _ ?_)
 refine wp_seq_k fun K2 hK2 => rgn ?_
 refine WL.bld (by kernel_rfl) 61 #[] rfl [] (by simp) _ bld_bk ?_
 simp only [Act.put, pqA, pqB, pqC]
 refine WL.box (by kernel_rfl) 61 (.tmp 16) rfl #[.slice none 0 0] rfl ?_
 have K4 := Keep.mk (BkH.new w2)
 have b_ := below_new w2 (.cells #[.slice none 0 0] 61)
 generalize w2.alloc (.cells #[.slice none 0 0] 61) = w3 at *
 obtain ⟨x, hx⟩ : ∃ z, Keep (z = w2.heap.size) := ⟨_, ⟨rfl⟩⟩
 obtain ⟨B, hB⟩ : ∃ z, Keep (z = w2.heap.size) := ⟨_, ⟨rfl⟩⟩
 have BK3 : Keep (BkH B w3 x []) := ⟨by rw [hx.out, hB.out]; exact K4.out⟩
 have hB2 : Keep (w.heap.size ≤ B) := ⟨by rw [hB.out]; exact B2.out.size⟩
 have b3 : Keep (Below B w2 w3) := ⟨by rw [hB.out]; exact b_⟩
 have hBs : Keep (B ≤ w3.heap.size) := ⟨by rw [hB.out]; exact b_.size⟩
 have hAB : Keep (a < B ∧ d < B) := ⟨by rw [hB.out]; exact ⟨A2.out.lt, D2.out.lt⟩⟩
 rw [← hx.out]
 have A3 := Keep.mk (A2.out.below b_ A2.out.lt)
 have D3 := Keep.mk (D2.out.below b_ D2.out.lt)
 have B3 : Keep (Below w.heap.size w w3) := ⟨B2.out.trans (b_.mono B2.out.size)⟩
 clear b_ K4 A2 D2 B2 hB hx
 simp only [Act.put, pqA, pqB, pqC]
 refine VlS (.pointer (some ⟨x, 0, none⟩)) ?_
 refine WL.nil (hK2 _ _ ?_)
 refine wp_seq_k fun K3 hK3 => rgn ?_
 refine VlS (.pointer (some ⟨x, 0, none⟩)) ?_
 refine VlS (v) ?_
 have hr1 := root_any B x v L [] w3 BK3.out ((HC.out.below B3.out).mono hB2.out) HF.out (by have := HN.out; simp; omega) hBs.out
 refine WL.callF (by kernel_rfl) 27 _ _ rfl Try.in27 #[.pointer (some ⟨x, 0, none⟩), v] (by simp [Act.eval]) ?_
 refine (hr1).mono ?_
 rintro e w4 ⟨rfl, k1, k2⟩
 refine ⟨_, rfl, ?_⟩
 have BK4 : Keep (BkH B w4 x (rootS L)) := ⟨by simpa using k1⟩
 have b4 := k2.bkBelow hBs.out
 have A4 := Keep.mk (A3.out.below b4 hAB.out.1)
 have D4 := Keep.mk (D3.out.below b4 hAB.out.2)
 have B4 : Keep (Below w.heap.size w w4) := ⟨B3.out.trans (b4.mono hB2.out)⟩
 have hBs4 : Keep (B ≤ w4.heap.size) := ⟨Nat.le_trans hBs.out b4.size⟩
 clear hr1 k1 k2 b4
 simp only [Act.put, pqA, pqB, pqC]
 refine WL.nil (hK3 _ _ ?_)
 refine wp_seq_k fun K4 hK4 => rgn ?_
 refine WL.row (by kernel_rfl) 25 (.tmp 6) rfl a rfl 25 (bytesA 32 root.f) _ A4.out Try.underlying25 rfl (by exact Try.size25B _) ?_
 simp only [Act.put, pqA, pqB, pqC]
 refine VlS (.int .i64 kind) ?_
 refine VlS (.string key) ?_
 refine WL.row (by kernel_rfl) 31 (.tmp 9) rfl d rfl 31 (wtA n (.slice ua ul uc)) _ D4.out Try.underlying31 rfl (by rfl) ?_
 simp only [Act.put, pqA, pqB, pqC]
 refine WL.callF (by kernel_rfl) 39 _ _ rfl Try.in39 #[.agg (bytesA 32 root.f), .int .i64 kind, .string key, .agg (wtA n (.slice ua ul uc))] (by simp [Act.eval]) ?_
 refine (walk_ts _ n kind key ls root w4 ((HL.out.below B4.out).mono B4.out.size) Hn.out HSm.out hE.out).mono ?_
 rintro e w5 ⟨c, vr, rfl, k0, k1, -, -, k2⟩
 refine ⟨_, rfl, ?_⟩
 obtain ⟨us, k3⟩ := k2 hE.out
 rw [hE.out]
 have C5 := Keep.mk k0
 have R5 := Keep.mk k3
 have BK5 := Keep.mk (BK4.out.below (k1.mono (Nat.le_refl _)))
 have B5 : Keep (Below w.heap.size w w5) := ⟨B4.out.trans (k1.mono B4.out.size)⟩
 have hBs5 : Keep (B ≤ w5.heap.size) := ⟨Nat.le_trans hBs4.out k1.size⟩
 obtain ⟨ci, hci⟩ : ∃ z, Keep (chkI root n kind key ls = z) := ⟨_, ⟨rfl⟩⟩
 rw [hci.out]
 clear k0 k1 k2 k3
 simp only [Act.put, pqA, pqB, pqC]
 refine VlS (.tuple #[.agg (cvA c), .bool ci, .int .i64 0, vr]) ?_
 refine VlS (.agg (cvA c)) ?_
 refine VlS (.bool ci) ?_
 refine VlS (.int .i64 0) ?_
 refine VlS (vr) ?_
 refine WL.new (by kernel_rfl) 40 rfl _ Try.newC ?_
 have Q6 := Keep.mk (Blk.new w5 40 #[.int .i64 0, .string ByteArray.empty, .slice none 0 0])
 have b_ := below_new w5 (.cells #[.int .i64 0, .string ByteArray.empty, .slice none 0 0] 40)
 change WL _ _ _ _ _ (w5.alloc (.cells #[.int .i64 0, .string ByteArray.empty, .slice none 0 0] 40))
 generalize w5.alloc (.cells #[.int .i64 0, .string ByteArray.empty, .slice none 0 0] 40) = w6 at *
 obtain ⟨q, hq0⟩ : ∃ z, Keep (z = w5.heap.size) := ⟨_, ⟨rfl⟩⟩
 rw [← hq0.out] at Q6 ⊢
 have B6 : Keep (Below w.heap.size w w6) := ⟨B5.out.trans (b_.mono B5.out.size)⟩
 have gq : Keep (w.heap.size ≤ q) := ⟨by rw [hq0.out]; exact B5.out.size⟩
 have n6 := Keep.mk b_
 clear b_
 simp only [Act.put, pqA, pqB, pqC]
 refine WL.storeR (by kernel_rfl) 40 (.tmp 12) (.tmp 27) rfl q (cvA c) rfl rfl 40 #[.int .i64 0, .string ByteArray.empty, .slice none 0 0] Q6.out (Try.sizeC _ _ _) rfl (cvA_one1 C5.out) ?_
 have b7 := below_setRow n6.out (by rw [hq0.out]; exact Nat.le_refl _ : w5.heap.size ≤ q) (cvA c)
 have B7 : Keep (Below w.heap.size w (w6.setRow q (cvA c))) := ⟨below_setRow B6.out gq.out _⟩
 have R7 : Keep (RsO (w6.setRow q (cvA c)) vr us (wlkR n ls)) := ⟨R5.out.1.below b7, fun j u l hu hl => owns_below (R5.out.2 j u l hu hl) b7⟩
 have BK7 := Keep.mk (BK5.out.below (b7.mono (Nat.le_refl _)))
 have hBs7 : Keep (B ≤ (w6.setRow q (cvA c)).heap.size) := ⟨Nat.le_trans hBs5.out b7.size⟩
 generalize w6.setRow q (cvA c) = w7 at *
 clear b7 n6 Q6 BK5 R5
 obtain ⟨vb, cs, h1, h2, h3, h4⟩ := BK7.out.ex
 have Ob := Keep.mk h2
 have Hcl := Keep.mk h3
 have Hrw := Keep.mk h4
 have cvb : w7.cell? ⟨x, 0, none⟩ = some vb := h1.c 0 rfl
 clear h1 h2 h3 h4
 simp only [Act.put]
 refine VlS (.bool ci) ?_
 refine VlS (.int .i64 0) ?_
 refine VlS (vr) ?_
 refine WL.nil (hK4 _ _ ?_)
 refine wp_seq_k fun K5 hK5 => rgn ?_
 refine VlS (.pointer (some ⟨x, 0, none⟩)) ?_
 refine VlS (.pointer (some ⟨x, 0, none⟩)) ?_
 refine VlS (.pointer (some ⟨x, 0, none⟩)) ?_
 refine VlS (vb) ?_
 refine VlS (vr) ?_
 clear cvb
 refine WL.appRs (by kernel_rfl) (.tmp 34) (.tmp 35) rfl vb vr B cs.length cs us _ rfl rfl Ob.out R7.out.1 (by rw [Hcl.out, R7.out.1.1]; have := (rootS_len L).1; have := HN.out; have := HWk.out.2.1; omega) hBs7.out ?_
 intro v8 w8 k1 k2 _
 have B8 : Keep (Below w.heap.size w w8) := ⟨B7.out.trans (k2.to_below (fun k hk e => by have := (owns_lt Ob.out k e).1; have := hB2.out; omega) B7.out.size)⟩
 have hall : ∀ {u : Value} {l : List Int}, Own w7 u l → RowAt w8 u l := fun ho => Own.row (owns_grown ho k2 fun k hk e => absurd ((owns_typ ho hk).one (owns_typ Ob.out e)) (by decide))
 have RS8 : Keep (RsV w8 v8 (cs ++ us) (rootS L ++ wlkR n ls)) := ⟨RsV.of_owns (B := B) (by rw [List.length_append]; exact k1) (by rw [List.length_append, R7.out.1.1]; have := HWk.out.2.2; omega) (by rw [List.length_append, List.length_append, Hcl.out, R7.out.1.1]) fun j u l hu hl => by
  by_cases hj : j < cs.length
  ·rw [List.getElem?_append_left hj] at hu
   rw [List.getElem?_append_left (by rw [← Hcl.out]; exact hj)] at hl
   exact hall (Hrw.out j u l hu hl)
  ·rw [List.getElem?_append_right (by omega)] at hu
   rw [List.getElem?_append_right (by rw [← Hcl.out]; omega), ← Hcl.out] at hl
   exact hall (R7.out.2 _ u l hu hl)⟩
 clear hall k1 k2
 simp only [Act.put, pqA, pqB, pqC]
 refine WL.callF (by kernel_rfl) 40 _ _ rfl Try.in40 #[v8] (by simp [Act.eval]) ?_
 refine (twice_any v8 _ _ w8 RS8.out (by rw [List.length_append, Hcl.out, R7.out.1.1]; have := (rootS_len L).1; have := HN.out; have := HWk.out.2.1; omega) (fun r hr => (HOk.out r hr).2) (fun r hr => (HOk.out r hr).1)).mono ?_
 rintro e w9 ⟨bb, rfl, k1, k2⟩
 refine ⟨_, rfl, ?_⟩
 have HCl := Keep.mk k1
 have B9 : Keep (Below w.heap.size w w9) := ⟨B8.out.trans (k2.mono B8.out.size)⟩
 clear k1 k2
 simp only [Act.put, pqA, pqB, pqC]
 refine VlS (.bool bb) ?_
 refine WL.nil (hK5 _ _ ?_)
 refine wp_ret ?_
 go_ret
 exact ⟨bb, rfl, HCl.out, B9.out⟩
theorem clash_any (v u : Value) (L : List CV) (n kind : Int) (key : ByteArray) (ls : List LV) (root : Hs) (w : World) (hC : CsV w.heap.size w v L) (hF : Fit L) (hB : ∀ c ∈ L, Byts c.l) (hN : L.length ≤ 549755813888) (hL : LsV w.heap.size w u ls) (hn : n < 9223372036854775808) (hS : SmP ls) (hBl : ∀ x ∈ ls, Byts x.c.l) (hE : chkE root n kind key ls = 0) :
  Calls Try.prog 20 #[v, .agg (bytesA 32 root.f), .int .i64 kind, .string key, .agg (wtA n u)] w fun e w' => ∃ b : Bool, e = .returned (.bool b) ∧ (RtP.Cl shaL (rootS L ++ wlkR n ls) → b = true) ∧ Below w.heap.size w w' := by
 obtain ⟨ua, ul, uc, rfl⟩ : ∃ a n c, u = .slice a n c := by
  rcases hL with ⟨a, c, h, _⟩ | ⟨g, o, c, h, _⟩
  ·exact ⟨_, _, _, h⟩
  ·exact ⟨_, _, _, h⟩
 have hw := wlk_ok hE hS hBl
 refine clash_at v L ua ul uc n kind key ls root w ⟨hC⟩ ⟨hF⟩ ⟨hN⟩ ⟨hL⟩ ⟨hn⟩ ⟨hS⟩ ⟨hE⟩ ⟨hw⟩ ⟨fun r hr => ?_⟩
 rcases List.mem_append.1 hr with hr | hr
 ·exact rootS_ok hF hB r hr
 ·exact hw.1 r hr

end Go.Proofs.Ytjklmkeedhgncaa
