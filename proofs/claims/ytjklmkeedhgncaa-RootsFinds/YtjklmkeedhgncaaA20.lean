import Derived.Test.YtjklmkeedhgncaaA19
namespace Go.Proofs.Ytjklmkeedhgncaa
open Go.RowKit
set_option linter.unusedSimpArgs false
set_option linter.unusedVariables false
set_option maxRecDepth 8000 in
set_option maxHeartbeats 4000000 in
theorem dfd_some (b off n cap at_ : Nat) (L : List CV) (ns : List Nat) (kind : Int) (key : ByteArray) (w : World) (hkm : kmay kind = true) (hwi : Keep (wrongI L = 0)) (hn : Keep (L.length = n)) (hn1 : 1 ≤ n) (hcap : n ≤ cap) (HN : Keep (n ≤ 1099511627776)) (HC : Keep (CsAt w.heap.size w b off L)) (HCv : Keep (CsV w.heap.size w (.slice (some ⟨b, off, none⟩) n cap) L)) (HF : Keep (Fit L))
  (HA : Keep (at_ ≤ n)) (HAt : Keep (∀ (i : Nat) (c : CV), L[i]? = some c → (stI c.k c.s kind key < 0 ↔ i < at_))) (hns : Keep (fnd n at_ (fndB L at_ kind key) = ns)) (HSz : Keep (∀ c ∈ L, c.l.length ≤ 140737488355328)) : Calls Try.prog 13 #[.slice (some ⟨b, off, none⟩) n cap, .int .i64 kind, .string key] w (FdP L kind at_ key w) := by
 go_enter Try.func13, Try.ntmps13
 refine wp_seq_k fun K1 hK1 => rgn ?_
 refine WL.new (by kernel_rfl) 31 rfl _ Try.newW ?_
 have R1 := Keep.mk (Blk.new w 31 #[.int .i64 0, .slice none 0 0])
 have b_ := below_new w (.cells #[.int .i64 0, .slice none 0 0] 31)
 change WL _ _ _ _ _ (w.alloc (.cells #[.int .i64 0, .slice none 0 0] 31))
 generalize w.alloc (.cells #[.int .i64 0, .slice none 0 0] 31) = w1 at *
 obtain ⟨r, hr0⟩ : ∃ z, Keep (z = w.heap.size) := ⟨_, ⟨rfl⟩⟩
 rw [← hr0.out] at R1 ⊢
 have B1 : Keep (Below w.heap.size w w1) := ⟨b_⟩
 have gr : Keep (w.heap.size ≤ r) := ⟨by rw [hr0.out]; exact Nat.le_refl _⟩
 clear b_
 simp only [Act.put, pqA, pqB, pqC]
 refine VlS (.int .i64 0) ?_
 refine WL.nil (hK1 _ _ ?_)
 refine wp_seq_k fun K2 hK2 => rgn ?_
 refine VlS (.int .i64 kind) ?_
 refine WL.callF (by kernel_rfl) 31 _ _ rfl Try.in31 #[.int .i64 kind] (by simp [Act.eval]) ?_
 refine (kmay_any kind _).mono ?_
 rintro e w1_z ⟨rfl, hw_⟩
 refine ⟨_, rfl, ?_⟩
 have hw_ := hw_.symm
 subst hw_
 rw [hkm]
 simp only [Act.put, pqA, pqB, pqC]
 refine VbT ?_
 refine WL.nil (hK2 _ _ ?_)
 refine wp_seq_k fun K3 hK3 => ?_
 refine wp_seq_k fun K4 hK4 => rgn ?_
 refine VbT ?_
 refine VbF ?_
 refine WL.nil (hK4 _ _ ?_)
 refine wp_cond_false rfl ?_
 refine wp_skip ?_
 refine hK3 _ _ ?_
 refine wp_seq_k fun K5 hK5 => rgn ?_
 refine VlS (.slice (some ⟨b, off, none⟩) n cap) ?_
 refine WL.callF (by kernel_rfl) 18 _ _ rfl Try.in18 #[.slice (some ⟨b, off, none⟩) n cap] (by simp [Act.eval]) ?_
 refine (wrong_any w.heap.size _ L w1 (HCv.out.below B1.out) B1.out.size (by rw [hn.out]; have := HN.out; omega)).mono ?_
 rintro e w2 ⟨rfl, k1⟩
 refine ⟨_, rfl, ?_⟩
 rw [hwi.out]
 have R2 := Keep.mk (R1.out.below k1 R1.out.lt)
 have B2 : Keep (Below w.heap.size w w2) := ⟨B1.out.trans (k1.mono B1.out.size)⟩
 clear k1
 simp only [Act.put, pqA, pqB, pqC]
 refine VlS (.int .i64 0) ?_
 refine WL.nil (hK5 _ _ ?_)
 refine wp_seq_k fun K6 hK6 => ?_
 refine wp_seq_k fun K7 hK7 => rgn ?_
 refine VlS (.int .i64 0) ?_
 refine VbF ?_
 refine WL.nil (hK7 _ _ ?_)
 refine wp_cond_false rfl ?_
 refine wp_skip ?_
 refine hK6 _ _ ?_
 refine wp_seq_k fun K8 hK8 => rgn ?_
 refine VlS (.slice (some ⟨b, off, none⟩) n cap) ?_
 refine VlS (.int .i64 (n : Int)) ?_
 refine WL.bld (by kernel_rfl) 31 #[(0, .tmp 27)] rfl [(0, .int .i64 (n : Int))] (by simp [Act.eval]) #[.int .i64 (n : Int), .slice none 0 0] (bldW1 (n : Int)) ?_
 simp only [Act.put, pqA, pqB, pqC]
 refine WL.new (by kernel_rfl) 31 rfl _ Try.newW ?_
 have D3 := Keep.mk (Blk.new w2 31 #[.int .i64 0, .slice none 0 0])
 have b_ := below_new w2 (.cells #[.int .i64 0, .slice none 0 0] 31)
 change WL _ _ _ _ _ (w2.alloc (.cells #[.int .i64 0, .slice none 0 0] 31))
 generalize w2.alloc (.cells #[.int .i64 0, .slice none 0 0] 31) = w3 at *
 obtain ⟨d, hd0⟩ : ∃ z, Keep (z = w2.heap.size) := ⟨_, ⟨rfl⟩⟩
 rw [← hd0.out] at D3 ⊢
 have R3 := Keep.mk (R2.out.below b_ R2.out.lt)
 have B3 : Keep (Below w.heap.size w w3) := ⟨B2.out.trans (b_.mono B2.out.size)⟩
 have gd : Keep (w.heap.size ≤ d) := ⟨by rw [hd0.out]; exact B2.out.size⟩
 clear b_
 have hrd : Keep (r ≠ d) := ⟨by have := R2.out.lt; have := hd0.out; omega⟩
 simp only [Act.put, pqA, pqB, pqC]
 refine WL.storeR (by kernel_rfl) 31 (.tmp 10) (.tmp 28) rfl d #[.int .i64 (n : Int), .slice none 0 0] rfl rfl 31 #[.int .i64 0, .slice none 0 0] D3.out (by rfl) rfl (by simp [Value.oneCell']) ?_
 have D4 := Keep.mk (D3.out.setRow #[.int .i64 (n : Int), .slice none 0 0])
 have B4 : Keep (Below w.heap.size w (w3.setRow d #[.int .i64 (n : Int), .slice none 0 0])) := ⟨below_setRow B3.out gd.out _⟩
 have R4 := Keep.mk (R3.out.setRow_ne hrd.out #[.int .i64 (n : Int), .slice none 0 0])
 generalize w3.setRow d #[.int .i64 (n : Int), .slice none 0 0] = w4 at *
 have HBX : Keep (∀ (wx : World) {vl : Value} {u : Nat} {ls : List LV}, FI 0 w4 wx d n vl L ns u ls → Below w.heap.size w wx) := ⟨fun wx vl u ls h => B4.out.trans (h.gr.to_below (fun k hk e => by have := gd.out; omega) B4.out.size)⟩
 have hFI0 := fi_new (B := 0) (L := L) (ns := ns) D4.out
 simp only [Act.put]
 refine WL.nil (hK8 _ _ ?_)
 refine wp_seq_k fun K9 hK9 => ?_
 refine wp_seq_k fun K10 hK10 => rgn ?_
 refine VlS (.int .i64 0) ?_
 refine WL.nil (hK10 _ _ ?_)
 refine wp_block ?_
 refine wp_loop (fun ac wr => ∃ (t : Nat) (f : Nat → Value) (vl : Value), ac = { tmps := #[.slice (some ⟨b, off, none⟩) n cap, .int .i64 kind, .string key, undef, undef, undef, .pointer (some ⟨r, 0, none⟩), f 7, .bool true, .int .i64 0, .pointer (some ⟨d, 0, none⟩), .int .i64 (t : Int), f 12, f 13, f 14, .int .i64 kind, .bool true, .bool true, .bool false, undef, .slice (some ⟨b, off, none⟩) n cap, .int .i64 0, .int .i64 0, .bool false, undef, undef, .slice (some ⟨b, off, none⟩) n cap, .int .i64 (n : Int), .agg #[.int .i64 (n : Int), .slice none 0 0], f 29, f 30, f 31, f 32, f 33, f 34, f 35, f 36, f 37, f 38, f 39, f 40, f 41, f 42, f 43, f 44, f 45, f 46, f 47, f 48, f 49, f 50, f 51, f 52, f 53, f 54, f 55, f 56, f 57, f 58, f 59, f 60, f 61, f 62, f 63, f 64, f 65, f 66, f 67, f 68, f 69, f 70, f 71, f 72, f 73, f 74, f 75, f 76, f 77, f 78, f 79, f 80, f 81, f 82, f 83, f 84, f 85, f 86, f 87, f 88, f 89, f 90, f 91, f 92, f 93, f 94, f 95, f 96, f 97, f 98, f 99, f 100, f 101, f 102, f 103, f 104, f 105, f 106, f 107, f 108, f 109, f 110, f 111, f 112, f 113, f 114, f 115, f 116, f 117, f 118, f 119, f 120, f 121, f 122, f 123, f 124, f 125, f 126, f 127, f 128, f 129, f 130, f 131, f 132, f 133, f 134, f 135, f 136, f 137, f 138, f 139, f 140, undef], defers := [] } ∧ t ≤ at_ ∧ ∃ (u : Nat) (ls : List LV), u = cntF at_ (fndB L at_ kind key) t ∧ FI 0 w4 wr d n vl L ns u ls) (fun a _ => n - (intOf (a.tmps.getD 11 undef)).toNat) ⟨0, fun zz => [.slice (some ⟨b, off, none⟩) n cap, .int .i64 kind, .string key, undef, undef, undef, .pointer (some ⟨r, 0, none⟩), .int .i64 0, .bool true, .int .i64 0, .pointer (some ⟨d, 0, none⟩), .int .i64 0, undef, undef, undef, .int .i64 kind, .bool true, .bool true, .bool false, undef, .slice (some ⟨b, off, none⟩) n cap, .int .i64 0, .int .i64 0, .bool false, undef, undef, .slice (some ⟨b, off, none⟩) n cap, .int .i64 (n : Int), .agg #[.int .i64 (n : Int), .slice none 0 0], undef, undef, undef, undef, undef, undef, undef, undef, undef, undef, undef, undef, undef, undef, undef, undef, undef, undef, undef, undef, undef, undef, undef, undef, undef, undef, undef, undef, undef, undef, undef, undef, undef, undef, undef, undef, undef, undef, undef, undef, undef, undef, undef, undef, undef, undef, undef, undef, undef, undef, undef, undef, undef, undef, undef, undef, undef, undef, undef, undef, undef, undef, undef, undef, undef, undef, undef, undef, undef, undef, undef, undef, undef, undef, undef, undef, undef, undef, undef, undef, undef, undef, undef, undef, undef, undef, undef, undef, undef, undef, undef, undef, undef, undef, undef, undef, undef, undef, undef, undef, undef, undef, undef, undef, undef, undef, undef, undef, undef, undef, undef, undef, undef].getD zz undef, .slice none 0 0, rfl, Nat.zero_le _, 0, [], by unfold cntF; rw [if_neg (by omega)], hFI0⟩ ?_
 rintro ac wr ⟨t, f, vl, rfl, hta, hrel⟩
 obtain ⟨u, ls, hu, hfi⟩ := hrel
 have Hu := Keep.mk hu
 have JF := Keep.mk hfi
 clear hfi hu
 have Hu1 : Keep (u ≤ 1) := ⟨by rw [Hu.out]; unfold cntF; split <;> omega⟩
 by_cases htn : t < n
 ·have htn' : (t : Int) < (n : Int) := by omega
  have hw9 : IntKind.i64.wrap ((t : Int) + 1) = ((t + 1 : Nat) : Int) := by rw [IntKind.wrap_i64]; have := HN.out; omega
  obtain ⟨c, Hc⟩ : ∃ z, Keep (L[t]? = some z) := ⟨L[t]'(by rw [hn.out]; exact htn), ⟨List.getElem?_eq_getElem _⟩⟩
  have c0_ : wr.cell? ⟨b, off + t * 3, none⟩ = some (.int .i64 c.k) := ((HC.out.below (HBX.out _ JF.out)).c Hc.out).1
  have c1_ : wr.cell? ⟨b, off + t * 3 + 1, none⟩ = some (.string c.s) := ((HC.out.below (HBX.out _ JF.out)).c Hc.out).2.1
  by_cases hlt : t < at_
  ·have hno : Keep (¬ (c.k = kind ∧ c.s = key)) := ⟨name_no (by have := (HAt.out t c Hc.out).mpr hlt; omega)⟩
   have hbh : Keep (aheI kind key c.k c.s = false) := ⟨by
    have h := (HAt.out t c Hc.out).mpr hlt
    cases e : aheI kind key c.k c.s
    ·rfl
    ·have := (stI_gt _ _ _ _).mpr e; omega⟩
   have hu0 : Keep (u = 0) := ⟨by rw [Hu.out]; unfold cntF; rw [if_neg (by omega)]⟩
   refine wp_seq_k fun K11 hK11 => ?_
   refine wp_seq_k fun K12 hK12 => rgn ?_
   refine VlS (.int .i64 (t : Int)) ?_
   refine VlS (.slice (some ⟨b, off, none⟩) n cap) ?_
   refine VlS (.int .i64 (n : Int)) ?_
   refine VbT ?_
   refine WL.nil (hK12 _ _ ?_)
   refine wp_cond_true rfl ?_
   refine wp_skip ?_
   refine hK11 _ _ ?_
   refine wp_seq_k fun K13 hK13 => ?_
   refine wp_block ?_
   refine wp_seq_k fun K14 hK14 => ?_
   refine wp_seq_k fun K15 hK15 => ?_
   have rest11 : ∀ (y35 y36 y37 y38 y39 y40 y41 y42 y43 y44 y45 y46 y47 y48 y49 y50 : Value), K14 { tmps := #[.slice (some ⟨b, off, none⟩) n cap, .int .i64 kind, .string key, undef, undef, undef, .pointer (some ⟨r, 0, none⟩), f 7, .bool true, .int .i64 0, .pointer (some ⟨d, 0, none⟩), .int .i64 (t : Int), f 12, f 13, f 14, .int .i64 kind, .bool true, .bool true, .bool false, undef, .slice (some ⟨b, off, none⟩) n cap, .int .i64 0, .int .i64 0, .bool false, undef, undef, .slice (some ⟨b, off, none⟩) n cap, .int .i64 (n : Int), .agg #[.int .i64 (n : Int), .slice none 0 0], .int .i64 (t : Int), .slice (some ⟨b, off, none⟩) n cap, .int .i64 (n : Int), .bool true, f 33, f 34, y35, y36, y37, y38, y39, y40, y41, y42, y43, y44, y45, y46, y47, y48, y49, y50, f 51, f 52, f 53, f 54, f 55, f 56, f 57, f 58, f 59, f 60, f 61, f 62, f 63, f 64, f 65, f 66, f 67, f 68, f 69, f 70, f 71, f 72, f 73, f 74, f 75, f 76, f 77, f 78, f 79, f 80, f 81, f 82, f 83, f 84, f 85, f 86, f 87, f 88, f 89, f 90, f 91, f 92, f 93, f 94, f 95, f 96, f 97, f 98, f 99, f 100, f 101, f 102, f 103, f 104, f 105, f 106, f 107, f 108, f 109, f 110, f 111, f 112, f 113, f 114, f 115, f 116, f 117, f 118, f 119, f 120, f 121, f 122, f 123, f 124, f 125, f 126, f 127, f 128, f 129, f 130, f 131, f 132, f 133, f 134, f 135, f 136, f 137, f 138, f 139, f 140, undef], defers := [] } wr := by
    intro y35 y36 y37 y38 y39 y40 y41 y42 y43 y44 y45 y46 y47 y48 y49 y50
    clear c0_ c1_
    refine hK14 _ _ ?_
    refine wp_seq_k fun K16 hK16 => ?_
    have hS0 : Keep (∀ wx, Below w.heap.size w wx → (fun wx => wx.cell? ⟨b, off + t * 3, none⟩ = some (.int .i64 c.k) ∧ wx.cell? ⟨b, off + t * 3 + 1, none⟩ = some (.string c.s)) wx) := ⟨fun wx hb => ⟨((HC.out.below hb).c Hc.out).1, ((HC.out.below hb).c Hc.out).2.1⟩⟩
    have BE : Keep (Below w.heap.size w wr.drew) := ⟨HBX.out _ JF.out.drew⟩
    refine wp_region_held_drew (S := fun wx => wx.cell? ⟨b, off + t * 3, none⟩ = some (.int .i64 c.k) ∧ wx.cell? ⟨b, off + t * 3 + 1, none⟩ = some (.string c.s)) (by kernel_rfl) (hS0.out _ BE.out) (fun hHeld => ?_)
    refine tkS (i := 0) (oi := ⟨some 58, Op.move (Operand.tmp 1), 3, _, _, none⟩) (v := .int .i64 kind) rfl (Or.inl ⟨by rfl, fun w hS => by obtain ⟨hS1, hS2⟩ := hS; go_simp⟩) hHeld ?_
    refine tkS (i := 1) (oi := ⟨some 59, Op.move (Operand.tmp 2), 9, _, _, none⟩) (v := .string key) rfl (Or.inl ⟨by rfl, fun w hS => by obtain ⟨hS1, hS2⟩ := hS; go_simp⟩) hHeld ?_
    refine tkS (i := 2) (oi := ⟨some 60, Op.move (Operand.tmp 0), 23, _, _, none⟩) (v := .slice (some ⟨b, off, none⟩) n cap) rfl (Or.inl ⟨by rfl, fun w hS => by obtain ⟨hS1, hS2⟩ := hS; go_simp⟩) hHeld ?_
    refine tkS (i := 3) (oi := ⟨some 61, Op.move (Operand.tmp 11), 3, _, _, none⟩) (v := .int .i64 (t : Int)) rfl (Or.inl ⟨by rfl, fun w hS => by obtain ⟨hS1, hS2⟩ := hS; go_simp⟩) hHeld ?_
    refine tkS (i := 7) (oi := ⟨some 65, Op.move (Operand.tmp 0), 23, _, _, none⟩) (v := .slice (some ⟨b, off, none⟩) n cap) rfl (Or.inl ⟨by rfl, fun w hS => by obtain ⟨hS1, hS2⟩ := hS; go_simp⟩) hHeld ?_
    refine tkS (i := 8) (oi := ⟨some 66, Op.move (Operand.tmp 11), 3, _, _, none⟩) (v := .int .i64 (t : Int)) rfl (Or.inl ⟨by rfl, fun w hS => by obtain ⟨hS1, hS2⟩ := hS; go_simp⟩) hHeld ?_
    refine tkS (i := 4) (oi := ⟨some 62, Op.indexAddr 23 (Operand.tmp 60) (Operand.tmp 61), 0, _, _, none⟩) (v := .pointer (some ⟨b, off + t * 3, none⟩)) rfl (Or.inl ⟨by rfl, fun w hS => by obtain ⟨hS1, hS2⟩ := hS; go_simp⟩) hHeld ?_
    refine tkS (i := 9) (oi := ⟨some 67, Op.indexAddr 23 (Operand.tmp 65) (Operand.tmp 66), 0, _, _, none⟩) (v := .pointer (some ⟨b, off + t * 3, none⟩)) rfl (Or.inl ⟨by rfl, fun w hS => by obtain ⟨hS1, hS2⟩ := hS; go_simp⟩) hHeld ?_
    refine tkS (i := 5) (oi := ⟨some 63, Op.fieldAddr 40 (Operand.tmp 62) 0, 0, _, _, none⟩) (v := .pointer (some ⟨b, off + t * 3, none⟩)) rfl (Or.inl ⟨by rfl, fun w hS => by obtain ⟨hS1, hS2⟩ := hS; go_simp⟩) hHeld ?_
    refine tkS (i := 10) (oi := ⟨some 68, Op.fieldAddr 40 (Operand.tmp 67) 1, 0, _, _, none⟩) (v := .pointer (some ⟨b, off + t * 3 + 1, none⟩)) rfl (Or.inl ⟨by rfl, fun w hS => by obtain ⟨hS1, hS2⟩ := hS; go_simp⟩) hHeld ?_
    refine tkS (i := 6) (oi := ⟨some 64, Op.load 3 (Operand.tmp 63), 3, _, _, none⟩) (v := .int .i64 c.k) rfl (Or.inl ⟨by rfl, fun w hS => by obtain ⟨hS1, hS2⟩ := hS; go_simp⟩) hHeld ?_
    refine tkS (i := 11) (oi := ⟨some 69, Op.load 9 (Operand.tmp 68), 9, _, _, none⟩) (v := .string c.s) rfl (Or.inl ⟨by rfl, fun w hS => by obtain ⟨hS1, hS2⟩ := hS; go_simp⟩) hHeld ?_
    refine wpAnyH_ready (rs := [12]) (by kernel_rfl) (by simp) ?_
    refine AllReadyH.cons (o := ⟨some 70, Op.call { callee := Callee.value (Operand.func 33), args := #[Operand.tmp 58, Operand.tmp 59, Operand.tmp 64, Operand.tmp 69], argTypes := #[3, 9, 3, 9] }, 4, _, _, none⟩) rfl (fun K hK => ?_) AllReadyH.nil
    rw [if_pos (by rfl)]
    refine wp_callF 33 _ _ rfl Try.in33 #[.int .i64 kind, .string key, .int .i64 c.k, .string c.s] (by simp [Act.eval]) (fun vz wz => vz = .bool (aheI kind key c.k c.s) ∧ wr.drew = wz) ((ahe_any kind key c.k c.s _).mono fun e w' ⟨h1, h2⟩ => ⟨_, h1, rfl, h2.symm⟩) ?_
    rintro _ wg ⟨rfl, hz⟩
    subst hz
    rw [hbh.out]
    refine hK _ _ (hS0.out _ BE.out) fun hH1 => ?_
    clear hK
    simp only [Act.put, pqA, pqB, pqC]
    refine tkS (i := 13) (oi := ⟨some 12, Op.assign (Operand.tmp 70), 4, _, _, none⟩) (v := .bool false) rfl (Or.inl ⟨by rfl, fun w hS => by obtain ⟨hS1, hS2⟩ := hS; go_simp⟩) hH1 ?_
    refine wpAnyH_done (by kernel_rfl) ?_ _
    refine hK16 _ _ ?_
    refine wp_seq_k fun K17 hK17 => ?_
    have JQ := Keep.mk JF.out.drew
    generalize wr.drew = wq at *
    clear hS0 BE
    obtain ⟨la, hla⟩ : ∃ z, ((t : Int) + 1 == (n : Int)) = z := ⟨_, rfl⟩
    have hla2 : (((t + 1 : Nat) : Int) == (n : Int)) = la := hla
    refine rgn ?_
    refine VlS (.int .i64 (t : Int)) ?_
    refine VlS (.int .i64 ((t + 1 : Nat) : Int)) ?_
    refine VlS (.slice (some ⟨b, off, none⟩) n cap) ?_
    refine VlS (.int .i64 (n : Int)) ?_
    refine VlS (.bool la) ?_
    refine VlS (.bool la) ?_
    refine WL.nil (hK17 _ _ ?_)
    refine wp_seq_k fun K18 hK18 => rgn ?_
    refine VbF ?_
    refine WL.nil (hK18 _ _ ?_)
    refine wp_seq_k fun K19 hK19 => ?_
    refine wp_seq_k fun K20 hK20 => ?_
    have Hla := Keep.mk hla
    clear hla hla2
    have rest17 : ∀ (y76 y77 y78 y79 y80 y81 y82 y83 y84 y85 y86 y87 y88 y89 y90 y91 y92 y93 : Value) (nx : Bool) (wX : World), (t + 1 < n → nx = !decide (t + 1 < at_)) → FI 0 w4 wX d n vl L ns u ls → K19 { tmps := #[.slice (some ⟨b, off, none⟩) n cap, .int .i64 kind, .string key, undef, undef, undef, .pointer (some ⟨r, 0, none⟩), f 7, .bool true, .int .i64 0, .pointer (some ⟨d, 0, none⟩), .int .i64 (t : Int), .bool false, .bool la, .bool nx, .int .i64 kind, .bool true, .bool true, .bool false, undef, .slice (some ⟨b, off, none⟩) n cap, .int .i64 0, .int .i64 0, .bool false, undef, undef, .slice (some ⟨b, off, none⟩) n cap, .int .i64 (n : Int), .agg #[.int .i64 (n : Int), .slice none 0 0], .int .i64 (t : Int), .slice (some ⟨b, off, none⟩) n cap, .int .i64 (n : Int), .bool true, f 33, f 34, y35, y36, y37, y38, y39, y40, y41, y42, y43, y44, y45, y46, y47, y48, y49, y50, f 51, f 52, f 53, f 54, f 55, f 56, f 57, .int .i64 kind, .string key, .slice (some ⟨b, off, none⟩) n cap, .int .i64 (t : Int), .pointer (some ⟨b, off + t * 3, none⟩), .pointer (some ⟨b, off + t * 3, none⟩), .int .i64 c.k, .slice (some ⟨b, off, none⟩) n cap, .int .i64 (t : Int), .pointer (some ⟨b, off + t * 3, none⟩), .pointer (some ⟨b, off + t * 3 + 1, none⟩), .string c.s, .bool false, .int .i64 (t : Int), .int .i64 ((t + 1 : Nat) : Int), .slice (some ⟨b, off, none⟩) n cap, .int .i64 (n : Int), .bool la, y76, y77, y78, y79, y80, y81, y82, y83, y84, y85, y86, y87, y88, y89, y90, y91, y92, y93, f 94, f 95, f 96, f 97, f 98, f 99, f 100, f 101, f 102, f 103, f 104, f 105, f 106, f 107, f 108, f 109, f 110, f 111, f 112, f 113, f 114, f 115, f 116, f 117, f 118, f 119, f 120, f 121, f 122, f 123, f 124, f 125, f 126, f 127, f 128, f 129, f 130, f 131, f 132, f 133, f 134, f 135, f 136, f 137, f 138, f 139, f 140, undef], defers := [] } wX := by
     intro y76 y77 y78 y79 y80 y81 y82 y83 y84 y85 y86 y87 y88 y89 y90 y91 y92 y93 nx wX hnx hfX
     have HNX := Keep.mk hnx
     have JX := Keep.mk hfX
     clear hnx hfX JQ JF
     refine hK19 _ _ ?_
     refine wp_seq_k fun K21 hK21 => ?_
     refine wp_seq_k fun K22 hK22 => ?_
     have rest18 : ∀ (y94 y95 y96 y97 y98 y99 y100 y101 y102 y103 y104 y105 y106 y107 y108 y109 y110 y111 y112 y113 y114 y115 y116 y117 y118 y119 y120 y121 : Value), (ns[u]? = some t ∧ u + 1 = cntF at_ (fndB L at_ kind key) (t + 1)) → K22 { tmps := #[.slice (some ⟨b, off, none⟩) n cap, .int .i64 kind, .string key, undef, undef, undef, .pointer (some ⟨r, 0, none⟩), f 7, .bool true, .int .i64 0, .pointer (some ⟨d, 0, none⟩), .int .i64 (t : Int), .bool false, .bool la, .bool nx, .int .i64 kind, .bool true, .bool true, .bool false, undef, .slice (some ⟨b, off, none⟩) n cap, .int .i64 0, .int .i64 0, .bool false, undef, undef, .slice (some ⟨b, off, none⟩) n cap, .int .i64 (n : Int), .agg #[.int .i64 (n : Int), .slice none 0 0], .int .i64 (t : Int), .slice (some ⟨b, off, none⟩) n cap, .int .i64 (n : Int), .bool true, f 33, f 34, y35, y36, y37, y38, y39, y40, y41, y42, y43, y44, y45, y46, y47, y48, y49, y50, f 51, f 52, f 53, f 54, f 55, f 56, f 57, .int .i64 kind, .string key, .slice (some ⟨b, off, none⟩) n cap, .int .i64 (t : Int), .pointer (some ⟨b, off + t * 3, none⟩), .pointer (some ⟨b, off + t * 3, none⟩), .int .i64 c.k, .slice (some ⟨b, off, none⟩) n cap, .int .i64 (t : Int), .pointer (some ⟨b, off + t * 3, none⟩), .pointer (some ⟨b, off + t * 3 + 1, none⟩), .string c.s, .bool false, .int .i64 (t : Int), .int .i64 ((t + 1 : Nat) : Int), .slice (some ⟨b, off, none⟩) n cap, .int .i64 (n : Int), .bool la, y76, y77, y78, y79, y80, y81, y82, y83, y84, y85, y86, y87, y88, y89, y90, y91, y92, y93, y94, y95, y96, y97, y98, y99, y100, y101, y102, y103, y104, y105, y106, y107, y108, y109, y110, y111, y112, y113, y114, y115, y116, y117, y118, y119, y120, y121, .bool true, f 123, f 124, f 125, f 126, f 127, f 128, f 129, f 130, f 131, f 132, f 133, f 134, f 135, f 136, f 137, f 138, f 139, f 140, undef], defers := [] } wX := by
      intro y94 y95 y96 y97 y98 y99 y100 y101 y102 y103 y104 y105 y106 y107 y108 y109 y110 y111 y112 y113 y114 y115 y116 y117 y118 y119 y120 y121 hq
      have Hnu := Keep.mk hq.1
      have Hq := Keep.mk hq.2
      clear hq
      refine hK22 _ _ ?_
      refine wp_cond_true rfl ?_
      have JFd := Keep.mk JX.out.drew
      have Bd : Keep (Below w.heap.size w wX.drew) := ⟨HBX.out _ JFd.out⟩
      refine wp_region_held_drew (S := fun _ => True) (by kernel_rfl) trivial (fun hHeld => ?_)
      refine TkG (i := 0) (oi := ⟨some 123, Op.fieldAddr 31 (Operand.tmp 10) 1, 0, _, _, none⟩) (v := .pointer (some ⟨d, 1, none⟩)) rfl hHeld ?_
      refine TkG (i := 2) (oi := ⟨some 125, Op.move (Operand.tmp 0), 23, _, _, none⟩) (v := .slice (some ⟨b, off, none⟩) n cap) rfl hHeld ?_
      refine TkG (i := 3) (oi := ⟨some 126, Op.move (Operand.tmp 11), 3, _, _, none⟩) (v := .int .i64 (t : Int)) rfl hHeld ?_
      refine wpAnyH_ready (rs := [1, 4]) (by kernel_rfl) (by simp) ?_
      refine AllReadyH.cons (o := ⟨some 124, Op.load 29 (Operand.tmp 123), 29, _, _, none⟩) rfl (fun K hK => ?_) (AllReadyH.cons (o := ⟨some 127, Op.call { callee := Callee.value (Operand.func 32), args := #[Operand.tmp 125, Operand.tmp 126], argTypes := #[23, 3] }, 69, _, _, none⟩) rfl (fun K hK => ?_) AllReadyH.nil)
      all_goals rw [if_pos (by rfl)]
      ·have c_ : wX.drew.cell? ⟨d, 1, none⟩ = some vl := JFd.out.bd.c 1 rfl
       refine wp_val vl (by go_simp) ?_
       clear c_
       refine hK _ _ trivial fun hHl => ?_
       clear hK
       simp only [Act.put, pqA, pqB, pqC]
       refine wpAnyH_ready (rs := [4]) (by kernel_rfl) (by simp) ?_
       refine AllReadyH.cons (o := ⟨some 127, Op.call { callee := Callee.value (Operand.func 32), args := #[Operand.tmp 125, Operand.tmp 126], argTypes := #[23, 3] }, 69, _, _, none⟩) rfl (fun K hK => ?_) AllReadyH.nil
       rw [if_pos (by rfl)]
       refine wp_callF 32 _ _ rfl Try.in32 #[.slice (some ⟨b, off, none⟩) n cap, .int .i64 (t : Int)] (by simp [Act.eval]) (fun vz wz => ∃ x : LV, vz = .agg (lvA x) ∧ x.num = (t : Int) ∧ x.c.k = c.k ∧ x.c.s = c.s ∧ x.c.l = c.l ∧ Own wz x.c.v x.c.l ∧ wz.ownsRow wX.drew.heap.size 25 32 x.pv x.ps.length (flatH x.ps) ∧ x.ps.map hsL = pathL n L t ∧ Below wX.drew.heap.size wX.drew wz) ?_ ?_
       ·refine (lfo_any b off n cap t L c wX.drew hn htn hcap HN ⟨(HC.out.below Bd.out).mono Bd.out.size⟩ HF Hc ⟨HSz.out c (List.mem_of_getElem? Hc.out)⟩).mono ?_
        rintro e wz ⟨x, rfl, k1, k2, k3, k4, k5, k6, k7, k8⟩
        exact ⟨_, rfl, x, rfl, k1, k2, k3, k4, k5, k6, k7, k8⟩
       rintro vz wa ⟨x, rfl, k1, k2, k3, k4, k5, k6, k7, k8⟩
       have Oa := Keep.mk k5
       have Qa := Keep.mk (owns_zero k6)
       have Xa := Keep.mk (And.intro k1 (And.intro k2 (And.intro k3 (And.intro k4 k7))))
       have ba := Keep.mk k8
       have HX1 : Keep (∃ a n c, x.c.v = .slice a n c) := ⟨k5.sl⟩
       have HX2 : Keep (∃ a n c, x.pv = .slice a n c) := ⟨by obtain ⟨a, c, h⟩ := owns_sl k6; exact ⟨a, _, c, h⟩⟩
       clear k1 k2 k3 k4 k5 k6 k7 k8
       refine hK _ _ (trivial) fun hHa => ?_
       clear hK
       simp only [Act.put, pqA, pqB, pqC]
       refine wpAnyH_ready (rs := [5]) (by kernel_rfl) (by simp) ?_
       refine AllReadyH.cons (o := ⟨some 128, Op.buildSlice 29 1 #[(0, Operand.tmp 127)], 29, _, _, none⟩) rfl (fun K hK => ?_) AllReadyH.nil
       rw [if_pos (by rfl)]
       refine wp_bs 29 1 _ rfl #[(0, .agg (lvA x))] (by simp [Act.eval]) _ _ (bsLx x wa HX1.out HX2.out) ?_
       have bb := below_new wa (.cells (lvA x) 69)
       have Qb := Keep.mk (Blk.new wa 69 (lvA x))
       generalize wa.alloc (.cells (lvA x) 69) = wb at *
       obtain ⟨g, hg⟩ : ∃ z, Keep (z = wa.heap.size) := ⟨_, ⟨rfl⟩⟩
       rw [← hg.out] at Qb ⊢
       have Ob := Keep.mk (owns_below Oa.out bb)
       have Pb := Keep.mk (owns_below Qa.out bb)
       have bb2 : Keep (Below wX.drew.heap.size wX.drew wb) := ⟨ba.out.trans (bb.mono ba.out.size)⟩
       clear bb hg
       refine hK _ _ trivial fun hHc => ?_
       clear hK
       simp only [Act.put, pqA, pqB, pqC]
       refine wpAnyH_ready (rs := [6]) (by kernel_rfl) (by simp) ?_
       refine AllReadyH.cons (o := ⟨some 129, Op.call { callee := Callee.builtin Builtin.append, args := #[Operand.tmp 124, Operand.tmp 128], argTypes := #[29, 29] }, 29, _, _, none⟩) rfl (fun K hK => ?_) AllReadyH.nil
       rw [if_pos (by rfl)]
       refine wp_appLf (.tmp 124) (.tmp 128) rfl w4.heap.size vl u _ x g rfl rfl (owns_below JFd.out.own bb2.out) (blk_range Qb.out) (lv_one x HX1.out HX2.out) (by have := Hu1.out; omega) (Nat.le_trans JFd.out.gr.size bb2.out.size) ?_
       intro v9 wc k1 k2 k3
       have Oc := Keep.mk k1
       have Gc : Keep (Grown wb wc (fun k => vl.ownBlock = some k)) := ⟨k2⟩
       have hDc : Keep (Blk wc d 31 #[.int .i64 (n : Int), vl]) := ⟨k2.blk (JFd.out.bd.below bb2.out JFd.out.bd.lt) fun e => absurd ((owns_typ (owns_below JFd.out.own bb2.out) e).one (JFd.out.bd.below bb2.out JFd.out.bd.lt).typ) (by decide)⟩
       have f_o := hDc.out.frozen 1
       have c_o := hDc.out.c 1 (by rfl : (#[.int .i64 (n : Int), vl] : Array Value)[1]? = some vl)
       obtain ⟨za, zc, hv9⟩ := owns_sl k1
       subst hv9
       clear k1 k2 k3
       refine hK _ _ trivial fun hHd => ?_
       clear hK
       simp only [Act.put, pqA, pqB, pqC]
       refine TkG (i := 7) (oi := ⟨some 130, Op.fieldAddr 31 (Operand.tmp 10) 1, 0, _, _, none⟩) (v := .pointer (some ⟨d, 1, none⟩)) rfl hHd ?_
       refine wpAnyH_ready (rs := [8]) (by kernel_rfl) (by simp) ?_
       refine AllReadyH.cons (o := ⟨none, Op.store 29 (Operand.tmp 130) (Operand.tmp 129), 0, _, _, none⟩) rfl (fun K hK => ?_) AllReadyH.nil
       rw [if_pos (by rfl)]
       refine wp_cellS (wc.setCell ⟨d, 1, none⟩ (.slice za (u + 1) zc)) (by go_simp) ?_
       clear f_o c_o
       have JE : Keep (FI 0 w4 (wc.setCell ⟨d, 1, none⟩ (.slice za (u + 1) zc)) d n (.slice za (u + 1) zc) L ns (u + 1) (ls ++ [x])) := ⟨JFd.out.lay x t c wb wc _ bb2.out Ob.out Pb.out Oc.out Gc.out Hnu.out Hc.out Xa.out.1 Xa.out.2.1 Xa.out.2.2.1 Xa.out.2.2.2.1 (by rw [hn.out]; exact Xa.out.2.2.2.2)⟩
       generalize wc.setCell ⟨d, 1, none⟩ (.slice za (u + 1) zc) = wd at *
       clear hDc Gc Oc Pb Ob
       refine hK _ _ trivial fun hHe => ?_
       clear hK
       simp only [Act.put, pqA, pqB, pqC]
       refine wpAnyH_done (by kernel_rfl) ?_ _
       refine hK21 _ _ ?_
       refine wp_seq_k fun K23 hK23 => rgn ?_
       refine VbF ?_
       refine WL.nil (hK23 _ _ ?_)
       refine wp_cond_false rfl ?_
       refine wp_skip ?_
       refine hK13 _ _ ?_
       refine rgn ?_
       refine VlS (.int .i64 (t : Int)) ?_
       refine VlS (.int .i64 ((t + 1 : Nat) : Int)) ?_
       refine VlS (.int .i64 ((t + 1 : Nat) : Int)) ?_
       refine WL.nil ?_
       refine ⟨⟨t + 1, fun zz => [.slice (some ⟨b, off, none⟩) n cap, .int .i64 kind, .string key, undef, undef, undef, .pointer (some ⟨r, 0, none⟩), f 7, .bool true, .int .i64 0, .pointer (some ⟨d, 0, none⟩), .int .i64 ((t + 1 : Nat) : Int), .bool false, .bool la, .bool nx, .int .i64 kind, .bool true, .bool true, .bool false, undef, .slice (some ⟨b, off, none⟩) n cap, .int .i64 0, .int .i64 0, .bool false, undef, undef, .slice (some ⟨b, off, none⟩) n cap, .int .i64 (n : Int), .agg #[.int .i64 (n : Int), .slice none 0 0], .int .i64 (t : Int), .slice (some ⟨b, off, none⟩) n cap, .int .i64 (n : Int), .bool true, .int .i64 (t : Int), .int .i64 ((t + 1 : Nat) : Int), y35, y36, y37, y38, y39, y40, y41, y42, y43, y44, y45, y46, y47, y48, y49, y50, f 51, f 52, f 53, f 54, f 55, f 56, f 57, .int .i64 kind, .string key, .slice (some ⟨b, off, none⟩) n cap, .int .i64 (t : Int), .pointer (some ⟨b, off + t * 3, none⟩), .pointer (some ⟨b, off + t * 3, none⟩), .int .i64 c.k, .slice (some ⟨b, off, none⟩) n cap, .int .i64 (t : Int), .pointer (some ⟨b, off + t * 3, none⟩), .pointer (some ⟨b, off + t * 3 + 1, none⟩), .string c.s, .bool false, .int .i64 (t : Int), .int .i64 ((t + 1 : Nat) : Int), .slice (some ⟨b, off, none⟩) n cap, .int .i64 (n : Int), .bool la, y76, y77, y78, y79, y80, y81, y82, y83, y84, y85, y86, y87, y88, y89, y90, y91, y92, y93, y94, y95, y96, y97, y98, y99, y100, y101, y102, y103, y104, y105, y106, y107, y108, y109, y110, y111, y112, y113, y114, y115, y116, y117, y118, y119, y120, y121, .bool true, .pointer (some ⟨d, 1, none⟩), vl, .slice (some ⟨b, off, none⟩) n cap, .int .i64 (t : Int), .agg (lvA x), .slice (some ⟨g, 0, none⟩) 1 1, .slice za (u + 1) zc, .pointer (some ⟨d, 1, none⟩), .bool false, f 132, f 133, f 134, f 135, f 136, f 137, f 138, f 139, f 140, undef].getD zz undef, .slice za (u + 1) zc, rfl, by omega, u + 1, ls ++ [x], Hq.out, JE.out⟩, ?_⟩
       ·simp only [intOf]; show n - (((t + 1 : Nat) : Int)).toNat < n - ((t : Int)).toNat; omega
      ·refine wp_callF 32 _ _ rfl Try.in32 #[.slice (some ⟨b, off, none⟩) n cap, .int .i64 (t : Int)] (by simp [Act.eval]) (fun vz wz => ∃ x : LV, vz = .agg (lvA x) ∧ x.num = (t : Int) ∧ x.c.k = c.k ∧ x.c.s = c.s ∧ x.c.l = c.l ∧ Own wz x.c.v x.c.l ∧ wz.ownsRow wX.drew.heap.size 25 32 x.pv x.ps.length (flatH x.ps) ∧ x.ps.map hsL = pathL n L t ∧ Below wX.drew.heap.size wX.drew wz) ?_ ?_
       ·refine (lfo_any b off n cap t L c wX.drew hn htn hcap HN ⟨(HC.out.below Bd.out).mono Bd.out.size⟩ HF Hc ⟨HSz.out c (List.mem_of_getElem? Hc.out)⟩).mono ?_
        rintro e wz ⟨x, rfl, k1, k2, k3, k4, k5, k6, k7, k8⟩
        exact ⟨_, rfl, x, rfl, k1, k2, k3, k4, k5, k6, k7, k8⟩
       rintro vz wa ⟨x, rfl, k1, k2, k3, k4, k5, k6, k7, k8⟩
       have Oa := Keep.mk k5
       have Qa := Keep.mk (owns_zero k6)
       have Xa := Keep.mk (And.intro k1 (And.intro k2 (And.intro k3 (And.intro k4 k7))))
       have ba := Keep.mk k8
       have HX1 : Keep (∃ a n c, x.c.v = .slice a n c) := ⟨k5.sl⟩
       have HX2 : Keep (∃ a n c, x.pv = .slice a n c) := ⟨by obtain ⟨a, c, h⟩ := owns_sl k6; exact ⟨a, _, c, h⟩⟩
       clear k1 k2 k3 k4 k5 k6 k7 k8
       refine hK _ _ (trivial) fun hHa => ?_
       clear hK
       simp only [Act.put, pqA, pqB, pqC]
       refine wpAnyH_ready (rs := [1, 5]) (by kernel_rfl) (by simp) ?_
       refine AllReadyH.cons (o := ⟨some 124, Op.load 29 (Operand.tmp 123), 29, _, _, none⟩) rfl (fun K hK => ?_) (AllReadyH.cons (o := ⟨some 128, Op.buildSlice 29 1 #[(0, Operand.tmp 127)], 29, _, _, none⟩) rfl (fun K hK => ?_) AllReadyH.nil)
       all_goals rw [if_pos (by rfl)]
       ·have c_ : wa.cell? ⟨d, 1, none⟩ = some vl := (JFd.out.bd.below ba.out JFd.out.bd.lt).c 1 rfl
        refine wp_val vl (by go_simp) ?_
        clear c_
        refine hK _ _ trivial fun hHl => ?_
        clear hK
        simp only [Act.put, pqA, pqB, pqC]
        refine wpAnyH_ready (rs := [5]) (by kernel_rfl) (by simp) ?_
        refine AllReadyH.cons (o := ⟨some 128, Op.buildSlice 29 1 #[(0, Operand.tmp 127)], 29, _, _, none⟩) rfl (fun K hK => ?_) AllReadyH.nil
        rw [if_pos (by rfl)]
        refine wp_bs 29 1 _ rfl #[(0, .agg (lvA x))] (by simp [Act.eval]) _ _ (bsLx x wa HX1.out HX2.out) ?_
        have bb := below_new wa (.cells (lvA x) 69)
        have Qb := Keep.mk (Blk.new wa 69 (lvA x))
        generalize wa.alloc (.cells (lvA x) 69) = wb at *
        obtain ⟨g, hg⟩ : ∃ z, Keep (z = wa.heap.size) := ⟨_, ⟨rfl⟩⟩
        rw [← hg.out] at Qb ⊢
        have Ob := Keep.mk (owns_below Oa.out bb)
        have Pb := Keep.mk (owns_below Qa.out bb)
        have bb2 : Keep (Below wX.drew.heap.size wX.drew wb) := ⟨ba.out.trans (bb.mono ba.out.size)⟩
        clear bb hg
        refine hK _ _ trivial fun hHc => ?_
        clear hK
        simp only [Act.put, pqA, pqB, pqC]
        refine wpAnyH_ready (rs := [6]) (by kernel_rfl) (by simp) ?_
        refine AllReadyH.cons (o := ⟨some 129, Op.call { callee := Callee.builtin Builtin.append, args := #[Operand.tmp 124, Operand.tmp 128], argTypes := #[29, 29] }, 29, _, _, none⟩) rfl (fun K hK => ?_) AllReadyH.nil
        rw [if_pos (by rfl)]
        refine wp_appLf (.tmp 124) (.tmp 128) rfl w4.heap.size vl u _ x g rfl rfl (owns_below JFd.out.own bb2.out) (blk_range Qb.out) (lv_one x HX1.out HX2.out) (by have := Hu1.out; omega) (Nat.le_trans JFd.out.gr.size bb2.out.size) ?_
        intro v9 wc k1 k2 k3
        have Oc := Keep.mk k1
        have Gc : Keep (Grown wb wc (fun k => vl.ownBlock = some k)) := ⟨k2⟩
        have hDc : Keep (Blk wc d 31 #[.int .i64 (n : Int), vl]) := ⟨k2.blk (JFd.out.bd.below bb2.out JFd.out.bd.lt) fun e => absurd ((owns_typ (owns_below JFd.out.own bb2.out) e).one (JFd.out.bd.below bb2.out JFd.out.bd.lt).typ) (by decide)⟩
        have f_o := hDc.out.frozen 1
        have c_o := hDc.out.c 1 (by rfl : (#[.int .i64 (n : Int), vl] : Array Value)[1]? = some vl)
        obtain ⟨za, zc, hv9⟩ := owns_sl k1
        subst hv9
        clear k1 k2 k3
        refine hK _ _ trivial fun hHd => ?_
        clear hK
        simp only [Act.put, pqA, pqB, pqC]
        refine TkG (i := 7) (oi := ⟨some 130, Op.fieldAddr 31 (Operand.tmp 10) 1, 0, _, _, none⟩) (v := .pointer (some ⟨d, 1, none⟩)) rfl hHd ?_
        refine wpAnyH_ready (rs := [8]) (by kernel_rfl) (by simp) ?_
        refine AllReadyH.cons (o := ⟨none, Op.store 29 (Operand.tmp 130) (Operand.tmp 129), 0, _, _, none⟩) rfl (fun K hK => ?_) AllReadyH.nil
        rw [if_pos (by rfl)]
        refine wp_cellS (wc.setCell ⟨d, 1, none⟩ (.slice za (u + 1) zc)) (by go_simp) ?_
        clear f_o c_o
        have JE : Keep (FI 0 w4 (wc.setCell ⟨d, 1, none⟩ (.slice za (u + 1) zc)) d n (.slice za (u + 1) zc) L ns (u + 1) (ls ++ [x])) := ⟨JFd.out.lay x t c wb wc _ bb2.out Ob.out Pb.out Oc.out Gc.out Hnu.out Hc.out Xa.out.1 Xa.out.2.1 Xa.out.2.2.1 Xa.out.2.2.2.1 (by rw [hn.out]; exact Xa.out.2.2.2.2)⟩
        generalize wc.setCell ⟨d, 1, none⟩ (.slice za (u + 1) zc) = wd at *
        clear hDc Gc Oc Pb Ob
        refine hK _ _ trivial fun hHe => ?_
        clear hK
        simp only [Act.put, pqA, pqB, pqC]
        refine wpAnyH_done (by kernel_rfl) ?_ _
        refine hK21 _ _ ?_
        refine wp_seq_k fun K24 hK24 => rgn ?_
        refine VbF ?_
        refine WL.nil (hK24 _ _ ?_)
        refine wp_cond_false rfl ?_
        refine wp_skip ?_
        refine hK13 _ _ ?_
        refine rgn ?_
        refine VlS (.int .i64 (t : Int)) ?_
        refine VlS (.int .i64 ((t + 1 : Nat) : Int)) ?_
        refine VlS (.int .i64 ((t + 1 : Nat) : Int)) ?_
        refine WL.nil ?_
        refine ⟨⟨t + 1, fun zz => [.slice (some ⟨b, off, none⟩) n cap, .int .i64 kind, .string key, undef, undef, undef, .pointer (some ⟨r, 0, none⟩), f 7, .bool true, .int .i64 0, .pointer (some ⟨d, 0, none⟩), .int .i64 ((t + 1 : Nat) : Int), .bool false, .bool la, .bool nx, .int .i64 kind, .bool true, .bool true, .bool false, undef, .slice (some ⟨b, off, none⟩) n cap, .int .i64 0, .int .i64 0, .bool false, undef, undef, .slice (some ⟨b, off, none⟩) n cap, .int .i64 (n : Int), .agg #[.int .i64 (n : Int), .slice none 0 0], .int .i64 (t : Int), .slice (some ⟨b, off, none⟩) n cap, .int .i64 (n : Int), .bool true, .int .i64 (t : Int), .int .i64 ((t + 1 : Nat) : Int), y35, y36, y37, y38, y39, y40, y41, y42, y43, y44, y45, y46, y47, y48, y49, y50, f 51, f 52, f 53, f 54, f 55, f 56, f 57, .int .i64 kind, .string key, .slice (some ⟨b, off, none⟩) n cap, .int .i64 (t : Int), .pointer (some ⟨b, off + t * 3, none⟩), .pointer (some ⟨b, off + t * 3, none⟩), .int .i64 c.k, .slice (some ⟨b, off, none⟩) n cap, .int .i64 (t : Int), .pointer (some ⟨b, off + t * 3, none⟩), .pointer (some ⟨b, off + t * 3 + 1, none⟩), .string c.s, .bool false, .int .i64 (t : Int), .int .i64 ((t + 1 : Nat) : Int), .slice (some ⟨b, off, none⟩) n cap, .int .i64 (n : Int), .bool la, y76, y77, y78, y79, y80, y81, y82, y83, y84, y85, y86, y87, y88, y89, y90, y91, y92, y93, y94, y95, y96, y97, y98, y99, y100, y101, y102, y103, y104, y105, y106, y107, y108, y109, y110, y111, y112, y113, y114, y115, y116, y117, y118, y119, y120, y121, .bool true, .pointer (some ⟨d, 1, none⟩), vl, .slice (some ⟨b, off, none⟩) n cap, .int .i64 (t : Int), .agg (lvA x), .slice (some ⟨g, 0, none⟩) 1 1, .slice za (u + 1) zc, .pointer (some ⟨d, 1, none⟩), .bool false, f 132, f 133, f 134, f 135, f 136, f 137, f 138, f 139, f 140, undef].getD zz undef, .slice za (u + 1) zc, rfl, by omega, u + 1, ls ++ [x], Hq.out, JE.out⟩, ?_⟩
        ·simp only [intOf]; show n - (((t + 1 : Nat) : Int)).toNat < n - ((t : Int)).toNat; omega
       ·refine wp_bs 29 1 _ rfl #[(0, .agg (lvA x))] (by simp [Act.eval]) _ _ (bsLx x wa HX1.out HX2.out) ?_
        have bb := below_new wa (.cells (lvA x) 69)
        have Qb := Keep.mk (Blk.new wa 69 (lvA x))
        generalize wa.alloc (.cells (lvA x) 69) = wb at *
        obtain ⟨g, hg⟩ : ∃ z, Keep (z = wa.heap.size) := ⟨_, ⟨rfl⟩⟩
        rw [← hg.out] at Qb ⊢
        have Ob := Keep.mk (owns_below Oa.out bb)
        have Pb := Keep.mk (owns_below Qa.out bb)
        have bb2 : Keep (Below wX.drew.heap.size wX.drew wb) := ⟨ba.out.trans (bb.mono ba.out.size)⟩
        clear bb hg
        refine hK _ _ trivial fun hHc => ?_
        clear hK
        simp only [Act.put, pqA, pqB, pqC]
        refine wpAnyH_ready (rs := [1]) (by kernel_rfl) (by simp) ?_
        refine AllReadyH.cons (o := ⟨some 124, Op.load 29 (Operand.tmp 123), 29, _, _, none⟩) rfl (fun K hK => ?_) AllReadyH.nil
        rw [if_pos (by rfl)]
        have c_ : wb.cell? ⟨d, 1, none⟩ = some vl := (JFd.out.bd.below bb2.out JFd.out.bd.lt).c 1 rfl
        refine wp_val vl (by go_simp) ?_
        clear c_
        refine hK _ _ trivial fun hHl => ?_
        clear hK
        simp only [Act.put, pqA, pqB, pqC]
        refine wpAnyH_ready (rs := [6]) (by kernel_rfl) (by simp) ?_
        refine AllReadyH.cons (o := ⟨some 129, Op.call { callee := Callee.builtin Builtin.append, args := #[Operand.tmp 124, Operand.tmp 128], argTypes := #[29, 29] }, 29, _, _, none⟩) rfl (fun K hK => ?_) AllReadyH.nil
        rw [if_pos (by rfl)]
        refine wp_appLf (.tmp 124) (.tmp 128) rfl w4.heap.size vl u _ x g rfl rfl (owns_below JFd.out.own bb2.out) (blk_range Qb.out) (lv_one x HX1.out HX2.out) (by have := Hu1.out; omega) (Nat.le_trans JFd.out.gr.size bb2.out.size) ?_
        intro v9 wc k1 k2 k3
        have Oc := Keep.mk k1
        have Gc : Keep (Grown wb wc (fun k => vl.ownBlock = some k)) := ⟨k2⟩
        have hDc : Keep (Blk wc d 31 #[.int .i64 (n : Int), vl]) := ⟨k2.blk (JFd.out.bd.below bb2.out JFd.out.bd.lt) fun e => absurd ((owns_typ (owns_below JFd.out.own bb2.out) e).one (JFd.out.bd.below bb2.out JFd.out.bd.lt).typ) (by decide)⟩
        have f_o := hDc.out.frozen 1
        have c_o := hDc.out.c 1 (by rfl : (#[.int .i64 (n : Int), vl] : Array Value)[1]? = some vl)
        obtain ⟨za, zc, hv9⟩ := owns_sl k1
        subst hv9
        clear k1 k2 k3
        refine hK _ _ trivial fun hHd => ?_
        clear hK
        simp only [Act.put, pqA, pqB, pqC]
        refine TkG (i := 7) (oi := ⟨some 130, Op.fieldAddr 31 (Operand.tmp 10) 1, 0, _, _, none⟩) (v := .pointer (some ⟨d, 1, none⟩)) rfl hHd ?_
        refine wpAnyH_ready (rs := [8]) (by kernel_rfl) (by simp) ?_
        refine AllReadyH.cons (o := ⟨none, Op.store 29 (Operand.tmp 130) (Operand.tmp 129), 0, _, _, none⟩) rfl (fun K hK => ?_) AllReadyH.nil
        rw [if_pos (by rfl)]
        refine wp_cellS (wc.setCell ⟨d, 1, none⟩ (.slice za (u + 1) zc)) (by go_simp) ?_
        clear f_o c_o
        have JE : Keep (FI 0 w4 (wc.setCell ⟨d, 1, none⟩ (.slice za (u + 1) zc)) d n (.slice za (u + 1) zc) L ns (u + 1) (ls ++ [x])) := ⟨JFd.out.lay x t c wb wc _ bb2.out Ob.out Pb.out Oc.out Gc.out Hnu.out Hc.out Xa.out.1 Xa.out.2.1 Xa.out.2.2.1 Xa.out.2.2.2.1 (by rw [hn.out]; exact Xa.out.2.2.2.2)⟩
        generalize wc.setCell ⟨d, 1, none⟩ (.slice za (u + 1) zc) = wd at *
        clear hDc Gc Oc Pb Ob
        refine hK _ _ trivial fun hHe => ?_
        clear hK
        simp only [Act.put, pqA, pqB, pqC]
        refine wpAnyH_done (by kernel_rfl) ?_ _
        refine hK21 _ _ ?_
        refine wp_seq_k fun K25 hK25 => rgn ?_
        refine VbF ?_
        refine WL.nil (hK25 _ _ ?_)
        refine wp_cond_false rfl ?_
        refine wp_skip ?_
        refine hK13 _ _ ?_
        refine rgn ?_
        refine VlS (.int .i64 (t : Int)) ?_
        refine VlS (.int .i64 ((t + 1 : Nat) : Int)) ?_
        refine VlS (.int .i64 ((t + 1 : Nat) : Int)) ?_
        refine WL.nil ?_
        refine ⟨⟨t + 1, fun zz => [.slice (some ⟨b, off, none⟩) n cap, .int .i64 kind, .string key, undef, undef, undef, .pointer (some ⟨r, 0, none⟩), f 7, .bool true, .int .i64 0, .pointer (some ⟨d, 0, none⟩), .int .i64 ((t + 1 : Nat) : Int), .bool false, .bool la, .bool nx, .int .i64 kind, .bool true, .bool true, .bool false, undef, .slice (some ⟨b, off, none⟩) n cap, .int .i64 0, .int .i64 0, .bool false, undef, undef, .slice (some ⟨b, off, none⟩) n cap, .int .i64 (n : Int), .agg #[.int .i64 (n : Int), .slice none 0 0], .int .i64 (t : Int), .slice (some ⟨b, off, none⟩) n cap, .int .i64 (n : Int), .bool true, .int .i64 (t : Int), .int .i64 ((t + 1 : Nat) : Int), y35, y36, y37, y38, y39, y40, y41, y42, y43, y44, y45, y46, y47, y48, y49, y50, f 51, f 52, f 53, f 54, f 55, f 56, f 57, .int .i64 kind, .string key, .slice (some ⟨b, off, none⟩) n cap, .int .i64 (t : Int), .pointer (some ⟨b, off + t * 3, none⟩), .pointer (some ⟨b, off + t * 3, none⟩), .int .i64 c.k, .slice (some ⟨b, off, none⟩) n cap, .int .i64 (t : Int), .pointer (some ⟨b, off + t * 3, none⟩), .pointer (some ⟨b, off + t * 3 + 1, none⟩), .string c.s, .bool false, .int .i64 (t : Int), .int .i64 ((t + 1 : Nat) : Int), .slice (some ⟨b, off, none⟩) n cap, .int .i64 (n : Int), .bool la, y76, y77, y78, y79, y80, y81, y82, y83, y84, y85, y86, y87, y88, y89, y90, y91, y92, y93, y94, y95, y96, y97, y98, y99, y100, y101, y102, y103, y104, y105, y106, y107, y108, y109, y110, y111, y112, y113, y114, y115, y116, y117, y118, y119, y120, y121, .bool true, .pointer (some ⟨d, 1, none⟩), vl, .slice (some ⟨b, off, none⟩) n cap, .int .i64 (t : Int), .agg (lvA x), .slice (some ⟨g, 0, none⟩) 1 1, .slice za (u + 1) zc, .pointer (some ⟨d, 1, none⟩), .bool false, f 132, f 133, f 134, f 135, f 136, f 137, f 138, f 139, f 140, undef].getD zz undef, .slice za (u + 1) zc, rfl, by omega, u + 1, ls ++ [x], Hq.out, JE.out⟩, ?_⟩
        ·simp only [intOf]; show n - (((t + 1 : Nat) : Int)).toNat < n - ((t : Int)).toNat; omega
     by_cases ht1 : t + 1 < n
     ·obtain rfl : la = false := by rw [← Hla.out]; simp; omega
      obtain ⟨c2, Hc2⟩ : ∃ z, Keep (L[t + 1]? = some z) := ⟨L[t + 1]'(by rw [hn.out]; exact ht1), ⟨List.getElem?_eq_getElem _⟩⟩
      have ht1' : (t : Int) + 1 < (n : Int) := by omega
      have ht1a : 0 ≤ (t : Int) + 1 := by omega
      have ht1b : ¬ (n : Int) ≤ (t : Int) + 1 := by omega
      have d0_ : wX.cell? ⟨b, off + (t + 1) * 3, none⟩ = some (.int .i64 c2.k) := ((HC.out.below (HBX.out _ JX.out)).c Hc2.out).1
      have d1_ : wX.cell? ⟨b, off + (t + 1) * 3 + 1, none⟩ = some (.string c2.s) := ((HC.out.below (HBX.out _ JX.out)).c Hc2.out).2.1
      have hnx := HNX.out ht1
      by_cases ht2 : t + 1 < at_
      ·obtain rfl : nx = false := by rw [hnx]; simp [ht2]
       clear hnx
       have Hq : Keep (u = cntF at_ (fndB L at_ kind key) (t + 1)) := ⟨by rw [hu0.out]; unfold cntF; rw [if_neg (by omega)]⟩
       refine rgn ?_
       refine VbF ?_
       refine VbT ?_
       refine VbT ?_
       refine VbF ?_
       refine VbF ?_
       refine VbF ?_
       refine VbF ?_
       refine SkS ?_
       refine SkS ?_
       refine SkS ?_
       refine SkS ?_
       refine SkS ?_
       refine SkS ?_
       refine SkS ?_
       refine SkS ?_
       refine SkS ?_
       refine SkS ?_
       refine SkS ?_
       refine SkS ?_
       refine SkS ?_
       refine SkS ?_
       refine SkS ?_
       refine SkS ?_
       refine SkS ?_
       refine SkS ?_
       refine SkS ?_
       refine VbF ?_
       refine VbF ?_
       refine VbF ?_
       refine WL.nil (hK22 _ _ ?_)
       refine wp_cond_false rfl ?_
       refine wp_skip ?_
       refine hK21 _ _ ?_
       refine wp_seq_k fun K26 hK26 => rgn ?_
       refine VbF ?_
       refine WL.nil (hK26 _ _ ?_)
       refine wp_cond_false rfl ?_
       refine wp_skip ?_
       refine hK13 _ _ ?_
       refine rgn ?_
       refine VlS (.int .i64 (t : Int)) ?_
       refine VlS (.int .i64 ((t + 1 : Nat) : Int)) ?_
       refine VlS (.int .i64 ((t + 1 : Nat) : Int)) ?_
       refine WL.nil ?_
       refine ⟨⟨t + 1, fun zz => [.slice (some ⟨b, off, none⟩) n cap, .int .i64 kind, .string key, undef, undef, undef, .pointer (some ⟨r, 0, none⟩), f 7, .bool true, .int .i64 0, .pointer (some ⟨d, 0, none⟩), .int .i64 ((t + 1 : Nat) : Int), .bool false, .bool false, .bool false, .int .i64 kind, .bool true, .bool true, .bool false, undef, .slice (some ⟨b, off, none⟩) n cap, .int .i64 0, .int .i64 0, .bool false, undef, undef, .slice (some ⟨b, off, none⟩) n cap, .int .i64 (n : Int), .agg #[.int .i64 (n : Int), .slice none 0 0], .int .i64 (t : Int), .slice (some ⟨b, off, none⟩) n cap, .int .i64 (n : Int), .bool true, .int .i64 (t : Int), .int .i64 ((t + 1 : Nat) : Int), y35, y36, y37, y38, y39, y40, y41, y42, y43, y44, y45, y46, y47, y48, y49, y50, f 51, f 52, f 53, f 54, f 55, f 56, f 57, .int .i64 kind, .string key, .slice (some ⟨b, off, none⟩) n cap, .int .i64 (t : Int), .pointer (some ⟨b, off + t * 3, none⟩), .pointer (some ⟨b, off + t * 3, none⟩), .int .i64 c.k, .slice (some ⟨b, off, none⟩) n cap, .int .i64 (t : Int), .pointer (some ⟨b, off + t * 3, none⟩), .pointer (some ⟨b, off + t * 3 + 1, none⟩), .string c.s, .bool false, .int .i64 (t : Int), .int .i64 ((t + 1 : Nat) : Int), .slice (some ⟨b, off, none⟩) n cap, .int .i64 (n : Int), .bool false, y76, y77, y78, y79, y80, y81, y82, y83, y84, y85, y86, y87, y88, y89, y90, y91, y92, y93, .bool false, .bool true, .bool true, .bool false, .bool false, .bool false, .bool false, undef, undef, undef, undef, undef, undef, undef, undef, undef, undef, undef, undef, undef, undef, undef, undef, undef, undef, undef, .bool false, .bool false, .bool false, f 123, f 124, f 125, f 126, f 127, f 128, f 129, f 130, .bool false, f 132, f 133, f 134, f 135, f 136, f 137, f 138, f 139, f 140, undef].getD zz undef, vl, rfl, by omega, u, ls, Hq.out, JX.out⟩, ?_⟩
       ·simp only [intOf]; show n - (((t + 1 : Nat) : Int)).toNat < n - ((t : Int)).toNat; omega
      ·obtain rfl : nx = true := by rw [hnx]; simp [ht2]
       clear hnx
       have hta1 : Keep (t + 1 = at_) := ⟨by omega⟩
       have hat : Keep ((fndB L at_ kind key) = decide (stI c2.k c2.s kind key = 0)) := ⟨by rw [← hta1.out]; exact fndB_at Hc2.out⟩
       by_cases hk2 : c2.k = kind
       ·have hk2' : (c2.k == kind) = true := by simpa using hk2
        by_cases hs2 : c2.s = key
        ·have hs2' : c2.s.toList = key.toList := by rw [hs2]
         have Hq : Keep (u = cntF at_ (fndB L at_ kind key) (t + 1)) := ⟨by
          rw [hu0.out, show (fndB L at_ kind key) = true from by rw [hat.out]; simp; exact (stI_eq _ _ _ _).mpr ⟨hk2, hs2⟩]; unfold cntF; rw [if_neg (fun h => by cases h.2.2)]⟩
         refine rgn ?_
         refine VbF ?_
         refine VbT ?_
         refine VbT ?_
         refine VbF ?_
         refine VbF ?_
         refine VbT ?_
         refine VbT ?_
         refine VlS (.slice (some ⟨b, off, none⟩) n cap) ?_
         refine VlS (.int .i64 (t : Int)) ?_
         refine VlS (.int .i64 ((t + 1 : Nat) : Int)) ?_
         refine VlS (.pointer (some ⟨b, off + (t + 1) * 3, none⟩)) ?_
         refine VlS (.pointer (some ⟨b, off + (t + 1) * 3, none⟩)) ?_
         refine VlS (.int .i64 c2.k) ?_
         refine VlS (.int .i64 kind) ?_
         refine VbT ?_
         refine VbT ?_
         refine VlS (.slice (some ⟨b, off, none⟩) n cap) ?_
         refine VlS (.int .i64 (t : Int)) ?_
         refine VlS (.int .i64 ((t + 1 : Nat) : Int)) ?_
         refine VlS (.pointer (some ⟨b, off + (t + 1) * 3, none⟩)) ?_
         refine VlS (.pointer (some ⟨b, off + (t + 1) * 3 + 1, none⟩)) ?_
         refine VlS (.string c2.s) ?_
         refine VlS (.string key) ?_
         refine VbT ?_
         refine VbT ?_
         refine VbF ?_
         refine VbF ?_
         refine VbF ?_
         refine VbF ?_
         refine WL.nil (hK22 _ _ ?_)
         refine wp_cond_false rfl ?_
         refine wp_skip ?_
         refine hK21 _ _ ?_
         refine wp_seq_k fun K27 hK27 => rgn ?_
         refine VbF ?_
         refine WL.nil (hK27 _ _ ?_)
         refine wp_cond_false rfl ?_
         refine wp_skip ?_
         refine hK13 _ _ ?_
         refine rgn ?_
         refine VlS (.int .i64 (t : Int)) ?_
         refine VlS (.int .i64 ((t + 1 : Nat) : Int)) ?_
         refine VlS (.int .i64 ((t + 1 : Nat) : Int)) ?_
         refine WL.nil ?_
         refine ⟨⟨t + 1, fun zz => [.slice (some ⟨b, off, none⟩) n cap, .int .i64 kind, .string key, undef, undef, undef, .pointer (some ⟨r, 0, none⟩), f 7, .bool true, .int .i64 0, .pointer (some ⟨d, 0, none⟩), .int .i64 ((t + 1 : Nat) : Int), .bool false, .bool false, .bool true, .int .i64 kind, .bool true, .bool true, .bool false, undef, .slice (some ⟨b, off, none⟩) n cap, .int .i64 0, .int .i64 0, .bool false, undef, undef, .slice (some ⟨b, off, none⟩) n cap, .int .i64 (n : Int), .agg #[.int .i64 (n : Int), .slice none 0 0], .int .i64 (t : Int), .slice (some ⟨b, off, none⟩) n cap, .int .i64 (n : Int), .bool true, .int .i64 (t : Int), .int .i64 ((t + 1 : Nat) : Int), y35, y36, y37, y38, y39, y40, y41, y42, y43, y44, y45, y46, y47, y48, y49, y50, f 51, f 52, f 53, f 54, f 55, f 56, f 57, .int .i64 kind, .string key, .slice (some ⟨b, off, none⟩) n cap, .int .i64 (t : Int), .pointer (some ⟨b, off + t * 3, none⟩), .pointer (some ⟨b, off + t * 3, none⟩), .int .i64 c.k, .slice (some ⟨b, off, none⟩) n cap, .int .i64 (t : Int), .pointer (some ⟨b, off + t * 3, none⟩), .pointer (some ⟨b, off + t * 3 + 1, none⟩), .string c.s, .bool false, .int .i64 (t : Int), .int .i64 ((t + 1 : Nat) : Int), .slice (some ⟨b, off, none⟩) n cap, .int .i64 (n : Int), .bool false, y76, y77, y78, y79, y80, y81, y82, y83, y84, y85, y86, y87, y88, y89, y90, y91, y92, y93, .bool false, .bool true, .bool true, .bool false, .bool false, .bool true, .bool true, .slice (some ⟨b, off, none⟩) n cap, .int .i64 (t : Int), .int .i64 ((t + 1 : Nat) : Int), .pointer (some ⟨b, off + (t + 1) * 3, none⟩), .pointer (some ⟨b, off + (t + 1) * 3, none⟩), .int .i64 c2.k, .int .i64 kind, .bool true, .bool true, .slice (some ⟨b, off, none⟩) n cap, .int .i64 (t : Int), .int .i64 ((t + 1 : Nat) : Int), .pointer (some ⟨b, off + (t + 1) * 3, none⟩), .pointer (some ⟨b, off + (t + 1) * 3 + 1, none⟩), .string c2.s, .string key, .bool true, .bool true, .bool false, .bool false, .bool false, .bool false, f 123, f 124, f 125, f 126, f 127, f 128, f 129, f 130, .bool false, f 132, f 133, f 134, f 135, f 136, f 137, f 138, f 139, f 140, undef].getD zz undef, vl, rfl, by omega, u, ls, Hq.out, JX.out⟩, ?_⟩
         ·simp only [intOf]; show n - (((t + 1 : Nat) : Int)).toNat < n - ((t : Int)).toNat; omega
        ·have hs2' : ¬ c2.s.toList = key.toList := fun e => hs2 (toL_inj e)
         have hisf : Keep ((fndB L at_ kind key) = false) := ⟨by rw [hat.out]; simp; exact fun e => hs2 ((stI_eq _ _ _ _).mp e).2⟩
         refine rgn ?_
         refine VbF ?_
         refine VbT ?_
         refine VbT ?_
         refine VbF ?_
         refine VbF ?_
         refine VbT ?_
         refine VbT ?_
         refine VlS (.slice (some ⟨b, off, none⟩) n cap) ?_
         refine VlS (.int .i64 (t : Int)) ?_
         refine VlS (.int .i64 ((t + 1 : Nat) : Int)) ?_
         refine VlS (.pointer (some ⟨b, off + (t + 1) * 3, none⟩)) ?_
         refine VlS (.pointer (some ⟨b, off + (t + 1) * 3, none⟩)) ?_
         refine VlS (.int .i64 c2.k) ?_
         refine VlS (.int .i64 kind) ?_
         refine VbT ?_
         refine VbT ?_
         refine VlS (.slice (some ⟨b, off, none⟩) n cap) ?_
         refine VlS (.int .i64 (t : Int)) ?_
         refine VlS (.int .i64 ((t + 1 : Nat) : Int)) ?_
         refine VlS (.pointer (some ⟨b, off + (t + 1) * 3, none⟩)) ?_
         refine VlS (.pointer (some ⟨b, off + (t + 1) * 3 + 1, none⟩)) ?_
         refine VlS (.string c2.s) ?_
         refine VlS (.string key) ?_
         refine VbF ?_
         refine VbF ?_
         refine VbT ?_
         refine VbT ?_
         refine VbT ?_
         refine VbT ?_
         refine WL.nil ?_
         exact rest18 _ _ _ _ _ _ _ _ _ _ _ _ _ _ _ _ _ _ _ _ _ _ _ _ _ _ _ _ ⟨by rw [hu0.out, ← hns.out, hisf.out, ← hta1.out]; simp [fnd], by rw [hu0.out, hisf.out]; unfold cntF; rw [if_pos ⟨hta1.out, by omega, rfl⟩]⟩
       ·have hk2' : (c2.k == kind) = false := by simpa using hk2
        have hisf : Keep ((fndB L at_ kind key) = false) := ⟨by rw [hat.out]; simp; exact fun e => hk2 ((stI_eq _ _ _ _).mp e).1⟩
        refine rgn ?_
        refine VbF ?_
        refine VbT ?_
        refine VbT ?_
        refine VbF ?_
        refine VbF ?_
        refine VbT ?_
        refine VbT ?_
        refine VlS (.slice (some ⟨b, off, none⟩) n cap) ?_
        refine VlS (.int .i64 (t : Int)) ?_
        refine VlS (.int .i64 ((t + 1 : Nat) : Int)) ?_
        refine VlS (.pointer (some ⟨b, off + (t + 1) * 3, none⟩)) ?_
        refine VlS (.pointer (some ⟨b, off + (t + 1) * 3, none⟩)) ?_
        refine VlS (.int .i64 c2.k) ?_
        refine VlS (.int .i64 kind) ?_
        refine VbF ?_
        refine VbF ?_
        refine SkS ?_
        refine SkS ?_
        refine SkS ?_
        refine SkS ?_
        refine SkS ?_
        refine SkS ?_
        refine SkS ?_
        refine SkS ?_
        refine VbF ?_
        refine VbT ?_
        refine VbT ?_
        refine VbT ?_
        refine VbT ?_
        refine WL.nil ?_
        exact rest18 _ _ _ _ _ _ _ _ _ _ _ _ _ _ _ _ _ _ _ _ _ _ _ _ _ _ _ _ ⟨by rw [hu0.out, ← hns.out, hisf.out, ← hta1.out]; simp [fnd], by rw [hu0.out, hisf.out]; unfold cntF; rw [if_pos ⟨hta1.out, by omega, rfl⟩]⟩
     ·obtain rfl : la = true := by rw [← Hla.out]; simp; omega
      have hta1 : Keep (t + 1 = at_) := ⟨by have := HA.out; omega⟩
      have hisf : Keep ((fndB L at_ kind key) = false) := ⟨by
       cases e : (fndB L at_ kind key)
       ·rfl
       ·have := fndB_lt e; rw [hn.out] at this; have := hta1.out; omega⟩
      refine rgn ?_
      refine VbF ?_
      refine VbT ?_
      refine VbT ?_
      refine VbT ?_
      refine VbT ?_
      refine SkS ?_
      refine SkS ?_
      refine SkS ?_
      refine SkS ?_
      refine SkS ?_
      refine SkS ?_
      refine SkS ?_
      refine SkS ?_
      refine SkS ?_
      refine SkS ?_
      refine SkS ?_
      refine SkS ?_
      refine SkS ?_
      refine SkS ?_
      refine SkS ?_
      refine SkS ?_
      refine SkS ?_
      refine SkS ?_
      refine SkS ?_
      refine SkS ?_
      refine SkS ?_
      refine SkS ?_
      refine VbT ?_
      refine VbT ?_
      refine WL.nil ?_
      exact rest18 _ _ _ _ _ _ _ _ _ _ _ _ _ _ _ _ _ _ _ _ _ _ _ _ _ _ _ _ ⟨by rw [hu0.out, ← hns.out, hisf.out, ← hta1.out]; simp [fnd], by rw [hu0.out, hisf.out]; unfold cntF; rw [if_pos ⟨hta1.out, by omega, rfl⟩]⟩
    by_cases ht1 : t + 1 < n
    ·obtain rfl : la = false := by rw [← Hla.out]; simp; omega
     have ht1' : (t : Int) + 1 < (n : Int) := by omega
     have ht1a : 0 ≤ (t : Int) + 1 := by omega
     have ht1b : ¬ (n : Int) ≤ (t : Int) + 1 := by omega
     refine rgn ?_
     refine VbF ?_
     refine VbT ?_
     refine WL.nil (hK20 _ _ ?_)
     refine wp_cond_true rfl ?_
     obtain ⟨c2, Hc2⟩ : ∃ z, Keep (L[t + 1]? = some z) := ⟨L[t + 1]'(by rw [hn.out]; exact ht1), ⟨List.getElem?_eq_getElem _⟩⟩
     obtain ⟨av, hav⟩ : ∃ z, Keep (aheI c2.k c2.s kind key = z) := ⟨_, ⟨rfl⟩⟩
     have hS0 : Keep (∀ wx, Below w.heap.size w wx → (fun wx => wx.cell? ⟨b, off + (t + 1) * 3, none⟩ = some (.int .i64 c2.k) ∧ wx.cell? ⟨b, off + (t + 1) * 3 + 1, none⟩ = some (.string c2.s)) wx) := ⟨fun wx hb => ⟨((HC.out.below hb).c Hc2.out).1, ((HC.out.below hb).c Hc2.out).2.1⟩⟩
     have BE : Keep (Below w.heap.size w wq.drew) := ⟨HBX.out _ JQ.out.drew⟩
     refine wp_region_held_drew (S := fun wx => wx.cell? ⟨b, off + (t + 1) * 3, none⟩ = some (.int .i64 c2.k) ∧ wx.cell? ⟨b, off + (t + 1) * 3 + 1, none⟩ = some (.string c2.s)) (by kernel_rfl) (hS0.out _ BE.out) (fun hHeld => ?_)
     refine tkS (i := 0) (oi := ⟨some 78, Op.move (Operand.tmp 0), 23, _, _, none⟩) (v := .slice (some ⟨b, off, none⟩) n cap) rfl (Or.inl ⟨by rfl, fun w hS => by obtain ⟨hS1, hS2⟩ := hS; go_simp⟩) hHeld ?_
     refine tkS (i := 1) (oi := ⟨some 79, Op.move (Operand.tmp 11), 3, _, _, none⟩) (v := .int .i64 (t : Int)) rfl (Or.inl ⟨by rfl, fun w hS => by obtain ⟨hS1, hS2⟩ := hS; go_simp⟩) hHeld ?_
     refine tkS (i := 6) (oi := ⟨some 84, Op.move (Operand.tmp 0), 23, _, _, none⟩) (v := .slice (some ⟨b, off, none⟩) n cap) rfl (Or.inl ⟨by rfl, fun w hS => by obtain ⟨hS1, hS2⟩ := hS; go_simp⟩) hHeld ?_
     refine tkS (i := 7) (oi := ⟨some 85, Op.move (Operand.tmp 11), 3, _, _, none⟩) (v := .int .i64 (t : Int)) rfl (Or.inl ⟨by rfl, fun w hS => by obtain ⟨hS1, hS2⟩ := hS; go_simp⟩) hHeld ?_
     refine tkS (i := 12) (oi := ⟨some 90, Op.move (Operand.tmp 1), 3, _, _, none⟩) (v := .int .i64 kind) rfl (Or.inl ⟨by rfl, fun w hS => by obtain ⟨hS1, hS2⟩ := hS; go_simp⟩) hHeld ?_
     refine tkS (i := 13) (oi := ⟨some 91, Op.move (Operand.tmp 2), 9, _, _, none⟩) (v := .string key) rfl (Or.inl ⟨by rfl, fun w hS => by obtain ⟨hS1, hS2⟩ := hS; go_simp⟩) hHeld ?_
     refine tkS (i := 2) (oi := ⟨some 80, Op.binOp BinOp.add 3 (Operand.tmp 79) (Operand.const (Value.int IntKind.i64 1)) 3, 3, _, _, none⟩) (v := .int .i64 ((t + 1 : Nat) : Int)) rfl (Or.inl ⟨by rfl, fun w hS => by obtain ⟨hS1, hS2⟩ := hS; go_simp⟩) hHeld ?_
     refine tkS (i := 8) (oi := ⟨some 86, Op.binOp BinOp.add 3 (Operand.tmp 85) (Operand.const (Value.int IntKind.i64 1)) 3, 3, _, _, none⟩) (v := .int .i64 ((t + 1 : Nat) : Int)) rfl (Or.inl ⟨by rfl, fun w hS => by obtain ⟨hS1, hS2⟩ := hS; go_simp⟩) hHeld ?_
     refine tkS (i := 3) (oi := ⟨some 81, Op.indexAddr 23 (Operand.tmp 78) (Operand.tmp 80), 0, _, _, none⟩) (v := .pointer (some ⟨b, off + (t + 1) * 3, none⟩)) rfl (Or.inl ⟨by rfl, fun w hS => by obtain ⟨hS1, hS2⟩ := hS; go_simp⟩) hHeld ?_
     refine tkS (i := 9) (oi := ⟨some 87, Op.indexAddr 23 (Operand.tmp 84) (Operand.tmp 86), 0, _, _, none⟩) (v := .pointer (some ⟨b, off + (t + 1) * 3, none⟩)) rfl (Or.inl ⟨by rfl, fun w hS => by obtain ⟨hS1, hS2⟩ := hS; go_simp⟩) hHeld ?_
     refine tkS (i := 4) (oi := ⟨some 82, Op.fieldAddr 40 (Operand.tmp 81) 0, 0, _, _, none⟩) (v := .pointer (some ⟨b, off + (t + 1) * 3, none⟩)) rfl (Or.inl ⟨by rfl, fun w hS => by obtain ⟨hS1, hS2⟩ := hS; go_simp⟩) hHeld ?_
     refine tkS (i := 10) (oi := ⟨some 88, Op.fieldAddr 40 (Operand.tmp 87) 1, 0, _, _, none⟩) (v := .pointer (some ⟨b, off + (t + 1) * 3 + 1, none⟩)) rfl (Or.inl ⟨by rfl, fun w hS => by obtain ⟨hS1, hS2⟩ := hS; go_simp⟩) hHeld ?_
     refine tkS (i := 5) (oi := ⟨some 83, Op.load 3 (Operand.tmp 82), 3, _, _, none⟩) (v := .int .i64 c2.k) rfl (Or.inl ⟨by rfl, fun w hS => by obtain ⟨hS1, hS2⟩ := hS; go_simp⟩) hHeld ?_
     refine tkS (i := 11) (oi := ⟨some 89, Op.load 9 (Operand.tmp 88), 9, _, _, none⟩) (v := .string c2.s) rfl (Or.inl ⟨by rfl, fun w hS => by obtain ⟨hS1, hS2⟩ := hS; go_simp⟩) hHeld ?_
     refine wpAnyH_ready (rs := [14]) (by kernel_rfl) (by simp) ?_
     refine AllReadyH.cons (o := ⟨some 92, Op.call { callee := Callee.value (Operand.func 33), args := #[Operand.tmp 83, Operand.tmp 89, Operand.tmp 90, Operand.tmp 91], argTypes := #[3, 9, 3, 9] }, 4, _, _, none⟩) rfl (fun K hK => ?_) AllReadyH.nil
     rw [if_pos (by rfl)]
     refine wp_callF 33 _ _ rfl Try.in33 #[.int .i64 c2.k, .string c2.s, .int .i64 kind, .string key] (by simp [Act.eval]) (fun vz wz => vz = .bool (aheI c2.k c2.s kind key) ∧ wq.drew = wz) ((ahe_any c2.k c2.s kind key _).mono fun e w' ⟨h1, h2⟩ => ⟨_, h1, rfl, h2.symm⟩) ?_
     rintro _ wg ⟨rfl, hz⟩
     subst hz
     rw [hav.out]
     refine hK _ _ (hS0.out _ BE.out) fun hH2 => ?_
     clear hK
     simp only [Act.put, pqA, pqB, pqC]
     refine tkS (i := 15) (oi := ⟨some 93, Op.unOp UnOp.not 4 (Operand.tmp 92), 4, _, _, none⟩) (v := .bool (!av)) rfl (Or.inl ⟨by rfl, fun w hS => by obtain ⟨hS1, hS2⟩ := hS; go_simp⟩) hH2 ?_
     refine tkS (i := 16) (oi := ⟨some 14, Op.assign (Operand.tmp 93), 4, _, _, none⟩) (v := .bool (!av)) rfl (Or.inl ⟨by rfl, fun w hS => by obtain ⟨hS1, hS2⟩ := hS; go_simp⟩) hH2 ?_
     refine wpAnyH_done (by kernel_rfl) ?_ _
     exact rest17 _ _ _ _ _ _ _ _ _ _ _ _ _ _ _ _ _ _ (!av) _ (fun _ => by rw [← hav.out]; congr 1; rw [Bool.eq_iff_iff, ← stI_lt, decide_eq_true_iff]; exact HAt.out _ c2 Hc2.out) JQ.out.drew
    ·obtain rfl : la = true := by rw [← Hla.out]; simp; omega
     refine rgn ?_
     refine VbT ?_
     refine VbF ?_
     refine WL.nil (hK20 _ _ ?_)
     refine wp_cond_false rfl ?_
     refine wp_skip ?_
     exact rest17 _ _ _ _ _ _ _ _ _ _ _ _ _ _ _ _ _ _ false _ (fun h => absurd h ht1) JQ.out
   by_cases hkk : c.k = kind
   ·have hkk' : (c.k == kind) = true := by simpa using hkk
    have hks : ¬ c.s = key := fun e => hno.out ⟨hkk, e⟩
    have hks' : ¬ c.s.toList = key.toList := fun e => hks (toL_inj e)
    refine rgn ?_
    refine VlS (.slice (some ⟨b, off, none⟩) n cap) ?_
    refine VlS (.int .i64 (t : Int)) ?_
    refine VlS (.pointer (some ⟨b, off + t * 3, none⟩)) ?_
    refine VlS (.pointer (some ⟨b, off + t * 3, none⟩)) ?_
    refine VlS (.int .i64 c.k) ?_
    refine VlS (.int .i64 kind) ?_
    refine VbT ?_
    refine VbT ?_
    refine VlS (.slice (some ⟨b, off, none⟩) n cap) ?_
    refine VlS (.int .i64 (t : Int)) ?_
    refine VlS (.pointer (some ⟨b, off + t * 3, none⟩)) ?_
    refine VlS (.pointer (some ⟨b, off + t * 3 + 1, none⟩)) ?_
    refine VlS (.string c.s) ?_
    refine VlS (.string key) ?_
    refine VbF ?_
    refine VbF ?_
    refine WL.nil (hK15 _ _ ?_)
    refine wp_cond_false rfl ?_
    refine wp_skip ?_
    exact rest11 _ _ _ _ _ _ _ _ _ _ _ _ _ _ _ _
   ·have hkk' : (c.k == kind) = false := by simpa using hkk
    refine rgn ?_
    refine VlS (.slice (some ⟨b, off, none⟩) n cap) ?_
    refine VlS (.int .i64 (t : Int)) ?_
    refine VlS (.pointer (some ⟨b, off + t * 3, none⟩)) ?_
    refine VlS (.pointer (some ⟨b, off + t * 3, none⟩)) ?_
    refine VlS (.int .i64 c.k) ?_
    refine VlS (.int .i64 kind) ?_
    refine VbF ?_
    refine VbF ?_
    refine SkS ?_
    refine SkS ?_
    refine SkS ?_
    refine SkS ?_
    refine SkS ?_
    refine SkS ?_
    refine SkS ?_
    refine VbF ?_
    refine WL.nil (hK15 _ _ ?_)
    refine wp_cond_false rfl ?_
    refine wp_skip ?_
    exact rest11 _ _ _ _ _ _ _ _ _ _ _ _ _ _ _ _
  ·obtain rfl : t = at_ := by omega
   have hat := Keep.mk (fndB_at (kind := kind) (key := key) Hc.out)
   by_cases his : stI c.k c.s kind key = 0
   ·obtain ⟨hkk, hks⟩ := (stI_eq _ _ _ _).mp his
    have hkk' : (c.k == kind) = true := by simpa using hkk
    have hks' : c.s.toList = key.toList := by rw [hks]
    have hist : Keep (fndB L t kind key = true) := ⟨by rw [hat.out]; simpa using his⟩
    clear his
    have Bx : Keep (Below w.heap.size w wr) := ⟨HBX.out _ JF.out⟩
    have Rx := Keep.mk (JF.out.gr.blk R4.out hrd.out)
    refine wp_seq_k fun K28 hK28 => ?_
    refine wp_seq_k fun K29 hK29 => rgn ?_
    refine VlS (.int .i64 (t : Int)) ?_
    refine VlS (.slice (some ⟨b, off, none⟩) n cap) ?_
    refine VlS (.int .i64 (n : Int)) ?_
    refine VbT ?_
    refine WL.nil (hK29 _ _ ?_)
    refine wp_cond_true rfl ?_
    refine wp_skip ?_
    refine hK28 _ _ ?_
    refine wp_seq_k fun K30 hK30 => ?_
    refine wp_block ?_
    refine wp_seq_k fun K31 hK31 => ?_
    refine wp_seq_k fun K32 hK32 => rgn ?_
    refine VlS (.slice (some ⟨b, off, none⟩) n cap) ?_
    refine VlS (.int .i64 (t : Int)) ?_
    refine VlS (.pointer (some ⟨b, off + t * 3, none⟩)) ?_
    refine VlS (.pointer (some ⟨b, off + t * 3, none⟩)) ?_
    refine VlS (.int .i64 c.k) ?_
    refine VlS (.int .i64 kind) ?_
    refine VbT ?_
    refine VbT ?_
    refine VlS (.slice (some ⟨b, off, none⟩) n cap) ?_
    refine VlS (.int .i64 (t : Int)) ?_
    refine VlS (.pointer (some ⟨b, off + t * 3, none⟩)) ?_
    refine VlS (.pointer (some ⟨b, off + t * 3 + 1, none⟩)) ?_
    refine VlS (.string c.s) ?_
    refine VlS (.string key) ?_
    refine VbT ?_
    refine VbT ?_
    refine WL.nil (hK32 _ _ ?_)
    refine wp_cond_true rfl ?_
    refine wp_seq_k fun K33 hK33 => rgn ?_
    refine VlS (.slice (some ⟨b, off, none⟩) n cap) ?_
    refine VlS (.int .i64 (n : Int)) ?_
    refine VlS (.slice (some ⟨b, off, none⟩) n cap) ?_
    refine VlS (.int .i64 (t : Int)) ?_
    refine WL.callF (by kernel_rfl) 32 _ _ rfl Try.in32 #[.slice (some ⟨b, off, none⟩) n cap, .int .i64 (t : Int)] (by simp [Act.eval]) ?_
    refine (lfo_any b off n cap t L c _ hn htn hcap HN ⟨(HC.out.below Bx.out).mono Bx.out.size⟩ HF Hc ⟨HSz.out c (List.mem_of_getElem? Hc.out)⟩).mono ?_
    rintro e wa ⟨x, rfl, k1, k2, k3, k4, k5, k6, k7, k8⟩
    refine ⟨_, rfl, ?_⟩
    have Xa := Keep.mk (And.intro k1 (And.intro k2 (And.intro k3 (And.intro k4 k7))))
    have Oa := Keep.mk k5
    have Qa := Keep.mk k6
    have HX1 : Keep (∃ a n c, x.c.v = .slice a n c) := ⟨k5.sl⟩
    have HX2 : Keep (∃ a n c, x.pv = .slice a n c) := ⟨by obtain ⟨a, c, h⟩ := owns_sl k6; exact ⟨a, _, c, h⟩⟩
    have Ra := Keep.mk (Rx.out.below k8 Rx.out.lt)
    have Ba : Keep (Below w.heap.size w wa) := ⟨Bx.out.trans (k8.mono Bx.out.size)⟩
    clear k1 k2 k3 k4 k5 k6 k7 k8 c0_ c1_
    simp only [Act.put, pqA, pqB, pqC]
    refine WL.bs (by kernel_rfl) 29 1 _ rfl #[(0, .agg (lvA x))] (by simp [Act.eval]) _ _ (bsLx x wa HX1.out HX2.out) ?_
    have bb := below_new wa (.cells (lvA x) 69)
    have Qb := Keep.mk (Blk.new wa 69 (lvA x))
    generalize wa.alloc (.cells (lvA x) 69) = wb at *
    obtain ⟨g, hg⟩ : ∃ z, Keep (z = wa.heap.size) := ⟨_, ⟨rfl⟩⟩
    rw [← hg.out] at Qb ⊢
    have Ob := Keep.mk (owns_below Oa.out bb)
    have Pb := Keep.mk (owns_below Qa.out bb)
    have Rb := Keep.mk (Ra.out.below bb Ra.out.lt)
    have Bb : Keep (Below w.heap.size w wb) := ⟨Ba.out.trans (bb.mono Ba.out.size)⟩
    clear bb hg
    simp only [Act.put, pqA, pqB, pqC]
    refine WL.bld (by kernel_rfl) 31 #[(0, .tmp 52), (1, .tmp 56)] rfl [(0, .int .i64 (n : Int)), (1, .slice (some ⟨g, 0, none⟩) 1 1)] (by simp [Act.eval]) #[.int .i64 (n : Int), .slice (some ⟨g, 0, none⟩) 1 1] (bldW2 (n : Int) _ 1 1) ?_
    simp only [Act.put, pqA, pqB, pqC]
    refine WL.storeR (by kernel_rfl) 31 (.tmp 6) (.tmp 57) rfl r #[.int .i64 (n : Int), .slice (some ⟨g, 0, none⟩) 1 1] rfl rfl 31 #[.int .i64 0, .slice none 0 0] Rb.out (by rfl) rfl (by simp [Value.oneCell']) ?_
    have R9 := Keep.mk (Rb.out.setRow #[.int .i64 (n : Int), .slice (some ⟨g, 0, none⟩) 1 1])
    have B9 : Keep (Below w.heap.size w (wb.setRow r #[.int .i64 (n : Int), .slice (some ⟨g, 0, none⟩) 1 1])) := ⟨below_setRow Bb.out gr.out _⟩
    have g_ : Grown wb (wb.setRow r #[.int .i64 (n : Int), .slice (some ⟨g, 0, none⟩) 1 1]) (fun k => k = r) := Grown.setRow _ r #[.int .i64 (n : Int), .slice (some ⟨g, 0, none⟩) 1 1] fun _ => rfl
    have hall : ∀ {B T s n' : Nat} {v : Value} {xs : List Value}, wb.ownsRow B T s v n' xs → T ≠ 31 → (wb.setRow r #[.int .i64 (n : Int), .slice (some ⟨g, 0, none⟩) 1 1]).ownsRow B T s v n' xs := fun h h2 => owns_grown h g_ fun k hk e => by
     subst e
     exact h2 ((owns_typ h hk).one Rb.out.typ)
    have LS9 : Keep (LsV (wb.setRow r #[.int .i64 (n : Int), .slice (some ⟨g, 0, none⟩) 1 1]).heap.size (wb.setRow r #[.int .i64 (n : Int), .slice (some ⟨g, 0, none⟩) 1 1]) (.slice (some ⟨g, 0, none⟩) 1 1) [x]) := ⟨by
     have hQ := g_.blk Qb.out (blk_ne Qb.out Rb.out (by decide))
     refine .inr ⟨g, 0, 1, rfl, Nat.le_refl _, hQ.lt, fun i y hy j u hu => ?_, fun y hy => ?_⟩
     ·have hi := (List.getElem?_eq_some_iff.mp hy).1
      obtain rfl : i = 0 := by simp at hi; omega
      simp at hy
      subst hy
      rw [Nat.zero_add]
      exact hQ.c j (by rw [← Array.getElem?_toList]; exact hu)
     ·rw [List.mem_singleton.mp hy]
      have h1 := hall Ob.out (by decide)
      exact ⟨Own.row h1, fun _ => Own.lt h1, hpa_owns (hall Pb.out (by decide))⟩⟩
    clear hall g_
    generalize wb.setRow r #[.int .i64 (n : Int), .slice (some ⟨g, 0, none⟩) 1 1] = w9 at *
    simp only [Act.put]
    refine VlS (.int .i64 0) ?_
    refine WL.nil (hK33 _ _ ?_)
    refine wp_ret ?_
    try simp only [Exit.inBlock, Exit.then]
    refine bodyPost_ret (v := .tuple #[.agg #[.int .i64 (n : Int), .slice (some ⟨g, 0, none⟩) 1 1], .int .i64 0]) (results_cell_row2 Try.results13 _ _ r 31 _ (0, 0) _ _ rfl rfl R9.out Try.underlying31 rfl (by rfl)) rfl ⟨(n : Int), .slice (some ⟨g, 0, none⟩) 1 1, [x], 0, rfl, LS9.out, B9.out, (fun h => by rw [hkm] at h; cases h), (fun _ h => absurd hwi.out h), (fun _ _ => ⟨by rw [hn.out], rfl, (fun h => by rw [h] at hn; have := hn.out; simp at this; omega), fun _ => ⟨by rw [hist.out]; rfl, ?_⟩⟩)⟩
    rw [hist.out]
    intro j k y hj hy
    have hi := (List.getElem?_eq_some_iff.mp hy).1
    obtain rfl : j = 0 := by simp at hi; omega
    simp [fnd] at hj hy
    subst hj hy
    exact ⟨Xa.out.1, ⟨c, Hc.out, Xa.out.2.1, Xa.out.2.2.1, Xa.out.2.2.2.1⟩, by rw [hn.out]; exact Xa.out.2.2.2.2⟩
   ·have hno : Keep (¬ (c.k = kind ∧ c.s = key)) := ⟨name_no his⟩
    have hisf : Keep (fndB L t kind key = false) := ⟨by rw [hat.out]; simpa using his⟩
    have hbh : Keep (aheI kind key c.k c.s = true) := ⟨(stI_gt _ _ _ _).mp (by
     have h := HAt.out t c Hc.out
     have h2 : ¬ stI c.k c.s kind key < 0 := fun e => by have := h.mp e; omega
     omega)⟩
    have Hnu : Keep (ns[u]? = some t) := ⟨by
     rw [← hns.out, hisf.out, Hu.out, hisf.out]
     unfold fnd cntF
     by_cases h0 : 0 < t
     ·simp [h0, htn]
     ·simp [h0, htn]⟩
    have Hlen : Keep (u + 1 = ns.length) := ⟨by
     rw [← hns.out, hisf.out, Hu.out, hisf.out]
     unfold fnd cntF
     by_cases h0 : 0 < t
     ·simp [h0, htn]
     ·simp [h0, htn]⟩
    refine wp_seq_k fun K34 hK34 => ?_
    refine wp_seq_k fun K35 hK35 => rgn ?_
    refine VlS (.int .i64 (t : Int)) ?_
    refine VlS (.slice (some ⟨b, off, none⟩) n cap) ?_
    refine VlS (.int .i64 (n : Int)) ?_
    refine VbT ?_
    refine WL.nil (hK35 _ _ ?_)
    refine wp_cond_true rfl ?_
    refine wp_skip ?_
    refine hK34 _ _ ?_
    refine wp_seq_k fun K36 hK36 => ?_
    refine wp_block ?_
    refine wp_seq_k fun K37 hK37 => ?_
    refine wp_seq_k fun K38 hK38 => ?_
    have rest11 : ∀ (y35 y36 y37 y38 y39 y40 y41 y42 y43 y44 y45 y46 y47 y48 y49 y50 : Value), K37 { tmps := #[.slice (some ⟨b, off, none⟩) n cap, .int .i64 kind, .string key, undef, undef, undef, .pointer (some ⟨r, 0, none⟩), f 7, .bool true, .int .i64 0, .pointer (some ⟨d, 0, none⟩), .int .i64 (t : Int), f 12, f 13, f 14, .int .i64 kind, .bool true, .bool true, .bool false, undef, .slice (some ⟨b, off, none⟩) n cap, .int .i64 0, .int .i64 0, .bool false, undef, undef, .slice (some ⟨b, off, none⟩) n cap, .int .i64 (n : Int), .agg #[.int .i64 (n : Int), .slice none 0 0], .int .i64 (t : Int), .slice (some ⟨b, off, none⟩) n cap, .int .i64 (n : Int), .bool true, f 33, f 34, y35, y36, y37, y38, y39, y40, y41, y42, y43, y44, y45, y46, y47, y48, y49, y50, f 51, f 52, f 53, f 54, f 55, f 56, f 57, f 58, f 59, f 60, f 61, f 62, f 63, f 64, f 65, f 66, f 67, f 68, f 69, f 70, f 71, f 72, f 73, f 74, f 75, f 76, f 77, f 78, f 79, f 80, f 81, f 82, f 83, f 84, f 85, f 86, f 87, f 88, f 89, f 90, f 91, f 92, f 93, f 94, f 95, f 96, f 97, f 98, f 99, f 100, f 101, f 102, f 103, f 104, f 105, f 106, f 107, f 108, f 109, f 110, f 111, f 112, f 113, f 114, f 115, f 116, f 117, f 118, f 119, f 120, f 121, f 122, f 123, f 124, f 125, f 126, f 127, f 128, f 129, f 130, f 131, f 132, f 133, f 134, f 135, f 136, f 137, f 138, f 139, f 140, undef], defers := [] } wr := by
     intro y35 y36 y37 y38 y39 y40 y41 y42 y43 y44 y45 y46 y47 y48 y49 y50
     clear c0_ c1_
     refine hK37 _ _ ?_
     refine wp_seq_k fun K39 hK39 => ?_
     have hS0 : Keep (∀ wx, Below w.heap.size w wx → (fun wx => wx.cell? ⟨b, off + t * 3, none⟩ = some (.int .i64 c.k) ∧ wx.cell? ⟨b, off + t * 3 + 1, none⟩ = some (.string c.s)) wx) := ⟨fun wx hb => ⟨((HC.out.below hb).c Hc.out).1, ((HC.out.below hb).c Hc.out).2.1⟩⟩
     have BE : Keep (Below w.heap.size w wr.drew) := ⟨HBX.out _ JF.out.drew⟩
     refine wp_region_held_drew (S := fun wx => wx.cell? ⟨b, off + t * 3, none⟩ = some (.int .i64 c.k) ∧ wx.cell? ⟨b, off + t * 3 + 1, none⟩ = some (.string c.s)) (by kernel_rfl) (hS0.out _ BE.out) (fun hHeld => ?_)
     refine tkS (i := 0) (oi := ⟨some 58, Op.move (Operand.tmp 1), 3, _, _, none⟩) (v := .int .i64 kind) rfl (Or.inl ⟨by rfl, fun w hS => by obtain ⟨hS1, hS2⟩ := hS; go_simp⟩) hHeld ?_
     refine tkS (i := 1) (oi := ⟨some 59, Op.move (Operand.tmp 2), 9, _, _, none⟩) (v := .string key) rfl (Or.inl ⟨by rfl, fun w hS => by obtain ⟨hS1, hS2⟩ := hS; go_simp⟩) hHeld ?_
     refine tkS (i := 2) (oi := ⟨some 60, Op.move (Operand.tmp 0), 23, _, _, none⟩) (v := .slice (some ⟨b, off, none⟩) n cap) rfl (Or.inl ⟨by rfl, fun w hS => by obtain ⟨hS1, hS2⟩ := hS; go_simp⟩) hHeld ?_
     refine tkS (i := 3) (oi := ⟨some 61, Op.move (Operand.tmp 11), 3, _, _, none⟩) (v := .int .i64 (t : Int)) rfl (Or.inl ⟨by rfl, fun w hS => by obtain ⟨hS1, hS2⟩ := hS; go_simp⟩) hHeld ?_
     refine tkS (i := 7) (oi := ⟨some 65, Op.move (Operand.tmp 0), 23, _, _, none⟩) (v := .slice (some ⟨b, off, none⟩) n cap) rfl (Or.inl ⟨by rfl, fun w hS => by obtain ⟨hS1, hS2⟩ := hS; go_simp⟩) hHeld ?_
     refine tkS (i := 8) (oi := ⟨some 66, Op.move (Operand.tmp 11), 3, _, _, none⟩) (v := .int .i64 (t : Int)) rfl (Or.inl ⟨by rfl, fun w hS => by obtain ⟨hS1, hS2⟩ := hS; go_simp⟩) hHeld ?_
     refine tkS (i := 4) (oi := ⟨some 62, Op.indexAddr 23 (Operand.tmp 60) (Operand.tmp 61), 0, _, _, none⟩) (v := .pointer (some ⟨b, off + t * 3, none⟩)) rfl (Or.inl ⟨by rfl, fun w hS => by obtain ⟨hS1, hS2⟩ := hS; go_simp⟩) hHeld ?_
     refine tkS (i := 9) (oi := ⟨some 67, Op.indexAddr 23 (Operand.tmp 65) (Operand.tmp 66), 0, _, _, none⟩) (v := .pointer (some ⟨b, off + t * 3, none⟩)) rfl (Or.inl ⟨by rfl, fun w hS => by obtain ⟨hS1, hS2⟩ := hS; go_simp⟩) hHeld ?_
     refine tkS (i := 5) (oi := ⟨some 63, Op.fieldAddr 40 (Operand.tmp 62) 0, 0, _, _, none⟩) (v := .pointer (some ⟨b, off + t * 3, none⟩)) rfl (Or.inl ⟨by rfl, fun w hS => by obtain ⟨hS1, hS2⟩ := hS; go_simp⟩) hHeld ?_
     refine tkS (i := 10) (oi := ⟨some 68, Op.fieldAddr 40 (Operand.tmp 67) 1, 0, _, _, none⟩) (v := .pointer (some ⟨b, off + t * 3 + 1, none⟩)) rfl (Or.inl ⟨by rfl, fun w hS => by obtain ⟨hS1, hS2⟩ := hS; go_simp⟩) hHeld ?_
     refine tkS (i := 6) (oi := ⟨some 64, Op.load 3 (Operand.tmp 63), 3, _, _, none⟩) (v := .int .i64 c.k) rfl (Or.inl ⟨by rfl, fun w hS => by obtain ⟨hS1, hS2⟩ := hS; go_simp⟩) hHeld ?_
     refine tkS (i := 11) (oi := ⟨some 69, Op.load 9 (Operand.tmp 68), 9, _, _, none⟩) (v := .string c.s) rfl (Or.inl ⟨by rfl, fun w hS => by obtain ⟨hS1, hS2⟩ := hS; go_simp⟩) hHeld ?_
     refine wpAnyH_ready (rs := [12]) (by kernel_rfl) (by simp) ?_
     refine AllReadyH.cons (o := ⟨some 70, Op.call { callee := Callee.value (Operand.func 33), args := #[Operand.tmp 58, Operand.tmp 59, Operand.tmp 64, Operand.tmp 69], argTypes := #[3, 9, 3, 9] }, 4, _, _, none⟩) rfl (fun K hK => ?_) AllReadyH.nil
     rw [if_pos (by rfl)]
     refine wp_callF 33 _ _ rfl Try.in33 #[.int .i64 kind, .string key, .int .i64 c.k, .string c.s] (by simp [Act.eval]) (fun vz wz => vz = .bool (aheI kind key c.k c.s) ∧ wr.drew = wz) ((ahe_any kind key c.k c.s _).mono fun e w' ⟨h1, h2⟩ => ⟨_, h1, rfl, h2.symm⟩) ?_
     rintro _ wg ⟨rfl, hz⟩
     subst hz
     rw [hbh.out]
     refine hK _ _ (hS0.out _ BE.out) fun hH1 => ?_
     clear hK
     simp only [Act.put, pqA, pqB, pqC]
     refine tkS (i := 13) (oi := ⟨some 12, Op.assign (Operand.tmp 70), 4, _, _, none⟩) (v := .bool true) rfl (Or.inl ⟨by rfl, fun w hS => by obtain ⟨hS1, hS2⟩ := hS; go_simp⟩) hH1 ?_
     refine wpAnyH_done (by kernel_rfl) ?_ _
     refine hK39 _ _ ?_
     refine wp_seq_k fun K40 hK40 => ?_
     have JQ := Keep.mk JF.out.drew
     generalize wr.drew = wq at *
     clear hS0 BE
     obtain ⟨la, hla⟩ : ∃ z, ((t : Int) + 1 == (n : Int)) = z := ⟨_, rfl⟩
     have hla2 : (((t + 1 : Nat) : Int) == (n : Int)) = la := hla
     refine rgn ?_
     refine VlS (.int .i64 (t : Int)) ?_
     refine VlS (.int .i64 ((t + 1 : Nat) : Int)) ?_
     refine VlS (.slice (some ⟨b, off, none⟩) n cap) ?_
     refine VlS (.int .i64 (n : Int)) ?_
     refine VlS (.bool la) ?_
     refine VlS (.bool la) ?_
     refine WL.nil (hK40 _ _ ?_)
     refine wp_seq_k fun K41 hK41 => rgn ?_
     refine VbF ?_
     refine WL.nil (hK41 _ _ ?_)
     refine wp_seq_k fun K42 hK42 => ?_
     refine wp_seq_k fun K43 hK43 => ?_
     have Hla := Keep.mk hla
     clear hla hla2
     have rest17 : ∀ (y14 y76 y77 y78 y79 y80 y81 y82 y83 y84 y85 y86 y87 y88 y89 y90 y91 y92 y93 : Value) (wX : World), FI 0 w4 wX d n vl L ns u ls → K42 { tmps := #[.slice (some ⟨b, off, none⟩) n cap, .int .i64 kind, .string key, undef, undef, undef, .pointer (some ⟨r, 0, none⟩), f 7, .bool true, .int .i64 0, .pointer (some ⟨d, 0, none⟩), .int .i64 (t : Int), .bool true, .bool la, y14, .int .i64 kind, .bool true, .bool true, .bool false, undef, .slice (some ⟨b, off, none⟩) n cap, .int .i64 0, .int .i64 0, .bool false, undef, undef, .slice (some ⟨b, off, none⟩) n cap, .int .i64 (n : Int), .agg #[.int .i64 (n : Int), .slice none 0 0], .int .i64 (t : Int), .slice (some ⟨b, off, none⟩) n cap, .int .i64 (n : Int), .bool true, f 33, f 34, y35, y36, y37, y38, y39, y40, y41, y42, y43, y44, y45, y46, y47, y48, y49, y50, f 51, f 52, f 53, f 54, f 55, f 56, f 57, .int .i64 kind, .string key, .slice (some ⟨b, off, none⟩) n cap, .int .i64 (t : Int), .pointer (some ⟨b, off + t * 3, none⟩), .pointer (some ⟨b, off + t * 3, none⟩), .int .i64 c.k, .slice (some ⟨b, off, none⟩) n cap, .int .i64 (t : Int), .pointer (some ⟨b, off + t * 3, none⟩), .pointer (some ⟨b, off + t * 3 + 1, none⟩), .string c.s, .bool true, .int .i64 (t : Int), .int .i64 ((t + 1 : Nat) : Int), .slice (some ⟨b, off, none⟩) n cap, .int .i64 (n : Int), .bool la, y76, y77, y78, y79, y80, y81, y82, y83, y84, y85, y86, y87, y88, y89, y90, y91, y92, y93, f 94, f 95, f 96, f 97, f 98, f 99, f 100, f 101, f 102, f 103, f 104, f 105, f 106, f 107, f 108, f 109, f 110, f 111, f 112, f 113, f 114, f 115, f 116, f 117, f 118, f 119, f 120, f 121, f 122, f 123, f 124, f 125, f 126, f 127, f 128, f 129, f 130, f 131, f 132, f 133, f 134, f 135, f 136, f 137, f 138, f 139, f 140, undef], defers := [] } wX := by
      intro y14 y76 y77 y78 y79 y80 y81 y82 y83 y84 y85 y86 y87 y88 y89 y90 y91 y92 y93 wX hfX
      have JX := Keep.mk hfX
      clear hfX JQ JF
      refine hK42 _ _ ?_
      refine wp_seq_k fun K44 hK44 => ?_
      refine wp_seq_k fun K45 hK45 => rgn ?_
      refine VbT ?_
      refine VbF ?_
      refine VbF ?_
      refine SkS ?_
      refine SkS ?_
      refine SkS ?_
      refine SkS ?_
      refine SkS ?_
      refine SkS ?_
      refine SkS ?_
      refine SkS ?_
      refine SkS ?_
      refine SkS ?_
      refine SkS ?_
      refine SkS ?_
      refine SkS ?_
      refine SkS ?_
      refine SkS ?_
      refine SkS ?_
      refine SkS ?_
      refine SkS ?_
      refine SkS ?_
      refine SkS ?_
      refine SkS ?_
      refine SkS ?_
      refine SkS ?_
      refine SkS ?_
      refine SkS ?_
      refine VbF ?_
      refine WL.nil (hK45 _ _ ?_)
      refine wp_cond_false rfl ?_
      refine wp_skip ?_
      refine hK44 _ _ ?_
      refine wp_seq_k fun K46 hK46 => rgn ?_
      refine VbT ?_
      refine WL.nil (hK46 _ _ ?_)
      refine wp_cond_true rfl ?_
      refine wp_seq_k fun K47 hK47 => ?_
      have JFd := Keep.mk JX.out.drew
      have Bd : Keep (Below w.heap.size w wX.drew) := ⟨HBX.out _ JFd.out⟩
      refine wp_region_held_drew (S := fun _ => True) (by kernel_rfl) trivial (fun hHeld => ?_)
      refine TkG (i := 0) (oi := ⟨some 132, Op.fieldAddr 31 (Operand.tmp 10) 1, 0, _, _, none⟩) (v := .pointer (some ⟨d, 1, none⟩)) rfl hHeld ?_
      refine TkG (i := 2) (oi := ⟨some 134, Op.move (Operand.tmp 0), 23, _, _, none⟩) (v := .slice (some ⟨b, off, none⟩) n cap) rfl hHeld ?_
      refine TkG (i := 3) (oi := ⟨some 135, Op.move (Operand.tmp 11), 3, _, _, none⟩) (v := .int .i64 (t : Int)) rfl hHeld ?_
      refine wpAnyH_ready (rs := [1, 4]) (by kernel_rfl) (by simp) ?_
      refine AllReadyH.cons (o := ⟨some 133, Op.load 29 (Operand.tmp 132), 29, _, _, none⟩) rfl (fun K hK => ?_) (AllReadyH.cons (o := ⟨some 136, Op.call { callee := Callee.value (Operand.func 32), args := #[Operand.tmp 134, Operand.tmp 135], argTypes := #[23, 3] }, 69, _, _, none⟩) rfl (fun K hK => ?_) AllReadyH.nil)
      all_goals rw [if_pos (by rfl)]
      ·have c_ : wX.drew.cell? ⟨d, 1, none⟩ = some vl := JFd.out.bd.c 1 rfl
       refine wp_val vl (by go_simp) ?_
       clear c_
       refine hK _ _ trivial fun hHl => ?_
       clear hK
       simp only [Act.put, pqA, pqB, pqC]
       refine wpAnyH_ready (rs := [4]) (by kernel_rfl) (by simp) ?_
       refine AllReadyH.cons (o := ⟨some 136, Op.call { callee := Callee.value (Operand.func 32), args := #[Operand.tmp 134, Operand.tmp 135], argTypes := #[23, 3] }, 69, _, _, none⟩) rfl (fun K hK => ?_) AllReadyH.nil
       rw [if_pos (by rfl)]
       refine wp_callF 32 _ _ rfl Try.in32 #[.slice (some ⟨b, off, none⟩) n cap, .int .i64 (t : Int)] (by simp [Act.eval]) (fun vz wz => ∃ x : LV, vz = .agg (lvA x) ∧ x.num = (t : Int) ∧ x.c.k = c.k ∧ x.c.s = c.s ∧ x.c.l = c.l ∧ Own wz x.c.v x.c.l ∧ wz.ownsRow wX.drew.heap.size 25 32 x.pv x.ps.length (flatH x.ps) ∧ x.ps.map hsL = pathL n L t ∧ Below wX.drew.heap.size wX.drew wz) ?_ ?_
       ·refine (lfo_any b off n cap t L c wX.drew hn htn hcap HN ⟨(HC.out.below Bd.out).mono Bd.out.size⟩ HF Hc ⟨HSz.out c (List.mem_of_getElem? Hc.out)⟩).mono ?_
        rintro e wz ⟨x, rfl, k1, k2, k3, k4, k5, k6, k7, k8⟩
        exact ⟨_, rfl, x, rfl, k1, k2, k3, k4, k5, k6, k7, k8⟩
       rintro vz wa ⟨x, rfl, k1, k2, k3, k4, k5, k6, k7, k8⟩
       have Oa := Keep.mk k5
       have Qa := Keep.mk (owns_zero k6)
       have Xa := Keep.mk (And.intro k1 (And.intro k2 (And.intro k3 (And.intro k4 k7))))
       have ba := Keep.mk k8
       have HX1 : Keep (∃ a n c, x.c.v = .slice a n c) := ⟨k5.sl⟩
       have HX2 : Keep (∃ a n c, x.pv = .slice a n c) := ⟨by obtain ⟨a, c, h⟩ := owns_sl k6; exact ⟨a, _, c, h⟩⟩
       clear k1 k2 k3 k4 k5 k6 k7 k8
       refine hK _ _ (trivial) fun hHa => ?_
       clear hK
       simp only [Act.put, pqA, pqB, pqC]
       refine wpAnyH_ready (rs := [5]) (by kernel_rfl) (by simp) ?_
       refine AllReadyH.cons (o := ⟨some 137, Op.buildSlice 29 1 #[(0, Operand.tmp 136)], 29, _, _, none⟩) rfl (fun K hK => ?_) AllReadyH.nil
       rw [if_pos (by rfl)]
       refine wp_bs 29 1 _ rfl #[(0, .agg (lvA x))] (by simp [Act.eval]) _ _ (bsLx x wa HX1.out HX2.out) ?_
       have bb := below_new wa (.cells (lvA x) 69)
       have Qb := Keep.mk (Blk.new wa 69 (lvA x))
       generalize wa.alloc (.cells (lvA x) 69) = wb at *
       obtain ⟨g, hg⟩ : ∃ z, Keep (z = wa.heap.size) := ⟨_, ⟨rfl⟩⟩
       rw [← hg.out] at Qb ⊢
       have Ob := Keep.mk (owns_below Oa.out bb)
       have Pb := Keep.mk (owns_below Qa.out bb)
       have bb2 : Keep (Below wX.drew.heap.size wX.drew wb) := ⟨ba.out.trans (bb.mono ba.out.size)⟩
       clear bb hg
       refine hK _ _ trivial fun hHc => ?_
       clear hK
       simp only [Act.put, pqA, pqB, pqC]
       refine wpAnyH_ready (rs := [6]) (by kernel_rfl) (by simp) ?_
       refine AllReadyH.cons (o := ⟨some 138, Op.call { callee := Callee.builtin Builtin.append, args := #[Operand.tmp 133, Operand.tmp 137], argTypes := #[29, 29] }, 29, _, _, none⟩) rfl (fun K hK => ?_) AllReadyH.nil
       rw [if_pos (by rfl)]
       refine wp_appLf (.tmp 133) (.tmp 137) rfl w4.heap.size vl u _ x g rfl rfl (owns_below JFd.out.own bb2.out) (blk_range Qb.out) (lv_one x HX1.out HX2.out) (by have := Hu1.out; omega) (Nat.le_trans JFd.out.gr.size bb2.out.size) ?_
       intro v9 wc k1 k2 k3
       have Oc := Keep.mk k1
       have Gc : Keep (Grown wb wc (fun k => vl.ownBlock = some k)) := ⟨k2⟩
       have hDc : Keep (Blk wc d 31 #[.int .i64 (n : Int), vl]) := ⟨k2.blk (JFd.out.bd.below bb2.out JFd.out.bd.lt) fun e => absurd ((owns_typ (owns_below JFd.out.own bb2.out) e).one (JFd.out.bd.below bb2.out JFd.out.bd.lt).typ) (by decide)⟩
       have f_o := hDc.out.frozen 1
       have c_o := hDc.out.c 1 (by rfl : (#[.int .i64 (n : Int), vl] : Array Value)[1]? = some vl)
       obtain ⟨za, zc, hv9⟩ := owns_sl k1
       subst hv9
       clear k1 k2 k3
       refine hK _ _ trivial fun hHd => ?_
       clear hK
       simp only [Act.put, pqA, pqB, pqC]
       refine TkG (i := 7) (oi := ⟨some 139, Op.fieldAddr 31 (Operand.tmp 10) 1, 0, _, _, none⟩) (v := .pointer (some ⟨d, 1, none⟩)) rfl hHd ?_
       refine wpAnyH_ready (rs := [8]) (by kernel_rfl) (by simp) ?_
       refine AllReadyH.cons (o := ⟨none, Op.store 29 (Operand.tmp 139) (Operand.tmp 138), 0, _, _, none⟩) rfl (fun K hK => ?_) AllReadyH.nil
       rw [if_pos (by rfl)]
       refine wp_cellS (wc.setCell ⟨d, 1, none⟩ (.slice za (u + 1) zc)) (by go_simp) ?_
       clear f_o c_o
       have JE : Keep (FI 0 w4 (wc.setCell ⟨d, 1, none⟩ (.slice za (u + 1) zc)) d n (.slice za (u + 1) zc) L ns (u + 1) (ls ++ [x])) := ⟨JFd.out.lay x t c wb wc _ bb2.out Ob.out Pb.out Oc.out Gc.out Hnu.out Hc.out Xa.out.1 Xa.out.2.1 Xa.out.2.2.1 Xa.out.2.2.2.1 (by rw [hn.out]; exact Xa.out.2.2.2.2)⟩
       generalize wc.setCell ⟨d, 1, none⟩ (.slice za (u + 1) zc) = wd at *
       clear hDc Gc Oc Pb Ob
       refine hK _ _ trivial fun hHe => ?_
       clear hK
       simp only [Act.put, pqA, pqB, pqC]
       refine wpAnyH_done (by kernel_rfl) ?_ _
       refine hK47 _ _ ?_
       refine wp_seq_k fun K48 hK48 => rgn ?_
       have Dr := Keep.mk JE.out.bd
       have Rr := Keep.mk (JE.out.gr.blk R4.out hrd.out)
       have Br : Keep (Below w.heap.size w wd) := ⟨HBX.out _ JE.out⟩
       refine WL.row (by kernel_rfl) 31 (.tmp 10) rfl d rfl 31 #[.int .i64 (n : Int), .slice za (u + 1) zc] _ Dr.out Try.underlying31 rfl (by rfl) ?_
       simp only [Act.put, pqA, pqB, pqC]
       refine WL.storeR (by kernel_rfl) 31 (.tmp 6) (.tmp 140) rfl r #[.int .i64 (n : Int), .slice za (u + 1) zc] rfl rfl 31 #[.int .i64 0, .slice none 0 0] Rr.out (by rfl) rfl (by simp [Value.oneCell']) ?_
       have R9 := Keep.mk (Rr.out.setRow #[.int .i64 (n : Int), .slice za (u + 1) zc])
       have B9 : Keep (Below w.heap.size w (wd.setRow r #[.int .i64 (n : Int), .slice za (u + 1) zc])) := ⟨below_setRow Br.out gr.out _⟩
       have g_ : Grown wd (wd.setRow r #[.int .i64 (n : Int), .slice za (u + 1) zc]) (fun k => k = r) := Grown.setRow _ r #[.int .i64 (n : Int), .slice za (u + 1) zc] fun _ => rfl
       have hall : ∀ {B T s n' : Nat} {v : Value} {xs : List Value}, wd.ownsRow B T s v n' xs → T ≠ 31 → (wd.setRow r #[.int .i64 (n : Int), .slice za (u + 1) zc]).ownsRow B T s v n' xs := fun h h2 => owns_grown h g_ fun k hk e => by
        subst e
        exact h2 ((owns_typ h hk).one Rr.out.typ)
       have LS9 : Keep (LsV (wd.setRow r #[.int .i64 (n : Int), .slice za (u + 1) zc]).heap.size (wd.setRow r #[.int .i64 (n : Int), .slice za (u + 1) zc]) (.slice za (u + 1) zc) (ls ++ [x])) := ⟨lsv_owns (B := w4.heap.size) (B' := 0) (by rw [JE.out.len]; exact hall JE.out.own (by decide)) fun x hx => ⟨hall (JE.out.rows x hx).1 (by decide), hall (JE.out.rows x hx).2 (by decide)⟩⟩
       clear hall g_
       generalize wd.setRow r #[.int .i64 (n : Int), .slice za (u + 1) zc] = w9 at *
       simp only [Act.put]
       refine VlS (.int .i64 0) ?_
       refine WL.nil (hK48 _ _ ?_)
       refine wp_ret ?_
       try simp only [Exit.inBlock, Exit.then]
       refine bodyPost_ret (v := .tuple #[.agg #[.int .i64 (n : Int), .slice za (u + 1) zc], .int .i64 0]) (results_cell_row2 Try.results13 _ _ r 31 _ (0, 0) _ _ rfl rfl R9.out Try.underlying31 rfl (by rfl)) rfl ⟨(n : Int), .slice za (u + 1) zc, (ls ++ [x]), 0, rfl, LS9.out, B9.out, (fun h => by rw [hkm] at h; cases h), (fun _ h => absurd hwi.out h), (fun _ _ => ⟨by rw [hn.out], rfl, (fun h => by rw [h] at hn; have := hn.out; simp at this; omega), fun _ => ⟨by rw [hn.out, hns.out, JE.out.len]; exact Hlen.out, by rw [hn.out, hns.out]; exact JE.out.is⟩⟩)⟩
      ·refine wp_callF 32 _ _ rfl Try.in32 #[.slice (some ⟨b, off, none⟩) n cap, .int .i64 (t : Int)] (by simp [Act.eval]) (fun vz wz => ∃ x : LV, vz = .agg (lvA x) ∧ x.num = (t : Int) ∧ x.c.k = c.k ∧ x.c.s = c.s ∧ x.c.l = c.l ∧ Own wz x.c.v x.c.l ∧ wz.ownsRow wX.drew.heap.size 25 32 x.pv x.ps.length (flatH x.ps) ∧ x.ps.map hsL = pathL n L t ∧ Below wX.drew.heap.size wX.drew wz) ?_ ?_
       ·refine (lfo_any b off n cap t L c wX.drew hn htn hcap HN ⟨(HC.out.below Bd.out).mono Bd.out.size⟩ HF Hc ⟨HSz.out c (List.mem_of_getElem? Hc.out)⟩).mono ?_
        rintro e wz ⟨x, rfl, k1, k2, k3, k4, k5, k6, k7, k8⟩
        exact ⟨_, rfl, x, rfl, k1, k2, k3, k4, k5, k6, k7, k8⟩
       rintro vz wa ⟨x, rfl, k1, k2, k3, k4, k5, k6, k7, k8⟩
       have Oa := Keep.mk k5
       have Qa := Keep.mk (owns_zero k6)
       have Xa := Keep.mk (And.intro k1 (And.intro k2 (And.intro k3 (And.intro k4 k7))))
       have ba := Keep.mk k8
       have HX1 : Keep (∃ a n c, x.c.v = .slice a n c) := ⟨k5.sl⟩
       have HX2 : Keep (∃ a n c, x.pv = .slice a n c) := ⟨by obtain ⟨a, c, h⟩ := owns_sl k6; exact ⟨a, _, c, h⟩⟩
       clear k1 k2 k3 k4 k5 k6 k7 k8
       refine hK _ _ (trivial) fun hHa => ?_
       clear hK
       simp only [Act.put, pqA, pqB, pqC]
       refine wpAnyH_ready (rs := [1, 5]) (by kernel_rfl) (by simp) ?_
       refine AllReadyH.cons (o := ⟨some 133, Op.load 29 (Operand.tmp 132), 29, _, _, none⟩) rfl (fun K hK => ?_) (AllReadyH.cons (o := ⟨some 137, Op.buildSlice 29 1 #[(0, Operand.tmp 136)], 29, _, _, none⟩) rfl (fun K hK => ?_) AllReadyH.nil)
       all_goals rw [if_pos (by rfl)]
       ·have c_ : wa.cell? ⟨d, 1, none⟩ = some vl := (JFd.out.bd.below ba.out JFd.out.bd.lt).c 1 rfl
        refine wp_val vl (by go_simp) ?_
        clear c_
        refine hK _ _ trivial fun hHl => ?_
        clear hK
        simp only [Act.put, pqA, pqB, pqC]
        refine wpAnyH_ready (rs := [5]) (by kernel_rfl) (by simp) ?_
        refine AllReadyH.cons (o := ⟨some 137, Op.buildSlice 29 1 #[(0, Operand.tmp 136)], 29, _, _, none⟩) rfl (fun K hK => ?_) AllReadyH.nil
        rw [if_pos (by rfl)]
        refine wp_bs 29 1 _ rfl #[(0, .agg (lvA x))] (by simp [Act.eval]) _ _ (bsLx x wa HX1.out HX2.out) ?_
        have bb := below_new wa (.cells (lvA x) 69)
        have Qb := Keep.mk (Blk.new wa 69 (lvA x))
        generalize wa.alloc (.cells (lvA x) 69) = wb at *
        obtain ⟨g, hg⟩ : ∃ z, Keep (z = wa.heap.size) := ⟨_, ⟨rfl⟩⟩
        rw [← hg.out] at Qb ⊢
        have Ob := Keep.mk (owns_below Oa.out bb)
        have Pb := Keep.mk (owns_below Qa.out bb)
        have bb2 : Keep (Below wX.drew.heap.size wX.drew wb) := ⟨ba.out.trans (bb.mono ba.out.size)⟩
        clear bb hg
        refine hK _ _ trivial fun hHc => ?_
        clear hK
        simp only [Act.put, pqA, pqB, pqC]
        refine wpAnyH_ready (rs := [6]) (by kernel_rfl) (by simp) ?_
        refine AllReadyH.cons (o := ⟨some 138, Op.call { callee := Callee.builtin Builtin.append, args := #[Operand.tmp 133, Operand.tmp 137], argTypes := #[29, 29] }, 29, _, _, none⟩) rfl (fun K hK => ?_) AllReadyH.nil
        rw [if_pos (by rfl)]
        refine wp_appLf (.tmp 133) (.tmp 137) rfl w4.heap.size vl u _ x g rfl rfl (owns_below JFd.out.own bb2.out) (blk_range Qb.out) (lv_one x HX1.out HX2.out) (by have := Hu1.out; omega) (Nat.le_trans JFd.out.gr.size bb2.out.size) ?_
        intro v9 wc k1 k2 k3
        have Oc := Keep.mk k1
        have Gc : Keep (Grown wb wc (fun k => vl.ownBlock = some k)) := ⟨k2⟩
        have hDc : Keep (Blk wc d 31 #[.int .i64 (n : Int), vl]) := ⟨k2.blk (JFd.out.bd.below bb2.out JFd.out.bd.lt) fun e => absurd ((owns_typ (owns_below JFd.out.own bb2.out) e).one (JFd.out.bd.below bb2.out JFd.out.bd.lt).typ) (by decide)⟩
        have f_o := hDc.out.frozen 1
        have c_o := hDc.out.c 1 (by rfl : (#[.int .i64 (n : Int), vl] : Array Value)[1]? = some vl)
        obtain ⟨za, zc, hv9⟩ := owns_sl k1
        subst hv9
        clear k1 k2 k3
        refine hK _ _ trivial fun hHd => ?_
        clear hK
        simp only [Act.put, pqA, pqB, pqC]
        refine TkG (i := 7) (oi := ⟨some 139, Op.fieldAddr 31 (Operand.tmp 10) 1, 0, _, _, none⟩) (v := .pointer (some ⟨d, 1, none⟩)) rfl hHd ?_
        refine wpAnyH_ready (rs := [8]) (by kernel_rfl) (by simp) ?_
        refine AllReadyH.cons (o := ⟨none, Op.store 29 (Operand.tmp 139) (Operand.tmp 138), 0, _, _, none⟩) rfl (fun K hK => ?_) AllReadyH.nil
        rw [if_pos (by rfl)]
        refine wp_cellS (wc.setCell ⟨d, 1, none⟩ (.slice za (u + 1) zc)) (by go_simp) ?_
        clear f_o c_o
        have JE : Keep (FI 0 w4 (wc.setCell ⟨d, 1, none⟩ (.slice za (u + 1) zc)) d n (.slice za (u + 1) zc) L ns (u + 1) (ls ++ [x])) := ⟨JFd.out.lay x t c wb wc _ bb2.out Ob.out Pb.out Oc.out Gc.out Hnu.out Hc.out Xa.out.1 Xa.out.2.1 Xa.out.2.2.1 Xa.out.2.2.2.1 (by rw [hn.out]; exact Xa.out.2.2.2.2)⟩
        generalize wc.setCell ⟨d, 1, none⟩ (.slice za (u + 1) zc) = wd at *
        clear hDc Gc Oc Pb Ob
        refine hK _ _ trivial fun hHe => ?_
        clear hK
        simp only [Act.put, pqA, pqB, pqC]
        refine wpAnyH_done (by kernel_rfl) ?_ _
        refine hK47 _ _ ?_
        refine wp_seq_k fun K49 hK49 => rgn ?_
        have Dr := Keep.mk JE.out.bd
        have Rr := Keep.mk (JE.out.gr.blk R4.out hrd.out)
        have Br : Keep (Below w.heap.size w wd) := ⟨HBX.out _ JE.out⟩
        refine WL.row (by kernel_rfl) 31 (.tmp 10) rfl d rfl 31 #[.int .i64 (n : Int), .slice za (u + 1) zc] _ Dr.out Try.underlying31 rfl (by rfl) ?_
        simp only [Act.put, pqA, pqB, pqC]
        refine WL.storeR (by kernel_rfl) 31 (.tmp 6) (.tmp 140) rfl r #[.int .i64 (n : Int), .slice za (u + 1) zc] rfl rfl 31 #[.int .i64 0, .slice none 0 0] Rr.out (by rfl) rfl (by simp [Value.oneCell']) ?_
        have R9 := Keep.mk (Rr.out.setRow #[.int .i64 (n : Int), .slice za (u + 1) zc])
        have B9 : Keep (Below w.heap.size w (wd.setRow r #[.int .i64 (n : Int), .slice za (u + 1) zc])) := ⟨below_setRow Br.out gr.out _⟩
        have g_ : Grown wd (wd.setRow r #[.int .i64 (n : Int), .slice za (u + 1) zc]) (fun k => k = r) := Grown.setRow _ r #[.int .i64 (n : Int), .slice za (u + 1) zc] fun _ => rfl
        have hall : ∀ {B T s n' : Nat} {v : Value} {xs : List Value}, wd.ownsRow B T s v n' xs → T ≠ 31 → (wd.setRow r #[.int .i64 (n : Int), .slice za (u + 1) zc]).ownsRow B T s v n' xs := fun h h2 => owns_grown h g_ fun k hk e => by
         subst e
         exact h2 ((owns_typ h hk).one Rr.out.typ)
        have LS9 : Keep (LsV (wd.setRow r #[.int .i64 (n : Int), .slice za (u + 1) zc]).heap.size (wd.setRow r #[.int .i64 (n : Int), .slice za (u + 1) zc]) (.slice za (u + 1) zc) (ls ++ [x])) := ⟨lsv_owns (B := w4.heap.size) (B' := 0) (by rw [JE.out.len]; exact hall JE.out.own (by decide)) fun x hx => ⟨hall (JE.out.rows x hx).1 (by decide), hall (JE.out.rows x hx).2 (by decide)⟩⟩
        clear hall g_
        generalize wd.setRow r #[.int .i64 (n : Int), .slice za (u + 1) zc] = w9 at *
        simp only [Act.put]
        refine VlS (.int .i64 0) ?_
        refine WL.nil (hK49 _ _ ?_)
        refine wp_ret ?_
        try simp only [Exit.inBlock, Exit.then]
        refine bodyPost_ret (v := .tuple #[.agg #[.int .i64 (n : Int), .slice za (u + 1) zc], .int .i64 0]) (results_cell_row2 Try.results13 _ _ r 31 _ (0, 0) _ _ rfl rfl R9.out Try.underlying31 rfl (by rfl)) rfl ⟨(n : Int), .slice za (u + 1) zc, (ls ++ [x]), 0, rfl, LS9.out, B9.out, (fun h => by rw [hkm] at h; cases h), (fun _ h => absurd hwi.out h), (fun _ _ => ⟨by rw [hn.out], rfl, (fun h => by rw [h] at hn; have := hn.out; simp at this; omega), fun _ => ⟨by rw [hn.out, hns.out, JE.out.len]; exact Hlen.out, by rw [hn.out, hns.out]; exact JE.out.is⟩⟩)⟩
       ·refine wp_bs 29 1 _ rfl #[(0, .agg (lvA x))] (by simp [Act.eval]) _ _ (bsLx x wa HX1.out HX2.out) ?_
        have bb := below_new wa (.cells (lvA x) 69)
        have Qb := Keep.mk (Blk.new wa 69 (lvA x))
        generalize wa.alloc (.cells (lvA x) 69) = wb at *
        obtain ⟨g, hg⟩ : ∃ z, Keep (z = wa.heap.size) := ⟨_, ⟨rfl⟩⟩
        rw [← hg.out] at Qb ⊢
        have Ob := Keep.mk (owns_below Oa.out bb)
        have Pb := Keep.mk (owns_below Qa.out bb)
        have bb2 : Keep (Below wX.drew.heap.size wX.drew wb) := ⟨ba.out.trans (bb.mono ba.out.size)⟩
        clear bb hg
        refine hK _ _ trivial fun hHc => ?_
        clear hK
        simp only [Act.put, pqA, pqB, pqC]
        refine wpAnyH_ready (rs := [1]) (by kernel_rfl) (by simp) ?_
        refine AllReadyH.cons (o := ⟨some 133, Op.load 29 (Operand.tmp 132), 29, _, _, none⟩) rfl (fun K hK => ?_) AllReadyH.nil
        rw [if_pos (by rfl)]
        have c_ : wb.cell? ⟨d, 1, none⟩ = some vl := (JFd.out.bd.below bb2.out JFd.out.bd.lt).c 1 rfl
        refine wp_val vl (by go_simp) ?_
        clear c_
        refine hK _ _ trivial fun hHl => ?_
        clear hK
        simp only [Act.put, pqA, pqB, pqC]
        refine wpAnyH_ready (rs := [6]) (by kernel_rfl) (by simp) ?_
        refine AllReadyH.cons (o := ⟨some 138, Op.call { callee := Callee.builtin Builtin.append, args := #[Operand.tmp 133, Operand.tmp 137], argTypes := #[29, 29] }, 29, _, _, none⟩) rfl (fun K hK => ?_) AllReadyH.nil
        rw [if_pos (by rfl)]
        refine wp_appLf (.tmp 133) (.tmp 137) rfl w4.heap.size vl u _ x g rfl rfl (owns_below JFd.out.own bb2.out) (blk_range Qb.out) (lv_one x HX1.out HX2.out) (by have := Hu1.out; omega) (Nat.le_trans JFd.out.gr.size bb2.out.size) ?_
        intro v9 wc k1 k2 k3
        have Oc := Keep.mk k1
        have Gc : Keep (Grown wb wc (fun k => vl.ownBlock = some k)) := ⟨k2⟩
        have hDc : Keep (Blk wc d 31 #[.int .i64 (n : Int), vl]) := ⟨k2.blk (JFd.out.bd.below bb2.out JFd.out.bd.lt) fun e => absurd ((owns_typ (owns_below JFd.out.own bb2.out) e).one (JFd.out.bd.below bb2.out JFd.out.bd.lt).typ) (by decide)⟩
        have f_o := hDc.out.frozen 1
        have c_o := hDc.out.c 1 (by rfl : (#[.int .i64 (n : Int), vl] : Array Value)[1]? = some vl)
        obtain ⟨za, zc, hv9⟩ := owns_sl k1
        subst hv9
        clear k1 k2 k3
        refine hK _ _ trivial fun hHd => ?_
        clear hK
        simp only [Act.put, pqA, pqB, pqC]
        refine TkG (i := 7) (oi := ⟨some 139, Op.fieldAddr 31 (Operand.tmp 10) 1, 0, _, _, none⟩) (v := .pointer (some ⟨d, 1, none⟩)) rfl hHd ?_
        refine wpAnyH_ready (rs := [8]) (by kernel_rfl) (by simp) ?_
        refine AllReadyH.cons (o := ⟨none, Op.store 29 (Operand.tmp 139) (Operand.tmp 138), 0, _, _, none⟩) rfl (fun K hK => ?_) AllReadyH.nil
        rw [if_pos (by rfl)]
        refine wp_cellS (wc.setCell ⟨d, 1, none⟩ (.slice za (u + 1) zc)) (by go_simp) ?_
        clear f_o c_o
        have JE : Keep (FI 0 w4 (wc.setCell ⟨d, 1, none⟩ (.slice za (u + 1) zc)) d n (.slice za (u + 1) zc) L ns (u + 1) (ls ++ [x])) := ⟨JFd.out.lay x t c wb wc _ bb2.out Ob.out Pb.out Oc.out Gc.out Hnu.out Hc.out Xa.out.1 Xa.out.2.1 Xa.out.2.2.1 Xa.out.2.2.2.1 (by rw [hn.out]; exact Xa.out.2.2.2.2)⟩
        generalize wc.setCell ⟨d, 1, none⟩ (.slice za (u + 1) zc) = wd at *
        clear hDc Gc Oc Pb Ob
        refine hK _ _ trivial fun hHe => ?_
        clear hK
        simp only [Act.put, pqA, pqB, pqC]
        refine wpAnyH_done (by kernel_rfl) ?_ _
        refine hK47 _ _ ?_
        refine wp_seq_k fun K50 hK50 => rgn ?_
        have Dr := Keep.mk JE.out.bd
        have Rr := Keep.mk (JE.out.gr.blk R4.out hrd.out)
        have Br : Keep (Below w.heap.size w wd) := ⟨HBX.out _ JE.out⟩
        refine WL.row (by kernel_rfl) 31 (.tmp 10) rfl d rfl 31 #[.int .i64 (n : Int), .slice za (u + 1) zc] _ Dr.out Try.underlying31 rfl (by rfl) ?_
        simp only [Act.put, pqA, pqB, pqC]
        refine WL.storeR (by kernel_rfl) 31 (.tmp 6) (.tmp 140) rfl r #[.int .i64 (n : Int), .slice za (u + 1) zc] rfl rfl 31 #[.int .i64 0, .slice none 0 0] Rr.out (by rfl) rfl (by simp [Value.oneCell']) ?_
        have R9 := Keep.mk (Rr.out.setRow #[.int .i64 (n : Int), .slice za (u + 1) zc])
        have B9 : Keep (Below w.heap.size w (wd.setRow r #[.int .i64 (n : Int), .slice za (u + 1) zc])) := ⟨below_setRow Br.out gr.out _⟩
        have g_ : Grown wd (wd.setRow r #[.int .i64 (n : Int), .slice za (u + 1) zc]) (fun k => k = r) := Grown.setRow _ r #[.int .i64 (n : Int), .slice za (u + 1) zc] fun _ => rfl
        have hall : ∀ {B T s n' : Nat} {v : Value} {xs : List Value}, wd.ownsRow B T s v n' xs → T ≠ 31 → (wd.setRow r #[.int .i64 (n : Int), .slice za (u + 1) zc]).ownsRow B T s v n' xs := fun h h2 => owns_grown h g_ fun k hk e => by
         subst e
         exact h2 ((owns_typ h hk).one Rr.out.typ)
        have LS9 : Keep (LsV (wd.setRow r #[.int .i64 (n : Int), .slice za (u + 1) zc]).heap.size (wd.setRow r #[.int .i64 (n : Int), .slice za (u + 1) zc]) (.slice za (u + 1) zc) (ls ++ [x])) := ⟨lsv_owns (B := w4.heap.size) (B' := 0) (by rw [JE.out.len]; exact hall JE.out.own (by decide)) fun x hx => ⟨hall (JE.out.rows x hx).1 (by decide), hall (JE.out.rows x hx).2 (by decide)⟩⟩
        clear hall g_
        generalize wd.setRow r #[.int .i64 (n : Int), .slice za (u + 1) zc] = w9 at *
        simp only [Act.put]
        refine VlS (.int .i64 0) ?_
        refine WL.nil (hK50 _ _ ?_)
        refine wp_ret ?_
        try simp only [Exit.inBlock, Exit.then]
        refine bodyPost_ret (v := .tuple #[.agg #[.int .i64 (n : Int), .slice za (u + 1) zc], .int .i64 0]) (results_cell_row2 Try.results13 _ _ r 31 _ (0, 0) _ _ rfl rfl R9.out Try.underlying31 rfl (by rfl)) rfl ⟨(n : Int), .slice za (u + 1) zc, (ls ++ [x]), 0, rfl, LS9.out, B9.out, (fun h => by rw [hkm] at h; cases h), (fun _ h => absurd hwi.out h), (fun _ _ => ⟨by rw [hn.out], rfl, (fun h => by rw [h] at hn; have := hn.out; simp at this; omega), fun _ => ⟨by rw [hn.out, hns.out, JE.out.len]; exact Hlen.out, by rw [hn.out, hns.out]; exact JE.out.is⟩⟩)⟩
     by_cases ht1 : t + 1 < n
     ·obtain rfl : la = false := by rw [← Hla.out]; simp; omega
      have ht1' : (t : Int) + 1 < (n : Int) := by omega
      have ht1a : 0 ≤ (t : Int) + 1 := by omega
      have ht1b : ¬ (n : Int) ≤ (t : Int) + 1 := by omega
      refine rgn ?_
      refine VbF ?_
      refine VbT ?_
      refine WL.nil (hK43 _ _ ?_)
      refine wp_cond_true rfl ?_
      obtain ⟨c2, Hc2⟩ : ∃ z, Keep (L[t + 1]? = some z) := ⟨L[t + 1]'(by rw [hn.out]; exact ht1), ⟨List.getElem?_eq_getElem _⟩⟩
      obtain ⟨av, hav⟩ : ∃ z, Keep (aheI c2.k c2.s kind key = z) := ⟨_, ⟨rfl⟩⟩
      have hS0 : Keep (∀ wx, Below w.heap.size w wx → (fun wx => wx.cell? ⟨b, off + (t + 1) * 3, none⟩ = some (.int .i64 c2.k) ∧ wx.cell? ⟨b, off + (t + 1) * 3 + 1, none⟩ = some (.string c2.s)) wx) := ⟨fun wx hb => ⟨((HC.out.below hb).c Hc2.out).1, ((HC.out.below hb).c Hc2.out).2.1⟩⟩
      have BE : Keep (Below w.heap.size w wq.drew) := ⟨HBX.out _ JQ.out.drew⟩
      refine wp_region_held_drew (S := fun wx => wx.cell? ⟨b, off + (t + 1) * 3, none⟩ = some (.int .i64 c2.k) ∧ wx.cell? ⟨b, off + (t + 1) * 3 + 1, none⟩ = some (.string c2.s)) (by kernel_rfl) (hS0.out _ BE.out) (fun hHeld => ?_)
      refine tkS (i := 0) (oi := ⟨some 78, Op.move (Operand.tmp 0), 23, _, _, none⟩) (v := .slice (some ⟨b, off, none⟩) n cap) rfl (Or.inl ⟨by rfl, fun w hS => by obtain ⟨hS1, hS2⟩ := hS; go_simp⟩) hHeld ?_
      refine tkS (i := 1) (oi := ⟨some 79, Op.move (Operand.tmp 11), 3, _, _, none⟩) (v := .int .i64 (t : Int)) rfl (Or.inl ⟨by rfl, fun w hS => by obtain ⟨hS1, hS2⟩ := hS; go_simp⟩) hHeld ?_
      refine tkS (i := 6) (oi := ⟨some 84, Op.move (Operand.tmp 0), 23, _, _, none⟩) (v := .slice (some ⟨b, off, none⟩) n cap) rfl (Or.inl ⟨by rfl, fun w hS => by obtain ⟨hS1, hS2⟩ := hS; go_simp⟩) hHeld ?_
      refine tkS (i := 7) (oi := ⟨some 85, Op.move (Operand.tmp 11), 3, _, _, none⟩) (v := .int .i64 (t : Int)) rfl (Or.inl ⟨by rfl, fun w hS => by obtain ⟨hS1, hS2⟩ := hS; go_simp⟩) hHeld ?_
      refine tkS (i := 12) (oi := ⟨some 90, Op.move (Operand.tmp 1), 3, _, _, none⟩) (v := .int .i64 kind) rfl (Or.inl ⟨by rfl, fun w hS => by obtain ⟨hS1, hS2⟩ := hS; go_simp⟩) hHeld ?_
      refine tkS (i := 13) (oi := ⟨some 91, Op.move (Operand.tmp 2), 9, _, _, none⟩) (v := .string key) rfl (Or.inl ⟨by rfl, fun w hS => by obtain ⟨hS1, hS2⟩ := hS; go_simp⟩) hHeld ?_
      refine tkS (i := 2) (oi := ⟨some 80, Op.binOp BinOp.add 3 (Operand.tmp 79) (Operand.const (Value.int IntKind.i64 1)) 3, 3, _, _, none⟩) (v := .int .i64 ((t + 1 : Nat) : Int)) rfl (Or.inl ⟨by rfl, fun w hS => by obtain ⟨hS1, hS2⟩ := hS; go_simp⟩) hHeld ?_
      refine tkS (i := 8) (oi := ⟨some 86, Op.binOp BinOp.add 3 (Operand.tmp 85) (Operand.const (Value.int IntKind.i64 1)) 3, 3, _, _, none⟩) (v := .int .i64 ((t + 1 : Nat) : Int)) rfl (Or.inl ⟨by rfl, fun w hS => by obtain ⟨hS1, hS2⟩ := hS; go_simp⟩) hHeld ?_
      refine tkS (i := 3) (oi := ⟨some 81, Op.indexAddr 23 (Operand.tmp 78) (Operand.tmp 80), 0, _, _, none⟩) (v := .pointer (some ⟨b, off + (t + 1) * 3, none⟩)) rfl (Or.inl ⟨by rfl, fun w hS => by obtain ⟨hS1, hS2⟩ := hS; go_simp⟩) hHeld ?_
      refine tkS (i := 9) (oi := ⟨some 87, Op.indexAddr 23 (Operand.tmp 84) (Operand.tmp 86), 0, _, _, none⟩) (v := .pointer (some ⟨b, off + (t + 1) * 3, none⟩)) rfl (Or.inl ⟨by rfl, fun w hS => by obtain ⟨hS1, hS2⟩ := hS; go_simp⟩) hHeld ?_
      refine tkS (i := 4) (oi := ⟨some 82, Op.fieldAddr 40 (Operand.tmp 81) 0, 0, _, _, none⟩) (v := .pointer (some ⟨b, off + (t + 1) * 3, none⟩)) rfl (Or.inl ⟨by rfl, fun w hS => by obtain ⟨hS1, hS2⟩ := hS; go_simp⟩) hHeld ?_
      refine tkS (i := 10) (oi := ⟨some 88, Op.fieldAddr 40 (Operand.tmp 87) 1, 0, _, _, none⟩) (v := .pointer (some ⟨b, off + (t + 1) * 3 + 1, none⟩)) rfl (Or.inl ⟨by rfl, fun w hS => by obtain ⟨hS1, hS2⟩ := hS; go_simp⟩) hHeld ?_
      refine tkS (i := 5) (oi := ⟨some 83, Op.load 3 (Operand.tmp 82), 3, _, _, none⟩) (v := .int .i64 c2.k) rfl (Or.inl ⟨by rfl, fun w hS => by obtain ⟨hS1, hS2⟩ := hS; go_simp⟩) hHeld ?_
      refine tkS (i := 11) (oi := ⟨some 89, Op.load 9 (Operand.tmp 88), 9, _, _, none⟩) (v := .string c2.s) rfl (Or.inl ⟨by rfl, fun w hS => by obtain ⟨hS1, hS2⟩ := hS; go_simp⟩) hHeld ?_
      refine wpAnyH_ready (rs := [14]) (by kernel_rfl) (by simp) ?_
      refine AllReadyH.cons (o := ⟨some 92, Op.call { callee := Callee.value (Operand.func 33), args := #[Operand.tmp 83, Operand.tmp 89, Operand.tmp 90, Operand.tmp 91], argTypes := #[3, 9, 3, 9] }, 4, _, _, none⟩) rfl (fun K hK => ?_) AllReadyH.nil
      rw [if_pos (by rfl)]
      refine wp_callF 33 _ _ rfl Try.in33 #[.int .i64 c2.k, .string c2.s, .int .i64 kind, .string key] (by simp [Act.eval]) (fun vz wz => vz = .bool (aheI c2.k c2.s kind key) ∧ wq.drew = wz) ((ahe_any c2.k c2.s kind key _).mono fun e w' ⟨h1, h2⟩ => ⟨_, h1, rfl, h2.symm⟩) ?_
      rintro _ wg ⟨rfl, hz⟩
      subst hz
      rw [hav.out]
      refine hK _ _ (hS0.out _ BE.out) fun hH2 => ?_
      clear hK
      simp only [Act.put, pqA, pqB, pqC]
      refine tkS (i := 15) (oi := ⟨some 93, Op.unOp UnOp.not 4 (Operand.tmp 92), 4, _, _, none⟩) (v := .bool (!av)) rfl (Or.inl ⟨by rfl, fun w hS => by obtain ⟨hS1, hS2⟩ := hS; go_simp⟩) hH2 ?_
      refine tkS (i := 16) (oi := ⟨some 14, Op.assign (Operand.tmp 93), 4, _, _, none⟩) (v := .bool (!av)) rfl (Or.inl ⟨by rfl, fun w hS => by obtain ⟨hS1, hS2⟩ := hS; go_simp⟩) hH2 ?_
      refine wpAnyH_done (by kernel_rfl) ?_ _
      exact rest17 _ _ _ _ _ _ _ _ _ _ _ _ _ _ _ _ _ _ _ _ JQ.out.drew
     ·obtain rfl : la = true := by rw [← Hla.out]; simp; omega
      refine rgn ?_
      refine VbT ?_
      refine VbF ?_
      refine WL.nil (hK43 _ _ ?_)
      refine wp_cond_false rfl ?_
      refine wp_skip ?_
      exact rest17 _ _ _ _ _ _ _ _ _ _ _ _ _ _ _ _ _ _ _ _ JQ.out
    by_cases hkk : c.k = kind
    ·have hkk' : (c.k == kind) = true := by simpa using hkk
     have hks : ¬ c.s = key := fun e => hno.out ⟨hkk, e⟩
     have hks' : ¬ c.s.toList = key.toList := fun e => hks (toL_inj e)
     refine rgn ?_
     refine VlS (.slice (some ⟨b, off, none⟩) n cap) ?_
     refine VlS (.int .i64 (t : Int)) ?_
     refine VlS (.pointer (some ⟨b, off + t * 3, none⟩)) ?_
     refine VlS (.pointer (some ⟨b, off + t * 3, none⟩)) ?_
     refine VlS (.int .i64 c.k) ?_
     refine VlS (.int .i64 kind) ?_
     refine VbT ?_
     refine VbT ?_
     refine VlS (.slice (some ⟨b, off, none⟩) n cap) ?_
     refine VlS (.int .i64 (t : Int)) ?_
     refine VlS (.pointer (some ⟨b, off + t * 3, none⟩)) ?_
     refine VlS (.pointer (some ⟨b, off + t * 3 + 1, none⟩)) ?_
     refine VlS (.string c.s) ?_
     refine VlS (.string key) ?_
     refine VbF ?_
     refine VbF ?_
     refine WL.nil (hK38 _ _ ?_)
     refine wp_cond_false rfl ?_
     refine wp_skip ?_
     exact rest11 _ _ _ _ _ _ _ _ _ _ _ _ _ _ _ _
    ·have hkk' : (c.k == kind) = false := by simpa using hkk
     refine rgn ?_
     refine VlS (.slice (some ⟨b, off, none⟩) n cap) ?_
     refine VlS (.int .i64 (t : Int)) ?_
     refine VlS (.pointer (some ⟨b, off + t * 3, none⟩)) ?_
     refine VlS (.pointer (some ⟨b, off + t * 3, none⟩)) ?_
     refine VlS (.int .i64 c.k) ?_
     refine VlS (.int .i64 kind) ?_
     refine VbF ?_
     refine VbF ?_
     refine SkS ?_
     refine SkS ?_
     refine SkS ?_
     refine SkS ?_
     refine SkS ?_
     refine SkS ?_
     refine SkS ?_
     refine VbF ?_
     refine WL.nil (hK38 _ _ ?_)
     refine wp_cond_false rfl ?_
     refine wp_skip ?_
     exact rest11 _ _ _ _ _ _ _ _ _ _ _ _ _ _ _ _
 ·have htn' : ¬ (t : Int) < (n : Int) := by omega
  have htn2 : t = n := by have := HA.out; omega
  obtain ⟨va, vc, hvl⟩ := owns_sl JF.out.own
  subst hvl
  have Hlen : Keep (u = ns.length) := ⟨by
   have hat : t = at_ := by have := HA.out; omega
   have hisf : (fndB L at_ kind key) = false := by
    cases e : (fndB L at_ kind key)
    ·rfl
    ·have := fndB_lt e; rw [hn.out] at this; omega
   rw [← hns.out, Hu.out, hisf]
   unfold fnd cntF
   have h0 : 0 < at_ := by omega
   have h1 : ¬ at_ < n := by omega
   have h2 : 0 < t := by omega
   simp [h0, h1, h2, hat]⟩
  refine wp_seq_k fun K51 hK51 => ?_
  refine wp_seq_k fun K52 hK52 => rgn ?_
  refine VlS (.int .i64 (t : Int)) ?_
  refine VlS (.slice (some ⟨b, off, none⟩) n cap) ?_
  refine VlS (.int .i64 (n : Int)) ?_
  refine VbF ?_
  refine WL.nil (hK52 _ _ ?_)
  refine wp_cond_false rfl ?_
  refine wp_exit ?_
  refine hK9 _ _ ?_
  refine wp_seq_k fun K53 hK53 => rgn ?_
  have Dr := Keep.mk JF.out.bd
  have Rr := Keep.mk (JF.out.gr.blk R4.out hrd.out)
  have Br : Keep (Below w.heap.size w wr) := ⟨HBX.out _ JF.out⟩
  refine WL.row (by kernel_rfl) 31 (.tmp 10) rfl d rfl 31 #[.int .i64 (n : Int), .slice va u vc] _ Dr.out Try.underlying31 rfl (by rfl) ?_
  simp only [Act.put, pqA, pqB, pqC]
  refine WL.storeR (by kernel_rfl) 31 (.tmp 6) (.tmp 141) rfl r #[.int .i64 (n : Int), .slice va u vc] rfl rfl 31 #[.int .i64 0, .slice none 0 0] Rr.out (by rfl) rfl (by simp [Value.oneCell']) ?_
  have R9 := Keep.mk (Rr.out.setRow #[.int .i64 (n : Int), .slice va u vc])
  have B9 : Keep (Below w.heap.size w (wr.setRow r #[.int .i64 (n : Int), .slice va u vc])) := ⟨below_setRow Br.out gr.out _⟩
  have g_ : Grown wr (wr.setRow r #[.int .i64 (n : Int), .slice va u vc]) (fun k => k = r) := Grown.setRow _ r #[.int .i64 (n : Int), .slice va u vc] fun _ => rfl
  have hall : ∀ {B T s n' : Nat} {v : Value} {xs : List Value}, wr.ownsRow B T s v n' xs → T ≠ 31 → (wr.setRow r #[.int .i64 (n : Int), .slice va u vc]).ownsRow B T s v n' xs := fun h h2 => owns_grown h g_ fun k hk e => by
   subst e
   exact h2 ((owns_typ h hk).one Rr.out.typ)
  have LS9 : Keep (LsV (wr.setRow r #[.int .i64 (n : Int), .slice va u vc]).heap.size (wr.setRow r #[.int .i64 (n : Int), .slice va u vc]) (.slice va u vc) ls) := ⟨lsv_owns (B := w4.heap.size) (B' := 0) (by rw [JF.out.len]; exact hall JF.out.own (by decide)) fun x hx => ⟨hall (JF.out.rows x hx).1 (by decide), hall (JF.out.rows x hx).2 (by decide)⟩⟩
  clear hall g_
  generalize wr.setRow r #[.int .i64 (n : Int), .slice va u vc] = w9 at *
  simp only [Act.put]
  refine VlS (.int .i64 0) ?_
  refine WL.nil (hK53 _ _ ?_)
  refine wp_ret ?_
  try simp only [Exit.inBlock, Exit.then]
  refine bodyPost_ret (v := .tuple #[.agg #[.int .i64 (n : Int), .slice va u vc], .int .i64 0]) (results_cell_row2 Try.results13 _ _ r 31 _ (0, 0) _ _ rfl rfl R9.out Try.underlying31 rfl (by rfl)) rfl ⟨(n : Int), .slice va u vc, ls, 0, rfl, LS9.out, B9.out, (fun h => by rw [hkm] at h; cases h), (fun _ h => absurd hwi.out h), (fun _ _ => ⟨by rw [hn.out], rfl, (fun h => by rw [h] at hn; have := hn.out; simp at this; omega), fun _ => ⟨by rw [hn.out, hns.out, JF.out.len]; exact Hlen.out, by rw [hn.out, hns.out]; exact JF.out.is⟩⟩)⟩
theorem dfd_any (v : Value) (L : List CV) (kind : Int) (key : ByteArray) (at_ : Nat) (w : World) (hC : CsV w.heap.size w v L) (hS : Sml L) (hN : L.length ≤ 1099511627776) (ha : at_ ≤ L.length) (hAt : wrongI L = 0 → ∀ (i : Nat) (c : CV), L[i]? = some c → (stI c.k c.s kind key < 0 ↔ i < at_)) : Calls Try.prog 13 #[v, .int .i64 kind, .string key] w (FdP L kind at_ key w) := by
 have hC0 := hC
 obtain ⟨la, cap, rfl⟩ : ∃ la cap, v = .slice la L.length cap := by
  rcases hC with ⟨a, c, rfl, rfl⟩ | ⟨b, off, cap, rfl, _⟩
  ·exact ⟨a, c, rfl⟩
  ·exact ⟨_, cap, rfl⟩
 cases hk : kmay kind
 ·exact dfd_kind la _ cap at_ L kind key w hk
 ·by_cases hW : wrongI L = 0
  ·by_cases h1 : 1 ≤ L.length
   ·rcases hC with ⟨a, c, e, rfl⟩ | ⟨b, off, cap', e, h2, h3⟩
    ·simp at h1
    ·injection e with e1 e2 e3
     subst e1 e3
     exact dfd_some b off _ cap at_ L _ kind key w hk ⟨hW⟩ ⟨rfl⟩ h1 h2 ⟨hN⟩ ⟨h3⟩ ⟨hC0⟩ ⟨fit_of (okK_of hW) hS⟩ ⟨ha⟩ ⟨hAt hW⟩ ⟨rfl⟩ ⟨fun c hc => by have := hS c hc; omega⟩
   ·have : L = [] := List.eq_nil_of_length_eq_zero (by omega)
    subst this
    exact dfd_none la cap at_ kind key w hk ⟨hC0⟩
  ·exact dfd_wrong la _ cap at_ L kind key w _ hk ⟨rfl⟩ hW ⟨hC0⟩ ⟨by omega⟩

end Go.Proofs.Ytjklmkeedhgncaa
