import Derived.Test.YtjklmkeedhgncaaA17
import Derived.Test.YtjklmkeedhgncaaA10
import Derived.Test.YtjklmkeedhgncaaA09
import Derived.Test.YtjklmkeedhgncaaRows
import Derived.Test.YtjklmkeedhgncaaA04
import Derived.ProofKit
import Derived.OpenShut
import Derived.ShutString
import Derived.ChangeOld
import Derived.Below
import Derived.SizedLaws
import Derived.Deep.Slices
import Derived.Deep.Strs
namespace Go.Proofs.Ytjklmkeedhgncaa
open Go.RowKit
set_option linter.unusedSimpArgs false
set_option linter.unusedVariables false
theorem walk_any (v : Value) (n kind : Int) (key : ByteArray) (ls : List LV) (root : Hs) (w : World) (hL : LsV w.heap.size w v ls) (hn : n < 9223372036854775808) (hSm : SmP ls) : Calls Try.prog 39 #[.agg (bytesA 32 root.f), .int .i64 kind, .string key, .agg (wtA n v)] w (WkP root n kind key ls w) := by
 obtain ⟨la, cap, rfl, hla⟩ := hL.form
 cases hk : kmay kind
 ·exact wk_kind la _ cap n kind key ls root w ⟨rfl⟩ hk
 ·by_cases h1 : n < 0
  ·exact wk_neg la _ cap n kind key ls root w ⟨rfl⟩ hk h1
  ·by_cases h2 : 2 < ls.length
   ·exact wk_many la _ cap n kind key ls root w ⟨rfl⟩ hk h1 h2
   ·by_cases h3 : n = 0
    ·subst h3
     by_cases h4 : ls = []
     ·subst h4
      cases hd : decide (shaH (2 :: (le8 0 ++ [])) = root)
      ·exact wk_zero_f la cap kind key root _ _ w hk ⟨rfl⟩ ⟨rfl⟩ ⟨hd⟩
      ·exact wk_zero_t la cap kind key root _ _ w hk ⟨rfl⟩ ⟨rfl⟩ ⟨hd⟩
     ·exact wk_mis0 la _ cap kind key ls root w ⟨rfl⟩ hk (fun e => h4 (List.length_eq_zero_iff.mp e)) h2
    ·by_cases h4 : ls = []
     ·subst h4
      exact wk_mis1 la cap n kind key root w hk h3 h1
     ·rcases hL with ⟨a, c, _, h⟩ | ⟨b, off, cap', hv, h5, h6⟩
      ·exact absurd h h4
      ·injection hv with e1 e2 e3
       subst e1 e3
       obtain ⟨m, rfl⟩ : ∃ m : Nat, n = (m : Int) := ⟨n.toNat, by omega⟩
       have h7 : 0 < ls.length := List.length_pos_iff.mpr h4
       exact wk_some b off _ cap m kind key ls root w hk ⟨rfl⟩ h7 (by omega) h5 (by omega) ⟨by omega⟩ ⟨hSm⟩ ⟨h6⟩
theorem chkI_one {root : Hs} {n kind : Int} {key : ByteArray} {ls : List LV} (h : chkI root n kind key ls = true) : ∃ x, ls = [x] := by
 unfold chkI at h
 rw [Bool.and_eq_true] at h
 have ht := h.2
 unfold tellB at ht
 split at ht
 ·exact ⟨_, rfl⟩
 ·cases ht
theorem wk_row {root : Hs} {n kind : Int} {key : ByteArray} {ls : List LV} {w : World} {v : Value} {c : CV} (hL : LsV w.heap.size w v ls) (h1 : chkI root n kind key ls = false → c = ⟨0, ByteArray.empty, .slice none 0 0, []⟩) (h2 : ∀ x, chkI root n kind key ls = true → ls = [x] → c = x.c) (wx : World) (hb : Below w.heap.size w wx) : RowAt wx c.v c.l := by
 cases h : chkI root n kind key ls
 ·rw [h1 h]; exact .inl ⟨rfl, rfl⟩
 ·obtain ⟨x, rfl⟩ := chkI_one h
  rw [h2 x h rfl]
  rcases hL.below hb with ⟨a, c, _, h⟩ | ⟨b, off, cap', hv, h5, h6⟩
  ·cases h
  ·exact (h6.lf x (by simp)).row
theorem cvA_one {w : World} {c : CV} (h : RowAt w c.v c.l) : (cvA c).all (·.oneCell') = true := by
 obtain ⟨a_, m_, e_⟩ := row_form h
 unfold cvA; rw [e_]; simp [Value.oneCell']
set_option maxRecDepth 8000 in
theorem dcheck_any (v : Value) (n kind : Int) (key : ByteArray) (ls : List LV) (root : Hs) (w : World) (hL : LsV w.heap.size w v ls) (hn : n < 9223372036854775808) (hSm : SmP ls) : Calls Try.prog 16 #[.agg (bytesA 32 root.f), .int .i64 kind, .string key, .agg (wtA n v)] w (CkP root n kind key ls w) := by
 have HL := Keep.mk hL
 have HN := Keep.mk hn
 have HP := Keep.mk hSm
 clear hL hn hSm
 go_enter Try.func16, Try.ntmps16
 refine wp_seq_k fun K1 hK1 => rgn ?_
 refine WL.box (by kernel_rfl) 25 (.tmp 0) rfl (bytesA 32 root.f) rfl ?_
 have Q1 := Keep.mk (Blk.new w 25 (bytesA 32 root.f))
 have b_ := below_new w (.cells (bytesA 32 root.f) 25)
 change WL _ _ _ _ _ (w.alloc (.cells (bytesA 32 root.f) 25))
 generalize w.alloc (.cells (bytesA 32 root.f) 25) = w1 at *
 obtain ⟨q, hq0⟩ : ∃ z, Keep (z = w.heap.size) := ⟨_, ⟨rfl⟩⟩
 rw [← hq0.out] at Q1 ⊢
 have B1 : Keep (Below w.heap.size w w1) := ⟨b_⟩
 have gq : Keep (w.heap.size ≤ q) := ⟨by rw [hq0.out]; exact Nat.le_refl _⟩
 clear b_
 simp only [Act.put, pqA, pqB, pqC]
 refine WL.box (by kernel_rfl) 31 (.tmp 3) rfl (wtA n v) rfl ?_
 have D2 := Keep.mk (Blk.new w1 31 (wtA n v))
 have b_ := below_new w1 (.cells (wtA n v) 31)
 change WL _ _ _ _ _ (w1.alloc (.cells (wtA n v) 31))
 generalize w1.alloc (.cells (wtA n v) 31) = w2 at *
 obtain ⟨d, hd0⟩ : ∃ z, Keep (z = w1.heap.size) := ⟨_, ⟨rfl⟩⟩
 rw [← hd0.out] at D2 ⊢
 have Q2 := Keep.mk (Q1.out.below b_ Q1.out.lt)
 have B2 : Keep (Below w.heap.size w w2) := ⟨B1.out.trans (b_.mono B1.out.size)⟩
 have gd : Keep (w.heap.size ≤ d) := ⟨by rw [hd0.out]; exact B1.out.size⟩
 clear b_
 simp only [Act.put, pqA, pqB, pqC]
 refine WL.new (by kernel_rfl) 40 rfl _ Try.newC ?_
 have R3 := Keep.mk (Blk.new w2 40 #[.int .i64 0, .string ByteArray.empty, .slice none 0 0])
 have b_ := below_new w2 (.cells #[.int .i64 0, .string ByteArray.empty, .slice none 0 0] 40)
 change WL _ _ _ _ _ (w2.alloc (.cells #[.int .i64 0, .string ByteArray.empty, .slice none 0 0] 40))
 generalize w2.alloc (.cells #[.int .i64 0, .string ByteArray.empty, .slice none 0 0] 40) = w3 at *
 obtain ⟨r, hr0⟩ : ∃ z, Keep (z = w2.heap.size) := ⟨_, ⟨rfl⟩⟩
 rw [← hr0.out] at R3 ⊢
 have Q3 := Keep.mk (Q2.out.below b_ Q2.out.lt)
 have D3 := Keep.mk (D2.out.below b_ D2.out.lt)
 have B3 : Keep (Below w.heap.size w w3) := ⟨B2.out.trans (b_.mono B2.out.size)⟩
 have gr : Keep (w.heap.size ≤ r) := ⟨by rw [hr0.out]; exact B2.out.size⟩
 clear b_
 simp only [Act.put, pqA, pqB, pqC]
 refine VbF ?_
 refine VlS (.int .i64 0) ?_
 refine WL.nil (hK1 _ _ ?_)
 refine wp_seq_k fun K2 hK2 => rgn ?_
 refine WL.row (by kernel_rfl) 25 (.tmp 4) rfl q rfl 25 (bytesA 32 root.f) _ Q3.out Try.underlying25 rfl (Try.size25B _) ?_
 simp only [Act.put, pqA, pqB, pqC]
 refine VlS (.int .i64 kind) ?_
 refine VlS (.string key) ?_
 refine WL.row (by kernel_rfl) 31 (.tmp 7) rfl d rfl 31 (wtA n v) _ D3.out Try.underlying31 rfl (by rfl) ?_
 simp only [Act.put, pqA, pqB, pqC]
 refine WL.callF (by kernel_rfl) 39 _ _ rfl Try.in39 #[.agg (bytesA 32 root.f), .int .i64 kind, .string key, .agg (wtA n v)] (by simp [Act.eval]) ?_
 refine (walk_any v n kind key ls root w3 ((HL.out.below B3.out).mono B3.out.size) HN.out HP.out).mono ?_
 rintro e w4 ⟨c, vr, rfl, k0, k1, k2, k3, k4⟩
 refine ⟨_, rfl, ?_⟩
 have H2 := Keep.mk k2
 have H3 := Keep.mk k3
 have R4 := Keep.mk (R3.out.below k1 R3.out.lt)
 have B4 : Keep (Below w.heap.size w w4) := ⟨B3.out.trans (k1.mono B3.out.size)⟩
 have HRw : Keep (∀ wx, Below w.heap.size w wx → RowAt wx c.v c.l) := ⟨wk_row HL.out k2 k3⟩
 clear k0 k1 k2 k3 k4
 simp only [Act.put, pqA, pqB, pqC]
 refine VlS (.tuple #[.agg (cvA c), .bool (chkI root n kind key ls), .int .i64 (chkE root n kind key ls), vr]) ?_
 refine VlS (.agg (cvA c)) ?_
 refine VlS (.bool (chkI root n kind key ls)) ?_
 refine VlS (.int .i64 (chkE root n kind key ls)) ?_
 refine VlS (vr) ?_
 refine WL.new (by kernel_rfl) 40 rfl _ Try.newC ?_
 have P5 := Keep.mk (Blk.new w4 40 #[.int .i64 0, .string ByteArray.empty, .slice none 0 0])
 have b_ := below_new w4 (.cells #[.int .i64 0, .string ByteArray.empty, .slice none 0 0] 40)
 change WL _ _ _ _ _ (w4.alloc (.cells #[.int .i64 0, .string ByteArray.empty, .slice none 0 0] 40))
 generalize w4.alloc (.cells #[.int .i64 0, .string ByteArray.empty, .slice none 0 0] 40) = w5 at *
 obtain ⟨p, hp0⟩ : ∃ z, Keep (z = w4.heap.size) := ⟨_, ⟨rfl⟩⟩
 rw [← hp0.out] at P5 ⊢
 have R5 := Keep.mk (R4.out.below b_ R4.out.lt)
 have B5 : Keep (Below w.heap.size w w5) := ⟨B4.out.trans (b_.mono B4.out.size)⟩
 have gp : Keep (w.heap.size ≤ p) := ⟨by rw [hp0.out]; exact B4.out.size⟩
 clear b_
 have hrp : Keep (r ≠ p) := ⟨by have := R4.out.lt; have := hp0.out; omega⟩
 simp only [Act.put, pqA, pqB, pqC]
 refine WL.storeR (by kernel_rfl) 40 (.tmp 11) (.tmp 21) rfl p (cvA c) rfl rfl 40 #[.int .i64 0, .string ByteArray.empty, .slice none 0 0] P5.out (Try.sizeC _ _ _) rfl (cvA_one (HRw.out w (Below.refl _ _))) ?_
 have P6 := Keep.mk (P5.out.setRow (cvA c))
 have B6 : Keep (Below w.heap.size w (w5.setRow p (cvA c))) := ⟨below_setRow B5.out gp.out _⟩
 have R6 := Keep.mk (R5.out.setRow_ne hrp.out (cvA c))
 generalize w5.setRow p (cvA c) = w6 at *
 simp only [Act.put]
 refine VlS (.bool (chkI root n kind key ls)) ?_
 refine VlS (.int .i64 (chkE root n kind key ls)) ?_
 refine VlS (vr) ?_
 refine WL.nil (hK2 _ _ ?_)
 refine wp_seq_k fun K3 hK3 => rgn ?_
 refine WL.row (by kernel_rfl) 40 (.tmp 11) rfl p rfl 40 (cvA c) _ P6.out Try.underlying40 rfl (Try.sizeC _ _ _) ?_
 simp only [Act.put, pqA, pqB, pqC]
 refine VlS (.bool (chkI root n kind key ls)) ?_
 refine VlS (.int .i64 (chkE root n kind key ls)) ?_
 refine WL.storeR (by kernel_rfl) 40 (.tmp 8) (.tmp 25) rfl r (cvA c) rfl rfl 40 #[.int .i64 0, .string ByteArray.empty, .slice none 0 0] R6.out (Try.sizeC _ _ _) rfl (cvA_one (HRw.out w (Below.refl _ _))) ?_
 have R7 := Keep.mk (R6.out.setRow (cvA c))
 have B7 : Keep (Below w.heap.size w (w6.setRow r (cvA c))) := ⟨below_setRow B6.out gr.out _⟩
 generalize w6.setRow r (cvA c) = w7 at *
 simp only [Act.put]
 refine VlS (.bool (chkI root n kind key ls)) ?_
 refine VlS (.int .i64 (chkE root n kind key ls)) ?_
 refine WL.nil (hK3 _ _ ?_)
 refine wp_ret ?_
 try simp only [Exit.inBlock, Exit.then]
 refine bodyPost_ret (v := .tuple #[.agg (cvA c), .bool (chkI root n kind key ls), .int .i64 (chkE root n kind key ls)]) (results_cell_row3 Try.results16 _ _ r 40 _ (0, 0) _ _ _ rfl rfl rfl R7.out Try.underlying40 rfl (Try.sizeC _ _ _)) rfl ⟨c, rfl, HRw.out _ B7.out, B7.out, H2.out, fun x a b => by rw [H3.out x a b]; exact ⟨rfl, rfl, rfl⟩⟩
def heldA (root : Hs) (kind : Int) (key : ByteArray) (n : Int) (v : Value) : Array Value := bytesA 32 root.f ++ #[.int .i64 kind, .string key, .int .i64 n, v]
theorem held_rng {w : World} {x : Nat} {ga : Array Value} {root : Hs} {kind : Int} {key : ByteArray} {n : Int} {v : Value} (hga : ga = heldA root kind key n v) (h : Blk w x 37 ga) : w.rangeAt x 0 (bytesA 32 root.f).toList ∧ w.cell? ⟨x, 32, none⟩ = some (.int .i64 kind) ∧ w.cell? ⟨x, 33, none⟩ = some (.string key) ∧ w.rangeAt x 34 (wtA n v).toList := by
 have hz : (bytesA 32 root.f).size = 32 := bytesA_size _ _
 have hr := blk_range h
 subst hga
 have hg : ∀ j u, (#[.int .i64 kind, .string key, .int .i64 n, v] : Array Value)[j]? = some u → w.cell? ⟨x, 32 + j, none⟩ = some u := fun j u hu => by
  have e := hr (32 + j) u (by rw [Array.getElem?_toList]; unfold heldA; rw [Array.getElem?_append_right (by omega)]; rw [hz, Nat.add_sub_cancel_left]; exact hu)
  rw [Nat.zero_add] at e
  exact e
 refine ⟨fun j u hu => hr j u ?_, hg 0 _ rfl, hg 1 _ rfl, fun j u hu => ?_⟩
 ·have hj : j < 32 := by
   obtain ⟨h1, _⟩ := List.getElem?_eq_some_iff.mp hu
   rw [Array.length_toList, hz] at h1; exact h1
  rw [Array.getElem?_toList] at hu ⊢
  unfold heldA
  rw [Array.getElem?_append_left (by omega)]
  exact hu
 ·match j, hu with
  | 0, hu => exact hg 2 u hu
  | 1, hu => exact hg 3 u hu
  | j + 2, hu => simp [wtA] at hu
set_option maxRecDepth 8000 in
theorem checks_any (ga : Array Value) (v : Value) (n kind : Int) (key : ByteArray) (ls : List LV) (root : Hs) (w : World) (hga : Keep (ga = heldA root kind key n v)) (hL : LsV w.heap.size w v ls) (hn : n < 9223372036854775808) (hSm : SmL ls) (hSp : SmP ls) : Calls Try.prog 5 #[.agg ga] w fun e w' => e = .returned (.bool true) ∧ Below w.heap.size w w' := by
 have HL := Keep.mk hL
 have HN := Keep.mk hn
 have HS := Keep.mk hSm
 have HP := Keep.mk hSp
 clear hL hn hSm hSp
 go_enter Try.func5, Try.ntmps5
 refine wp_seq_k fun K1 hK1 => rgn ?_
 refine WL.box (by kernel_rfl) 37 (.tmp 0) rfl ga rfl ?_
 have X1 := Keep.mk (Blk.new w 37 ga)
 have b_ := below_new w (.cells ga 37)
 change WL _ _ _ _ _ (w.alloc (.cells ga 37))
 generalize w.alloc (.cells ga 37) = w1 at *
 obtain ⟨x, hx0⟩ : ∃ z, Keep (z = w.heap.size) := ⟨_, ⟨rfl⟩⟩
 rw [← hx0.out] at X1 ⊢
 have B1 : Keep (Below w.heap.size w w1) := ⟨b_⟩
 have gx : Keep (w.heap.size ≤ x) := ⟨by rw [hx0.out]; exact Nat.le_refl _⟩
 clear b_
 have HXr : Keep (∀ wx, Below w1.heap.size w1 wx → wx.rangeAt x 0 (bytesA 32 root.f).toList ∧ wx.cell? ⟨x, 32, none⟩ = some (.int .i64 kind) ∧ wx.cell? ⟨x, 33, none⟩ = some (.string key) ∧ wx.rangeAt x 34 (wtA n v).toList) := ⟨fun wx hb => held_rng hga.out (X1.out.below hb X1.out.lt)⟩
 have W1 : Keep (Below w1.heap.size w1 w1) := ⟨Below.refl _ _⟩
 obtain ⟨-, m32, m33, -⟩ := HXr.out _ W1.out
 simp only [Act.put, pqA, pqB, pqC]
 refine VbF ?_
 refine WL.nil (hK1 _ _ ?_)
 refine wp_seq_k fun K2 hK2 => rgn ?_
 refine VlS (.pointer (some ⟨x, 0, none⟩)) ?_
 refine WL.midA (by kernel_rfl) 25 (.tmp 10) rfl x 0 rfl (bytesA 32 root.f) _ (HXr.out _ W1.out).1 Try.underlying25 rfl (Try.size25B _) ?_
 simp only [Act.put, pqA, pqB, pqC]
 refine VlS (.pointer (some ⟨x, 32, none⟩)) ?_
 refine VlS (.int .i64 kind) ?_
 refine VlS (.pointer (some ⟨x, 33, none⟩)) ?_
 refine VlS (.string key) ?_
 refine VlS (.pointer (some ⟨x, 34, none⟩)) ?_
 refine WL.midA (by kernel_rfl) 31 (.tmp 16) rfl x 34 rfl (wtA n v) _ (HXr.out _ W1.out).2.2.2 Try.underlying31 rfl (by rfl) ?_
 simp only [Act.put, pqA, pqB, pqC]
 refine WL.callF (by kernel_rfl) 15 _ _ rfl Try.in15 #[.agg (bytesA 32 root.f), .int .i64 kind, .string key, .agg (wtA n v)] (by simp [Act.eval]) ?_
 refine (pcheck_any v n kind key ls root w1 ((HL.out.below B1.out).mono B1.out.size) HN.out HS.out).mono ?_
 rintro e w2 ⟨c, rfl, k0, k1, k2, k3⟩
 refine ⟨_, rfl, ?_⟩
 have C2 := Keep.mk k0
 have H2 := Keep.mk k2
 have H3 := Keep.mk k3
 have W2 := Keep.mk k1
 have B2 : Keep (Below w.heap.size w w2) := ⟨B1.out.trans (k1.mono B1.out.size)⟩
 clear k0 k1 k2 k3 m32 m33
 simp only [Act.put, pqA, pqB, pqC]
 refine VlS (.tuple #[.agg (cvA c), .bool (chkI root n kind key ls), .int .i64 (chkE root n kind key ls)]) ?_
 refine VlS (.agg (cvA c)) ?_
 refine VlS (.bool (chkI root n kind key ls)) ?_
 refine VlS (.int .i64 (chkE root n kind key ls)) ?_
 refine WL.new (by kernel_rfl) 40 rfl _ Try.newC ?_
 have P3 := Keep.mk (Blk.new w2 40 #[.int .i64 0, .string ByteArray.empty, .slice none 0 0])
 have b_ := below_new w2 (.cells #[.int .i64 0, .string ByteArray.empty, .slice none 0 0] 40)
 change WL _ _ _ _ _ (w2.alloc (.cells #[.int .i64 0, .string ByteArray.empty, .slice none 0 0] 40))
 generalize w2.alloc (.cells #[.int .i64 0, .string ByteArray.empty, .slice none 0 0] 40) = w3 at *
 obtain ⟨p, hp0⟩ : ∃ z, Keep (z = w2.heap.size) := ⟨_, ⟨rfl⟩⟩
 rw [← hp0.out] at P3 ⊢
 have B3 : Keep (Below w.heap.size w w3) := ⟨B2.out.trans (b_.mono B2.out.size)⟩
 have gp : Keep (w.heap.size ≤ p) := ⟨by rw [hp0.out]; exact B2.out.size⟩
 have bb_ := b_
 clear b_
 have n3 : Keep (Below w2.heap.size w2 w3) := ⟨bb_⟩
 clear bb_
 simp only [Act.put, pqA, pqB, pqC]
 refine WL.storeR (by kernel_rfl) 40 (.tmp 3) (.tmp 19) rfl p (cvA c) rfl rfl 40 #[.int .i64 0, .string ByteArray.empty, .slice none 0 0] P3.out (Try.sizeC _ _ _) rfl (cvA_one C2.out) ?_
 have P4 := Keep.mk (P3.out.setRow (cvA c))
 have B4 : Keep (Below w.heap.size w (w3.setRow p (cvA c))) := ⟨below_setRow B3.out gp.out _⟩
 have C4 : Keep (RowAt (w3.setRow p (cvA c)) c.v c.l) := ⟨C2.out.below (below_setRow n3.out (by rw [hp0.out]; exact Nat.le_refl _) _)⟩
 have W4 : Keep (Below w1.heap.size w1 (w3.setRow p (cvA c))) := ⟨W2.out.trans ((below_setRow n3.out (by rw [hp0.out]; exact Nat.le_refl _) _).mono W2.out.size)⟩
 generalize w3.setRow p (cvA c) = w4 at *
 clear n3
 obtain ⟨-, m32, m33, -⟩ := HXr.out _ W4.out
 simp only [Act.put]
 refine VlS (.bool (chkI root n kind key ls)) ?_
 refine VlS (.int .i64 (chkE root n kind key ls)) ?_
 refine WL.nil (hK2 _ _ ?_)
 refine wp_seq_k fun K3 hK3 => rgn ?_
 refine VlS (.pointer (some ⟨x, 0, none⟩)) ?_
 refine WL.midA (by kernel_rfl) 25 (.tmp 23) rfl x 0 rfl (bytesA 32 root.f) _ (HXr.out _ W4.out).1 Try.underlying25 rfl (Try.size25B _) ?_
 simp only [Act.put, pqA, pqB, pqC]
 refine VlS (.pointer (some ⟨x, 32, none⟩)) ?_
 refine VlS (.int .i64 kind) ?_
 refine VlS (.pointer (some ⟨x, 33, none⟩)) ?_
 refine VlS (.string key) ?_
 refine VlS (.pointer (some ⟨x, 34, none⟩)) ?_
 refine WL.midA (by kernel_rfl) 31 (.tmp 29) rfl x 34 rfl (wtA n v) _ (HXr.out _ W4.out).2.2.2 Try.underlying31 rfl (by rfl) ?_
 simp only [Act.put, pqA, pqB, pqC]
 refine WL.callF (by kernel_rfl) 16 _ _ rfl Try.in16 #[.agg (bytesA 32 root.f), .int .i64 kind, .string key, .agg (wtA n v)] (by simp [Act.eval]) ?_
 refine (dcheck_any v n kind key ls root w4 ((HL.out.below B4.out).mono B4.out.size) HN.out HP.out).mono ?_
 rintro e w5 ⟨c2, rfl, k0, k1, k2, k3⟩
 refine ⟨_, rfl, ?_⟩
 have D5 := Keep.mk k0
 have C5 := Keep.mk (C4.out.below k1)
 have P5 := Keep.mk (P4.out.below k1 P4.out.lt)
 have HSa : Keep (sameC c c2 = true) := ⟨by
  cases h : chkI root n kind key ls
  ·rw [H2.out h, k2 h]; rfl
  ·obtain ⟨x, hx⟩ := chkI_one h
   obtain ⟨a1, a2, a3⟩ := H3.out x h hx
   obtain ⟨b1, b2, b3⟩ := k3 x h hx
   unfold sameC
   rw [a1, a2, a3, b1, b2, b3]
   simp⟩
 have B5 : Keep (Below w.heap.size w w5) := ⟨B4.out.trans (k1.mono B4.out.size)⟩
 clear k0 k1 k2 k3 m32 m33
 simp only [Act.put, pqA, pqB, pqC]
 refine VlS (.tuple #[.agg (cvA c2), .bool (chkI root n kind key ls), .int .i64 (chkE root n kind key ls)]) ?_
 refine VlS (.agg (cvA c2)) ?_
 refine VlS (.bool (chkI root n kind key ls)) ?_
 refine VlS (.int .i64 (chkE root n kind key ls)) ?_
 refine WL.new (by kernel_rfl) 40 rfl _ Try.newC ?_
 have Q6 := Keep.mk (Blk.new w5 40 #[.int .i64 0, .string ByteArray.empty, .slice none 0 0])
 have b_ := below_new w5 (.cells #[.int .i64 0, .string ByteArray.empty, .slice none 0 0] 40)
 change WL _ _ _ _ _ (w5.alloc (.cells #[.int .i64 0, .string ByteArray.empty, .slice none 0 0] 40))
 generalize w5.alloc (.cells #[.int .i64 0, .string ByteArray.empty, .slice none 0 0] 40) = w6 at *
 obtain ⟨q, hq0⟩ : ∃ z, Keep (z = w5.heap.size) := ⟨_, ⟨rfl⟩⟩
 rw [← hq0.out] at Q6 ⊢
 have P6 := Keep.mk (P5.out.below b_ P5.out.lt)
 have B6 : Keep (Below w.heap.size w w6) := ⟨B5.out.trans (b_.mono B5.out.size)⟩
 have gq : Keep (w.heap.size ≤ q) := ⟨by rw [hq0.out]; exact B5.out.size⟩
 have bb_ := b_
 clear b_
 have n6 : Keep (Below w5.heap.size w5 w6) := ⟨bb_⟩
 clear bb_
 have hpq : Keep (p ≠ q) := ⟨by have := P5.out.lt; have := hq0.out; omega⟩
 simp only [Act.put, pqA, pqB, pqC]
 refine WL.storeR (by kernel_rfl) 40 (.tmp 6) (.tmp 32) rfl q (cvA c2) rfl rfl 40 #[.int .i64 0, .string ByteArray.empty, .slice none 0 0] Q6.out (Try.sizeC _ _ _) rfl (cvA_one D5.out) ?_
 have Q7 := Keep.mk (Q6.out.setRow (cvA c2))
 have P7 := Keep.mk (P6.out.setRow_ne hpq.out (cvA c2))
 have B7 : Keep (Below w.heap.size w (w6.setRow q (cvA c2))) := ⟨below_setRow B6.out gq.out _⟩
 have b7 := below_setRow n6.out (by rw [hq0.out]; exact Nat.le_refl _ : w5.heap.size ≤ q) (cvA c2)
 have C7 := Keep.mk (C5.out.below b7)
 have D7 := Keep.mk (D5.out.below b7)
 clear b7
 generalize w6.setRow q (cvA c2) = w7 at *
 clear n6
 simp only [Act.put]
 refine VlS (.bool (chkI root n kind key ls)) ?_
 refine VlS (.int .i64 (chkE root n kind key ls)) ?_
 refine WL.nil (hK3 _ _ ?_)
 refine wp_seq_k fun K4 hK4 => rgn ?_
 refine WL.row (by kernel_rfl) 40 (.tmp 3) rfl p rfl 40 (cvA c) _ P7.out Try.underlying40 rfl (Try.sizeC _ _ _) ?_
 simp only [Act.put, pqA, pqB, pqC]
 refine WL.row (by kernel_rfl) 40 (.tmp 6) rfl q rfl 40 (cvA c2) _ Q7.out Try.underlying40 rfl (Try.sizeC _ _ _) ?_
 simp only [Act.put, pqA, pqB, pqC]
 refine WL.callF (by kernel_rfl) 17 _ _ rfl Try.in17 #[.agg (cvA c), .agg (cvA c2)] (by simp [Act.eval]) ?_
 refine (sameC_any c c2 w7 C7.out D7.out).mono ?_
 rintro e w8 ⟨rfl, k1⟩
 refine ⟨_, rfl, ?_⟩
 rw [HSa.out]
 have B8 : Keep (Below w.heap.size w w8) := ⟨B7.out.trans (k1.mono B7.out.size)⟩
 clear k1
 simp only [Act.put, pqA, pqB, pqC]
 refine VbT ?_
 refine VlS (.bool (chkI root n kind key ls)) ?_
 refine VlS (.bool (chkI root n kind key ls)) ?_
 refine VbT ?_
 refine VbT ?_
 refine VbT ?_
 refine VlS (.int .i64 (chkE root n kind key ls)) ?_
 refine VlS (.int .i64 (chkE root n kind key ls)) ?_
 refine VbT ?_
 refine VbT ?_
 refine VbT ?_
 refine WL.callF (by kernel_rfl) 9 _ _ rfl Try.in9 #[] (by simp) ?_
 refine (fixed_any w8).mono ?_
 rintro e w9 ⟨rfl, k1⟩
 refine ⟨_, rfl, ?_⟩
 have B9 : Keep (Below w.heap.size w w9) := ⟨B8.out.trans (k1.mono B8.out.size)⟩
 clear k1
 simp only [Act.put, pqA, pqB, pqC]
 refine VbT ?_
 refine VbT ?_
 refine WL.nil (hK4 _ _ ?_)
 refine wp_ret ?_
 go_ret
 exact ⟨rfl, B9.out⟩

end Go.Proofs.Ytjklmkeedhgncaa
namespace Go.Proofs.Ytjklmkeedhgncaa
open Go.ChangeShapes Go.WideShapes Go.ChangeAt Go.RowKit Go.Deep
set_option linter.unusedSimpArgs false
set_option linter.unusedVariables false
theorem Try.cellsOf3 : Try.prog.cellsOf 3 = 1 := by kernel_rfl
theorem Try.cellsOf9 : Try.prog.cellsOf 9 = 1 := by kernel_rfl
theorem Try.cellsOf5 : Try.prog.cellsOf 5 = 1 := by kernel_rfl
theorem Try.cellsOf38 : Try.prog.cellsOf 38 = 1 := by kernel_rfl
theorem Try.cellsOf67 : Try.prog.cellsOf 67 = 1 := by kernel_rfl
theorem Try.cellsOf25 : Try.prog.cellsOf 25 = 32 := by kernel_rfl
theorem Try.cellsOf40 : Try.prog.cellsOf 40 = 3 := by kernel_rfl
theorem Try.bytesOf5 : Try.prog.bytesOf 5 = 1 := by kernel_rfl
theorem reach_is : reachBytes = 140737488351232 := by decide
theorem add_none' (b o i : Nat) : (⟨b, o, none⟩ : Addr).add i = ⟨b, o + i, none⟩ := by
 cases i with
 | zero => rfl
 | succ i => rfl
theorem wf_u8 {n : Int} (h : (Lit.int .u8 n).wf = true) : 0 ≤ n ∧ n < 256 := by
 have h1 : IntKind.u8.min = 0 := by decide
 have h2 : IntKind.u8.max = 255 := by decide
 simp only [Lit.wf, h1, h2, Bool.and_eq_true, decide_eq_true_eq] at h
 omega
theorem wf_i64 {n : Int} (h : (Lit.int .i64 n).wf = true) : -9223372036854775808 ≤ n ∧ n ≤ 9223372036854775807 := by
 have h1 : IntKind.i64.min = -9223372036854775808 := by decide
 have h2 : IntKind.i64.max = 9223372036854775807 := by decide
 simp only [Lit.wf, h1, h2, Bool.and_eq_true, decide_eq_true_eq] at h
 omega

theorem row_of_trod {H : Type} {enc : TypeId × Value → H} {W : World} {sp : Nat → Bool} {held : Bool} {n base : Nat} {v : Value} {x : DataW H × List MemPlace} (hf : DataW.trod enc Try.prog W base sp held n 38 [v] = some x) (hw : ∀ n ∈ x.1.weights Try.prog 38, n ≤ reachBytes) :
  ∃ l : List Int, RowAt W v l ∧ Byts l ∧ l.length ≤ 140737488351232 := by
 rcases open_ints Try.underlying38 Try.underlying5 Try.cellsOf5 hf with ⟨hcs, _⟩ | ⟨a, len, cap, zs, hcs, _, hl, hm, hz, hx, hcell, hwz⟩
 ·simp at hcs
  subst hcs
  exact ⟨[], .inl ⟨rfl, rfl⟩, Byts.nil, by simp⟩
 ·simp at hcs
  subst hcs
  unfold maxLen at hm
  have hlz : len ≤ zs.length := by rw [hz]; split <;> omega
  have hbz : Byts zs := fun c hc => wf_u8 (hwz c hc)
  have hb : len ≤ 140737488351232 := by
   have h1 := hw ((zs.take len).length + (zs.drop len).length) (by
    rw [hx]
    simp only [DataW.weights, Try.underlying38]
    simp [lits, Try.bytesOf5])
   rw [List.length_take, reach_is] at h1
   omega
  by_cases h0 : len = 0
  ·subst h0
   exact ⟨[], .inr (.inl ⟨a, cap, rfl, rfl⟩), Byts.nil, by simp⟩
  ·have hs : a.spot = none := by
    have := hcell 0 (by omega)
    rw [show a.add 0 = a from rfl] at this
    exact World.cell?_spot this
   obtain ⟨b, off, sp⟩ := a
   obtain rfl : sp = none := hs
   have hlen : (zs.take len).length = len := by rw [List.length_take]; omega
   refine ⟨zs.take len, .inr (.inr ⟨b, off, cap, by rw [hlen], by omega, fun i hi => ?_⟩), hbz.take len, by omega⟩
   rw [hlen] at hi
   have := hcell i (by omega)
   rw [add_none'] at this
   rw [this]
   simp [List.getD, hi]
theorem trod_struct3 {H : Type} {enc : TypeId × Value → H} {P : Program} {w : World} {base : Nat} {spare : Nat → Bool} {held : Bool} {t : TypeId} {f0 f1 f2 : Field} {fuel : Nat} {cs : List Value} {x : DataW H × List MemPlace} (ht : P.underlying t = some (.struct #[f0, f1, f2])) (h : DataW.trod enc P w base spare held fuel t cs = some x) :
  ∃ y0 y1 y2 n, x.1 = .agg [y0.1, y1.1, y2.1] ∧ cs.length = P.cellsOf t ∧ DataW.trod enc P w base spare held n f0.type ((cs.drop f0.offset).take (P.cellsOf f0.type)) = some y0 ∧
   DataW.trod enc P w base spare held n f1.type ((cs.drop f1.offset).take (P.cellsOf f1.type)) = some y1 ∧ DataW.trod enc P w base spare held n f2.type ((cs.drop f2.offset).take (P.cellsOf f2.type)) = some y2 := by
 obtain ⟨xs, n, _, rfl, hl, hlen, hf⟩ := DataW.trod_struct ht h
 match xs, hlen with
 | [y0, y1, y2], _ => exact ⟨y0, y1, y2, n, by simp, hl, by simpa using hf 0 f0 rfl, by simpa using hf 1 f1 rfl, by simpa using hf 2 f2 rfl⟩
theorem take_one {l : List Value} {i : Nat} {v : Value} (h : (l.drop i).take 1 = [v]) : l[i]? = some v := by
 have h2 : ((l.drop i).take 1)[0]? = some v := by rw [h]; rfl
 rw [List.getElem?_take, if_pos (by omega), List.getElem?_drop] at h2
 simpa using h2
theorem hash_of_trod {H : Type} {enc : TypeId × Value → H} {W : World} {sp : Nat → Bool} {held : Bool} {n base : Nat} {l : List Value} {x : DataW H × List MemPlace} (hf : DataW.trod enc Try.prog W base sp held n 25 l = some x) :
  ∃ c : Nat → Int, l = (bytesA 32 c).toList ∧ ∀ i, i < 32 → 0 ≤ c i ∧ c i < 256 := by
 obtain ⟨xs, m, _, _, hl, hx, hel⟩ := DataW.trod_array Try.underlying25 hf
 rw [Try.cellsOf25] at hl
 rw [Try.cellsOf5] at hel
 have each : ∀ i, i < 32 → ∃ z : Int, l[i]? = some (.int .u8 z) ∧ 0 ≤ z ∧ z < 256 := by
  intro i hi
  have h1 := hel i hi
  rw [List.getElem?_eq_getElem (by omega), Nat.mul_one] at h1
  obtain ⟨z, hz, _, hw⟩ := DataW.trod_int Try.underlying5 h1
  have hb := wf_u8 hw
  exact ⟨z, take_one hz, by omega, by omega⟩
 obtain ⟨c, hc⟩ := Go.Deep.choose_lt each
 refine ⟨c, ?_, fun i hi => (hc i hi).2⟩
 apply List.ext_getElem?
 intro i
 by_cases hi : i < 32
 ·rw [(hc i hi).1, Array.getElem?_toList, bytesA_get _ _ _ hi]
 ·rw [List.getElem?_eq_none (by omega), List.getElem?_eq_none (by rw [Array.length_toList, bytesA_size]; omega)]
theorem hrow_of_trod {H : Type} {enc : TypeId × Value → H} {W : World} {sp : Nat → Bool} {held : Bool} {n base : Nat} {v : Value} {x : DataW H × List MemPlace} (hf : DataW.trod enc Try.prog W base sp held n 67 [v] = some x) :
  ∃ L : List Hs, HRow W v L ∧ (L = [] ∨ ∃ (D : Nat → DataW H) (rest : List (DataW H)), x.1 = .slice ((List.range L.length).map D) rest) := by
 rcases open_slice Try.underlying67 hf with ⟨hcs, _⟩ | ⟨a, len, cap, m, n, D, Pl, hcs, _, hl, hm, hz, hx, hcell⟩
 ·simp at hcs
  subst hcs
  exact ⟨[], .inl ⟨none, 0, rfl, rfl, fun _ => rfl⟩, .inl rfl⟩
 ·simp at hcs
  subst hcs
  have hlz : len ≤ m := by rw [hz]; split <;> omega
  by_cases h0 : len = 0
  ·subst h0
   exact ⟨[], .inl ⟨some a, cap, rfl, rfl, fun h => by cases h⟩, .inl rfl⟩
  ·have each0 : ∀ i, i < len → ∃ c : Nat → Int, (∀ j, j < 32 → 0 ≤ c j ∧ c j < 256) ∧ ∀ j, j < 32 → W.cell? ((a.add (i * 32)).add j) = some (.int .u8 (c j)) := by
    intro i hi
    obtain ⟨cs', h1, h2⟩ := hcell i (by omega)
    rw [Try.cellsOf25] at h1
    obtain ⟨_, hlen, hce⟩ := World.cells?_some h1
    obtain ⟨c, hcs, hc⟩ := hash_of_trod h2
    refine ⟨c, hc, fun j hj => ?_⟩
    rw [hce j hj, hcs, Array.getElem?_toList, bytesA_get 32 c j hj]
   have hs : a.spot = none := by
    obtain ⟨c, _, h3⟩ := each0 0 (by omega)
    have h4 := h3 0 (by omega)
    rw [Nat.zero_mul, show (a.add 0).add 0 = a from rfl] at h4
    exact World.cell?_spot h4
   obtain ⟨b, off, sp⟩ := a
   obtain rfl : sp = none := hs
   have each : ∀ i, i < len → ∃ y : Hs, W.rangeAt b (off + i * 32) (encH y) := by
    intro i hi
    obtain ⟨c, hc, h3⟩ := each0 i hi
    refine ⟨Hs.mk' c hc, fun j v hv => ?_⟩
    have hj : j < 32 := by have := (List.getElem?_eq_some_iff.1 hv).1; rwa [encH_len] at this
    rw [encH_get _ _ hj, Hs.mk'_f _ _ _ hj] at hv
    have h4 := h3 j hj
    rw [Addr.add_mid, Addr.add_mid] at h4
    rw [h4]; exact hv
   obtain ⟨y, hy⟩ := Go.Deep.choose_lt each
   refine ⟨(List.range len).map y, .inr ⟨b, off, cap, by simp, by simpa using hl, rangeAt_of_elems fun i hi => ?_⟩, .inr ⟨D, (List.range (m - len)).map fun j => D (len + j), ?_⟩⟩
   ·have hi' : i < len := by simpa using hi
    simpa using hy i hi'
   ·rw [hx]; simp
theorem hs_of_trod {H : Type} {enc : TypeId × Value → H} {W : World} {sp : Nat → Bool} {held : Bool} {n base : Nat} {l : List Value} {x : DataW H × List MemPlace} (hf : DataW.trod enc Try.prog W base sp held n 25 l = some x) : ∃ y : Hs, l = (bytesA 32 y.f).toList := by
 obtain ⟨c, hl, hc⟩ := hash_of_trod hf
 have h := (mkH_arr c hc).trans (encH_arr (Hs.mk' c hc))
 generalize Hs.mk' c hc = y at h
 exact ⟨y, by rw [hl, h]⟩
theorem bulk_one {H : Type} (d : DataW H) : 1 ≤ Rows.uptoBulk d := by
 unfold Rows.uptoBulk
 split <;> omega
theorem bulk_all {H : Type} : ∀ l : List (DataW H), l.length ≤ Rows.uptoBulkAll l
 | [] => Nat.zero_le _
 | d :: r => by
  have h1 := bulk_all r
  have h2 := bulk_one d
  simp only [Rows.uptoBulkAll, List.length_cons]
  omega
theorem bulk_mem {H : Type} {d : DataW H} : ∀ {l : List (DataW H)}, d ∈ l → Rows.uptoBulk d ≤ Rows.uptoBulkAll l
 | [], h => by simp at h
 | e :: r, h => by
  simp only [Rows.uptoBulkAll]
  rcases List.mem_cons.1 h with rfl | h
  ·omega
  ·have := bulk_mem h; omega
theorem row_lt {w : World} {v : Value} {l : List Int} (h : RowAt w v l) (h0 : l ≠ []) : ∀ k, v.ownBlock = some k → k < w.heap.size := by
 intro k hk
 rcases h with ⟨_, rfl⟩ | ⟨_, _, _, rfl⟩ | ⟨q, off, cap, rfl, h1, h2⟩
 ·exact absurd rfl h0
 ·exact absurd rfl h0
 ·have := cell_lt (h2 0 (List.length_pos_iff.2 h0))
  simp [Value.ownBlock] at hk
  omega
theorem rowb_of_trod {H : Type} {enc : TypeId × Value → H} {W : World} {sp : Nat → Bool} {held : Bool} {n base : Nat} {v : Value} {x : DataW H × List MemPlace} (hf : DataW.trod enc Try.prog W base sp held n 38 [v] = some x) :
  ∃ l : List Int, RowAt W v l ∧ Byts l ∧ l.length ≤ Rows.uptoBulk x.1 := by
 rcases open_ints Try.underlying38 Try.underlying5 Try.cellsOf5 hf with ⟨hcs, _⟩ | ⟨a, len, cap, zs, hcs, _, hl, hm, hz, hx, hcell, hwz⟩
 ·simp at hcs
  subst hcs
  exact ⟨[], .inl ⟨rfl, rfl⟩, Byts.nil, by simp⟩
 ·simp at hcs
  subst hcs
  have hlz : len ≤ zs.length := by rw [hz]; split <;> omega
  have hbz : Byts zs := fun c hc => wf_u8 (hwz c hc)
  have hb : len ≤ Rows.uptoBulk x.1 := by
   rw [hx]
   simp only [Rows.uptoBulk]
   have h1 := bulk_all (lits (H := H) .u8 (zs.take len))
   have h2 : (lits (H := H) .u8 (zs.take len)).length = len := by simp [lits]; omega
   omega
  by_cases h0 : len = 0
  ·subst h0
   exact ⟨[], .inr (.inl ⟨a, cap, rfl, rfl⟩), Byts.nil, by simp⟩
  ·have hs : a.spot = none := by
    have := hcell 0 (by omega)
    rw [show a.add 0 = a from rfl] at this
    exact World.cell?_spot this
   obtain ⟨b, off, sp⟩ := a
   obtain rfl : sp = none := hs
   refine ⟨zs.take len, .inr (.inr ⟨b, off, cap, by rw [List.length_take]; congr 1; omega, by rw [List.length_take]; omega, fun i hi => ?_⟩), hbz.take len, by rw [List.length_take]; omega⟩
   rw [List.length_take] at hi
   have h1 := hcell i (by omega)
   rw [add_none'] at h1
   rw [h1]
   congr 2
   rw [List.getD_eq_getElem?_getD, List.getD_eq_getElem?_getD, List.getElem?_take, if_pos (by omega)]
set_option maxRecDepth 8000 in
theorem cell_of_trod {H : Type} {enc : TypeId × Value → H} {W : World} {sp : Nat → Bool} {held : Bool} {n base : Nat} {cs : List Value} {x : DataW H × List MemPlace} (hf : DataW.trod enc Try.prog W base sp held n 40 cs = some x) :
  ∃ c : CV, cs = cvL c ∧ RowAt W c.v c.l ∧ Byts c.l ∧ (-9223372036854775808 ≤ c.k ∧ c.k ≤ 9223372036854775807) ∧ c.s.size + c.l.length ≤ Rows.uptoBulk x.1 := by
 obtain ⟨y0, y1, y2, k, hx, hl, h0, h1, h2⟩ := trod_struct3 Try.underlying40 hf
 rw [Try.cellsOf40] at hl
 match cs, hl with
 | [a, b, c], _ =>
  simp only [Try.cellsOf3, Try.cellsOf9, Try.cellsOf38, List.drop_zero, List.take_succ_cons, List.take_zero, List.drop_succ_cons] at h0 h1 h2
  obtain ⟨n0, e0, w0⟩ := DataW.trod_int Try.underlying3 h0
  obtain ⟨s, e1, ex, _⟩ := DataW.trod_string Try.underlying9 h1
  obtain ⟨l, r1, r2, r3⟩ := rowb_of_trod h2
  simp at e0 e1
  refine ⟨⟨n0, s, c, l⟩, by rw [e0, e1]; rfl, r1, r2, wf_i64 w0.2, ?_⟩
  show s.size + l.length ≤ _
  have e2 : y1.1 = .lit (.string s.data.toList) := by rw [ex]
  rw [hx]
  simp only [Rows.uptoBulk, Rows.uptoBulkAll, e2]
  have : s.data.toList.length = s.size := by simp
  omega

theorem Try.cellsOf69 : Try.prog.cellsOf 69 = 5 := by kernel_rfl
theorem Try.cellsOf31 : Try.prog.cellsOf 31 = 2 := by kernel_rfl
theorem Try.cellsOf29 : Try.prog.cellsOf 29 = 1 := by kernel_rfl
theorem Try.cellsOf37 : Try.prog.cellsOf 37 = 36 := by kernel_rfl
theorem trod_struct2 {H : Type} {enc : TypeId × Value → H} {P : Program} {w : World} {base : Nat} {spare : Nat → Bool} {held : Bool} {t : TypeId} {f0 f1 : Field} {fuel : Nat} {cs : List Value} {x : DataW H × List MemPlace} (ht : P.underlying t = some (.struct #[f0, f1])) (h : DataW.trod enc P w base spare held fuel t cs = some x) :
  ∃ y0 y1 n, x.1 = .agg [y0.1, y1.1] ∧ cs.length = P.cellsOf t ∧ DataW.trod enc P w base spare held n f0.type ((cs.drop f0.offset).take (P.cellsOf f0.type)) = some y0 ∧
   DataW.trod enc P w base spare held n f1.type ((cs.drop f1.offset).take (P.cellsOf f1.type)) = some y1 := by
 obtain ⟨xs, n, _, rfl, hl, hlen, hf⟩ := DataW.trod_struct ht h
 match xs, hlen with
 | [y0, y1], _ => exact ⟨y0, y1, n, by simp, hl, by simpa using hf 0 f0 rfl, by simpa using hf 1 f1 rfl⟩
theorem trod_struct4 {H : Type} {enc : TypeId × Value → H} {P : Program} {w : World} {base : Nat} {spare : Nat → Bool} {held : Bool} {t : TypeId} {f0 f1 f2 f3 : Field} {fuel : Nat} {cs : List Value} {x : DataW H × List MemPlace} (ht : P.underlying t = some (.struct #[f0, f1, f2, f3])) (h : DataW.trod enc P w base spare held fuel t cs = some x) :
  ∃ y0 y1 y2 y3 n, x.1 = .agg [y0.1, y1.1, y2.1, y3.1] ∧ cs.length = P.cellsOf t ∧ DataW.trod enc P w base spare held n f0.type ((cs.drop f0.offset).take (P.cellsOf f0.type)) = some y0 ∧
   DataW.trod enc P w base spare held n f1.type ((cs.drop f1.offset).take (P.cellsOf f1.type)) = some y1 ∧ DataW.trod enc P w base spare held n f2.type ((cs.drop f2.offset).take (P.cellsOf f2.type)) = some y2 ∧
   DataW.trod enc P w base spare held n f3.type ((cs.drop f3.offset).take (P.cellsOf f3.type)) = some y3 := by
 obtain ⟨xs, n, _, rfl, hl, hlen, hf⟩ := DataW.trod_struct ht h
 match xs, hlen with
 | [y0, y1, y2, y3], _ => exact ⟨y0, y1, y2, y3, n, by simp, hl, by simpa using hf 0 f0 rfl, by simpa using hf 1 f1 rfl, by simpa using hf 2 f2 rfl, by simpa using hf 3 f3 rfl⟩
theorem path_of_trod {H : Type} {enc : TypeId × Value → H} {W : World} {sp : Nat → Bool} {held : Bool} {n base : Nat} {v : Value} {x : DataW H × List MemPlace} (hf : DataW.trod enc Try.prog W base sp held n 67 [v] = some x) :
  ∃ ps : List Hs, HPa W.heap.size W v ps ∧ ps.length ≤ Rows.uptoBulk x.1 := by
 obtain ⟨L, hL, hx⟩ := hrow_of_trod hf
 rcases hL with ⟨a, c, h1, h2, _⟩ | ⟨b, off, cap, h1, h2, h3⟩
 ·exact ⟨L, .inl ⟨a, c, h1, h2⟩, by rw [h2]; simp⟩
 ·by_cases h0 : L = []
  ·subst h0
   exact ⟨[], .inl ⟨_, _, h1, rfl⟩, by simp⟩
  ·have hp : 0 < L.length := List.length_pos_iff.mpr h0
   refine ⟨L, .inr ⟨b, off, cap, h1, h2, ?_, h3⟩, ?_⟩
   ·have hl : 0 < (flatH L).length := by rw [flatH_len]; omega
    have h4 := h3 0 ((flatH L)[0]) (List.getElem?_eq_getElem hl)
    exact cell_lt h4
   ·rcases hx with hx | ⟨D, rest, hx⟩
    ·exact absurd hx h0
    ·rw [hx]
     simp only [Rows.uptoBulk]
     have := bulk_all ((List.range L.length).map D)
     simp only [List.length_map, List.length_range] at this
     omega
set_option maxRecDepth 8000 in
theorem leaf_of_trod {H : Type} {enc : TypeId × Value → H} {W : World} {sp : Nat → Bool} {held : Bool} {n base : Nat} {cs : List Value} {x : DataW H × List MemPlace} (hf : DataW.trod enc Try.prog W base sp held n 69 cs = some x) :
  ∃ y : LV, cs = (lvA y).toList ∧ LfAt W.heap.size W y ∧ Byts y.c.l ∧ (-9223372036854775808 ≤ y.num ∧ y.num ≤ 9223372036854775807) ∧ (-9223372036854775808 ≤ y.c.k ∧ y.c.k ≤ 9223372036854775807) ∧ y.c.s.size + y.c.l.length ≤ Rows.uptoBulk x.1 ∧ y.ps.length ≤ Rows.uptoBulk x.1 := by
 obtain ⟨y0, y1, y2, k, hx, hl, h0, h1, h2⟩ := trod_struct3 Try.underlying69 hf
 rw [Try.cellsOf69] at hl
 match cs, hl with
 | [a, b, c, d, e], _ =>
  simp only [Try.cellsOf3, Try.cellsOf40, Try.cellsOf67, List.drop_zero, List.take_succ_cons, List.take_zero, List.drop_succ_cons] at h0 h1 h2
  obtain ⟨n0, e0, w0⟩ := DataW.trod_int Try.underlying3 h0
  obtain ⟨z, e1, r1, r2, r3, r4⟩ := cell_of_trod h1
  obtain ⟨ps, p1, p2⟩ := path_of_trod h2
  simp at e0
  simp only [cvL] at e1
  injection e1 with b1 e1
  injection e1 with b2 e1
  injection e1 with b3 e1
  refine ⟨⟨n0, z, e, ps⟩, by rw [e0, b1, b2, b3]; rfl, ⟨r1, fun h => row_lt r1 h, p1⟩, r2, wf_i64 w0.2, r3, ?_, ?_⟩
  ·rw [hx]
   simp only [Rows.uptoBulk, Rows.uptoBulkAll]
   show z.s.size + z.l.length ≤ _
   omega
  ·rw [hx]
   simp only [Rows.uptoBulk, Rows.uptoBulkAll]
   show ps.length ≤ _
   omega
set_option maxRecDepth 8000 in
theorem leaves_of_trod {H : Type} {enc : TypeId × Value → H} {W : World} {sp : Nat → Bool} {held : Bool} {n base : Nat} {v : Value} {x : DataW H × List MemPlace} (hf : DataW.trod enc Try.prog W base sp held n 29 [v] = some x) :
  ∃ ls : List LV, LsV W.heap.size W v ls ∧ ∀ y ∈ ls, Byts y.c.l ∧ (-9223372036854775808 ≤ y.num ∧ y.num ≤ 9223372036854775807) ∧ (-9223372036854775808 ≤ y.c.k ∧ y.c.k ≤ 9223372036854775807) ∧ y.c.s.size + y.c.l.length ≤ Rows.uptoBulk x.1 ∧ y.ps.length ≤ Rows.uptoBulk x.1 := by
 rcases open_slice Try.underlying29 hf with ⟨hcs, _⟩ | ⟨a, len, cap, m, n, D, Pl, hcs, _, hl, hm, hz, hx, hcell⟩
 ·simp at hcs
  subst hcs
  exact ⟨[], .inl ⟨none, 0, rfl, rfl⟩, fun c hc => by simp at hc⟩
 ·simp at hcs
  subst hcs
  have hlz : len ≤ m := by rw [hz]; split <;> omega
  by_cases h0 : len = 0
  ·subst h0
   exact ⟨[], .inl ⟨some a, cap, rfl, rfl⟩, fun c hc => by simp at hc⟩
  ·have each : ∀ i, i < len → ∃ y : LV, (∀ j u, (lvA y).toList[j]? = some u → W.cell? ((a.add (i * 5)).add j) = some u) ∧ LfAt W.heap.size W y ∧ Byts y.c.l ∧ (-9223372036854775808 ≤ y.num ∧ y.num ≤ 9223372036854775807) ∧ (-9223372036854775808 ≤ y.c.k ∧ y.c.k ≤ 9223372036854775807) ∧ y.c.s.size + y.c.l.length ≤ Rows.uptoBulk (D i) ∧ y.ps.length ≤ Rows.uptoBulk (D i) := by
    intro i hi
    obtain ⟨cs', h1, h2⟩ := hcell i (by omega)
    rw [Try.cellsOf69] at h1
    obtain ⟨_, hlen, hce⟩ := World.cells?_some h1
    obtain ⟨y, e, r⟩ := leaf_of_trod h2
    refine ⟨y, fun j u hu => ?_, r⟩
    rw [← e] at hu
    have hj := (List.getElem?_eq_some_iff.1 hu).1
    rw [hce j (by omega)]; exact hu
   haveI : Inhabited LV := ⟨⟨0, ⟨0, ByteArray.empty, .nilFunc, []⟩, .nilFunc, []⟩⟩
   obtain ⟨f, hfc⟩ := Go.Deep.choose_lt each
   have hs : a.spot = none := by
    have := (hfc 0 (by omega)).1 0 (.int .i64 (f 0).num) rfl
    rw [Nat.zero_mul, show (a.add 0).add 0 = a from rfl] at this
    exact World.cell?_spot this
   obtain ⟨b, off, sp⟩ := a
   obtain rfl : sp = none := hs
   have hb0 : b < W.heap.size := by
    have := (hfc 0 (by omega)).1 0 (.int .i64 (f 0).num) rfl
    rw [Addr.add_mid, Addr.add_mid] at this
    exact cell_lt this
   have hbk : ∀ i, i < len → Rows.uptoBulk (D i) ≤ Rows.uptoBulk x.1 := fun i hi => by
    rw [hx]
    simp only [Rows.uptoBulk]
    have := bulk_mem (d := D i) (l := (List.range len).map D) (List.mem_map.2 ⟨i, List.mem_range.2 hi, rfl⟩)
    omega
   refine ⟨(List.range len).map f, .inr ⟨b, off, cap, by simp, by simpa using hl, hb0, fun i c hc => ?_, fun c hc => ?_⟩, fun c hc => ?_⟩
   ·have hi : i < len := by have := (List.getElem?_eq_some_iff.1 hc).1; simpa using this
    have e : f i = c := by simpa [hi] using hc
    subst e
    intro j u hu
    have h1 := (hfc i hi).1 j u hu
    rw [Addr.add_mid, Addr.add_mid] at h1
    exact h1
   ·obtain ⟨i, hi, rfl⟩ := List.mem_map.1 hc
    exact (hfc i (List.mem_range.1 hi)).2.1
   ·obtain ⟨i, hi, rfl⟩ := List.mem_map.1 hc
    have hi := List.mem_range.1 hi
    obtain ⟨_, _, r2, r3, r4, r5, r6⟩ := hfc i hi
    have := hbk i hi
    exact ⟨r2, r3, r4, by omega, by omega⟩
structure HdV where
 root : Hs
 kind : Int
 key : ByteArray
 n : Int
 v : Value
 ls : List LV
set_option maxRecDepth 8000 in
theorem held_of_trod {H : Type} {enc : TypeId × Value → H} {W : World} {sp : Nat → Bool} {held : Bool} {n base : Nat} {cs : List Value} {x : DataW H × List MemPlace} (hf : DataW.trod enc Try.prog W base sp held n 37 cs = some x) :
  ∃ G : HdV, cs = (heldA G.root G.kind G.key G.n G.v).toList ∧ LsV W.heap.size W G.v G.ls ∧ (-9223372036854775808 ≤ G.n ∧ G.n ≤ 9223372036854775807) ∧ (-9223372036854775808 ≤ G.kind ∧ G.kind ≤ 9223372036854775807) ∧ G.key.size ≤ Rows.uptoBulk x.1 ∧ ∀ y ∈ G.ls, Byts y.c.l ∧ (-9223372036854775808 ≤ y.num ∧ y.num ≤ 9223372036854775807) ∧ (-9223372036854775808 ≤ y.c.k ∧ y.c.k ≤ 9223372036854775807) ∧ y.c.s.size + y.c.l.length ≤ Rows.uptoBulk x.1 ∧ y.ps.length ≤ Rows.uptoBulk x.1 := by
 obtain ⟨y0, y1, y2, y3, k, hx, hl, h0, h1, h2, h3⟩ := trod_struct4 Try.underlying37 hf
 rw [Try.cellsOf37] at hl
 simp only [Try.cellsOf3, Try.cellsOf25, Try.cellsOf9, Try.cellsOf31] at h0 h1 h2 h3
 obtain ⟨root, e0⟩ := hs_of_trod h0
 obtain ⟨kind, e1, w1⟩ := DataW.trod_int Try.underlying3 h1
 obtain ⟨key, e2, ex, _⟩ := DataW.trod_string Try.underlying9 h2
 obtain ⟨z0, z1, k', hx3, hl3, g0, g1⟩ := trod_struct2 Try.underlying31 h3
 rw [Try.cellsOf31] at hl3
 have c0 := take_one e1
 have c1 := take_one e2
 obtain ⟨a, b, e3⟩ : ∃ a b, (cs.drop 34).take 2 = [a, b] := by
  match hq : (cs.drop 34).take 2, hl3 with
  | [a, b], _ => exact ⟨a, b, rfl⟩
 rw [e3] at g0 g1
 simp only [Try.cellsOf3, Try.cellsOf29, List.drop_zero, List.take_succ_cons, List.take_zero, List.drop_succ_cons] at g0 g1
 obtain ⟨m, e4, w4⟩ := DataW.trod_int Try.underlying3 g0
 obtain ⟨ls, q1, q2⟩ := leaves_of_trod g1
 simp at e4
 subst e4
 have hkey : y2.1 = .lit (.string key.data.toList) := by rw [ex]
 have hb3 : Rows.uptoBulk y3.1 ≤ Rows.uptoBulk x.1 := by rw [hx]; simp only [Rows.uptoBulk, Rows.uptoBulkAll]; omega
 have hb4 : Rows.uptoBulk z1.1 ≤ Rows.uptoBulk y3.1 := by rw [hx3]; simp only [Rows.uptoBulk, Rows.uptoBulkAll]; omega
 refine ⟨⟨root, kind, key, m, b, ls⟩, ?_, q1, wf_i64 w4.2, wf_i64 w1.2, ?_, fun y hy => ?_⟩
 ·apply List.ext_getElem?
  intro i
  change cs[i]? = (heldA root kind key m b).toList[i]?
  rw [Array.getElem?_toList (xs := heldA root kind key m b)]
  unfold heldA
  by_cases hi : i < 32
  ·rw [Array.getElem?_append_left (by rw [bytesA_size]; omega), ← Array.getElem?_toList, ← e0, List.getElem?_take, if_pos hi, List.getElem?_drop, Nat.zero_add]
  ·rw [Array.getElem?_append_right (by rw [bytesA_size]; omega), bytesA_size]
   obtain ⟨j, rfl⟩ : ∃ j, i = 32 + j := ⟨i - 32, by omega⟩
   rw [Nat.add_sub_cancel_left]
   have d0 : cs[34]? = some (.int .i64 m) := by
    have h : ((cs.drop 34).take 2)[0]? = some (.int .i64 m) := by rw [e3]; rfl
    rw [List.getElem?_take, if_pos (by omega), List.getElem?_drop] at h
    exact h
   have d1 : cs[35]? = some b := by
    have h : ((cs.drop 34).take 2)[1]? = some b := by rw [e3]; rfl
    rw [List.getElem?_take, if_pos (by omega), List.getElem?_drop] at h
    exact h
   match j with
   | 0 => exact c0
   | 1 => exact c1
   | 2 => exact d0
   | 3 => exact d1
   | j + 4 => rw [List.getElem?_eq_none (by omega)]; rfl
 ·rw [hx]
  simp only [Rows.uptoBulk, Rows.uptoBulkAll, hkey]
  have : key.data.toList.length = key.size := by simp
  show key.size ≤ _
  omega
 ·obtain ⟨r2, r3, r4, r5, r6⟩ := q2 y hy
  exact ⟨r2, r3, r4, by omega, by omega⟩

end Go.Proofs.Ytjklmkeedhgncaa
