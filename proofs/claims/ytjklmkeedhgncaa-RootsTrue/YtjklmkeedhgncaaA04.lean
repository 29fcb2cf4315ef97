import Derived.Test.YtjklmkeedhgncaaA03
import Derived.Deep.RegionHeld3
namespace Go.Proofs.Ytjklmkeedhgncaa
open Go.RowKit
set_option linter.unusedSimpArgs false
set_option linter.unusedVariables false
theorem Try.in52 (w : World) (vs : Array Value) : (callFunc 52 vs).run Try.prog w = .ok (.enter 52 vs) w := by kernel_rfl
theorem WL.app {ops : Array Oper} {rest : List Oper} {o : Oper} {a : Act} {w : World} {Q : Exit → Act → World → Prop} (hw : Region.wanted o (yielded ops a.tmps) = true) (s x : Operand)
  (ho : o.op = .call { callee := .builtin .append, args := #[s, x], argTypes := #[38, 38] }) (v vx : Value) (l m : List Int)
  (hs : a.eval s = v) (hx : a.eval x = vx) (hown : Own w v l) (hrow : RowAt w vx m) (hb : l.length + m.length ≤ 140737488355328)
  (h : ∀ v' w', AppPost w v (l ++ m) v' w' → WL Try.prog ops Q rest (a.put o.dst v') w') : WL Try.prog ops Q (o :: rest) a w :=
 ⟨wpList_wanted hw fun K hK => by
  obtain ⟨v', w', hr, h2⟩ := run_app_row w o.type v vx l m hown hrow hb
  unfold Oper.wp execOp
  simp only [ho, resolve, invoke, builtin, Sem.run_bind, Sem.run_pure, Result.andThen_ok, List.map_toArray, List.map_cons, List.map_nil, hs, hx, hr]
  exact hK _ _ (h v' w' h2).out⟩
def le8 (n : Nat) : List Int := (List.range 8).map fun t => (n : Int) / 2 ^ (8 * t) % 256
theorem le8_len (n : Nat) : (le8 n).length = 8 := by simp [le8]
theorem le8_next (n t : Nat) (h : t < 8) : (le8 n).take (t + 1) = (le8 n).take t ++ [(n : Int) / 2 ^ (8 * t) % 256] := by
 rw [List.take_succ_eq_append_getElem (by rw [le8_len]; exact h)]
 simp [le8]
theorem le8_inj (a b : Nat) (ha : a < 9223372036854775808) (hb : b < 9223372036854775808) (h : le8 a = le8 b) : a = b := by
 simp [le8, List.range, List.range.loop] at h
 omega
set_option maxRecDepth 8000 in
theorem top_some (B x n : Nat) (a : Nat → Int) (R : List (List Int)) (w : World) (hK : BkH B w x R) (hn : n < 9223372036854775808) (hN : R.length + 1 ≤ 4398046511104) (hB : B ≤ w.heap.size) (hn0 : 0 < n) :
  Calls Try.prog 52 #[.pointer (some ⟨x, 0, none⟩), .int .i64 (n : Int), .agg (bytesA 32 a)] w fun e w' => e = .returned (.agg (bytesA 32 (shaP (RtP.topR le8 n (hl 32 a))))) ∧ BkH B w' x (R ++ [RtP.topR le8 n (hl 32 a)]) ∧ Grown w w' (BkS B w) := by
 have HK := Keep.mk hK
 have HN := Keep.mk hN
 have HB := Keep.mk hB
 have hn1 : (0 : Int) < (n : Int) := by omega
 have hn2 : (n : Int) ≤ 9223372036854775807 := by omega
 clear hK hN hB
 go_enter Try.func52, Try.ntmps52
 refine wp_seq_k fun K1 hK1 => rgn ?_
 refine WL.box (by kernel_rfl) 25 (.tmp 2) rfl (bytesA 32 a) rfl ?_
 have C1 := Keep.mk (Blk.new w 25 (bytesA 32 a))
 have b1 := Keep.mk (below_new w (.cells (bytesA 32 a) 25))
 change WL _ _ _ _ _ (w.alloc (.cells (bytesA 32 a) 25))
 generalize w.alloc (.cells (bytesA 32 a) 25) = w1 at *
 obtain ⟨c, hc0⟩ : ∃ z, Keep (z = w.heap.size) := ⟨_, ⟨rfl⟩⟩
 rw [← hc0.out] at C1 ⊢
 simp only [Act.put, pqA, pqB, pqC]
 refine WL.new (by kernel_rfl) 25 rfl _ Try.new25 ?_
 have R2 := Keep.mk (Blk.new w1 25 (bytesA 32 fun _ => 0))
 have b2 := Keep.mk (below_new w1 (.cells (bytesA 32 fun _ => 0) 25))
 change WL _ _ _ _ _ (w1.alloc (.cells (bytesA 32 fun _ => 0) 25))
 generalize w1.alloc (.cells (bytesA 32 fun _ => 0) 25) = w2 at *
 obtain ⟨r, hr0⟩ : ∃ z, Keep (z = w1.heap.size) := ⟨_, ⟨rfl⟩⟩
 rw [← hr0.out] at R2 ⊢
 have C2 := Keep.mk (C1.out.below b2.out C1.out.lt)
 have B2 : Keep (Below w.heap.size w w2) := ⟨b1.out.trans (b2.out.mono b1.out.size)⟩
 have hrw : Keep (w.heap.size ≤ r) := ⟨by rw [hr0.out]; exact b1.out.size⟩
 have BK2 := Keep.mk (HK.out.below B2.out)
 clear C1 b1 b2 hr0 hc0
 simp only [Act.put, pqA, pqB, pqC]
 refine WL.nil (hK1 _ _ ?_)
 refine wp_seq_k fun K2 hK2 => rgn ?_
 refine WL.bs (by kernel_rfl) 38 1 _ rfl #[(0, .int .u8 2)] (by simp [Act.eval]) _ _ (bsK 2 w2) ?_
 have O3 := Keep.mk (OB.start w2 2)
 generalize w2.alloc (.cells (bv [2]).toArray 5) = w3 at *
 obtain ⟨v3, hv3⟩ : ∃ z, Keep (z = Value.slice (some ⟨w2.heap.size, 0, none⟩) 1 1) := ⟨_, ⟨rfl⟩⟩
 rw [← hv3.out] at O3 ⊢
 clear hv3
 simp only [Act.put, pqA, pqB, pqC]
 refine VlS (v3) ?_
 refine WL.nil (hK2 _ _ ?_)
 refine wp_seq_k fun K3 hK3 => ?_
 refine wp_seq_k fun K4 hK4 => rgn ?_
 refine VlS (.int .i64 0) ?_
 refine WL.nil (hK4 _ _ ?_)
 refine wp_block ?_
 refine wp_loop (fun ac wr => ∃ (t : Nat) (v1 : Value), ac = apF (fun f => { tmps := #[.pointer (some ⟨x, 0, none⟩), .int .i64 (n : Int), .agg (bytesA 32 a), undef, undef, .pointer (some ⟨c, 0, none⟩), .pointer (some ⟨r, 0, none⟩), v1, .int .i64 (t : Int), v3, f 10, f 11, f 12, f 13, f 14, f 15, f 16, f 17, f 18, f 19, f 20, f 21, undef, undef, undef, undef, undef, undef, undef, undef], defers := [] }) ac ∧ t ≤ 8 ∧ OB w2 wr v1 ([2] ++ (le8 n).take t)) (fun a _ => 8 - (intOf (a.tmps.getD 8 undef)).toNat) ⟨0, v3, rfl, by omega, by simpa using O3.out⟩ ?_
 rintro ac wr ⟨t, v1, hac, ht, hO⟩
 obtain ⟨f, rfl⟩ := unF hac
 have O4 := Keep.mk hO
 clear hO
 by_cases htl : t < 8
 ·have htl' : (t : Int) < 8 := by omega
  have hs0 : 0 ≤ 8 * (t : Int) := by omega
  have hs1 : 8 * (t : Int) ≤ 64 := by omega
  have hs2 : (8 * (t : Int)).toNat = 8 * t := by omega
  have hw1 : IntKind.i64.wrap (8 * (t : Int)) = 8 * (t : Int) := by rw [IntKind.wrap_i64]; omega
  have hw2 : IntKind.u8.wrap ((n : Int) / 2 ^ (8 * t)) = (n : Int) / 2 ^ (8 * t) % 256 := IntKind.wrap_u8 _
  have hw3 : IntKind.i64.wrap ((t : Int) + 1) = ((t + 1 : Nat) : Int) := by rw [IntKind.wrap_i64]; omega
  refine wp_seq_k fun K5 hK5 => ?_
  refine wp_seq_k fun K6 hK6 => rgn ?_
  refine VlS (.int .i64 (t : Int)) ?_
  refine VbT ?_
  refine WL.nil (hK6 _ _ ?_)
  refine wp_cond_true rfl ?_
  refine wp_skip ?_
  refine hK5 _ _ ?_
  refine wp_seq_k fun K7 hK7 => ?_
  refine wp_block ?_
  refine rgn ?_
  refine VlS (v1) ?_
  refine VlS (.int .i64 (n : Int)) ?_
  refine VlS (.int .i64 (t : Int)) ?_
  refine VlS (.int .i64 (8 * (t : Int))) ?_
  refine VlS (.int .i64 ((n : Int) / 2 ^ (8 * t))) ?_
  refine VlS (.int .u8 ((n : Int) / 2 ^ (8 * t) % 256)) ?_
  refine WL.bs (by kernel_rfl) 38 1 _ rfl #[(0, .int .u8 ((n : Int) / 2 ^ (8 * t) % 256))] (by simp [Act.eval]) _ _ (bsK ((n : Int) / 2 ^ (8 * t) % 256) wr) ?_
  have Y5 : Keep (RowAt (wr.alloc (.cells (bv [((n : Int) / 2 ^ (8 * t) % 256)]).toArray 5)) (.slice (some ⟨wr.heap.size, 0, none⟩) 1 1) [((n : Int) / 2 ^ (8 * t) % 256)]) := ⟨row_one wr _⟩
  have O5 := Keep.mk (O4.out.below (below_new wr (.cells (bv [((n : Int) / 2 ^ (8 * t) % 256)]).toArray 5)))
  obtain ⟨g, hg0⟩ : ∃ z, Keep (z = wr.heap.size) := ⟨_, ⟨rfl⟩⟩
  rw [← hg0.out] at Y5 ⊢
  generalize wr.alloc (.cells (bv [((n : Int) / 2 ^ (8 * t) % 256)]).toArray 5) = w5 at *
  clear O4
  simp only [Act.put, pqA, pqB, pqC]
  refine WL.app (by kernel_rfl) (.tmp 14) (.tmp 20) rfl v1 (.slice (some ⟨g, 0, none⟩) 1 1) ([2] ++ (le8 n).take t) [((n : Int) / 2 ^ (8 * t) % 256)] rfl rfl O5.out.own Y5.out (by simp; omega) ?_
  intro v6 w6 hp
  have O6 := Keep.mk (O5.out.lay hp.1 hp.moved hp.grown)
  rw [List.append_assoc, ← le8_next n t htl] at O6
  clear hp O5
  simp only [Act.put, pqA, pqB, pqC]
  refine VlS (v6) ?_
  refine WL.nil (hK7 _ _ ?_)
  refine rgn ?_
  refine VlS (.int .i64 (t : Int)) ?_
  refine VlS (.int .i64 ((t + 1 : Nat) : Int)) ?_
  refine VlS (.int .i64 ((t + 1 : Nat) : Int)) ?_
  refine WL.nil ?_
  refine ⟨⟨t + 1, v6, rfl, by omega, O6.out⟩, ?_⟩
  simp only [intOf]; show 8 - (((t + 1 : Nat) : Int)).toNat < 8 - ((t : Int)).toNat; omega
 ·have e8 : t = 8 := by omega
  have htl' : ¬ (t : Int) < 8 := by omega
  have O5 : Keep (OB w2 wr v1 ([2] ++ le8 n)) := ⟨by have h := O4.out; rw [e8, List.take_of_length_le (by rw [le8_len]; exact Nat.le_refl _)] at h; exact h⟩
  clear O4
  refine wp_seq_k fun K8 hK8 => ?_
  refine wp_seq_k fun K9 hK9 => rgn ?_
  refine VlS (.int .i64 (t : Int)) ?_
  refine VbF ?_
  refine WL.nil (hK9 _ _ ?_)
  refine wp_cond_false rfl ?_
  refine wp_exit ?_
  refine hK3 _ _ ?_
  refine wp_seq_k fun K10 hK10 => ?_
  refine wp_seq_k fun K11 hK11 => rgn ?_
  refine VlS (.int .i64 (n : Int)) ?_
  refine VbT ?_
  refine WL.nil (hK11 _ _ ?_)
  refine wp_cond_true rfl ?_
  refine rgn ?_
  refine VlS (v1) ?_
  refine WL.row (by kernel_rfl) 25 (.tmp 5) rfl c rfl 25 (bytesA 32 a) _ (C2.out.below O5.out.bel C2.out.lt) Try.underlying25 rfl (Try.size25B _) ?_
  simp only [Act.put, pqA, pqB, pqC]
  refine WL.callF (by kernel_rfl) 74 _ _ rfl Try.in74 #[v1, .agg (bytesA 32 a)] (by simp [Act.eval]) ?_
  refine (rhash_any v1 ([2] ++ le8 n) a wr O5.out.own (by simp [le8_len])).mono ?_
  rintro e w6 ⟨v6, rfl, k1, k2, k3⟩
  refine ⟨_, rfl, ?_⟩
  have O6 := Keep.mk (O5.out.lay k1 k2 k3)
  clear k1 k2 k3 O5
  simp only [Act.put, pqA, pqB, pqC]
  refine VlS (v6) ?_
  refine WL.nil (hK10 _ _ ?_)
  refine wp_seq_k fun K12 hK12 => rgn ?_
  refine VlS (.pointer (some ⟨x, 0, none⟩)) ?_
  refine VlS (v6) ?_
  have e7 : [2] ++ le8 n ++ hl 32 a = RtP.topR le8 n (hl 32 a) := by simp [RtP.topR, hn0]
  have O7 : Keep (OB w2 w6 v6 (RtP.topR le8 n (hl 32 a))) := ⟨by rw [← e7]; exact O6.out⟩
  have BK7 := Keep.mk (BK2.out.below O7.out.bel)
  have R7 := Keep.mk (R2.out.below O7.out.bel R2.out.lt)
  have hl7 : Keep ((RtP.topR le8 n (hl 32 a)).length ≤ 140737488355000) := ⟨by rw [← e7]; simp [hl_len, le8_len]⟩
  have B7 : Keep (Below w.heap.size w w6) := ⟨B2.out.trans (O7.out.bel.mono B2.out.size)⟩
  refine WL.callF (by kernel_rfl) 75 _ _ rfl Try.in75 #[.pointer (some ⟨x, 0, none⟩), v6] (by simp [Act.eval]) ?_
  refine (hash_any B x v6 (RtP.topR le8 n (hl 32 a)) R w6 BK7.out O7.out.own hl7.out HN.out (by have := HB.out; have := B7.out.size; omega)).mono ?_
  rintro e w8 ⟨rfl, k1, k2⟩
  refine ⟨_, rfl, ?_⟩
  have BK8 := Keep.mk k1
  have G8 := Keep.mk k2
  have R8 := Keep.mk (R7.out.bk k2 (by decide) (by decide))
  clear k1 k2
  simp only [Act.put, pqA, pqB, pqC]
  refine WL.storeR (by kernel_rfl) 25 (.tmp 6) (.tmp 29) rfl r (bytesA 32 (shaP (RtP.topR le8 n (hl 32 a)))) rfl rfl 25 (bytesA 32 fun _ => 0) R8.out (Try.size25B _) (bytesA_sizes _ _ _) (bytesA_one _ _) ?_
  have R9 := Keep.mk (R8.out.setRow (bytesA 32 (shaP (RtP.topR le8 n (hl 32 a)))))
  have BK9 := Keep.mk (BK8.out.setRow R8.out (bytesA 32 (shaP (RtP.topR le8 n (hl 32 a)))) (by decide) (by decide) (by decide))
  have G9 := Keep.mk (bk_end (r := r) (bytesA 32 (shaP (RtP.topR le8 n (hl 32 a)))) B7.out G8.out hrw.out)
  generalize w8.setRow r (bytesA 32 (shaP (RtP.topR le8 n (hl 32 a)))) = w9 at *
  simp only [Act.put]
  refine WL.nil (hK12 _ _ ?_)
  refine wp_ret ?_
  refine bodyPost_ret (v := .agg (bytesA 32 (shaP (RtP.topR le8 n (hl 32 a))))) (results_cell_row Try.results52 _ _ r 25 _ (0, 0) _ rfl R9.out Try.underlying25 rfl (Try.size25B _)) rfl ⟨rfl, BK9.out, G9.out⟩
set_option maxRecDepth 8000 in
theorem top_none (B x n : Nat) (a : Nat → Int) (R : List (List Int)) (w : World) (hK : BkH B w x R) (hn : n < 9223372036854775808) (hN : R.length + 1 ≤ 4398046511104) (hB : B ≤ w.heap.size) (hn0 : ¬ 0 < n) :
  Calls Try.prog 52 #[.pointer (some ⟨x, 0, none⟩), .int .i64 (n : Int), .agg (bytesA 32 a)] w fun e w' => e = .returned (.agg (bytesA 32 (shaP (RtP.topR le8 n (hl 32 a))))) ∧ BkH B w' x (R ++ [RtP.topR le8 n (hl 32 a)]) ∧ Grown w w' (BkS B w) := by
 have HK := Keep.mk hK
 have HN := Keep.mk hN
 have HB := Keep.mk hB
 have hn1 : ¬ (0 : Int) < (n : Int) := by omega
 have hn2 : (n : Int) ≤ 9223372036854775807 := by omega
 clear hK hN hB
 go_enter Try.func52, Try.ntmps52
 refine wp_seq_k fun K1 hK1 => rgn ?_
 refine WL.box (by kernel_rfl) 25 (.tmp 2) rfl (bytesA 32 a) rfl ?_
 have C1 := Keep.mk (Blk.new w 25 (bytesA 32 a))
 have b1 := Keep.mk (below_new w (.cells (bytesA 32 a) 25))
 change WL _ _ _ _ _ (w.alloc (.cells (bytesA 32 a) 25))
 generalize w.alloc (.cells (bytesA 32 a) 25) = w1 at *
 obtain ⟨c, hc0⟩ : ∃ z, Keep (z = w.heap.size) := ⟨_, ⟨rfl⟩⟩
 rw [← hc0.out] at C1 ⊢
 simp only [Act.put, pqA, pqB, pqC]
 refine WL.new (by kernel_rfl) 25 rfl _ Try.new25 ?_
 have R2 := Keep.mk (Blk.new w1 25 (bytesA 32 fun _ => 0))
 have b2 := Keep.mk (below_new w1 (.cells (bytesA 32 fun _ => 0) 25))
 change WL _ _ _ _ _ (w1.alloc (.cells (bytesA 32 fun _ => 0) 25))
 generalize w1.alloc (.cells (bytesA 32 fun _ => 0) 25) = w2 at *
 obtain ⟨r, hr0⟩ : ∃ z, Keep (z = w1.heap.size) := ⟨_, ⟨rfl⟩⟩
 rw [← hr0.out] at R2 ⊢
 have C2 := Keep.mk (C1.out.below b2.out C1.out.lt)
 have B2 : Keep (Below w.heap.size w w2) := ⟨b1.out.trans (b2.out.mono b1.out.size)⟩
 have hrw : Keep (w.heap.size ≤ r) := ⟨by rw [hr0.out]; exact b1.out.size⟩
 have BK2 := Keep.mk (HK.out.below B2.out)
 clear C1 b1 b2 hr0 hc0
 simp only [Act.put, pqA, pqB, pqC]
 refine WL.nil (hK1 _ _ ?_)
 refine wp_seq_k fun K2 hK2 => rgn ?_
 refine WL.bs (by kernel_rfl) 38 1 _ rfl #[(0, .int .u8 2)] (by simp [Act.eval]) _ _ (bsK 2 w2) ?_
 have O3 := Keep.mk (OB.start w2 2)
 generalize w2.alloc (.cells (bv [2]).toArray 5) = w3 at *
 obtain ⟨v3, hv3⟩ : ∃ z, Keep (z = Value.slice (some ⟨w2.heap.size, 0, none⟩) 1 1) := ⟨_, ⟨rfl⟩⟩
 rw [← hv3.out] at O3 ⊢
 clear hv3
 simp only [Act.put, pqA, pqB, pqC]
 refine VlS (v3) ?_
 refine WL.nil (hK2 _ _ ?_)
 refine wp_seq_k fun K3 hK3 => ?_
 refine wp_seq_k fun K4 hK4 => rgn ?_
 refine VlS (.int .i64 0) ?_
 refine WL.nil (hK4 _ _ ?_)
 refine wp_block ?_
 refine wp_loop (fun ac wr => ∃ (t : Nat) (v1 : Value), ac = apF (fun f => { tmps := #[.pointer (some ⟨x, 0, none⟩), .int .i64 (n : Int), .agg (bytesA 32 a), undef, undef, .pointer (some ⟨c, 0, none⟩), .pointer (some ⟨r, 0, none⟩), v1, .int .i64 (t : Int), v3, f 10, f 11, f 12, f 13, f 14, f 15, f 16, f 17, f 18, f 19, f 20, f 21, undef, undef, undef, undef, undef, undef, undef, undef], defers := [] }) ac ∧ t ≤ 8 ∧ OB w2 wr v1 ([2] ++ (le8 n).take t)) (fun a _ => 8 - (intOf (a.tmps.getD 8 undef)).toNat) ⟨0, v3, rfl, by omega, by simpa using O3.out⟩ ?_
 rintro ac wr ⟨t, v1, hac, ht, hO⟩
 obtain ⟨f, rfl⟩ := unF hac
 have O4 := Keep.mk hO
 clear hO
 by_cases htl : t < 8
 ·have htl' : (t : Int) < 8 := by omega
  have hs0 : 0 ≤ 8 * (t : Int) := by omega
  have hs1 : 8 * (t : Int) ≤ 64 := by omega
  have hs2 : (8 * (t : Int)).toNat = 8 * t := by omega
  have hw1 : IntKind.i64.wrap (8 * (t : Int)) = 8 * (t : Int) := by rw [IntKind.wrap_i64]; omega
  have hw2 : IntKind.u8.wrap ((n : Int) / 2 ^ (8 * t)) = (n : Int) / 2 ^ (8 * t) % 256 := IntKind.wrap_u8 _
  have hw3 : IntKind.i64.wrap ((t : Int) + 1) = ((t + 1 : Nat) : Int) := by rw [IntKind.wrap_i64]; omega
  refine wp_seq_k fun K5 hK5 => ?_
  refine wp_seq_k fun K6 hK6 => rgn ?_
  refine VlS (.int .i64 (t : Int)) ?_
  refine VbT ?_
  refine WL.nil (hK6 _ _ ?_)
  refine wp_cond_true rfl ?_
  refine wp_skip ?_
  refine hK5 _ _ ?_
  refine wp_seq_k fun K7 hK7 => ?_
  refine wp_block ?_
  refine rgn ?_
  refine VlS (v1) ?_
  refine VlS (.int .i64 (n : Int)) ?_
  refine VlS (.int .i64 (t : Int)) ?_
  refine VlS (.int .i64 (8 * (t : Int))) ?_
  refine VlS (.int .i64 ((n : Int) / 2 ^ (8 * t))) ?_
  refine VlS (.int .u8 ((n : Int) / 2 ^ (8 * t) % 256)) ?_
  refine WL.bs (by kernel_rfl) 38 1 _ rfl #[(0, .int .u8 ((n : Int) / 2 ^ (8 * t) % 256))] (by simp [Act.eval]) _ _ (bsK ((n : Int) / 2 ^ (8 * t) % 256) wr) ?_
  have Y5 : Keep (RowAt (wr.alloc (.cells (bv [((n : Int) / 2 ^ (8 * t) % 256)]).toArray 5)) (.slice (some ⟨wr.heap.size, 0, none⟩) 1 1) [((n : Int) / 2 ^ (8 * t) % 256)]) := ⟨row_one wr _⟩
  have O5 := Keep.mk (O4.out.below (below_new wr (.cells (bv [((n : Int) / 2 ^ (8 * t) % 256)]).toArray 5)))
  obtain ⟨g, hg0⟩ : ∃ z, Keep (z = wr.heap.size) := ⟨_, ⟨rfl⟩⟩
  rw [← hg0.out] at Y5 ⊢
  generalize wr.alloc (.cells (bv [((n : Int) / 2 ^ (8 * t) % 256)]).toArray 5) = w5 at *
  clear O4
  simp only [Act.put, pqA, pqB, pqC]
  refine WL.app (by kernel_rfl) (.tmp 14) (.tmp 20) rfl v1 (.slice (some ⟨g, 0, none⟩) 1 1) ([2] ++ (le8 n).take t) [((n : Int) / 2 ^ (8 * t) % 256)] rfl rfl O5.out.own Y5.out (by simp; omega) ?_
  intro v6 w6 hp
  have O6 := Keep.mk (O5.out.lay hp.1 hp.moved hp.grown)
  rw [List.append_assoc, ← le8_next n t htl] at O6
  clear hp O5
  simp only [Act.put, pqA, pqB, pqC]
  refine VlS (v6) ?_
  refine WL.nil (hK7 _ _ ?_)
  refine rgn ?_
  refine VlS (.int .i64 (t : Int)) ?_
  refine VlS (.int .i64 ((t + 1 : Nat) : Int)) ?_
  refine VlS (.int .i64 ((t + 1 : Nat) : Int)) ?_
  refine WL.nil ?_
  refine ⟨⟨t + 1, v6, rfl, by omega, O6.out⟩, ?_⟩
  simp only [intOf]; show 8 - (((t + 1 : Nat) : Int)).toNat < 8 - ((t : Int)).toNat; omega
 ·have e8 : t = 8 := by omega
  have htl' : ¬ (t : Int) < 8 := by omega
  have O5 : Keep (OB w2 wr v1 ([2] ++ le8 n)) := ⟨by have h := O4.out; rw [e8, List.take_of_length_le (by rw [le8_len]; exact Nat.le_refl _)] at h; exact h⟩
  clear O4
  refine wp_seq_k fun K8 hK8 => ?_
  refine wp_seq_k fun K9 hK9 => rgn ?_
  refine VlS (.int .i64 (t : Int)) ?_
  refine VbF ?_
  refine WL.nil (hK9 _ _ ?_)
  refine wp_cond_false rfl ?_
  refine wp_exit ?_
  refine hK3 _ _ ?_
  refine wp_seq_k fun K10 hK10 => ?_
  refine wp_seq_k fun K11 hK11 => rgn ?_
  refine VlS (.int .i64 (n : Int)) ?_
  refine VbF ?_
  refine WL.nil (hK11 _ _ ?_)
  refine wp_cond_false rfl ?_
  refine wp_skip ?_
  refine hK10 _ _ ?_
  refine wp_seq_k fun K12 hK12 => rgn ?_
  refine VlS (.pointer (some ⟨x, 0, none⟩)) ?_
  refine VlS (v1) ?_
  have e7 : [2] ++ le8 n = RtP.topR le8 n (hl 32 a) := by simp [RtP.topR, hn0]
  have O7 : Keep (OB w2 wr v1 (RtP.topR le8 n (hl 32 a))) := ⟨by rw [← e7]; exact O5.out⟩
  have BK7 := Keep.mk (BK2.out.below O7.out.bel)
  have R7 := Keep.mk (R2.out.below O7.out.bel R2.out.lt)
  have hl7 : Keep ((RtP.topR le8 n (hl 32 a)).length ≤ 140737488355000) := ⟨by rw [← e7]; simp [hl_len, le8_len]⟩
  have B7 : Keep (Below w.heap.size w wr) := ⟨B2.out.trans (O7.out.bel.mono B2.out.size)⟩
  refine WL.callF (by kernel_rfl) 75 _ _ rfl Try.in75 #[.pointer (some ⟨x, 0, none⟩), v1] (by simp [Act.eval]) ?_
  refine (hash_any B x v1 (RtP.topR le8 n (hl 32 a)) R wr BK7.out O7.out.own hl7.out HN.out (by have := HB.out; have := B7.out.size; omega)).mono ?_
  rintro e w8 ⟨rfl, k1, k2⟩
  refine ⟨_, rfl, ?_⟩
  have BK8 := Keep.mk k1
  have G8 := Keep.mk k2
  have R8 := Keep.mk (R7.out.bk k2 (by decide) (by decide))
  clear k1 k2
  simp only [Act.put, pqA, pqB, pqC]
  refine WL.storeR (by kernel_rfl) 25 (.tmp 6) (.tmp 29) rfl r (bytesA 32 (shaP (RtP.topR le8 n (hl 32 a)))) rfl rfl 25 (bytesA 32 fun _ => 0) R8.out (Try.size25B _) (bytesA_sizes _ _ _) (bytesA_one _ _) ?_
  have R9 := Keep.mk (R8.out.setRow (bytesA 32 (shaP (RtP.topR le8 n (hl 32 a)))))
  have BK9 := Keep.mk (BK8.out.setRow R8.out (bytesA 32 (shaP (RtP.topR le8 n (hl 32 a)))) (by decide) (by decide) (by decide))
  have G9 := Keep.mk (bk_end (r := r) (bytesA 32 (shaP (RtP.topR le8 n (hl 32 a)))) B7.out G8.out hrw.out)
  generalize w8.setRow r (bytesA 32 (shaP (RtP.topR le8 n (hl 32 a)))) = w9 at *
  simp only [Act.put]
  refine WL.nil (hK12 _ _ ?_)
  refine wp_ret ?_
  refine bodyPost_ret (v := .agg (bytesA 32 (shaP (RtP.topR le8 n (hl 32 a))))) (results_cell_row Try.results52 _ _ r 25 _ (0, 0) _ rfl R9.out Try.underlying25 rfl (Try.size25B _)) rfl ⟨rfl, BK9.out, G9.out⟩
theorem top_any (B x n : Nat) (a : Nat → Int) (R : List (List Int)) (w : World) (hK : BkH B w x R) (hn : n < 9223372036854775808) (hN : R.length + 1 ≤ 4398046511104) (hB : B ≤ w.heap.size) :
  Calls Try.prog 52 #[.pointer (some ⟨x, 0, none⟩), .int .i64 (n : Int), .agg (bytesA 32 a)] w fun e w' => e = .returned (.agg (bytesA 32 (shaP (RtP.topR le8 n (hl 32 a))))) ∧ BkH B w' x (R ++ [RtP.topR le8 n (hl 32 a)]) ∧ Grown w w' (BkS B w) := by
 by_cases h : 0 < n
 ·exact top_some B x n a R w hK hn hN hB h
 ·exact top_none B x n a R w hK hn hN hB h

theorem Try.in53 (w : World) (vs : Array Value) : (callFunc 53 vs).run Try.prog w = .ok (.enter 53 vs) w := by kernel_rfl
theorem Try.in77 (w : World) (vs : Array Value) : (callFunc 77 vs).run Try.prog w = .ok (.enter 77 vs) w := by kernel_rfl
theorem WL.slr {ops : Array Oper} {rest : List Oper} {o : Oper} {a : Act} {w : World} {Q : Exit → Act → World → Prop} (hw : Region.wanted o (yielded ops a.tmps) = true) (t : TypeId) (x : Operand) (lo hi : Option Operand) (ho : o.op = .slice t x lo hi none)
  (vx : Value) (vlo vhi : Option Value) (vs : Value) (hx : a.eval x = vx) (hl : lo.map a.eval = vlo) (hh : hi.map a.eval = vhi) (hr : (Instr.sliceAt t vx vlo vhi none).run Try.prog w = .ok vs w) (h : WL Try.prog ops Q rest (a.put o.dst vs) w) : WL Try.prog ops Q (o :: rest) a w :=
 WL.val hw vs (by unfold execOp; simp only [ho, hx, hl, hh, Option.map_none, Sem.run_bind, hr, Result.andThen_ok, Sem.run_pure]) h
theorem Try.elemC : Try.prog.elem 23 = 40 := by kernel_rfl
theorem Try.sizeOfC (w : World) : (sizeOf 40).run Try.prog w = .ok 3 w := by kernel_rfl
theorem slC_u : Try.prog.underlying 23 = some (.slice (Try.prog.elem 23)) := by rw [Try.elemC]; exact Try.underlying23
theorem slC_l (b off n c i : Nat) (hi : i < n) (hc : n ≤ c) (w : World) : (Instr.sliceAt 23 (.slice (some ⟨b, off, none⟩) n c) (some (.int .i64 (i : Int))) none none).run Try.prog w = .ok (.slice (some ⟨b, off + i * 3, none⟩) (n - i) (c - i)) w := by
 have h1 := run_slice_l (P := Try.prog) (w := w) 23 (some ⟨b, off, none⟩) n c slC_u .i64 (i : Int) (by omega) (by omega)
 have h2 := run_sliceAt_slice (P := Try.prog) (w := w) 23 (.slice (some ⟨b, off, none⟩) n c) (some (.int .i64 (i : Int))) none none slC_u
 rw [h2, h1, Try.elemC, Try.sizeOfC, Result.andThen_ok, Int.toNat_natCast]
 have h4 : ¬ c - i = 0 := by omega
 simp [sliced, h4, Addr.add_mid]
 omega
theorem slC_h (a : Option Addr) (n c i : Nat) (hi : i ≤ c) (w : World) : (Instr.sliceAt 23 (.slice a n c) none (some (.int .i64 (i : Int))) none).run Try.prog w = .ok (.slice a i c) w := by
 have h1 := run_slice_h (P := Try.prog) (w := w) 23 a n c slC_u .i64 (i : Int) (by omega) (by omega)
 have h2 := run_sliceAt_slice (P := Try.prog) (w := w) 23 (.slice a n c) none (some (.int .i64 (i : Int))) none slC_u
 rw [h2, h1, Try.elemC, Try.sizeOfC, Result.andThen_ok, Int.toNat_natCast]
 have h4 : (if c = 0 then a else a.map (·.add (0 * 3))) = a := by
  split
  ·rfl
  ·cases a <;> rfl
 simp only [sliced, Nat.sub_zero, h4]
structure CV where
 k : Int
 s : ByteArray
 v : Value
 l : List Int
def CV.ce (c : CV) : RtP.CE := ⟨c.k.toNat, lst c.s, c.l⟩
def cvL (c : CV) : List Value := [.int .i64 c.k, .string c.s, c.v]
structure CsAt (B : Nat) (w : World) (b off : Nat) (L : List CV) : Prop where
 lt : b < B
 at_ : ∀ (i : Nat) (c : CV), L[i]? = some c → w.rangeAt b (off + i * 3) (cvL c)
 row : ∀ c ∈ L, RowAt w c.v c.l ∧ (c.l ≠ [] → ∀ k, c.v.ownBlock = some k → k < B)
theorem CsAt.take {B : Nat} {w : World} {b off : Nat} {L : List CV} (h : CsAt B w b off L) (m : Nat) : CsAt B w b off (L.take m) :=
 ⟨h.lt, fun i c hc => h.at_ i c (by
  rw [List.getElem?_take] at hc
  split at hc
  ·exact hc
  ·cases hc), fun c hc => h.row c (List.mem_of_mem_take hc)⟩
theorem CsAt.drop {B : Nat} {w : World} {b off : Nat} {L : List CV} (h : CsAt B w b off L) (m : Nat) : CsAt B w b (off + m * 3) (L.drop m) :=
 ⟨h.lt, fun i c hc => by
  rw [List.getElem?_drop] at hc
  have := h.at_ (m + i) c hc
  rw [show off + m * 3 + i * 3 = off + (m + i) * 3 by omega]
  exact this, fun c hc => h.row c (List.mem_of_mem_drop hc)⟩
theorem Grown.ofBelow {B : Nat} {w w' : World} (h : Below B w w') : Grown w w' (fun k => B ≤ k) := ⟨h.os, h.tape, h.output, h.size, fun i _ hs => h.block i (by omega)⟩
theorem CsAt.below {B : Nat} {w w' : World} {b off : Nat} {L : List CV} (h : CsAt B w b off L) (hb : Below B w w') : CsAt B w' b off L :=
 ⟨h.lt, fun i c hc => rangeAt_below (h.at_ i c hc) hb h.lt, fun c hc => ⟨(by
  by_cases h0 : c.l = []
  ·have h1 := (h.row c hc).1
   rw [h0] at h1 ⊢
   exact row_nil h1
  ·exact (h.row c hc).1.grown (Grown.ofBelow hb) fun k hk e => by have := (h.row c hc).2 h0 k hk; omega), (h.row c hc).2⟩⟩
def shaL (l : List Int) : List Int := hl 32 (shaP l)
theorem shaL_len (l : List Int) : (shaL l).length = 32 := by simp [shaL, hl_len]
theorem hl_hof {l : List Int} (h : l.length = 32) : hl 32 (hof l) = l := by
 refine List.ext_getElem (by simp [hl_len, h]) fun i h1 h2 => ?_
 simp [hl, hof, List.getD_eq_getElem?_getD, h2]
theorem hof_hl (f : Nat → Int) : bytesA 32 (hof (hl 32 f)) = bytesA 32 f := bytesA_congr fun i hi => by
 simp [hof, hl, List.getD_eq_getElem?_getD, hi]
def treeL (k : Nat) (L : List CV) : List Int := RtP.tree shaL numL k (L.map CV.ce)
def treeR (k : Nat) (L : List CV) : List (List Int) := RtP.treeRs shaL numL k (L.map CV.ce)
theorem treeL_len {k : Nat} {L : List CV} (h1 : 1 ≤ L.length) (h2 : L.length ≤ k) : (treeL k L).length = 32 := RtP.tree_len shaL numL shaL_len k _ (by simpa using h1) (by simpa using h2)
theorem treeL_one (k : Nat) (c : CV) : treeL (k + 1) [c] = shaL (RtP.leafR numL c.ce) := by simp [treeL, RtP.tree]
theorem treeR_one (k : Nat) (c : CV) : treeR (k + 1) [c] = [RtP.leafR numL c.ce] := by simp [treeR, RtP.treeRs]
theorem treeL_two {k : Nat} {L : List CV} (h : ¬ L.length ≤ 1) : treeL (k + 1) L = shaL (RtP.innR (treeL k (L.take (RtP.half L.length))) (treeL k (L.drop (RtP.half L.length)))) := by
 unfold treeL
 rw [RtP.tree, if_neg (by simpa using h)]
 simp [List.map_take, List.map_drop]
theorem treeR_two {k : Nat} {L : List CV} (h : ¬ L.length ≤ 1) : treeR (k + 1) L = treeR k (L.take (RtP.half L.length)) ++ (treeR k (L.drop (RtP.half L.length)) ++ [RtP.innR (treeL k (L.take (RtP.half L.length))) (treeL k (L.drop (RtP.half L.length)))]) := by
 unfold treeR treeL
 rw [RtP.treeRs, if_neg (by simpa using h)]
 simp [List.map_take, List.map_drop]
theorem treeR_len : ∀ (k : Nat) (L : List CV), 1 ≤ L.length → L.length ≤ k → (treeR k L).length + 1 = 2 * L.length
 | 0, L, h1, h2 => by omega
 | k + 1, L, h1, h2 => by
  by_cases h : L.length ≤ 1
  ·match L, h1, h with
   | [c], _, _ => simp [treeR_one]
  ·have hh := RtP.half_le (n := L.length) (by omega)
   have a1 := treeR_len k (L.take (RtP.half L.length)) (by rw [List.length_take]; omega) (by rw [List.length_take]; omega)
   have a2 := treeR_len k (L.drop (RtP.half L.length)) (by rw [List.length_drop]; omega) (by rw [List.length_drop]; omega)
   rw [List.length_take] at a1
   rw [List.length_drop] at a2
   rw [treeR_two h, List.length_append, List.length_append, List.length_singleton]
   omega
def Fit (L : List CV) : Prop := ∀ c ∈ L, (0 ≤ c.k ∧ c.k < 9223372036854775808) ∧ c.s.size + c.l.length ≤ 140737488350000
def TP (B x k : Nat) (L : List CV) (R : List (List Int)) (w : World) (e : Ending) (w' : World) : Prop :=
 e = .returned (.agg (bytesA 32 (hof (treeL k L)))) ∧ BkH B w' x (R ++ treeR k L) ∧ Grown w w' (BkS B w)
theorem Try.sizeC (a b c : Value) : (Try.prog.info? 40).map (·.size) = some (#[a, b, c] : Array Value).size := by kernel_rfl
set_option maxRecDepth 8000 in
theorem tree_one (B x k b off cap : Nat) (c : CV) (R : List (List Int)) (w : World) (hK : BkH B w x R) (hC : CsAt B w b off [c]) (hF : Fit [c]) (hN : R.length + 1 ≤ 4398046511104) (hB : B ≤ w.heap.size) :
  Calls Try.prog 53 #[.pointer (some ⟨x, 0, none⟩), .slice (some ⟨b, off, none⟩) 1 cap] w (TP B x (k + 1) [c] R w) := by
 have HK := Keep.mk hK
 have HC := Keep.mk hC
 have HF := Keep.mk hF
 have HN := Keep.mk hN
 have HB := Keep.mk hB
 clear hK hC hF hN hB
 go_enter Try.func53, Try.ntmps53
 refine wp_seq_k fun K1 hK1 => rgn ?_
 refine WL.new (by kernel_rfl) 25 rfl _ Try.new25 ?_
 have R1 := Keep.mk (Blk.new w 25 (bytesA 32 fun _ => 0))
 have b1 := Keep.mk (below_new w (.cells (bytesA 32 fun _ => 0) 25))
 change WL _ _ _ _ _ (w.alloc (.cells (bytesA 32 fun _ => 0) 25))
 generalize w.alloc (.cells (bytesA 32 fun _ => 0) 25) = w1 at *
 obtain ⟨r, hr0⟩ : ∃ z, Keep (z = w.heap.size) := ⟨_, ⟨rfl⟩⟩
 rw [← hr0.out] at R1 ⊢
 have BK1 := Keep.mk (HK.out.below b1.out)
 have C1 := Keep.mk (HC.out.below (b1.out.mono HB.out))
 simp only [Act.put, pqA, pqB, pqC]
 refine WL.nil (hK1 _ _ ?_)
 refine wp_seq_k fun K2 hK2 => ?_
 refine wp_seq_k fun K3 hK3 => rgn ?_
 refine VlS (.slice (some ⟨b, off, none⟩) 1 cap) ?_
 refine VlS (.int .i64 1) ?_
 refine VbT ?_
 refine WL.nil (hK3 _ _ ?_)
 refine wp_cond_true rfl ?_
 refine wp_seq_k fun K4 hK4 => rgn ?_
 refine VlS (.pointer (some ⟨x, 0, none⟩)) ?_
 refine VlS (.slice (some ⟨b, off, none⟩) 1 cap) ?_
 refine VlS (.pointer (some ⟨b, off, none⟩)) ?_
 have hat : w1.rangeAt b off (#[.int .i64 c.k, .string c.s, c.v] : Array Value).toList := by have h := C1.out.at_ 0 c rfl; simpa [cvL] using h
 refine WL.midA (by kernel_rfl) 40 (.tmp 13) rfl b off rfl #[.int .i64 c.k, .string c.s, c.v] _ hat Try.underlying40 rfl (Try.sizeC _ _ _) ?_
 clear hat
 simp only [Act.put, pqA, pqB, pqC]
 have hlf := leaf_any B x c.k.toNat c.s c.v c.l R w1 BK1.out (C1.out.row c (by simp)).1 (fun h0 k hk => Nat.lt_of_lt_of_le ((C1.out.row c (by simp)).2 h0 k hk) (Nat.le_trans HB.out b1.out.size)) (by have := (HF.out c (by simp)).1; omega) (HF.out c (by simp)).2 HN.out (Nat.le_trans HB.out b1.out.size)
 rw [Int.toNat_of_nonneg (HF.out c (by simp)).1.1] at hlf
 refine WL.callF (by kernel_rfl) 76 _ _ rfl Try.in76 #[.pointer (some ⟨x, 0, none⟩), .agg #[.int .i64 c.k, .string c.s, c.v]] (by simp [Act.eval]) ?_
 refine (hlf).mono ?_
 rintro e w8 ⟨rfl, k1, k2⟩
 refine ⟨_, rfl, ?_⟩
 have BK8 := Keep.mk k1
 have G8 := Keep.mk k2
 have R8 := Keep.mk (R1.out.bk k2 (by decide) (by decide))
 clear hlf k1 k2
 simp only [Act.put, pqA, pqB, pqC]
 refine WL.storeR (by kernel_rfl) 25 (.tmp 4) (.tmp 15) rfl r (bytesA 32 (shaP (RtP.leafR numL c.ce))) rfl rfl 25 (bytesA 32 fun _ => 0) R8.out (Try.size25B _) (bytesA_sizes _ _ _) (bytesA_one _ _) ?_
 have R9 := Keep.mk (R8.out.setRow (bytesA 32 (shaP (RtP.leafR numL c.ce))))
 have K9 := Keep.mk (BK8.out.setRow R8.out (bytesA 32 (shaP (RtP.leafR numL c.ce))) (by decide) (by decide) (by decide))
 have G9 := Keep.mk (bk_end (r := r) (bytesA 32 (shaP (RtP.leafR numL c.ce))) b1.out G8.out (by rw [hr0.out]; exact Nat.le_refl _))
 generalize w8.setRow r (bytesA 32 (shaP (RtP.leafR numL c.ce))) = w9 at *
 simp only [Act.put]
 refine WL.nil (hK4 _ _ ?_)
 refine wp_ret ?_
 refine bodyPost_ret (v := .agg (bytesA 32 (shaP (RtP.leafR numL c.ce)))) (results_cell_row Try.results53 _ _ r 25 _ (0, 0) _ rfl R9.out Try.underlying25 rfl (Try.size25B _)) rfl ⟨?_, ?_, G9.out⟩
 ·rw [treeL_one, shaL, hof_hl]
 ·rw [treeR_one]; exact K9.out
set_option maxRecDepth 8000 in
theorem tree_step (B x k : Nat) (IH : ∀ (b off cap : Nat) (L : List CV) (R : List (List Int)) (w : World), 1 ≤ L.length → L.length ≤ k → BkH B w x R → CsAt B w b off L → Fit L → L.length ≤ cap → R.length + 2 * L.length ≤ 4398046511104 → B ≤ w.heap.size → Calls Try.prog 53 #[.pointer (some ⟨x, 0, none⟩), .slice (some ⟨b, off, none⟩) L.length cap] w (TP B x k L R w))
  (b off cap : Nat) (L : List CV) (R : List (List Int)) (w : World) (h1 : 2 ≤ L.length) (h2 : L.length ≤ k + 1) (hK : BkH B w x R) (hC : CsAt B w b off L) (hF : Fit L) (hc : L.length ≤ cap) (hN : R.length + 2 * L.length ≤ 4398046511104) (hB : B ≤ w.heap.size) : Calls Try.prog 53 #[.pointer (some ⟨x, 0, none⟩), .slice (some ⟨b, off, none⟩) L.length cap] w (TP B x (k + 1) L R w) := by
 obtain ⟨n, hn⟩ : ∃ z, Keep (L.length = z) := ⟨_, ⟨rfl⟩⟩
 obtain ⟨m, hm⟩ : ∃ z, Keep (RtP.half n = z) := ⟨_, ⟨rfl⟩⟩
 rw [hn.out] at h1 h2 hc hN ⊢
 have hh := RtP.half_le h1
 rw [hm.out] at hh
 have hl1 : (L.take m).length = m := by rw [List.length_take, hn.out]; omega
 have hl2 : (L.drop m).length = n - m := by rw [List.length_drop, hn.out]
 have hy1 : Keep ((treeL k (L.take m)).length = 32) := ⟨treeL_len (by omega) (by omega)⟩
 have hy2 : Keep ((treeL k (L.drop m)).length = 32) := ⟨treeL_len (by omega) (by omega)⟩
 have hq1 : Keep ((treeR k (L.take m)).length + 1 = 2 * m) := ⟨by rw [treeR_len k _ (by omega) (by omega), hl1]⟩
 have hq2 : Keep ((treeR k (L.drop m)).length + 1 = 2 * (n - m)) := ⟨by rw [treeR_len k _ (by omega) (by omega), hl2]⟩
 have HK := Keep.mk hK
 have HC := Keep.mk hC
 have HF := Keep.mk hF
 have HN := Keep.mk hN
 have HB := Keep.mk hB
 have hn1 : ((n : Int) == 1) = false := by simp; omega
 clear hK hC hF hN hB
 go_enter Try.func53, Try.ntmps53
 refine wp_seq_k fun K1 hK1 => rgn ?_
 refine WL.new (by kernel_rfl) 25 rfl _ Try.new25 ?_
 have R1 := Keep.mk (Blk.new w 25 (bytesA 32 fun _ => 0))
 have b1 := Keep.mk (below_new w (.cells (bytesA 32 fun _ => 0) 25))
 change WL _ _ _ _ _ (w.alloc (.cells (bytesA 32 fun _ => 0) 25))
 generalize w.alloc (.cells (bytesA 32 fun _ => 0) 25) = w1 at *
 obtain ⟨r, hr0⟩ : ∃ z, Keep (z = w.heap.size) := ⟨_, ⟨rfl⟩⟩
 rw [← hr0.out] at R1 ⊢
 have BK1 := Keep.mk (HK.out.below b1.out)
 have G1 : Keep (Grown w w1 (BkS B w)) := ⟨Grown.below b1.out⟩
 have hrw : Keep (w.heap.size ≤ r) := ⟨by rw [hr0.out]; exact Nat.le_refl _⟩
 clear b1 hr0
 simp only [Act.put, pqA, pqB, pqC]
 refine WL.nil (hK1 _ _ ?_)
 refine wp_seq_k fun K2 hK2 => ?_
 refine wp_seq_k fun K3 hK3 => rgn ?_
 refine VlS (.slice (some ⟨b, off, none⟩) n cap) ?_
 refine VlS (.int .i64 (n : Int)) ?_
 refine VbF ?_
 refine WL.nil (hK3 _ _ ?_)
 refine wp_cond_false rfl ?_
 refine wp_skip ?_
 refine hK2 _ _ ?_
 refine wp_seq_k fun K4 hK4 => rgn ?_
 refine VlS (.slice (some ⟨b, off, none⟩) n cap) ?_
 refine VlS (.int .i64 (n : Int)) ?_
 refine WL.callF (by kernel_rfl) 77 _ _ rfl Try.in77 #[.int .i64 (n : Int)] (by simp [Act.eval]) ?_
 refine (half_any n w1 (by omega) (by have := HN.out; omega)).mono ?_
 rintro e w1_ ⟨rfl, hw_⟩
 refine ⟨_, rfl, ?_⟩
 have hw_ := hw_.symm
 subst hw_
 rw [hm.out]
 simp only [Act.put, pqA, pqB, pqC]
 refine VlS (.int .i64 (m : Int)) ?_
 refine WL.nil (hK4 _ _ ?_)
 refine wp_seq_k fun K5 hK5 => rgn ?_
 refine VlS (.pointer (some ⟨x, 0, none⟩)) ?_
 refine VlS (.slice (some ⟨b, off, none⟩) n cap) ?_
 refine VlS (.int .i64 (m : Int)) ?_
 refine WL.slr (by kernel_rfl) 23 (.tmp 20) none (some (.tmp 21)) rfl (.slice (some ⟨b, off, none⟩) n cap) none (some (.int .i64 (m : Int))) (.slice (some ⟨b, off, none⟩) m cap) rfl rfl rfl (slC_h _ n cap m (by omega) _) ?_
 simp only [Act.put, pqA, pqB, pqC]
 have hS : B ≤ w1.heap.size := Nat.le_trans HB.out G1.out.size
 have hrc := IH b off cap (L.take m) (R) w1 (by rw [hl1]; omega) (by rw [hl1]; omega) BK1.out ((HC.out.take m).below (G1.out.bkBelow HB.out)) (fun c hc => HF.out c (List.mem_of_mem_take hc)) (by rw [hl1]; omega) (by rw [hl1]; have := HN.out; omega) hS
 rw [hl1] at hrc
 refine WL.callF (by kernel_rfl) 53 _ _ rfl Try.in53 #[.pointer (some ⟨x, 0, none⟩), .slice (some ⟨b, off, none⟩) m cap] (by simp [Act.eval]) ?_
 refine (hrc).mono ?_
 rintro e w2 ⟨rfl, k1, k2⟩
 refine ⟨_, rfl, ?_⟩
 have BK2 := Keep.mk k1
 have G2 : Keep (Grown w w2 (BkS B w)) := ⟨BkS.next G1.out k2⟩
 have R2 := Keep.mk (R1.out.bk k2 (by decide) (by decide))
 clear hrc k1 k2 hS
 simp only [Act.put, pqA, pqB, pqC]
 refine WL.new (by kernel_rfl) 25 rfl _ Try.new25 ?_
 have P3 := Keep.mk (Blk.new w2 25 (bytesA 32 fun _ => 0))
 have b3 := Keep.mk (below_new w2 (.cells (bytesA 32 fun _ => 0) 25))
 change WL _ _ _ _ _ (w2.alloc (.cells (bytesA 32 fun _ => 0) 25))
 generalize w2.alloc (.cells (bytesA 32 fun _ => 0) 25) = w3 at *
 obtain ⟨p, hp0⟩ : ∃ z, Keep (z = w2.heap.size) := ⟨_, ⟨rfl⟩⟩
 rw [← hp0.out] at P3 ⊢
 have BK3 := Keep.mk (BK2.out.below b3.out)
 have G3 : Keep (Grown w w3 (BkS B w)) := ⟨G2.out.belowS b3.out⟩
 have hpw : Keep (w.heap.size ≤ p) := ⟨by rw [hp0.out]; exact G2.out.size⟩
 have R3 := Keep.mk (R2.out.below b3.out R2.out.lt)
 have eR3p : Keep (r ≠ p) := ⟨by have := R2.out.lt; have := hp0.out; omega⟩
 clear b3 hp0
 simp only [Act.put, pqA, pqB, pqC]
 refine WL.storeR (by kernel_rfl) 25 (.tmp 6) (.tmp 23) rfl p (bytesA 32 (hof (treeL k (L.take m)))) rfl rfl 25 (bytesA 32 fun _ => 0) P3.out (Try.size25B _) (bytesA_sizes _ _ _) (bytesA_one _ _) ?_
 have P4 := Keep.mk (P3.out.setRow (bytesA 32 (hof (treeL k (L.take m)))))
 have BK4 := Keep.mk (BK3.out.setRow P3.out (bytesA 32 (hof (treeL k (L.take m)))) (by decide) (by decide) (by decide))
 have G4 : Keep (Grown w (w3.setRow p (bytesA 32 (hof (treeL k (L.take m))))) (BkS B w)) := ⟨G3.out.next (Grown.setRow w3 p _ (S := fun k => k = p) fun _ => rfl) fun k hk e => by have := hpw.out; omega⟩
 have R4 := Keep.mk (R3.out.setRow_ne eR3p.out (bytesA 32 (hof (treeL k (L.take m)))))
 generalize w3.setRow p (bytesA 32 (hof (treeL k (L.take m)))) = w4 at *
 simp only [Act.put]
 refine WL.nil (hK5 _ _ ?_)
 refine wp_seq_k fun K6 hK6 => rgn ?_
 refine VlS (.pointer (some ⟨x, 0, none⟩)) ?_
 refine VlS (.slice (some ⟨b, off, none⟩) n cap) ?_
 refine VlS (.int .i64 (m : Int)) ?_
 refine WL.slr (by kernel_rfl) 23 (.tmp 25) (some (.tmp 26)) none rfl (.slice (some ⟨b, off, none⟩) n cap) (some (.int .i64 (m : Int))) none (.slice (some ⟨b, off + m * 3, none⟩) (n - m) (cap - m)) rfl rfl rfl (slC_l b off n cap m (by omega) (by omega) _) ?_
 simp only [Act.put, pqA, pqB, pqC]
 have hS : B ≤ w4.heap.size := Nat.le_trans HB.out G4.out.size
 have hrc := IH b (off + m * 3) (cap - m) (L.drop m) (R ++ treeR k (L.take m)) w4 (by rw [hl2]; omega) (by rw [hl2]; omega) BK4.out ((HC.out.drop m).below (G4.out.bkBelow HB.out)) (fun c hc => HF.out c (List.mem_of_mem_drop hc)) (by rw [hl2]; omega) (by rw [hl2]; have := HN.out; have := hq1.out; rw [List.length_append]; omega) hS
 rw [hl2] at hrc
 refine WL.callF (by kernel_rfl) 53 _ _ rfl Try.in53 #[.pointer (some ⟨x, 0, none⟩), .slice (some ⟨b, off + m * 3, none⟩) (n - m) (cap - m)] (by simp [Act.eval]) ?_
 refine (hrc).mono ?_
 rintro e w5 ⟨rfl, k1, k2⟩
 refine ⟨_, rfl, ?_⟩
 have BK5 := Keep.mk k1
 have G5 : Keep (Grown w w5 (BkS B w)) := ⟨BkS.next G4.out k2⟩
 have R5 := Keep.mk (R4.out.bk k2 (by decide) (by decide))
 have P5 := Keep.mk (P4.out.bk k2 (by decide) (by decide))
 clear hrc k1 k2 hS
 simp only [Act.put, pqA, pqB, pqC]
 refine WL.new (by kernel_rfl) 25 rfl _ Try.new25 ?_
 have Q6 := Keep.mk (Blk.new w5 25 (bytesA 32 fun _ => 0))
 have b6 := Keep.mk (below_new w5 (.cells (bytesA 32 fun _ => 0) 25))
 change WL _ _ _ _ _ (w5.alloc (.cells (bytesA 32 fun _ => 0) 25))
 generalize w5.alloc (.cells (bytesA 32 fun _ => 0) 25) = w6 at *
 obtain ⟨q, hq0⟩ : ∃ z, Keep (z = w5.heap.size) := ⟨_, ⟨rfl⟩⟩
 rw [← hq0.out] at Q6 ⊢
 have BK6 := Keep.mk (BK5.out.below b6.out)
 have G6 : Keep (Grown w w6 (BkS B w)) := ⟨G5.out.belowS b6.out⟩
 have hqw : Keep (w.heap.size ≤ q) := ⟨by rw [hq0.out]; exact G5.out.size⟩
 have R6 := Keep.mk (R5.out.below b6.out R5.out.lt)
 have eR6q : Keep (r ≠ q) := ⟨by have := R5.out.lt; have := hq0.out; omega⟩
 have P6 := Keep.mk (P5.out.below b6.out P5.out.lt)
 have eP6q : Keep (p ≠ q) := ⟨by have := P5.out.lt; have := hq0.out; omega⟩
 clear b6 hq0
 simp only [Act.put, pqA, pqB, pqC]
 refine WL.storeR (by kernel_rfl) 25 (.tmp 7) (.tmp 28) rfl q (bytesA 32 (hof (treeL k (L.drop m)))) rfl rfl 25 (bytesA 32 fun _ => 0) Q6.out (Try.size25B _) (bytesA_sizes _ _ _) (bytesA_one _ _) ?_
 have Q7 := Keep.mk (Q6.out.setRow (bytesA 32 (hof (treeL k (L.drop m)))))
 have BK7 := Keep.mk (BK6.out.setRow Q6.out (bytesA 32 (hof (treeL k (L.drop m)))) (by decide) (by decide) (by decide))
 have G7 : Keep (Grown w (w6.setRow q (bytesA 32 (hof (treeL k (L.drop m))))) (BkS B w)) := ⟨G6.out.next (Grown.setRow w6 q _ (S := fun k => k = q) fun _ => rfl) fun k hk e => by have := hqw.out; omega⟩
 have R7 := Keep.mk (R6.out.setRow_ne eR6q.out (bytesA 32 (hof (treeL k (L.drop m)))))
 have P7 := Keep.mk (P6.out.setRow_ne eP6q.out (bytesA 32 (hof (treeL k (L.drop m)))))
 generalize w6.setRow q (bytesA 32 (hof (treeL k (L.drop m)))) = w7 at *
 simp only [Act.put]
 refine WL.nil (hK6 _ _ ?_)
 refine wp_seq_k fun K7 hK7 => rgn ?_
 refine VlS (.pointer (some ⟨x, 0, none⟩)) ?_
 refine WL.row (by kernel_rfl) 25 (.tmp 6) rfl p rfl 25 (bytesA 32 (hof (treeL k (L.take m)))) _ P7.out Try.underlying25 rfl (Try.size25B _) ?_
 simp only [Act.put, pqA, pqB, pqC]
 refine WL.row (by kernel_rfl) 25 (.tmp 7) rfl q rfl 25 (bytesA 32 (hof (treeL k (L.drop m)))) _ Q7.out Try.underlying25 rfl (Try.size25B _) ?_
 simp only [Act.put, pqA, pqB, pqC]
 have hin := inner_any B x (hof (treeL k (L.take m))) (hof (treeL k (L.drop m))) (R ++ treeR k (L.take m) ++ treeR k (L.drop m)) w7 BK7.out (by have := HN.out; have := hq1.out; have := hq2.out; rw [List.length_append, List.length_append]; omega) (Nat.le_trans HB.out G7.out.size)
 refine WL.callF (by kernel_rfl) 78 _ _ rfl Try.in78 #[.pointer (some ⟨x, 0, none⟩), .agg (bytesA 32 (hof (treeL k (L.take m)))), .agg (bytesA 32 (hof (treeL k (L.drop m))))] (by simp [Act.eval]) ?_
 refine (hin).mono ?_
 rintro e w8 ⟨rfl, k1, k2⟩
 refine ⟨_, rfl, ?_⟩
 have BK8 := Keep.mk k1
 have G8 : Keep (Grown w w8 (BkS B w)) := ⟨BkS.next G7.out k2⟩
 have R8 := Keep.mk (R7.out.bk k2 (by decide) (by decide))
 clear hin k1 k2
 simp only [Act.put, pqA, pqB, pqC]
 refine WL.storeR (by kernel_rfl) 25 (.tmp 4) (.tmp 32) rfl r (bytesA 32 (shaP (RtP.innR (hl 32 (hof (treeL k (L.take m)))) (hl 32 (hof (treeL k (L.drop m))))))) rfl rfl 25 (bytesA 32 fun _ => 0) R8.out (Try.size25B _) (bytesA_sizes _ _ _) (bytesA_one _ _) ?_
 have R9 := Keep.mk (R8.out.setRow (bytesA 32 (shaP (RtP.innR (hl 32 (hof (treeL k (L.take m)))) (hl 32 (hof (treeL k (L.drop m))))))))
 have BK9 := Keep.mk (BK8.out.setRow R8.out (bytesA 32 (shaP (RtP.innR (hl 32 (hof (treeL k (L.take m)))) (hl 32 (hof (treeL k (L.drop m))))))) (by decide) (by decide) (by decide))
 have G9 : Keep (Grown w (w8.setRow r (bytesA 32 (shaP (RtP.innR (hl 32 (hof (treeL k (L.take m)))) (hl 32 (hof (treeL k (L.drop m)))))))) (BkS B w)) := ⟨G8.out.next (Grown.setRow w8 r _ (S := fun k => k = r) fun _ => rfl) fun k hk e => by have := hrw.out; omega⟩
 
 generalize w8.setRow r (bytesA 32 (shaP (RtP.innR (hl 32 (hof (treeL k (L.take m)))) (hl 32 (hof (treeL k (L.drop m))))))) = w9 at *
 simp only [Act.put]
 refine WL.nil (hK7 _ _ ?_)
 refine wp_ret ?_
 refine bodyPost_ret (v := .agg (bytesA 32 (shaP (RtP.innR (hl 32 (hof (treeL k (L.take m)))) (hl 32 (hof (treeL k (L.drop m)))))))) (results_cell_row Try.results53 _ _ r 25 _ (0, 0) _ rfl R9.out Try.underlying25 rfl (Try.size25B _)) rfl ⟨?_, ?_, G9.out⟩
 ·rw [treeL_two (by rw [hn.out]; omega), hn.out, hm.out, shaL, hof_hl, hl_hof hy1.out, hl_hof hy2.out]
 ·have h := BK9.out
  rw [hl_hof hy1.out, hl_hof hy2.out] at h
  rw [treeR_two (by rw [hn.out]; omega), hn.out, hm.out]
  simpa using h

theorem tree_any (B x : Nat) : ∀ (k b off cap : Nat) (L : List CV) (R : List (List Int)) (w : World), 1 ≤ L.length → L.length ≤ k → BkH B w x R → CsAt B w b off L → Fit L → L.length ≤ cap → R.length + 2 * L.length ≤ 4398046511104 → B ≤ w.heap.size → Calls Try.prog 53 #[.pointer (some ⟨x, 0, none⟩), .slice (some ⟨b, off, none⟩) L.length cap] w (TP B x k L R w)
 | 0, b, off, cap, L, R, w, h1, h2, _, _, _, _, _, _ => by omega
 | k + 1, b, off, cap, L, R, w, h1, h2, hK, hC, hF, hc, hN, hB => by
  by_cases h : 2 ≤ L.length
  ·exact tree_step B x k (tree_any B x k) b off cap L R w h h2 hK hC hF hc hN hB
  ·obtain ⟨c, rfl⟩ : ∃ c, L = [c] := List.length_eq_one_iff.1 (by omega)
   exact tree_one B x k b off cap c R w hK hC hF (by simp at hN; omega) hB

theorem Try.in27 (w : World) (vs : Array Value) : (callFunc 27 vs).run Try.prog w = .ok (.enter 27 vs) w := by kernel_rfl
def CsV (B : Nat) (w : World) (v : Value) (L : List CV) : Prop :=
 (∃ a c, v = .slice a 0 c ∧ L = []) ∨ ∃ b off cap, v = .slice (some ⟨b, off, none⟩) L.length cap ∧ L.length ≤ cap ∧ CsAt B w b off L
theorem CsV.below {B : Nat} {w w' : World} {v : Value} {L : List CV} (h : CsV B w v L) (hb : Below B w w') : CsV B w' v L := by
 rcases h with h | ⟨b, off, cap, h1, h2, h3⟩
 ·exact .inl h
 ·exact .inr ⟨b, off, cap, h1, h2, h3.below hb⟩
def rootL (L : List CV) : List Int := RtP.rootR shaL numL le8 (L.map CV.ce)
def rootS (L : List CV) : List (List Int) := RtP.rootRs shaL numL le8 (L.map CV.ce)
theorem rootL_eq (L : List CV) : rootL L = RtP.topR le8 L.length (treeL L.length L) := by simp [rootL, RtP.rootR, treeL]
theorem rootS_eq (L : List CV) : rootS L = treeR L.length L ++ [rootL L] := by simp [rootS, rootL, RtP.rootRs, treeR]
def RP (B x : Nat) (L : List CV) (R : List (List Int)) (w : World) (e : Ending) (w' : World) : Prop :=
 e = .returned (.agg (bytesA 32 (shaP (rootL L)))) ∧ BkH B w' x (R ++ rootS L) ∧ Grown w w' (BkS B w)
theorem bld_h : Try.prog.built 25 [] = some (bytesA 32 fun _ => 0) := by kernel_rfl
set_option maxRecDepth 8000 in
theorem root_none (B x cap : Nat) (la : Option Addr) (R : List (List Int)) (w : World) (hK : BkH B w x R) (hN : R.length + 1 ≤ 4398046511104) (hB : B ≤ w.heap.size) :
  Calls Try.prog 27 #[.pointer (some ⟨x, 0, none⟩), .slice la 0 cap] w (RP B x [] R w) := by
 have HK := Keep.mk hK
 have HN := Keep.mk hN
 have HB := Keep.mk hB
 clear hK hN hB
 go_enter Try.func27, Try.ntmps27
 refine wp_seq_k fun K1 hK1 => rgn ?_
 refine WL.new (by kernel_rfl) 25 rfl _ Try.new25 ?_
 have R1 := Keep.mk (Blk.new w 25 (bytesA 32 fun _ => 0))
 have b1 := Keep.mk (below_new w (.cells (bytesA 32 fun _ => 0) 25))
 change WL _ _ _ _ _ (w.alloc (.cells (bytesA 32 fun _ => 0) 25))
 generalize w.alloc (.cells (bytesA 32 fun _ => 0) 25) = w1 at *
 obtain ⟨r, hr0⟩ : ∃ z, Keep (z = w.heap.size) := ⟨_, ⟨rfl⟩⟩
 rw [← hr0.out] at R1 ⊢
 have BK1 := Keep.mk (HK.out.below b1.out)
 have G1 : Keep (Grown w w1 (BkS B w)) := ⟨Grown.below b1.out⟩
 have hrw : Keep (w.heap.size ≤ r) := ⟨by rw [hr0.out]; exact Nat.le_refl _⟩
 clear b1 hr0
 simp only [Act.put, pqA, pqB, pqC]
 refine WL.nil (hK1 _ _ ?_)
 refine wp_seq_k fun K2 hK2 => ?_
 refine wp_seq_k fun K3 hK3 => rgn ?_
 refine VlS (.slice la 0 cap) ?_
 refine VlS (.int .i64 0) ?_
 refine VbT ?_
 refine WL.nil (hK3 _ _ ?_)
 refine wp_cond_true rfl ?_
 refine wp_seq_k fun K4 hK4 => rgn ?_
 refine VlS (.pointer (some ⟨x, 0, none⟩)) ?_
 refine WL.bld (by kernel_rfl) 25 _ rfl [] (by simp [Act.eval]) _ bld_h ?_
 simp only [Act.put, pqA, pqB, pqC]
 have htp := top_any B x 0 (fun _ => 0) R w1 BK1.out (by omega) (by have := HN.out; omega) (Nat.le_trans HB.out G1.out.size)
 refine WL.callF (by kernel_rfl) 52 _ _ rfl Try.in52 #[.pointer (some ⟨x, 0, none⟩), .int .i64 0, .agg (bytesA 32 fun _ => 0)] (by simp [Act.eval]) ?_
 refine (htp).mono ?_
 rintro e w8 ⟨rfl, k1, k2⟩
 refine ⟨_, rfl, ?_⟩
 have BK8 := Keep.mk k1
 have G8 : Keep (Grown w w8 (BkS B w)) := ⟨BkS.next G1.out k2⟩
 have R8 := Keep.mk (R1.out.bk k2 (by decide) (by decide))
 clear htp k1 k2
 simp only [Act.put, pqA, pqB, pqC]
 refine WL.storeR (by kernel_rfl) 25 (.tmp 4) (.tmp 11) rfl r (bytesA 32 (shaP (RtP.topR le8 0 (hl 32 fun _ => 0)))) rfl rfl 25 (bytesA 32 fun _ => 0) R8.out (Try.size25B _) (bytesA_sizes _ _ _) (bytesA_one _ _) ?_
 have R9 := Keep.mk (R8.out.setRow (bytesA 32 (shaP (RtP.topR le8 0 (hl 32 fun _ => 0)))))
 have BK9 := Keep.mk (BK8.out.setRow R8.out (bytesA 32 (shaP (RtP.topR le8 0 (hl 32 fun _ => 0)))) (by decide) (by decide) (by decide))
 have G9 : Keep (Grown w (w8.setRow r (bytesA 32 (shaP (RtP.topR le8 0 (hl 32 fun _ => 0))))) (BkS B w)) := ⟨G8.out.next (Grown.setRow w8 r _ (S := fun k => k = r) fun _ => rfl) fun k hk e => by have := hrw.out; omega⟩
 
 generalize w8.setRow r (bytesA 32 (shaP (RtP.topR le8 0 (hl 32 fun _ => 0)))) = w9 at *
 simp only [Act.put]
 refine WL.nil (hK4 _ _ ?_)
 refine wp_ret ?_
 refine bodyPost_ret (v := .agg (bytesA 32 (shaP (RtP.topR le8 0 (hl 32 fun _ => 0))))) (results_cell_row Try.results27 _ _ r 25 _ (0, 0) _ rfl R9.out Try.underlying25 rfl (Try.size25B _)) rfl ⟨?_, ?_, G9.out⟩
 ·rw [rootL_eq]; rfl
 ·rw [rootS_eq, rootL_eq]; exact BK9.out
set_option maxRecDepth 8000 in
theorem root_some (B x b off cap : Nat) (L : List CV) (R : List (List Int)) (w : World) (h1 : 1 ≤ L.length) (hK : BkH B w x R) (hC : CsAt B w b off L) (hF : Fit L) (hc : L.length ≤ cap) (hN : R.length + 2 * L.length ≤ 4398046511104) (hB : B ≤ w.heap.size) :
  Calls Try.prog 27 #[.pointer (some ⟨x, 0, none⟩), .slice (some ⟨b, off, none⟩) L.length cap] w (RP B x L R w) := by
 obtain ⟨n, hn⟩ : ∃ z, Keep (L.length = z) := ⟨_, ⟨rfl⟩⟩
 have hy : Keep ((treeL n L).length = 32) := ⟨treeL_len h1 (by rw [hn.out]; exact Nat.le_refl _)⟩
 have hq : Keep ((treeR n L).length + 1 = 2 * n) := ⟨by rw [treeR_len n L h1 (by rw [hn.out]; exact Nat.le_refl _), hn.out]⟩
 rw [hn.out] at h1 hc hN ⊢
 have HK := Keep.mk hK
 have HC := Keep.mk hC
 have HF := Keep.mk hF
 have HN := Keep.mk hN
 have HB := Keep.mk hB
 have Hc := Keep.mk hc
 have hn1 : ((n : Int) == 0) = false := by simp; omega
 clear hK hC hF hN hB hc
 go_enter Try.func27, Try.ntmps27
 refine wp_seq_k fun K1 hK1 => rgn ?_
 refine WL.new (by kernel_rfl) 25 rfl _ Try.new25 ?_
 have R1 := Keep.mk (Blk.new w 25 (bytesA 32 fun _ => 0))
 have b1 := Keep.mk (below_new w (.cells (bytesA 32 fun _ => 0) 25))
 change WL _ _ _ _ _ (w.alloc (.cells (bytesA 32 fun _ => 0) 25))
 generalize w.alloc (.cells (bytesA 32 fun _ => 0) 25) = w1 at *
 obtain ⟨r, hr0⟩ : ∃ z, Keep (z = w.heap.size) := ⟨_, ⟨rfl⟩⟩
 rw [← hr0.out] at R1 ⊢
 have BK1 := Keep.mk (HK.out.below b1.out)
 have G1 : Keep (Grown w w1 (BkS B w)) := ⟨Grown.below b1.out⟩
 have hrw : Keep (w.heap.size ≤ r) := ⟨by rw [hr0.out]; exact Nat.le_refl _⟩
 clear b1 hr0
 simp only [Act.put, pqA, pqB, pqC]
 refine WL.nil (hK1 _ _ ?_)
 refine wp_seq_k fun K2 hK2 => ?_
 refine wp_seq_k fun K3 hK3 => rgn ?_
 refine VlS (.slice (some ⟨b, off, none⟩) n cap) ?_
 refine VlS (.int .i64 (n : Int)) ?_
 refine VbF ?_
 refine WL.nil (hK3 _ _ ?_)
 refine wp_cond_false rfl ?_
 refine wp_skip ?_
 refine hK2 _ _ ?_
 refine wp_seq_k fun K4 hK4 => rgn ?_
 refine VlS (.pointer (some ⟨x, 0, none⟩)) ?_
 refine VlS (.slice (some ⟨b, off, none⟩) n cap) ?_
 have hrc := tree_any B x n b off cap L R w1 (by rw [hn.out]; exact h1) (by rw [hn.out]; exact Nat.le_refl _) BK1.out (HC.out.below (G1.out.bkBelow HB.out)) HF.out (by rw [hn.out]; exact Hc.out) (by rw [hn.out]; have := HN.out; omega) (Nat.le_trans HB.out G1.out.size)
 rw [hn.out] at hrc
 refine WL.callF (by kernel_rfl) 53 _ _ rfl Try.in53 #[.pointer (some ⟨x, 0, none⟩), .slice (some ⟨b, off, none⟩) n cap] (by simp [Act.eval]) ?_
 refine (hrc).mono ?_
 rintro e w2 ⟨rfl, k1, k2⟩
 refine ⟨_, rfl, ?_⟩
 have BK2 := Keep.mk k1
 have G2 : Keep (Grown w w2 (BkS B w)) := ⟨BkS.next G1.out k2⟩
 have R2 := Keep.mk (R1.out.bk k2 (by decide) (by decide))
 clear hrc k1 k2
 simp only [Act.put, pqA, pqB, pqC]
 refine WL.new (by kernel_rfl) 25 rfl _ Try.new25 ?_
 have P3 := Keep.mk (Blk.new w2 25 (bytesA 32 fun _ => 0))
 have b3 := Keep.mk (below_new w2 (.cells (bytesA 32 fun _ => 0) 25))
 change WL _ _ _ _ _ (w2.alloc (.cells (bytesA 32 fun _ => 0) 25))
 generalize w2.alloc (.cells (bytesA 32 fun _ => 0) 25) = w3 at *
 obtain ⟨p, hp0⟩ : ∃ z, Keep (z = w2.heap.size) := ⟨_, ⟨rfl⟩⟩
 rw [← hp0.out] at P3 ⊢
 have BK3 := Keep.mk (BK2.out.below b3.out)
 have G3 : Keep (Grown w w3 (BkS B w)) := ⟨G2.out.belowS b3.out⟩
 have hpw : Keep (w.heap.size ≤ p) := ⟨by rw [hp0.out]; exact G2.out.size⟩
 have R3 := Keep.mk (R2.out.below b3.out R2.out.lt)
 have eR3p : Keep (r ≠ p) := ⟨by have := R2.out.lt; have := hp0.out; omega⟩
 clear b3 hp0
 simp only [Act.put, pqA, pqB, pqC]
 refine WL.storeR (by kernel_rfl) 25 (.tmp 5) (.tmp 14) rfl p (bytesA 32 (hof (treeL n L))) rfl rfl 25 (bytesA 32 fun _ => 0) P3.out (Try.size25B _) (bytesA_sizes _ _ _) (bytesA_one _ _) ?_
 have P4 := Keep.mk (P3.out.setRow (bytesA 32 (hof (treeL n L))))
 have BK4 := Keep.mk (BK3.out.setRow P3.out (bytesA 32 (hof (treeL n L))) (by decide) (by decide) (by decide))
 have G4 : Keep (Grown w (w3.setRow p (bytesA 32 (hof (treeL n L)))) (BkS B w)) := ⟨G3.out.next (Grown.setRow w3 p _ (S := fun k => k = p) fun _ => rfl) fun k hk e => by have := hpw.out; omega⟩
 have R4 := Keep.mk (R3.out.setRow_ne eR3p.out (bytesA 32 (hof (treeL n L))))
 generalize w3.setRow p (bytesA 32 (hof (treeL n L))) = w4 at *
 simp only [Act.put]
 refine WL.nil (hK4 _ _ ?_)
 refine wp_seq_k fun K5 hK5 => rgn ?_
 refine VlS (.pointer (some ⟨x, 0, none⟩)) ?_
 refine VlS (.slice (some ⟨b, off, none⟩) n cap) ?_
 refine VlS (.int .i64 (n : Int)) ?_
 refine WL.row (by kernel_rfl) 25 (.tmp 5) rfl p rfl 25 (bytesA 32 (hof (treeL n L))) _ P4.out Try.underlying25 rfl (Try.size25B _) ?_
 simp only [Act.put, pqA, pqB, pqC]
 have htp := top_any B x n (hof (treeL n L)) (R ++ treeR n L) w4 BK4.out (by have := HN.out; omega) (by have := HN.out; have := hq.out; rw [List.length_append]; omega) (Nat.le_trans HB.out G4.out.size)
 refine WL.callF (by kernel_rfl) 52 _ _ rfl Try.in52 #[.pointer (some ⟨x, 0, none⟩), .int .i64 (n : Int), .agg (bytesA 32 (hof (treeL n L)))] (by simp [Act.eval]) ?_
 refine (htp).mono ?_
 rintro e w8 ⟨rfl, k1, k2⟩
 refine ⟨_, rfl, ?_⟩
 have BK8 := Keep.mk k1
 have G8 : Keep (Grown w w8 (BkS B w)) := ⟨BkS.next G4.out k2⟩
 have R8 := Keep.mk (R4.out.bk k2 (by decide) (by decide))
 clear htp k1 k2
 simp only [Act.put, pqA, pqB, pqC]
 refine WL.storeR (by kernel_rfl) 25 (.tmp 4) (.tmp 19) rfl r (bytesA 32 (shaP (RtP.topR le8 n (hl 32 (hof (treeL n L)))))) rfl rfl 25 (bytesA 32 fun _ => 0) R8.out (Try.size25B _) (bytesA_sizes _ _ _) (bytesA_one _ _) ?_
 have R9 := Keep.mk (R8.out.setRow (bytesA 32 (shaP (RtP.topR le8 n (hl 32 (hof (treeL n L)))))))
 have BK9 := Keep.mk (BK8.out.setRow R8.out (bytesA 32 (shaP (RtP.topR le8 n (hl 32 (hof (treeL n L)))))) (by decide) (by decide) (by decide))
 have G9 : Keep (Grown w (w8.setRow r (bytesA 32 (shaP (RtP.topR le8 n (hl 32 (hof (treeL n L))))))) (BkS B w)) := ⟨G8.out.next (Grown.setRow w8 r _ (S := fun k => k = r) fun _ => rfl) fun k hk e => by have := hrw.out; omega⟩
 
 generalize w8.setRow r (bytesA 32 (shaP (RtP.topR le8 n (hl 32 (hof (treeL n L)))))) = w9 at *
 simp only [Act.put]
 refine WL.nil (hK5 _ _ ?_)
 refine wp_ret ?_
 refine bodyPost_ret (v := .agg (bytesA 32 (shaP (RtP.topR le8 n (hl 32 (hof (treeL n L))))))) (results_cell_row Try.results27 _ _ r 25 _ (0, 0) _ rfl R9.out Try.underlying25 rfl (Try.size25B _)) rfl ⟨?_, ?_, G9.out⟩
 ·rw [rootL_eq, hn.out, hl_hof hy.out]
 ·have h := BK9.out
  rw [hl_hof hy.out] at h
  rw [rootS_eq, rootL_eq, hn.out]
  simpa using h

theorem root_any (B x : Nat) (v : Value) (L : List CV) (R : List (List Int)) (w : World) (hK : BkH B w x R) (hC : CsV B w v L) (hF : Fit L) (hN : R.length + 2 * L.length + 1 ≤ 4398046511104) (hB : B ≤ w.heap.size) :
  Calls Try.prog 27 #[.pointer (some ⟨x, 0, none⟩), v] w (RP B x L R w) := by
 rcases hC with ⟨a, c, rfl, rfl⟩ | ⟨b, off, cap, rfl, h2, h3⟩
 ·exact root_none B x c a R w hK (by simp at hN; omega) hB
 ·by_cases h1 : 1 ≤ L.length
  ·exact root_some B x b off cap L R w h1 hK h3 hF h2 (by omega) hB
  ·have e : L = [] := List.eq_nil_of_length_eq_zero (by omega)
   subst e
   exact root_none B x cap _ R w hK (by simp at hN; omega) hB

theorem Try.in18 (w : World) (vs : Array Value) : (callFunc 18 vs).run Try.prog w = .ok (.enter 18 vs) w := by kernel_rfl
theorem Try.in31 (w : World) (vs : Array Value) : (callFunc 31 vs).run Try.prog w = .ok (.enter 31 vs) w := by kernel_rfl
theorem Try.in33 (w : World) (vs : Array Value) : (callFunc 33 vs).run Try.prog w = .ok (.enter 33 vs) w := by kernel_rfl
def okK (L : List CV) : Bool := L.all fun c => kmay c.k
def okO : List CV → Bool
 | c :: d :: r => aheI c.k c.s d.k d.s && okO (d :: r)
 | _ => true
def wrongI (L : List CV) : Int := if okK L then (if okO L then 0 else 130) else 40
theorem okK_no {L : List CV} {t : Nat} {c : CV} (h : L[t]? = some c) (hc : kmay c.k = false) : okK L = false := by
 rw [okK, List.all_eq_false]
 exact ⟨c, List.mem_of_getElem? h, by simp [hc]⟩
theorem okK_yes {L : List CV} (h : ∀ (i : Nat) (c : CV), i < L.length → L[i]? = some c → kmay c.k = true) : okK L = true := by
 rw [okK, List.all_eq_true]
 intro c hc
 obtain ⟨i, hi⟩ := List.getElem?_of_mem hc
 exact h i c (List.getElem?_eq_some_iff.1 hi).1 hi
theorem okO_no : ∀ {L : List CV} {t : Nat} {c d : CV}, L[t]? = some c → L[t + 1]? = some d → aheI c.k c.s d.k d.s = false → okO L = false
 | [], t, c, d, h, _, _ => by simp at h
 | [a], t, c, d, _, h, _ => by simp at h
 | a :: b :: r, 0, c, d, h1, h2, h => by
  simp at h1 h2
  subst h1 h2
  simp [okO, h]
 | a :: b :: r, t + 1, c, d, h1, h2, h => by
  have := okO_no (L := b :: r) (t := t) (by simpa using h1) (by simpa using h2) h
  simp [okO, this]
theorem okO_yes : ∀ {L : List CV}, (∀ (i : Nat) (c d : CV), L[i]? = some c → L[i + 1]? = some d → aheI c.k c.s d.k d.s = true) → okO L = true
 | [], _ => rfl
 | [a], _ => rfl
 | a :: b :: r, h => by
  have h0 := h 0 a b rfl rfl
  have := okO_yes (L := b :: r) fun i c d hc hd => h (i + 1) c d (by simpa using hc) (by simpa using hd)
  simp [okO, h0, this]
theorem CsAt.c {B : Nat} {w : World} {b off t : Nat} {L : List CV} {c : CV} (h : CsAt B w b off L) (hc : L[t]? = some c) : w.cell? ⟨b, off + t * 3, none⟩ = some (.int .i64 c.k) ∧ w.cell? ⟨b, off + t * 3 + 1, none⟩ = some (.string c.s) ∧ w.cell? ⟨b, off + t * 3 + 2, none⟩ = some c.v :=
 ⟨h.at_ t c hc 0 _ rfl, h.at_ t c hc 1 _ rfl, h.at_ t c hc 2 _ rfl⟩
set_option maxRecDepth 8000 in
theorem wrong_any (B : Nat) (v : Value) (L : List CV) (w : World) (hC : CsV B w v L) (hB : B ≤ w.heap.size) (hN : L.length ≤ 4398046511104) :
  Calls Try.prog 18 #[v] w fun e w' => e = .returned (.int .i64 (wrongI L)) ∧ Below w.heap.size w w' := by
 obtain ⟨n, hn⟩ : ∃ z, Keep (L.length = z) := ⟨_, ⟨rfl⟩⟩
 obtain ⟨la, cap, rfl, hC'⟩ : ∃ la cap, v = .slice la n cap ∧ (0 < n → ∃ b off, la = some ⟨b, off, none⟩ ∧ CsAt B w b off L) := by
  rcases hC with ⟨a, c, rfl, rfl⟩ | ⟨b, off, cap, rfl, h2, h3⟩
  ·exact ⟨a, c, by rw [← hn.out]; rfl, fun h => by have := hn.out; simp at this; omega⟩
  ·exact ⟨_, cap, by rw [hn.out], fun _ => ⟨b, off, rfl, h3⟩⟩
 have HC := Keep.mk hC'
 have HB := Keep.mk hB
 have HN : Keep (n ≤ 4398046511104) := ⟨by rw [← hn.out]; exact hN⟩
 clear hC hC' hB hN
 go_enter Try.func18, Try.ntmps18
 refine wp_seq_k fun K1 hK1 => rgn ?_
 refine VlS (.int .i64 0) ?_
 refine WL.nil (hK1 _ _ ?_)
 refine wp_seq_k fun K2 hK2 => ?_
 refine wp_seq_k fun K3 hK3 => rgn ?_
 refine VlS (.int .i64 0) ?_
 refine WL.nil (hK3 _ _ ?_)
 refine wp_block ?_
 refine wp_loop (fun ac wr => ∃ (t : Nat), ac = apF (fun f => { tmps := #[.slice la n cap, undef, f 2, .int .i64 (t : Int), f 4, undef, undef, f 7, f 8, f 9, f 10, f 11, f 12, f 13, f 14, f 15, f 16, f 17, f 18, f 19, f 20, undef, undef, undef, undef, undef, undef, undef, undef, undef, undef, undef, undef, undef, undef, undef, undef, undef, undef, undef, undef, undef, undef, undef, undef, undef, undef, undef, undef, undef, undef, undef], defers := [] }) ac ∧ t ≤ n ∧ wr = w ∧ (∀ (i : Nat) (c : CV), i < t → L[i]? = some c → kmay c.k = true)) (fun a _ => n - (intOf (a.tmps.getD 3 undef)).toNat) ⟨0, rfl, by omega, rfl, fun i c hi _ => by omega⟩ ?_
 rintro ac wr ⟨t, hac, ht, hw, hI⟩
 obtain ⟨f, rfl⟩ := unF hac
 have hw := hw.symm
 subst hw
 have HI := Keep.mk hI
 clear hI
 by_cases htl : t < n
 ·have htl' : (t : Int) < (n : Int) := by omega
  obtain ⟨b, off, hla, hcx⟩ := HC.out (by omega)
  subst hla
  have HX := Keep.mk hcx
  clear hcx
  obtain ⟨c, Hc⟩ : ∃ z, Keep (L[t]? = some z) := ⟨L[t]'(by rw [hn.out]; exact htl), ⟨List.getElem?_eq_getElem _⟩⟩
  have c0 := (HX.out.c Hc.out).1
  refine wp_seq_k fun K4 hK4 => ?_
  refine wp_seq_k fun K5 hK5 => rgn ?_
  refine VlS (.int .i64 (t : Int)) ?_
  refine VlS (.slice (some ⟨b, off, none⟩) n cap) ?_
  refine VlS (.int .i64 (n : Int)) ?_
  refine VbT ?_
  refine WL.nil (hK5 _ _ ?_)
  refine wp_cond_true rfl ?_
  refine wp_skip ?_
  refine hK4 _ _ ?_
  refine wp_seq_k fun K6 hK6 => ?_
  refine wp_block ?_
  refine wp_seq_k fun K7 hK7 => rgn ?_
  refine VlS (.slice (some ⟨b, off, none⟩) n cap) ?_
  refine VlS (.int .i64 (t : Int)) ?_
  refine VlS (.pointer (some ⟨b, off + t * 3, none⟩)) ?_
  refine VlS (.pointer (some ⟨b, off + t * 3, none⟩)) ?_
  refine VlS (.int .i64 c.k) ?_
  clear c0
  refine WL.callF (by kernel_rfl) 31 _ _ rfl Try.in31 #[.int .i64 c.k] (by simp [Act.eval]) ?_
  refine (kmay_any c.k _).mono ?_
  rintro e w1_ ⟨rfl, hw_⟩
  refine ⟨_, rfl, ?_⟩
  have hw_ := hw_.symm
  subst hw_
  simp only [Act.put, pqA, pqB, pqC]
  refine VlS (.bool (kmay c.k)) ?_
  refine WL.nil (hK7 _ _ ?_)
  refine wp_seq_k fun K8 hK8 => rgn ?_
  refine VlS (.bool (kmay c.k)) ?_
  refine VlS (.bool (!kmay c.k)) ?_
  refine WL.nil (hK8 _ _ ?_)
  cases hkm : kmay c.k
  ·simp only [Bool.not_false]
   refine wp_cond_true rfl ?_
   refine wp_seq_k fun K9 hK9 => rgn ?_
   refine VlS (.int .i64 40) ?_
   refine WL.nil (hK9 _ _ ?_)
   refine wp_ret ?_
   go_ret
   exact ⟨by rw [wrongI, okK_no Hc.out hkm]; rfl, Below.refl _ _⟩
  ·simp only [Bool.not_true]
   have hw3 : IntKind.i64.wrap ((t : Int) + 1) = ((t + 1 : Nat) : Int) := by rw [IntKind.wrap_i64]; have := HN.out; omega
   refine wp_cond_false rfl ?_
   refine wp_skip ?_
   refine hK6 _ _ ?_
   refine rgn ?_
   refine VlS (.int .i64 (t : Int)) ?_
   refine VlS (.int .i64 ((t + 1 : Nat) : Int)) ?_
   refine VlS (.int .i64 ((t + 1 : Nat) : Int)) ?_
   refine WL.nil ?_
   refine ⟨⟨t + 1, rfl, by omega, rfl, fun i d hi hd => ?_⟩, ?_⟩
   ·by_cases e : i = t
    ·subst e; rw [Hc.out] at hd; injection hd with hd; subst hd; exact hkm
    ·exact HI.out i d (by omega) hd
   ·simp only [intOf]; show n - (((t + 1 : Nat) : Int)).toNat < n - ((t : Int)).toNat; omega
 ·have htl' : ¬ (t : Int) < (n : Int) := by omega
  have HKy : Keep (∀ (i : Nat) (c : CV), i < L.length → L[i]? = some c → kmay c.k = true) := ⟨fun i c hi hc => HI.out i c (by rw [hn.out] at hi; omega) hc⟩
  refine wp_seq_k fun K10 hK10 => ?_
  refine wp_seq_k fun K11 hK11 => rgn ?_
  refine VlS (.int .i64 (t : Int)) ?_
  refine VlS (.slice la n cap) ?_
  refine VlS (.int .i64 (n : Int)) ?_
  refine VbF ?_
  refine WL.nil (hK11 _ _ ?_)
  refine wp_cond_false rfl ?_
  refine wp_exit ?_
  refine hK2 _ _ ?_
  refine wp_seq_k fun K12 hK12 => ?_
  refine wp_seq_k fun K13 hK13 => rgn ?_
  refine VlS (.int .i64 1) ?_
  refine WL.nil (hK13 _ _ ?_)
  refine wp_block ?_
  refine wp_loop (fun ac wq => ∃ (u : Nat), ac = apF (fun g => { tmps := #[.slice la n cap, undef, g 2, .int .i64 (t : Int), f 4, .int .i64 ((u + 1 : Nat) : Int), g 6, .int .i64 (t : Int), .slice la n cap, .int .i64 (n : Int), .bool false, f 11, f 12, f 13, f 14, f 15, f 16, f 17, f 18, f 19, f 20, g 21, g 22, g 23, g 24, g 25, g 26, g 27, g 28, g 29, g 30, g 31, g 32, g 33, g 34, g 35, g 36, g 37, g 38, g 39, g 40, g 41, g 42, g 43, g 44, g 45, g 46, g 47, g 48, g 49, g 50, g 51], defers := [] }) ac ∧ u ≤ n ∧ Below w.heap.size w wq ∧ (∀ (i : Nat) (c d : CV), i < u → L[i]? = some c → L[i + 1]? = some d → aheI c.k c.s d.k d.s = true)) (fun a _ => n + 1 - (intOf (a.tmps.getD 5 undef)).toNat) ⟨0, rfl, by omega, Below.refl _ _, fun i c d hi _ _ => by omega⟩ ?_
  rintro ac wq ⟨u, hac, hu, hb, hJ⟩
  obtain ⟨g, rfl⟩ := unF hac
  have BB := Keep.mk hb
  have HJ := Keep.mk hJ
  clear hb hJ
  by_cases hul : u + 1 < n
  ·have hul' : ((u + 1 : Nat) : Int) < (n : Int) := by omega
   have hw4 : IntKind.i64.wrap (((u + 1 : Nat) : Int) - 1) = (u : Int) := by rw [IntKind.wrap_i64]; have := HN.out; omega
   have hul2 : (u : Int) < (n : Int) := by omega
   have hul3 : (u : Int) + 1 < (n : Int) := by omega
   have hul4 : ¬ (u : Int) + 1 < 0 := by omega
   have hw8 : IntKind.i64.wrap (u : Int) = (u : Int) := by rw [IntKind.wrap_i64]; have := HN.out; omega
   have hw6 : IntKind.i64.wrap ((u : Int) + 1 - 1) = (u : Int) := by rw [IntKind.wrap_i64]; have := HN.out; omega
   obtain ⟨b, off, hla, hcx⟩ := HC.out (by omega)
   subst hla
   have HX0 := Keep.mk hcx
   clear hcx
   obtain ⟨c, Hc⟩ : ∃ z, Keep (L[u]? = some z) := ⟨L[u]'(by rw [hn.out]; omega), ⟨List.getElem?_eq_getElem _⟩⟩
   obtain ⟨d, Hd⟩ : ∃ z, Keep (L[u + 1]? = some z) := ⟨L[u + 1]'(by rw [hn.out]; omega), ⟨List.getElem?_eq_getElem _⟩⟩
   refine wp_seq_k fun K14 hK14 => ?_
   refine wp_seq_k fun K15 hK15 => rgn ?_
   refine VlS (.int .i64 ((u + 1 : Nat) : Int)) ?_
   refine VlS (.slice (some ⟨b, off, none⟩) n cap) ?_
   refine VlS (.int .i64 (n : Int)) ?_
   refine VbT ?_
   refine WL.nil (hK15 _ _ ?_)
   refine wp_cond_true rfl ?_
   refine wp_skip ?_
   refine hK14 _ _ ?_
   refine wp_seq_k fun K16 hK16 => ?_
   refine wp_block ?_
   refine wp_seq_k fun K17 hK17 => ?_
   have hS0 : Keep (∀ wx, Below B w wx → (fun wx => Below B w wx ∧ wx.cell? ⟨b, off + u * 3, none⟩ = some (.int .i64 c.k) ∧ wx.cell? ⟨b, off + u * 3 + 1, none⟩ = some (.string c.s) ∧ wx.cell? ⟨b, off + (u + 1) * 3, none⟩ = some (.int .i64 d.k) ∧ wx.cell? ⟨b, off + (u + 1) * 3 + 1, none⟩ = some (.string d.s)) wx) := ⟨fun wx hb => by
    have hx := HX0.out.below hb
    exact ⟨hb, (hx.c Hc.out).1, (hx.c Hc.out).2.1, (hx.c Hd.out).1, (hx.c Hd.out).2.1⟩⟩
   have BE : Keep (Below w.heap.size w wq.drew) := ⟨BB.out.drew⟩
   refine wp_region_held_drew (S := fun wx => Below B w wx ∧ wx.cell? ⟨b, off + u * 3, none⟩ = some (.int .i64 c.k) ∧ wx.cell? ⟨b, off + u * 3 + 1, none⟩ = some (.string c.s) ∧ wx.cell? ⟨b, off + (u + 1) * 3, none⟩ = some (.int .i64 d.k) ∧ wx.cell? ⟨b, off + (u + 1) * 3 + 1, none⟩ = some (.string d.s)) (by kernel_rfl) (hS0.out _ (BE.out.mono HB.out)) (fun hHeld => ?_)
   refine tkS (i := 0) (oi := ⟨some 27, Op.move (Operand.tmp 0), 23, _, _, none⟩) (v := .slice (some ⟨b, off, none⟩) n cap) rfl (Or.inl ⟨by rfl, fun w hS => by obtain ⟨hS0_, hS1, hS2, hS3, hS4⟩ := hS; clear hS0_; go_simp⟩) hHeld ?_
   refine tkS (i := 1) (oi := ⟨some 28, Op.move (Operand.tmp 5), 3, _, _, none⟩) (v := .int .i64 ((u + 1 : Nat) : Int)) rfl (Or.inl ⟨by rfl, fun w hS => by obtain ⟨hS0_, hS1, hS2, hS3, hS4⟩ := hS; clear hS0_; go_simp⟩) hHeld ?_
   refine tkS (i := 2) (oi := ⟨some 29, Op.binOp BinOp.sub 3 (Operand.tmp 28) (Operand.const (Value.int IntKind.i64 1)) 3, 3, _, _, none⟩) (v := .int .i64 (u : Int)) rfl (Or.inl ⟨by rfl, fun w hS => by obtain ⟨hS0_, hS1, hS2, hS3, hS4⟩ := hS; clear hS0_; go_simp⟩) hHeld ?_
   refine tkS (i := 3) (oi := ⟨some 30, Op.indexAddr 23 (Operand.tmp 27) (Operand.tmp 29), 0, _, _, none⟩) (v := .pointer (some ⟨b, off + u * 3, none⟩)) rfl (Or.inl ⟨by rfl, fun w hS => by obtain ⟨hS0_, hS1, hS2, hS3, hS4⟩ := hS; clear hS0_; go_simp⟩) hHeld ?_
   refine tkS (i := 4) (oi := ⟨some 31, Op.fieldAddr 40 (Operand.tmp 30) 0, 0, _, _, none⟩) (v := .pointer (some ⟨b, off + u * 3, none⟩)) rfl (Or.inl ⟨by rfl, fun w hS => by obtain ⟨hS0_, hS1, hS2, hS3, hS4⟩ := hS; clear hS0_; go_simp⟩) hHeld ?_
   refine tkS (i := 5) (oi := ⟨some 32, Op.load 3 (Operand.tmp 31), 3, _, _, none⟩) (v := .int .i64 c.k) rfl (Or.inl ⟨by rfl, fun w hS => by obtain ⟨hS0_, hS1, hS2, hS3, hS4⟩ := hS; clear hS0_; go_simp⟩) hHeld ?_
   refine tkS (i := 6) (oi := ⟨some 33, Op.move (Operand.tmp 0), 23, _, _, none⟩) (v := .slice (some ⟨b, off, none⟩) n cap) rfl (Or.inl ⟨by rfl, fun w hS => by obtain ⟨hS0_, hS1, hS2, hS3, hS4⟩ := hS; clear hS0_; go_simp⟩) hHeld ?_
   refine tkS (i := 7) (oi := ⟨some 34, Op.move (Operand.tmp 5), 3, _, _, none⟩) (v := .int .i64 ((u + 1 : Nat) : Int)) rfl (Or.inl ⟨by rfl, fun w hS => by obtain ⟨hS0_, hS1, hS2, hS3, hS4⟩ := hS; clear hS0_; go_simp⟩) hHeld ?_
   refine tkS (i := 8) (oi := ⟨some 35, Op.binOp BinOp.sub 3 (Operand.tmp 34) (Operand.const (Value.int IntKind.i64 1)) 3, 3, _, _, none⟩) (v := .int .i64 (u : Int)) rfl (Or.inl ⟨by rfl, fun w hS => by obtain ⟨hS0_, hS1, hS2, hS3, hS4⟩ := hS; clear hS0_; go_simp⟩) hHeld ?_
   refine tkS (i := 9) (oi := ⟨some 36, Op.indexAddr 23 (Operand.tmp 33) (Operand.tmp 35), 0, _, _, none⟩) (v := .pointer (some ⟨b, off + u * 3, none⟩)) rfl (Or.inl ⟨by rfl, fun w hS => by obtain ⟨hS0_, hS1, hS2, hS3, hS4⟩ := hS; clear hS0_; go_simp⟩) hHeld ?_
   refine tkS (i := 10) (oi := ⟨some 37, Op.fieldAddr 40 (Operand.tmp 36) 1, 0, _, _, none⟩) (v := .pointer (some ⟨b, off + u * 3 + 1, none⟩)) rfl (Or.inl ⟨by rfl, fun w hS => by obtain ⟨hS0_, hS1, hS2, hS3, hS4⟩ := hS; clear hS0_; go_simp⟩) hHeld ?_
   refine tkS (i := 11) (oi := ⟨some 38, Op.load 9 (Operand.tmp 37), 9, _, _, none⟩) (v := .string c.s) rfl (Or.inl ⟨by rfl, fun w hS => by obtain ⟨hS0_, hS1, hS2, hS3, hS4⟩ := hS; clear hS0_; go_simp⟩) hHeld ?_
   refine tkS (i := 12) (oi := ⟨some 39, Op.move (Operand.tmp 0), 23, _, _, none⟩) (v := .slice (some ⟨b, off, none⟩) n cap) rfl (Or.inl ⟨by rfl, fun w hS => by obtain ⟨hS0_, hS1, hS2, hS3, hS4⟩ := hS; clear hS0_; go_simp⟩) hHeld ?_
   refine tkS (i := 13) (oi := ⟨some 40, Op.move (Operand.tmp 5), 3, _, _, none⟩) (v := .int .i64 ((u + 1 : Nat) : Int)) rfl (Or.inl ⟨by rfl, fun w hS => by obtain ⟨hS0_, hS1, hS2, hS3, hS4⟩ := hS; clear hS0_; go_simp⟩) hHeld ?_
   refine tkS (i := 14) (oi := ⟨some 41, Op.indexAddr 23 (Operand.tmp 39) (Operand.tmp 40), 0, _, _, none⟩) (v := .pointer (some ⟨b, off + (u + 1) * 3, none⟩)) rfl (Or.inl ⟨by rfl, fun w hS => by obtain ⟨hS0_, hS1, hS2, hS3, hS4⟩ := hS; clear hS0_; go_simp⟩) hHeld ?_
   refine tkS (i := 15) (oi := ⟨some 42, Op.fieldAddr 40 (Operand.tmp 41) 0, 0, _, _, none⟩) (v := .pointer (some ⟨b, off + (u + 1) * 3, none⟩)) rfl (Or.inl ⟨by rfl, fun w hS => by obtain ⟨hS0_, hS1, hS2, hS3, hS4⟩ := hS; clear hS0_; go_simp⟩) hHeld ?_
   refine tkS (i := 16) (oi := ⟨some 43, Op.load 3 (Operand.tmp 42), 3, _, _, none⟩) (v := .int .i64 d.k) rfl (Or.inl ⟨by rfl, fun w hS => by obtain ⟨hS0_, hS1, hS2, hS3, hS4⟩ := hS; clear hS0_; go_simp⟩) hHeld ?_
   refine tkS (i := 17) (oi := ⟨some 44, Op.move (Operand.tmp 0), 23, _, _, none⟩) (v := .slice (some ⟨b, off, none⟩) n cap) rfl (Or.inl ⟨by rfl, fun w hS => by obtain ⟨hS0_, hS1, hS2, hS3, hS4⟩ := hS; clear hS0_; go_simp⟩) hHeld ?_
   refine tkS (i := 18) (oi := ⟨some 45, Op.move (Operand.tmp 5), 3, _, _, none⟩) (v := .int .i64 ((u + 1 : Nat) : Int)) rfl (Or.inl ⟨by rfl, fun w hS => by obtain ⟨hS0_, hS1, hS2, hS3, hS4⟩ := hS; clear hS0_; go_simp⟩) hHeld ?_
   refine tkS (i := 19) (oi := ⟨some 46, Op.indexAddr 23 (Operand.tmp 44) (Operand.tmp 45), 0, _, _, none⟩) (v := .pointer (some ⟨b, off + (u + 1) * 3, none⟩)) rfl (Or.inl ⟨by rfl, fun w hS => by obtain ⟨hS0_, hS1, hS2, hS3, hS4⟩ := hS; clear hS0_; go_simp⟩) hHeld ?_
   refine tkS (i := 20) (oi := ⟨some 47, Op.fieldAddr 40 (Operand.tmp 46) 1, 0, _, _, none⟩) (v := .pointer (some ⟨b, off + (u + 1) * 3 + 1, none⟩)) rfl (Or.inl ⟨by rfl, fun w hS => by obtain ⟨hS0_, hS1, hS2, hS3, hS4⟩ := hS; clear hS0_; go_simp⟩) hHeld ?_
   refine tkS (i := 21) (oi := ⟨some 48, Op.load 9 (Operand.tmp 47), 9, _, _, none⟩) (v := .string d.s) rfl (Or.inl ⟨by rfl, fun w hS => by obtain ⟨hS0_, hS1, hS2, hS3, hS4⟩ := hS; clear hS0_; go_simp⟩) hHeld ?_
   refine wpAnyH_ready (rs := [22]) (by kernel_rfl) (by simp) ?_
   refine AllReadyH.cons (o := ⟨some 49, Op.call { callee := Callee.value (Operand.func 33), args := #[Operand.tmp 32, Operand.tmp 38, Operand.tmp 43, Operand.tmp 48], argTypes := #[3, 9, 3, 9] }, 4, _, _, none⟩) rfl (fun K hK => ?_) AllReadyH.nil
   rw [if_pos (by rfl)]
   refine wp_callF 33 _ _ rfl Try.in33 #[.int .i64 c.k, .string c.s, .int .i64 d.k, .string d.s] (by simp [Act.eval]) (fun vz wz => vz = .bool (aheI c.k c.s d.k d.s) ∧ wq.drew = wz) ((ahe_any c.k c.s d.k d.s _).mono fun e w' ⟨h1, h2⟩ => ⟨_, h1, rfl, h2.symm⟩) ?_
   rintro _ wg ⟨rfl, hz⟩
   subst hz
   refine hK _ _ (hS0.out _ (BE.out.mono HB.out)) fun hH1 => ?_
   clear hK
   simp only [Act.put, pqA, pqB, pqC]
   refine tkS (i := 23) (oi := ⟨some 6, Op.assign (Operand.tmp 49), 4, _, _, none⟩) (v := .bool (aheI c.k c.s d.k d.s)) rfl (Or.inl ⟨by rfl, fun w hS => by obtain ⟨hS0_, hS1, hS2, hS3, hS4⟩ := hS; clear hS0_; go_simp⟩) hH1 ?_
   refine wpAnyH_done (by kernel_rfl) ?_ _
   refine hK17 _ _ ?_
   refine wp_seq_k fun K18 hK18 => rgn ?_
   refine VlS (.bool (aheI c.k c.s d.k d.s)) ?_
   refine VlS (.bool (!aheI c.k c.s d.k d.s)) ?_
   refine WL.nil (hK18 _ _ ?_)
   cases hah : aheI c.k c.s d.k d.s
   ·simp only [Bool.not_false]
    refine wp_cond_true rfl ?_
    refine wp_seq_k fun K19 hK19 => rgn ?_
    refine VlS (.int .i64 130) ?_
    refine WL.nil (hK19 _ _ ?_)
    refine wp_ret ?_
    go_ret
    exact ⟨by rw [wrongI, okK_yes HKy.out, okO_no Hc.out Hd.out hah]; rfl, BE.out⟩
   ·simp only [Bool.not_true]
    have hw5 : IntKind.i64.wrap (((u + 1 : Nat) : Int) + 1) = ((u + 1 + 1 : Nat) : Int) := by rw [IntKind.wrap_i64]; have := HN.out; omega
    have hw7 : IntKind.i64.wrap ((u : Int) + 1 + 1) = (u : Int) + 1 + 1 := by rw [IntKind.wrap_i64]; have := HN.out; omega
    refine wp_cond_false rfl ?_
    refine wp_skip ?_
    refine hK16 _ _ ?_
    refine rgn ?_
    refine VlS (.int .i64 ((u + 1 : Nat) : Int)) ?_
    refine VlS (.int .i64 ((u + 1 + 1 : Nat) : Int)) ?_
    refine VlS (.int .i64 ((u + 1 + 1 : Nat) : Int)) ?_
    refine WL.nil ?_
    refine ⟨⟨u + 1, rfl, by omega, BE.out, fun i x y hi hx hy => ?_⟩, ?_⟩
    ·by_cases e : i = u
     ·subst e; rw [Hc.out] at hx; rw [Hd.out] at hy; injection hx with hx; injection hy with hy; subst hx hy; exact hah
     ·exact HJ.out i x y (by omega) hx hy
    ·simp only [intOf]; show n + 1 - (((u + 1 + 1 : Nat) : Int)).toNat < n + 1 - (((u + 1 : Nat) : Int)).toNat; omega
  ·have hul' : ¬ ((u + 1 : Nat) : Int) < (n : Int) := by omega
   have hul3 : ¬ (u : Int) + 1 < (n : Int) := by omega
   have HOy : Keep (∀ (i : Nat) (c d : CV), L[i]? = some c → L[i + 1]? = some d → aheI c.k c.s d.k d.s = true) := ⟨fun i c d hc hd => HJ.out i c d (by have := (List.getElem?_eq_some_iff.1 hd).1; rw [hn.out] at this; omega) hc hd⟩
   refine wp_seq_k fun K20 hK20 => ?_
   refine wp_seq_k fun K21 hK21 => rgn ?_
   refine VlS (.int .i64 ((u + 1 : Nat) : Int)) ?_
   refine VlS (.slice la n cap) ?_
   refine VlS (.int .i64 (n : Int)) ?_
   refine VbF ?_
   refine WL.nil (hK21 _ _ ?_)
   refine wp_cond_false rfl ?_
   refine wp_exit ?_
   refine hK12 _ _ ?_
   refine wp_seq_k fun K22 hK22 => rgn ?_
   refine VlS (.int .i64 0) ?_
   refine WL.nil (hK22 _ _ ?_)
   refine wp_ret ?_
   go_ret
   exact ⟨by rw [wrongI, okK_yes HKy.out, okO_yes HOy.out]; rfl, BB.out⟩

theorem CsAt.mono {B B' : Nat} {w : World} {b off : Nat} {L : List CV} (h : CsAt B w b off L) (hB : B ≤ B') : CsAt B' w b off L :=
 ⟨Nat.lt_of_lt_of_le h.lt hB, h.at_, fun c hc => ⟨(h.row c hc).1, fun h0 k hk => Nat.lt_of_lt_of_le ((h.row c hc).2 h0 k hk) hB⟩⟩
theorem CsV.mono {B B' : Nat} {w : World} {v : Value} {L : List CV} (h : CsV B w v L) (hB : B ≤ B') : CsV B' w v L := by
 rcases h with h | ⟨b, off, cap, h1, h2, h3⟩
 ·exact .inl h
 ·exact .inr ⟨b, off, cap, h1, h2, h3.mono hB⟩
theorem BkH.new (w : World) : BkH w.heap.size (w.alloc (.cells #[.slice none 0 0] 61)) w.heap.size [] :=
 ⟨Nat.le_refl _, .slice none 0 0, [], Blk.new w 61 _, ⟨rfl, .inl ⟨rfl, rfl⟩⟩, rfl, fun i v l hv _ => by simp at hv⟩
theorem bld_bk : Try.prog.built 61 [] = some #[.slice none 0 0] := by kernel_rfl
theorem bld_hz : Try.prog.built 25 [] = some (bytesA 32 fun _ => 0) := by kernel_rfl
def Sml (L : List CV) : Prop := ∀ c ∈ L, c.s.size + c.l.length ≤ 140737488350000
theorem fit_of {L : List CV} (h : okK L = true) (hs : Sml L) : Fit L := fun c hc => by
 have := List.all_eq_true.1 h c hc
 simp [kmay] at this
 exact ⟨by omega, hs c hc⟩
theorem okK_of {L : List CV} (h : wrongI L = 0) : okK L = true := by
 unfold wrongI at h
 cases e : okK L
 ·rw [e] at h; simp at h
 ·rfl
def rootF (L : List CV) : Nat → Int := if wrongI L = 0 then shaP (rootL L) else fun _ => 0


theorem layUp_rng (s : Nat → Int) : ∀ t i, 0 ≤ layUp s t i ∧ layUp s t i < 256
 | 0, i => by simp [layUp]
 | t + 1, i => by
  have ih := layUp_rng s t i
  simp only [layUp, upd]
  repeat' split
  all_goals first | exact ih | omega
theorem shaP_rng (l : List Int) (i : Nat) : 0 ≤ shaP l i ∧ shaP l i < 256 := layUp_rng _ 8 i
def shaH (l : List Int) : Hs := Hs.mk' (shaP l) fun i _ => shaP_rng l i
theorem shaH_f (l : List Int) (i : Nat) (hi : i < 32) : (shaH l).f i = shaP l i := Hs.mk'_f _ _ i hi
theorem shaH_arr (l : List Int) : bytesA 32 (shaP l) = (encH (shaH l)).toArray := by
 rw [encH_arr]; exact bytesA_congr fun i hi => (shaH_f l i hi).symm

def hsL (h : Hs) : List Int := hl 32 h.f
theorem shaH_L (l : List Int) : hsL (shaH l) = shaL l := by
 simp only [hsL, shaL, hl]
 exact List.map_congr_left fun i hi => shaH_f l i (List.mem_range.1 hi)
theorem tree_hs {k : Nat} {L : List CV} (h1 : 1 ≤ L.length) (h2 : L.length ≤ k) : ∃ h : Hs, hsL h = treeL k L ∧ bytesA 32 (hof (treeL k L)) = (encH h).toArray := by
 obtain ⟨row, e⟩ : ∃ row, treeL k L = shaL row := by
  match k, h2 with
  | 0, h2 => omega
  | k + 1, _ =>
   unfold treeL RtP.tree
   split <;> exact ⟨_, rfl⟩
 refine ⟨shaH row, by rw [shaH_L, e], ?_⟩
 rw [e, shaL, hof_hl, shaH_arr]
def pathL (k : Nat) (L : List CV) (i : Nat) : List (List Int) := RtP.path shaL numL k (L.map CV.ce) i
theorem pathL_one (k : Nat) (c : CV) (i : Nat) : pathL (k + 1) [c] i = [] := by simp [pathL, RtP.path]
theorem pathL_lo {k : Nat} {L : List CV} {i : Nat} (h : ¬ L.length ≤ 1) (hi : i < RtP.half L.length) : pathL (k + 1) L i = pathL k (L.take (RtP.half L.length)) i ++ [treeL k (L.drop (RtP.half L.length))] := by
 unfold pathL treeL
 rw [RtP.path, if_neg (by simpa using h), if_pos (by simpa using hi)]
 simp [List.map_take, List.map_drop]
theorem pathL_hi {k : Nat} {L : List CV} {i : Nat} (h : ¬ L.length ≤ 1) (hi : ¬ i < RtP.half L.length) : pathL (k + 1) L i = pathL k (L.drop (RtP.half L.length)) (i - RtP.half L.length) ++ [treeL k (L.take (RtP.half L.length))] := by
 unfold pathL treeL
 rw [RtP.path, if_neg (by simpa using h), if_neg (by simpa using hi)]
 simp [List.map_take, List.map_drop]
theorem pathL_len : ∀ (k : Nat) (L : List CV) (i : Nat), (pathL k L i).length ≤ k
 | 0, L, i => by simp [pathL, RtP.path]
 | k + 1, L, i => by
  by_cases h : L.length ≤ 1
  ·unfold pathL RtP.path
   rw [if_pos (by simpa using h)]
   simp
  ·by_cases hi : i < RtP.half L.length
   ·rw [pathL_lo h hi, List.length_append, List.length_singleton]
    have := pathL_len k (L.take (RtP.half L.length)) i
    omega
   ·rw [pathL_hi h hi, List.length_append, List.length_singleton]
    have := pathL_len k (L.drop (RtP.half L.length)) (i - RtP.half L.length)
    omega

end Go.Proofs.Ytjklmkeedhgncaa
