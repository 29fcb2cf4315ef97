import Derived.Test.YtjklmkeedhgncaaA03
import Derived.Deep.RegionHeld3
namespace Go.Proofs.Ytjklmkeedhgncaa
open Go.RowKit
set_option linter.unusedSimpArgs false
set_option linter.unusedVariables false
theorem Try.in52 (w : World) (vs : Array Value) : (callFunc 52 vs).run Try.prog w = .ok (.enter 52 vs) w := by kernel_rfl
theorem WL.app {ops : Array Oper} {rest : List Oper} {o : Oper} {a : Act} {w : World} {Q : Exit → Act → World → Prop} (hw : Region.wanted o (yielded ops a.tmps) = true) (s x : Operand)
  (ho : o.op = .call { callee := .builtin .append, args := #[s, x], argTypes := #[38, 38] }) (v vx : Value) (l m : List Int)
  (hs : a.eval s = v) (hx : a.eval x = vx) (hown : Own w v l) (hrow : RowAt w vx m) (hb : l.length + m.length ≤ 140737488355328)
  (h : ∀ v' w', AppPost w v (l ++ m) v' w' → WL Try.prog ops Q rest (a.put o.dst v') w') : WL Try.prog ops Q (o :: rest) a w :=
 ⟨wpList_wanted hw fun K hK => by
  obtain ⟨v', w', hr, h2⟩ := run_app_row w o.type v vx l m hown hrow hb
  unfold Oper.wp execOp
  simp only [ho, resolve, invoke, builtin, Sem.run_bind, Sem.run_pure, Result.andThen_ok, List.map_toArray, List.map_cons, List.map_nil, hs, hx, hr]
  exact hK _ _ (h v' w' h2).out⟩
def le8 (n : Nat) : List Int := (List.range 8).map fun t => (n : Int) / 2 ^ (8 * t) % 256
theorem le8_len (n : Nat) : (le8 n).length = 8 := by simp [le8]
theorem le8_next (n t : Nat) (h : t < 8) : (le8 n).take (t + 1) = (le8 n).take t ++ [(n : Int) / 2 ^ (8 * t) % 256] := by
 rw [List.take_succ_eq_append_getElem (by rw [le8_len]; exact h)]
 simp [le8]
set_option maxRecDepth 8000 in
theorem top_some (B x n : Nat) (a : Nat → Int) (R : List (List Int)) (w : World) (hK : BkH B w x R) (hn : n < 9223372036854775808) (hN : R.length + 1 ≤ 4398046511104) (hB : B ≤ w.heap.size) (hn0 : 0 < n) :
  Calls Try.prog 52 #[.pointer (some ⟨x, 0, none⟩), .int .i64 (n : Int), .agg (bytesA 32 a)] w fun e w' => e = .returned (.agg (bytesA 32 (shaP (RtP.topR le8 n (hl 32 a))))) ∧ BkH B w' x (R ++ [RtP.topR le8 n (hl 32 a)]) ∧ Grown w w' (BkS B w) := by
 have HK := Keep.mk hK
 have HN := Keep.mk hN
 have HB := Keep.mk hB
 have hn1 : (0 : Int) < (n : Int) := by omega
 have hn2 : (n : Int) ≤ 9223372036854775807 := by omega
 clear hK hN hB
 go_enter Try.func52, Try.ntmps52
 refine wp_seq_k fun K1 hK1 => rgn ?_
 refine WL.box (by kernel_rfl) 25 (.tmp 2) rfl (bytesA 32 a) rfl ?_
 have C1 := Keep.mk (Blk.new w 25 (bytesA 32 a))
 have b1 := Keep.mk (below_new w (.cells (bytesA 32 a) 25))
 change WL _ _ _ _ _ (w.alloc (.cells (bytesA 32 a) 25))
 generalize w.alloc (.cells (bytesA 32 a) 25) = w1 at *
 obtain ⟨c, hc0⟩ : ∃ z, Keep (z = w.heap.size) := ⟨_, ⟨rfl⟩⟩
 rw [← hc0.out] at C1 ⊢
 simp only [Act.put, pqA, pqB, pqC]
 refine WL.new (by kernel_rfl) 25 rfl _ Try.new25 ?_
 have R2 := Keep.mk (Blk.new w1 25 (bytesA 32 fun _ => 0))
 have b2 := Keep.mk (below_new w1 (.cells (bytesA 32 fun _ => 0) 25))
 change WL _ _ _ _ _ (w1.alloc (.cells (bytesA 32 fun _ => 0) 25))
 generalize w1.alloc (.cells (bytesA 32 fun _ => 0) 25) = w2 at *
 obtain ⟨r, hr0⟩ : ∃ z, Keep (z = w1.heap.size) := ⟨_, ⟨rfl⟩⟩
 rw [← hr0.out] at R2 ⊢
 have C2 := Keep.mk (C1.out.below b2.out C1.out.lt)
 have B2 : Keep (Below w.heap.size w w2) := ⟨b1.out.trans (b2.out.mono b1.out.size)⟩
 have hrw : Keep (w.heap.size ≤ r) := ⟨by rw [hr0.out]; exact b1.out.size⟩
 have BK2 := Keep.mk (HK.out.below B2.out)
 clear C1 b1 b2 hr0 hc0
 simp only [Act.put, pqA, pqB, pqC]
 refine WL.nil (hK1 _ _ ?_)
 refine wp_seq_k fun K2 hK2 => rgn ?_
 refine WL.bs (by kernel_rfl) 38 1 _ rfl #[(0, .int .u8 2)] (by simp [Act.eval]) _ _ (bsK 2 w2) ?_
 have O3 := Keep.mk (OB.start w2 2)
 generalize w2.alloc (.cells (bv [2]).toArray 5) = w3 at *
 obtain ⟨v3, hv3⟩ : ∃ z, Keep (z = Value.slice (some ⟨w2.heap.size, 0, none⟩) 1 1) := ⟨_, ⟨rfl⟩⟩
 rw [← hv3.out] at O3 ⊢
 clear hv3
 simp only [Act.put, pqA, pqB, pqC]
 refine VlS (v3) ?_
 refine WL.nil (hK2 _ _ ?_)
 refine wp_seq_k fun K3 hK3 => ?_
 refine wp_seq_k fun K4 hK4 => rgn ?_
 refine VlS (.int .i64 0) ?_
 refine WL.nil (hK4 _ _ ?_)
 refine wp_block ?_
 refine wp_loop (fun ac wr => ∃ (t : Nat) (f : Nat → Value) (v1 : Value), ac = { tmps := #[.pointer (some ⟨x, 0, none⟩), .int .i64 (n : Int), .agg (bytesA 32 a), undef, undef, .pointer (some ⟨c, 0, none⟩), .pointer (some ⟨r, 0, none⟩), v1, .int .i64 (t : Int), v3, f 10, f 11, f 12, f 13, f 14, f 15, f 16, f 17, f 18, f 19, f 20, f 21, undef, undef, undef, undef, undef, undef, undef, undef], defers := [] } ∧ t ≤ 8 ∧ OB w2 wr v1 ([2] ++ (le8 n).take t)) (fun a _ => 8 - (intOf (a.tmps.getD 8 undef)).toNat) ⟨0, fun zz => [.pointer (some ⟨x, 0, none⟩), .int .i64 (n : Int), .agg (bytesA 32 a), undef, undef, .pointer (some ⟨c, 0, none⟩), .pointer (some ⟨r, 0, none⟩), v3, .int .i64 0, v3, undef, undef, undef, undef, undef, undef, undef, undef, undef, undef, undef, undef, undef, undef, undef, undef, undef, undef, undef, undef].getD zz undef, v3, rfl, by omega, by simpa using O3.out⟩ ?_
 rintro ac wr ⟨t, f, v1, rfl, ht, hO⟩
 have O4 := Keep.mk hO
 clear hO
 by_cases htl : t < 8
 ·have htl' : (t : Int) < 8 := by omega
  have hs0 : 0 ≤ 8 * (t : Int) := by omega
  have hs1 : 8 * (t : Int) ≤ 64 := by omega
  have hs2 : (8 * (t : Int)).toNat = 8 * t := by omega
  have hw1 : IntKind.i64.wrap (8 * (t : Int)) = 8 * (t : Int) := by rw [IntKind.wrap_i64]; omega
  have hw2 : IntKind.u8.wrap ((n : Int) / 2 ^ (8 * t)) = (n : Int) / 2 ^ (8 * t) % 256 := IntKind.wrap_u8 _
  have hw3 : IntKind.i64.wrap ((t : Int) + 1) = ((t + 1 : Nat) : Int) := by rw [IntKind.wrap_i64]; omega
  refine wp_seq_k fun K5 hK5 => ?_
  refine wp_seq_k fun K6 hK6 => rgn ?_
  refine VlS (.int .i64 (t : Int)) ?_
  refine VbT ?_
  refine WL.nil (hK6 _ _ ?_)
  refine wp_cond_true rfl ?_
  refine wp_skip ?_
  refine hK5 _ _ ?_
  refine wp_seq_k fun K7 hK7 => ?_
  refine wp_block ?_
  refine rgn ?_
  refine VlS (v1) ?_
  refine VlS (.int .i64 (n : Int)) ?_
  refine VlS (.int .i64 (t : Int)) ?_
  refine VlS (.int .i64 (8 * (t : Int))) ?_
  refine VlS (.int .i64 ((n : Int) / 2 ^ (8 * t))) ?_
  refine VlS (.int .u8 ((n : Int) / 2 ^ (8 * t) % 256)) ?_
  refine WL.bs (by kernel_rfl) 38 1 _ rfl #[(0, .int .u8 ((n : Int) / 2 ^ (8 * t) % 256))] (by simp [Act.eval]) _ _ (bsK ((n : Int) / 2 ^ (8 * t) % 256) wr) ?_
  have Y5 : Keep (RowAt (wr.alloc (.cells (bv [((n : Int) / 2 ^ (8 * t) % 256)]).toArray 5)) (.slice (some ⟨wr.heap.size, 0, none⟩) 1 1) [((n : Int) / 2 ^ (8 * t) % 256)]) := ⟨row_one wr _⟩
  have O5 := Keep.mk (O4.out.below (below_new wr (.cells (bv [((n : Int) / 2 ^ (8 * t) % 256)]).toArray 5)))
  obtain ⟨g, hg0⟩ : ∃ z, Keep (z = wr.heap.size) := ⟨_, ⟨rfl⟩⟩
  rw [← hg0.out] at Y5 ⊢
  generalize wr.alloc (.cells (bv [((n : Int) / 2 ^ (8 * t) % 256)]).toArray 5) = w5 at *
  clear O4
  simp only [Act.put, pqA, pqB, pqC]
  refine WL.app (by kernel_rfl) (.tmp 14) (.tmp 20) rfl v1 (.slice (some ⟨g, 0, none⟩) 1 1) ([2] ++ (le8 n).take t) [((n : Int) / 2 ^ (8 * t) % 256)] rfl rfl O5.out.own Y5.out (by simp; omega) ?_
  intro v6 w6 hp
  have O6 := Keep.mk (O5.out.lay hp.1 hp.moved hp.grown)
  rw [List.append_assoc, ← le8_next n t htl] at O6
  clear hp O5
  simp only [Act.put, pqA, pqB, pqC]
  refine VlS (v6) ?_
  refine WL.nil (hK7 _ _ ?_)
  refine rgn ?_
  refine VlS (.int .i64 (t : Int)) ?_
  refine VlS (.int .i64 ((t + 1 : Nat) : Int)) ?_
  refine VlS (.int .i64 ((t + 1 : Nat) : Int)) ?_
  refine WL.nil ?_
  refine ⟨⟨t + 1, fun zz => [.pointer (some ⟨x, 0, none⟩), .int .i64 (n : Int), .agg (bytesA 32 a), undef, undef, .pointer (some ⟨c, 0, none⟩), .pointer (some ⟨r, 0, none⟩), v6, .int .i64 ((t + 1 : Nat) : Int), v3, .int .i64 (t : Int), .bool true, .int .i64 (t : Int), .int .i64 ((t + 1 : Nat) : Int), v1, .int .i64 (n : Int), .int .i64 (t : Int), .int .i64 (8 * (t : Int)), .int .i64 ((n : Int) / 2 ^ (8 * t)), .int .u8 ((n : Int) / 2 ^ (8 * t) % 256), .slice (some ⟨g, 0, none⟩) 1 1, v6, undef, undef, undef, undef, undef, undef, undef, undef].getD zz undef, v6, rfl, by omega, O6.out⟩, ?_⟩
  simp only [intOf]; show 8 - (((t + 1 : Nat) : Int)).toNat < 8 - ((t : Int)).toNat; omega
 ·have e8 : t = 8 := by omega
  have htl' : ¬ (t : Int) < 8 := by omega
  have O5 : Keep (OB w2 wr v1 ([2] ++ le8 n)) := ⟨by have h := O4.out; rw [e8, List.take_of_length_le (by rw [le8_len]; exact Nat.le_refl _)] at h; exact h⟩
  clear O4
  refine wp_seq_k fun K8 hK8 => ?_
  refine wp_seq_k fun K9 hK9 => rgn ?_
  refine VlS (.int .i64 (t : Int)) ?_
  refine VbF ?_
  refine WL.nil (hK9 _ _ ?_)
  refine wp_cond_false rfl ?_
  refine wp_exit ?_
  refine hK3 _ _ ?_
  refine wp_seq_k fun K10 hK10 => ?_
  refine wp_seq_k fun K11 hK11 => rgn ?_
  refine VlS (.int .i64 (n : Int)) ?_
  refine VbT ?_
  refine WL.nil (hK11 _ _ ?_)
  refine wp_cond_true rfl ?_
  refine rgn ?_
  refine VlS (v1) ?_
  refine WL.row (by kernel_rfl) 25 (.tmp 5) rfl c rfl 25 (bytesA 32 a) _ (C2.out.below O5.out.bel C2.out.lt) Try.underlying25 rfl (Try.size25B _) ?_
  simp only [Act.put, pqA, pqB, pqC]
  refine WL.callF (by kernel_rfl) 74 _ _ rfl Try.in74 #[v1, .agg (bytesA 32 a)] (by simp [Act.eval]) ?_
  refine (rhash_any v1 ([2] ++ le8 n) a wr O5.out.own (by simp [le8_len])).mono ?_
  rintro e w6 ⟨v6, rfl, k1, k2, k3⟩
  refine ⟨_, rfl, ?_⟩
  have O6 := Keep.mk (O5.out.lay k1 k2 k3)
  clear k1 k2 k3 O5
  simp only [Act.put, pqA, pqB, pqC]
  refine VlS (v6) ?_
  refine WL.nil (hK10 _ _ ?_)
  refine wp_seq_k fun K12 hK12 => rgn ?_
  refine VlS (.pointer (some ⟨x, 0, none⟩)) ?_
  refine VlS (v6) ?_
  have e7 : [2] ++ le8 n ++ hl 32 a = RtP.topR le8 n (hl 32 a) := by simp [RtP.topR, hn0]
  have O7 : Keep (OB w2 w6 v6 (RtP.topR le8 n (hl 32 a))) := ⟨by rw [← e7]; exact O6.out⟩
  have BK7 := Keep.mk (BK2.out.below O7.out.bel)
  have R7 := Keep.mk (R2.out.below O7.out.bel R2.out.lt)
  have hl7 : Keep ((RtP.topR le8 n (hl 32 a)).length ≤ 140737488355000) := ⟨by rw [← e7]; simp [hl_len, le8_len]⟩
  have B7 : Keep (Below w.heap.size w w6) := ⟨B2.out.trans (O7.out.bel.mono B2.out.size)⟩
  refine WL.callF (by kernel_rfl) 75 _ _ rfl Try.in75 #[.pointer (some ⟨x, 0, none⟩), v6] (by simp [Act.eval]) ?_
  refine (hash_any B x v6 (RtP.topR le8 n (hl 32 a)) R w6 BK7.out O7.out.own hl7.out HN.out (by have := HB.out; have := B7.out.size; omega)).mono ?_
  rintro e w8 ⟨rfl, k1, k2⟩
  refine ⟨_, rfl, ?_⟩
  have BK8 := Keep.mk k1
  have G8 := Keep.mk k2
  have R8 := Keep.mk (R7.out.bk k2 (by decide) (by decide))
  clear k1 k2
  simp only [Act.put, pqA, pqB, pqC]
  refine WL.storeR (by kernel_rfl) 25 (.tmp 6) (.tmp 29) rfl r (bytesA 32 (shaP (RtP.topR le8 n (hl 32 a)))) rfl rfl 25 (bytesA 32 fun _ => 0) R8.out (Try.size25B _) (bytesA_sizes _ _ _) (bytesA_one _ _) ?_
  have R9 := Keep.mk (R8.out.setRow (bytesA 32 (shaP (RtP.topR le8 n (hl 32 a)))))
  have BK9 := Keep.mk (BK8.out.setRow R8.out (bytesA 32 (shaP (RtP.topR le8 n (hl 32 a)))) (by decide) (by decide) (by decide))
  have G9 := Keep.mk (bk_end (r := r) (bytesA 32 (shaP (RtP.topR le8 n (hl 32 a)))) B7.out G8.out hrw.out)
  generalize w8.setRow r (bytesA 32 (shaP (RtP.topR le8 n (hl 32 a)))) = w9 at *
  simp only [Act.put]
  refine WL.nil (hK12 _ _ ?_)
  refine wp_ret ?_
  refine bodyPost_ret (v := .agg (bytesA 32 (shaP (RtP.topR le8 n (hl 32 a))))) (results_cell_row Try.results52 _ _ r 25 _ (0, 0) _ rfl R9.out Try.underlying25 rfl (Try.size25B _)) rfl ⟨rfl, BK9.out, G9.out⟩
set_option maxRecDepth 8000 in
theorem top_none (B x n : Nat) (a : Nat → Int) (R : List (List Int)) (w : World) (hK : BkH B w x R) (hn : n < 9223372036854775808) (hN : R.length + 1 ≤ 4398046511104) (hB : B ≤ w.heap.size) (hn0 : ¬ 0 < n) :
  Calls Try.prog 52 #[.pointer (some ⟨x, 0, none⟩), .int .i64 (n : Int), .agg (bytesA 32 a)] w fun e w' => e = .returned (.agg (bytesA 32 (shaP (RtP.topR le8 n (hl 32 a))))) ∧ BkH B w' x (R ++ [RtP.topR le8 n (hl 32 a)]) ∧ Grown w w' (BkS B w) := by
 have HK := Keep.mk hK
 have HN := Keep.mk hN
 have HB := Keep.mk hB
 have hn1 : ¬ (0 : Int) < (n : Int) := by omega
 have hn2 : (n : Int) ≤ 9223372036854775807 := by omega
 clear hK hN hB
 go_enter Try.func52, Try.ntmps52
 refine wp_seq_k fun K1 hK1 => rgn ?_
 refine WL.box (by kernel_rfl) 25 (.tmp 2) rfl (bytesA 32 a) rfl ?_
 have C1 := Keep.mk (Blk.new w 25 (bytesA 32 a))
 have b1 := Keep.mk (below_new w (.cells (bytesA 32 a) 25))
 change WL _ _ _ _ _ (w.alloc (.cells (bytesA 32 a) 25))
 generalize w.alloc (.cells (bytesA 32 a) 25) = w1 at *
 obtain ⟨c, hc0⟩ : ∃ z, Keep (z = w.heap.size) := ⟨_, ⟨rfl⟩⟩
 rw [← hc0.out] at C1 ⊢
 simp only [Act.put, pqA, pqB, pqC]
 refine WL.new (by kernel_rfl) 25 rfl _ Try.new25 ?_
 have R2 := Keep.mk (Blk.new w1 25 (bytesA 32 fun _ => 0))
 have b2 := Keep.mk (below_new w1 (.cells (bytesA 32 fun _ => 0) 25))
 change WL _ _ _ _ _ (w1.alloc (.cells (bytesA 32 fun _ => 0) 25))
 generalize w1.alloc (.cells (bytesA 32 fun _ => 0) 25) = w2 at *
 obtain ⟨r, hr0⟩ : ∃ z, Keep (z = w1.heap.size) := ⟨_, ⟨rfl⟩⟩
 rw [← hr0.out] at R2 ⊢
 have C2 := Keep.mk (C1.out.below b2.out C1.out.lt)
 have B2 : Keep (Below w.heap.size w w2) := ⟨b1.out.trans (b2.out.mono b1.out.size)⟩
 have hrw : Keep (w.heap.size ≤ r) := ⟨by rw [hr0.out]; exact b1.out.size⟩
 have BK2 := Keep.mk (HK.out.below B2.out)
 clear C1 b1 b2 hr0 hc0
 simp only [Act.put, pqA, pqB, pqC]
 refine WL.nil (hK1 _ _ ?_)
 refine wp_seq_k fun K2 hK2 => rgn ?_
 refine WL.bs (by kernel_rfl) 38 1 _ rfl #[(0, .int .u8 2)] (by simp [Act.eval]) _ _ (bsK 2 w2) ?_
 have O3 := Keep.mk (OB.start w2 2)
 generalize w2.alloc (.cells (bv [2]).toArray 5) = w3 at *
 obtain ⟨v3, hv3⟩ : ∃ z, Keep (z = Value.slice (some ⟨w2.heap.size, 0, none⟩) 1 1) := ⟨_, ⟨rfl⟩⟩
 rw [← hv3.out] at O3 ⊢
 clear hv3
 simp only [Act.put, pqA, pqB, pqC]
 refine VlS (v3) ?_
 refine WL.nil (hK2 _ _ ?_)
 refine wp_seq_k fun K3 hK3 => ?_
 refine wp_seq_k fun K4 hK4 => rgn ?_
 refine VlS (.int .i64 0) ?_
 refine WL.nil (hK4 _ _ ?_)
 refine wp_block ?_
 refine wp_loop (fun ac wr => ∃ (t : Nat) (f : Nat → Value) (v1 : Value), ac = { tmps := #[.pointer (some ⟨x, 0, none⟩), .int .i64 (n : Int), .agg (bytesA 32 a), undef, undef, .pointer (some ⟨c, 0, none⟩), .pointer (some ⟨r, 0, none⟩), v1, .int .i64 (t : Int), v3, f 10, f 11, f 12, f 13, f 14, f 15, f 16, f 17, f 18, f 19, f 20, f 21, undef, undef, undef, undef, undef, undef, undef, undef], defers := [] } ∧ t ≤ 8 ∧ OB w2 wr v1 ([2] ++ (le8 n).take t)) (fun a _ => 8 - (intOf (a.tmps.getD 8 undef)).toNat) ⟨0, fun zz => [.pointer (some ⟨x, 0, none⟩), .int .i64 (n : Int), .agg (bytesA 32 a), undef, undef, .pointer (some ⟨c, 0, none⟩), .pointer (some ⟨r, 0, none⟩), v3, .int .i64 0, v3, undef, undef, undef, undef, undef, undef, undef, undef, undef, undef, undef, undef, undef, undef, undef, undef, undef, undef, undef, undef].getD zz undef, v3, rfl, by omega, by simpa using O3.out⟩ ?_
 rintro ac wr ⟨t, f, v1, rfl, ht, hO⟩
 have O4 := Keep.mk hO
 clear hO
 by_cases htl : t < 8
 ·have htl' : (t : Int) < 8 := by omega
  have hs0 : 0 ≤ 8 * (t : Int) := by omega
  have hs1 : 8 * (t : Int) ≤ 64 := by omega
  have hs2 : (8 * (t : Int)).toNat = 8 * t := by omega
  have hw1 : IntKind.i64.wrap (8 * (t : Int)) = 8 * (t : Int) := by rw [IntKind.wrap_i64]; omega
  have hw2 : IntKind.u8.wrap ((n : Int) / 2 ^ (8 * t)) = (n : Int) / 2 ^ (8 * t) % 256 := IntKind.wrap_u8 _
  have hw3 : IntKind.i64.wrap ((t : Int) + 1) = ((t + 1 : Nat) : Int) := by rw [IntKind.wrap_i64]; omega
  refine wp_seq_k fun K5 hK5 => ?_
  refine wp_seq_k fun K6 hK6 => rgn ?_
  refine VlS (.int .i64 (t : Int)) ?_
  refine VbT ?_
  refine WL.nil (hK6 _ _ ?_)
  refine wp_cond_true rfl ?_
  refine wp_skip ?_
  refine hK5 _ _ ?_
  refine wp_seq_k fun K7 hK7 => ?_
  refine wp_block ?_
  refine rgn ?_
  refine VlS (v1) ?_
  refine VlS (.int .i64 (n : Int)) ?_
  refine VlS (.int .i64 (t : Int)) ?_
  refine VlS (.int .i64 (8 * (t : Int))) ?_
  refine VlS (.int .i64 ((n : Int) / 2 ^ (8 * t))) ?_
  refine VlS (.int .u8 ((n : Int) / 2 ^ (8 * t) % 256)) ?_
  refine WL.bs (by kernel_rfl) 38 1 _ rfl #[(0, .int .u8 ((n : Int) / 2 ^ (8 * t) % 256))] (by simp [Act.eval]) _ _ (bsK ((n : Int) / 2 ^ (8 * t) % 256) wr) ?_
  have Y5 : Keep (RowAt (wr.alloc (.cells (bv [((n : Int) / 2 ^ (8 * t) % 256)]).toArray 5)) (.slice (some ⟨wr.heap.size, 0, none⟩) 1 1) [((n : Int) / 2 ^ (8 * t) % 256)]) := ⟨row_one wr _⟩
  have O5 := Keep.mk (O4.out.below (below_new wr (.cells (bv [((n : Int) / 2 ^ (8 * t) % 256)]).toArray 5)))
  obtain ⟨g, hg0⟩ : ∃ z, Keep (z = wr.heap.size) := ⟨_, ⟨rfl⟩⟩
  rw [← hg0.out] at Y5 ⊢
  generalize wr.alloc (.cells (bv [((n : Int) / 2 ^ (8 * t) % 256)]).toArray 5) = w5 at *
  clear O4
  simp only [Act.put, pqA, pqB, pqC]
  refine WL.app (by kernel_rfl) (.tmp 14) (.tmp 20) rfl v1 (.slice (some ⟨g, 0, none⟩) 1 1) ([2] ++ (le8 n).take t) [((n : Int) / 2 ^ (8 * t) % 256)] rfl rfl O5.out.own Y5.out (by simp; omega) ?_
  intro v6 w6 hp
  have O6 := Keep.mk (O5.out.lay hp.1 hp.moved hp.grown)
  rw [List.append_assoc, ← le8_next n t htl] at O6
  clear hp O5
  simp only [Act.put, pqA, pqB, pqC]
  refine VlS (v6) ?_
  refine WL.nil (hK7 _ _ ?_)
  refine rgn ?_
  refine VlS (.int .i64 (t : Int)) ?_
  refine VlS (.int .i64 ((t + 1 : Nat) : Int)) ?_
  refine VlS (.int .i64 ((t + 1 : Nat) : Int)) ?_
  refine WL.nil ?_
  refine ⟨⟨t + 1, fun zz => [.pointer (some ⟨x, 0, none⟩), .int .i64 (n : Int), .agg (bytesA 32 a), undef, undef, .pointer (some ⟨c, 0, none⟩), .pointer (some ⟨r, 0, none⟩), v6, .int .i64 ((t + 1 : Nat) : Int), v3, .int .i64 (t : Int), .bool true, .int .i64 (t : Int), .int .i64 ((t + 1 : Nat) : Int), v1, .int .i64 (n : Int), .int .i64 (t : Int), .int .i64 (8 * (t : Int)), .int .i64 ((n : Int) / 2 ^ (8 * t)), .int .u8 ((n : Int) / 2 ^ (8 * t) % 256), .slice (some ⟨g, 0, none⟩) 1 1, v6, undef, undef, undef, undef, undef, undef, undef, undef].getD zz undef, v6, rfl, by omega, O6.out⟩, ?_⟩
  simp only [intOf]; show 8 - (((t + 1 : Nat) : Int)).toNat < 8 - ((t : Int)).toNat; omega
 ·have e8 : t = 8 := by omega
  have htl' : ¬ (t : Int) < 8 := by omega
  have O5 : Keep (OB w2 wr v1 ([2] ++ le8 n)) := ⟨by have h := O4.out; rw [e8, List.take_of_length_le (by rw [le8_len]; exact Nat.le_refl _)] at h; exact h⟩
  clear O4
  refine wp_seq_k fun K8 hK8 => ?_
  refine wp_seq_k fun K9 hK9 => rgn ?_
  refine VlS (.int .i64 (t : Int)) ?_
  refine VbF ?_
  refine WL.nil (hK9 _ _ ?_)
  refine wp_cond_false rfl ?_
  refine wp_exit ?_
  refine hK3 _ _ ?_
  refine wp_seq_k fun K10 hK10 => ?_
  refine wp_seq_k fun K11 hK11 => rgn ?_
  refine VlS (.int .i64 (n : Int)) ?_
  refine VbF ?_
  refine WL.nil (hK11 _ _ ?_)
  refine wp_cond_false rfl ?_
  refine wp_skip ?_
  refine hK10 _ _ ?_
  refine wp_seq_k fun K12 hK12 => rgn ?_
  refine VlS (.pointer (some ⟨x, 0, none⟩)) ?_
  refine VlS (v1) ?_
  have e7 : [2] ++ le8 n = RtP.topR le8 n (hl 32 a) := by simp [RtP.topR, hn0]
  have O7 : Keep (OB w2 wr v1 (RtP.topR le8 n (hl 32 a))) := ⟨by rw [← e7]; exact O5.out⟩
  have BK7 := Keep.mk (BK2.out.below O7.out.bel)
  have R7 := Keep.mk (R2.out.below O7.out.bel R2.out.lt)
  have hl7 : Keep ((RtP.topR le8 n (hl 32 a)).length ≤ 140737488355000) := ⟨by rw [← e7]; simp [hl_len, le8_len]⟩
  have B7 : Keep (Below w.heap.size w wr) := ⟨B2.out.trans (O7.out.bel.mono B2.out.size)⟩
  refine WL.callF (by kernel_rfl) 75 _ _ rfl Try.in75 #[.pointer (some ⟨x, 0, none⟩), v1] (by simp [Act.eval]) ?_
  refine (hash_any B x v1 (RtP.topR le8 n (hl 32 a)) R wr BK7.out O7.out.own hl7.out HN.out (by have := HB.out; have := B7.out.size; omega)).mono ?_
  rintro e w8 ⟨rfl, k1, k2⟩
  refine ⟨_, rfl, ?_⟩
  have BK8 := Keep.mk k1
  have G8 := Keep.mk k2
  have R8 := Keep.mk (R7.out.bk k2 (by decide) (by decide))
  clear k1 k2
  simp only [Act.put, pqA, pqB, pqC]
  refine WL.storeR (by kernel_rfl) 25 (.tmp 6) (.tmp 29) rfl r (bytesA 32 (shaP (RtP.topR le8 n (hl 32 a)))) rfl rfl 25 (bytesA 32 fun _ => 0) R8.out (Try.size25B _) (bytesA_sizes _ _ _) (bytesA_one _ _) ?_
  have R9 := Keep.mk (R8.out.setRow (bytesA 32 (shaP (RtP.topR le8 n (hl 32 a)))))
  have BK9 := Keep.mk (BK8.out.setRow R8.out (bytesA 32 (shaP (RtP.topR le8 n (hl 32 a)))) (by decide) (by decide) (by decide))
  have G9 := Keep.mk (bk_end (r := r) (bytesA 32 (shaP (RtP.topR le8 n (hl 32 a)))) B7.out G8.out hrw.out)
  generalize w8.setRow r (bytesA 32 (shaP (RtP.topR le8 n (hl 32 a)))) = w9 at *
  simp only [Act.put]
  refine WL.nil (hK12 _ _ ?_)
  refine wp_ret ?_
  refine bodyPost_ret (v := .agg (bytesA 32 (shaP (RtP.topR le8 n (hl 32 a))))) (results_cell_row Try.results52 _ _ r 25 _ (0, 0) _ rfl R9.out Try.underlying25 rfl (Try.size25B _)) rfl ⟨rfl, BK9.out, G9.out⟩
theorem top_any (B x n : Nat) (a : Nat → Int) (R : List (List Int)) (w : World) (hK : BkH B w x R) (hn : n < 9223372036854775808) (hN : R.length + 1 ≤ 4398046511104) (hB : B ≤ w.heap.size) :
  Calls Try.prog 52 #[.pointer (some ⟨x, 0, none⟩), .int .i64 (n : Int), .agg (bytesA 32 a)] w fun e w' => e = .returned (.agg (bytesA 32 (shaP (RtP.topR le8 n (hl 32 a))))) ∧ BkH B w' x (R ++ [RtP.topR le8 n (hl 32 a)]) ∧ Grown w w' (BkS B w) := by
 by_cases h : 0 < n
 ·exact top_some B x n a R w hK hn hN hB h
 ·exact top_none B x n a R w hK hn hN hB h

theorem Try.in77 (w : World) (vs : Array Value) : (callFunc 77 vs).run Try.prog w = .ok (.enter 77 vs) w := by kernel_rfl
theorem WL.slr {ops : Array Oper} {rest : List Oper} {o : Oper} {a : Act} {w : World} {Q : Exit → Act → World → Prop} (hw : Region.wanted o (yielded ops a.tmps) = true) (t : TypeId) (x : Operand) (lo hi : Option Operand) (ho : o.op = .slice t x lo hi none)
  (vx : Value) (vlo vhi : Option Value) (vs : Value) (hx : a.eval x = vx) (hl : lo.map a.eval = vlo) (hh : hi.map a.eval = vhi) (hr : (Instr.sliceAt t vx vlo vhi none).run Try.prog w = .ok vs w) (h : WL Try.prog ops Q rest (a.put o.dst vs) w) : WL Try.prog ops Q (o :: rest) a w :=
 WL.val hw vs (by unfold execOp; simp only [ho, hx, hl, hh, Option.map_none, Sem.run_bind, hr, Result.andThen_ok, Sem.run_pure]) h
structure CV where
 k : Int
 s : ByteArray
 v : Value
 l : List Int
def CV.ce (c : CV) : RtP.CE := ⟨c.k.toNat, lst c.s, c.l⟩
def cvL (c : CV) : List Value := [.int .i64 c.k, .string c.s, c.v]
structure CsAt (B : Nat) (w : World) (b off : Nat) (L : List CV) : Prop where
 lt : b < B
 at_ : ∀ (i : Nat) (c : CV), L[i]? = some c → w.rangeAt b (off + i * 3) (cvL c)
 row : ∀ c ∈ L, RowAt w c.v c.l ∧ (c.l ≠ [] → ∀ k, c.v.ownBlock = some k → k < B)
theorem Grown.ofBelow {B : Nat} {w w' : World} (h : Below B w w') : Grown w w' (fun k => B ≤ k) := ⟨h.os, h.tape, h.output, h.size, fun i _ hs => h.block i (by omega)⟩
theorem CsAt.below {B : Nat} {w w' : World} {b off : Nat} {L : List CV} (h : CsAt B w b off L) (hb : Below B w w') : CsAt B w' b off L :=
 ⟨h.lt, fun i c hc => rangeAt_below (h.at_ i c hc) hb h.lt, fun c hc => ⟨(by
  by_cases h0 : c.l = []
  ·have h1 := (h.row c hc).1
   rw [h0] at h1 ⊢
   exact row_nil h1
  ·exact (h.row c hc).1.grown (Grown.ofBelow hb) fun k hk e => by have := (h.row c hc).2 h0 k hk; omega), (h.row c hc).2⟩⟩
def shaL (l : List Int) : List Int := hl 32 (shaP l)
theorem shaL_len (l : List Int) : (shaL l).length = 32 := by simp [shaL, hl_len]
theorem hl_hof {l : List Int} (h : l.length = 32) : hl 32 (hof l) = l := by
 refine List.ext_getElem (by simp [hl_len, h]) fun i h1 h2 => ?_
 simp [hl, hof, List.getD_eq_getElem?_getD, h2]
theorem hof_hl (f : Nat → Int) : bytesA 32 (hof (hl 32 f)) = bytesA 32 f := bytesA_congr fun i hi => by
 simp [hof, hl, List.getD_eq_getElem?_getD, hi]
def treeL (k : Nat) (L : List CV) : List Int := RtP.tree shaL numL k (L.map CV.ce)
theorem treeL_len {k : Nat} {L : List CV} (h1 : 1 ≤ L.length) (h2 : L.length ≤ k) : (treeL k L).length = 32 := RtP.tree_len shaL numL shaL_len k _ (by simpa using h1) (by simpa using h2)
theorem treeL_one (k : Nat) (c : CV) : treeL (k + 1) [c] = shaL (RtP.leafR numL c.ce) := by simp [treeL, RtP.tree]
theorem treeL_two {k : Nat} {L : List CV} (h : ¬ L.length ≤ 1) : treeL (k + 1) L = shaL (RtP.innR (treeL k (L.take (RtP.half L.length))) (treeL k (L.drop (RtP.half L.length)))) := by
 unfold treeL
 rw [RtP.tree, if_neg (by simpa using h)]
 simp [List.map_take, List.map_drop]
def Fit (L : List CV) : Prop := ∀ c ∈ L, (0 ≤ c.k ∧ c.k < 9223372036854775808) ∧ c.s.size + c.l.length ≤ 140737488350000
theorem Try.sizeC (a b c : Value) : (Try.prog.info? 40).map (·.size) = some (#[a, b, c] : Array Value).size := by kernel_rfl


def CsV (B : Nat) (w : World) (v : Value) (L : List CV) : Prop :=
 (∃ a c, v = .slice a 0 c ∧ L = []) ∨ ∃ b off cap, v = .slice (some ⟨b, off, none⟩) L.length cap ∧ L.length ≤ cap ∧ CsAt B w b off L
theorem CsV.below {B : Nat} {w w' : World} {v : Value} {L : List CV} (h : CsV B w v L) (hb : Below B w w') : CsV B w' v L := by
 rcases h with h | ⟨b, off, cap, h1, h2, h3⟩
 ·exact .inl h
 ·exact .inr ⟨b, off, cap, h1, h2, h3.below hb⟩
def rootL (L : List CV) : List Int := RtP.rootR shaL numL le8 (L.map CV.ce)
theorem rootL_eq (L : List CV) : rootL L = RtP.topR le8 L.length (treeL L.length L) := by simp [rootL, RtP.rootR, treeL]


theorem Try.in31 (w : World) (vs : Array Value) : (callFunc 31 vs).run Try.prog w = .ok (.enter 31 vs) w := by kernel_rfl
theorem Try.in33 (w : World) (vs : Array Value) : (callFunc 33 vs).run Try.prog w = .ok (.enter 33 vs) w := by kernel_rfl
def okK (L : List CV) : Bool := L.all fun c => kmay c.k
def okO : List CV → Bool
 | c :: d :: r => aheI c.k c.s d.k d.s && okO (d :: r)
 | _ => true
def wrongI (L : List CV) : Int := if okK L then (if okO L then 0 else 130) else 40
theorem okK_no {L : List CV} {t : Nat} {c : CV} (h : L[t]? = some c) (hc : kmay c.k = false) : okK L = false := by
 rw [okK, List.all_eq_false]
 exact ⟨c, List.mem_of_getElem? h, by simp [hc]⟩
theorem okK_yes {L : List CV} (h : ∀ (i : Nat) (c : CV), i < L.length → L[i]? = some c → kmay c.k = true) : okK L = true := by
 rw [okK, List.all_eq_true]
 intro c hc
 obtain ⟨i, hi⟩ := List.getElem?_of_mem hc
 exact h i c (List.getElem?_eq_some_iff.1 hi).1 hi
theorem okO_no : ∀ {L : List CV} {t : Nat} {c d : CV}, L[t]? = some c → L[t + 1]? = some d → aheI c.k c.s d.k d.s = false → okO L = false
 | [], t, c, d, h, _, _ => by simp at h
 | [a], t, c, d, _, h, _ => by simp at h
 | a :: b :: r, 0, c, d, h1, h2, h => by
  simp at h1 h2
  subst h1 h2
  simp [okO, h]
 | a :: b :: r, t + 1, c, d, h1, h2, h => by
  have := okO_no (L := b :: r) (t := t) (by simpa using h1) (by simpa using h2) h
  simp [okO, this]
theorem okO_yes : ∀ {L : List CV}, (∀ (i : Nat) (c d : CV), L[i]? = some c → L[i + 1]? = some d → aheI c.k c.s d.k d.s = true) → okO L = true
 | [], _ => rfl
 | [a], _ => rfl
 | a :: b :: r, h => by
  have h0 := h 0 a b rfl rfl
  have := okO_yes (L := b :: r) fun i c d hc hd => h (i + 1) c d (by simpa using hc) (by simpa using hd)
  simp [okO, h0, this]
theorem CsAt.c {B : Nat} {w : World} {b off t : Nat} {L : List CV} {c : CV} (h : CsAt B w b off L) (hc : L[t]? = some c) : w.cell? ⟨b, off + t * 3, none⟩ = some (.int .i64 c.k) ∧ w.cell? ⟨b, off + t * 3 + 1, none⟩ = some (.string c.s) ∧ w.cell? ⟨b, off + t * 3 + 2, none⟩ = some c.v :=
 ⟨h.at_ t c hc 0 _ rfl, h.at_ t c hc 1 _ rfl, h.at_ t c hc 2 _ rfl⟩

theorem CsAt.mono {B B' : Nat} {w : World} {b off : Nat} {L : List CV} (h : CsAt B w b off L) (hB : B ≤ B') : CsAt B' w b off L :=
 ⟨Nat.lt_of_lt_of_le h.lt hB, h.at_, fun c hc => ⟨(h.row c hc).1, fun h0 k hk => Nat.lt_of_lt_of_le ((h.row c hc).2 h0 k hk) hB⟩⟩
theorem BkH.new (w : World) : BkH w.heap.size (w.alloc (.cells #[.slice none 0 0] 61)) w.heap.size [] :=
 ⟨Nat.le_refl _, .slice none 0 0, [], Blk.new w 61 _, ⟨rfl, .inl ⟨rfl, rfl⟩⟩, rfl, fun i v l hv _ => by simp at hv⟩
theorem bld_bk : Try.prog.built 61 [] = some #[.slice none 0 0] := by kernel_rfl
theorem bld_hz : Try.prog.built 25 [] = some (bytesA 32 fun _ => 0) := by kernel_rfl
def Sml (L : List CV) : Prop := ∀ c ∈ L, c.s.size + c.l.length ≤ 140737488350000
theorem fit_of {L : List CV} (h : okK L = true) (hs : Sml L) : Fit L := fun c hc => by
 have := List.all_eq_true.1 h c hc
 simp [kmay] at this
 exact ⟨by omega, hs c hc⟩
theorem okK_of {L : List CV} (h : wrongI L = 0) : okK L = true := by
 unfold wrongI at h
 cases e : okK L
 ·rw [e] at h; simp at h
 ·rfl
def rootF (L : List CV) : Nat → Int := if wrongI L = 0 then shaP (rootL L) else fun _ => 0


theorem layUp_rng (s : Nat → Int) : ∀ t i, 0 ≤ layUp s t i ∧ layUp s t i < 256
 | 0, i => by simp [layUp]
 | t + 1, i => by
  have ih := layUp_rng s t i
  simp only [layUp, upd]
  repeat' split
  all_goals first | exact ih | omega
theorem shaP_rng (l : List Int) (i : Nat) : 0 ≤ shaP l i ∧ shaP l i < 256 := layUp_rng _ 8 i
def shaH (l : List Int) : Hs := Hs.mk' (shaP l) fun i _ => shaP_rng l i
theorem shaH_f (l : List Int) (i : Nat) (hi : i < 32) : (shaH l).f i = shaP l i := Hs.mk'_f _ _ i hi
theorem shaH_arr (l : List Int) : bytesA 32 (shaP l) = (encH (shaH l)).toArray := by
 rw [encH_arr]; exact bytesA_congr fun i hi => (shaH_f l i hi).symm

def hsL (h : Hs) : List Int := hl 32 h.f
theorem shaH_L (l : List Int) : hsL (shaH l) = shaL l := by
 simp only [hsL, shaL, hl]
 exact List.map_congr_left fun i hi => shaH_f l i (List.mem_range.1 hi)
theorem tree_hs {k : Nat} {L : List CV} (h1 : 1 ≤ L.length) (h2 : L.length ≤ k) : ∃ h : Hs, hsL h = treeL k L ∧ bytesA 32 (hof (treeL k L)) = (encH h).toArray := by
 obtain ⟨row, e⟩ : ∃ row, treeL k L = shaL row := by
  match k, h2 with
  | 0, h2 => omega
  | k + 1, _ =>
   unfold treeL RtP.tree
   split <;> exact ⟨_, rfl⟩
 refine ⟨shaH row, by rw [shaH_L, e], ?_⟩
 rw [e, shaL, hof_hl, shaH_arr]
def pathL (k : Nat) (L : List CV) (i : Nat) : List (List Int) := RtP.path shaL numL k (L.map CV.ce) i
theorem pathL_one (k : Nat) (c : CV) (i : Nat) : pathL (k + 1) [c] i = [] := by simp [pathL, RtP.path]
theorem pathL_lo {k : Nat} {L : List CV} {i : Nat} (h : ¬ L.length ≤ 1) (hi : i < RtP.half L.length) : pathL (k + 1) L i = pathL k (L.take (RtP.half L.length)) i ++ [treeL k (L.drop (RtP.half L.length))] := by
 unfold pathL treeL
 rw [RtP.path, if_neg (by simpa using h), if_pos (by simpa using hi)]
 simp [List.map_take, List.map_drop]
theorem pathL_hi {k : Nat} {L : List CV} {i : Nat} (h : ¬ L.length ≤ 1) (hi : ¬ i < RtP.half L.length) : pathL (k + 1) L i = pathL k (L.drop (RtP.half L.length)) (i - RtP.half L.length) ++ [treeL k (L.take (RtP.half L.length))] := by
 unfold pathL treeL
 rw [RtP.path, if_neg (by simpa using h), if_neg (by simpa using hi)]
 simp [List.map_take, List.map_drop]

end Go.Proofs.Ytjklmkeedhgncaa
