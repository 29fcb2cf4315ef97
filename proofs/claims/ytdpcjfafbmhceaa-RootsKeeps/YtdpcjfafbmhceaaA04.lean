import Derived.Test.YtdpcjfafbmhceaaA03
import Derived.Deep.RegionHeld3
set_option maxRecDepth 8000
namespace Go.Proofs.Ytdpcjfafbmhceaa
open Go.RowKit
set_option linter.unusedSimpArgs false
set_option linter.unusedVariables false
theorem WL.app {ops : Array Oper} {rest : List Oper} {o : Oper} {a : Act} {w : World} {Q : Exit → Act → World → Prop} (hw : Region.wanted o (yielded ops a.tmps) = true) (s x : Operand)
  (ho : o.op = .call { callee := .builtin .append, args := #[s, x], argTypes := #[42, 42] }) (v vx : Value) (l m : List Int)
  (hs : a.eval s = v) (hx : a.eval x = vx) (hown : Own w v l) (hrow : RowAt w vx m) (hb : l.length + m.length ≤ 140737488355328)
  (h : ∀ v' w', AppPost w v (l ++ m) v' w' → WL Try.prog ops Q rest (a.put o.dst v') w') : WL Try.prog ops Q (o :: rest) a w :=
 ⟨qC hw fun K hK => by
  obtain ⟨v', w', hr, h2⟩ := xx w o.type v vx l m hown hrow hb
  unfold Oper.wp execOp
  simp only [ho, resolve, invoke, builtin, Sem.run_bind, Sem.run_pure, Result.andThen_ok, List.map_toArray, List.map_cons, List.map_nil, hs, hx, hr]
  exact hK _ _ (h v' w' h2).o⟩
def le8 (n : Nat) : List Int := (List.range 8).map fun t => (n : Int) / 2 ^ (8 * t) % 256
theorem xl (n : Nat) : (le8 n).length = 8 := by simp [le8]
theorem KT (n t : Nat) (h : t < 8) : (le8 n).take (t + 1) = (le8 n).take t ++ [(n : Int) / 2 ^ (8 * t) % 256] := by
 rw [List.take_succ_eq_append_getElem (by rw [xl]; exact h)]
 simp [le8]
theorem Zm (B x n : Nat) (a : Nat → Int) (R : List (List Int)) (w : World) (hK : BkH B w x R) (hn : n < 9223372036854775808) (hN : R.length + 1 ≤ 4398046511104) (hB : B ≤ w.heap.size) (hn0 : 0 < n) :
  Calls Try.prog 57 #[.pointer (some ⟨x, 0, none⟩), .int .i64 (n : Int), .agg (qb 32 a)] w fun e w' => e = .returned (.agg (qb 32 (qy (RtP.topR le8 n (hl 32 a))))) ∧ BkH B w' x (R ++ [RtP.topR le8 n (hl 32 a)]) ∧ Grown w w' (BkS B w) := by
 have HK := kk hK
 have HN := kk hN
 have HB := kk hB
 have hn1 : (0 : Int) < (n : Int) := by omega
 have hn2 : (n : Int) ≤ 9223372036854775807 := by omega
 clear hK hN hB
 go_enter Try.func57, Try.ntmps57
 refine wp_seq_k fun K1 hK1 => rgn (xM 32 (.tmp 2) (qb 32 a) fun c w1 hc0 C1 b1 => ?_)
 refine zO 32 qm fun r w2 hr0 R2 b2 => ?_
 have C2 := kbx C1 b2.o
 have B2 := tb b1 b2.o
 have hrw : Keep (w.heap.size ≤ r) := ⟨by rw [hr0.o]; exact b1.o.size⟩
 have BK2 := kk (HK.o.below B2.o)
 clear C1 b1 b2 hr0 hc0
 refine WL.nil (hK1 _ _ (wp_seq_k fun K2 hK2 => rgn ?_))
 refine WL.bs (by kernel_rfl) 42 1 _ rfl #[(0, .int .u8 2)] (by simp [Act.eval]) _ _ (bsK 2 w2) ?_
 have O3 := kk (OB.start w2 2)
 generalize w2.alloc (.cells (bv [2]).toArray 5) = w3 at *
 obtain ⟨v3, hv3⟩ : ∃ z, Keep (z = Value.slice (some ⟨w2.heap.size, 0, none⟩) 1 1) := ⟨_, ⟨rfl⟩⟩
 rw [← hv3.o] at O3 ⊢
 clear hv3
 simp only [Act.put, pqA, pqB, pqC]
 refine Vv (v3) (h:=WL.nil (hK2 _ _ (wp_seq_k fun K3 hK3 => wp_seq_k fun K4 hK4 => rgn (Vv (.int .i64 0) (h:=WL.nil (hK4 _ _ (wp_block (?_))))))))
 refine wp_loop (fun ac wr => ∃ (t : Nat) (v1 : Value), ac = apF (fun f => { tmps := #[.pointer (some ⟨x, 0, none⟩), .int .i64 (n : Int), .agg (qb 32 a), undef, undef, .pointer (some ⟨c, 0, none⟩), .pointer (some ⟨r, 0, none⟩), v1, .int .i64 (t : Int), v3, f 10, f 11, f 12, f 13, f 14, f 15, f 16, f 17, f 18, f 19, f 20, f 21, undef, undef, undef, undef, undef, undef, undef, undef], defers := [] }) ac ∧ t ≤ 8 ∧ OB w2 wr v1 ([2] ++ (le8 n).take t)) (fun a _ => 8 - (intOf (a.tmps.getD 8 undef)).toNat) ⟨0, v3, rfl, by omega, by simpa using O3.o⟩ ?_
 rintro ac wr ⟨t, v1, hac, ht, hO⟩
 obtain ⟨f, rfl⟩ := unF hac
 have O4 := kk hO
 clear hO
 by_cases htl : t < 8
 ·have htl' : (t : Int) < 8 := by omega
  have hs0 : 0 ≤ 8 * (t : Int) := by omega
  have hs1 : 8 * (t : Int) ≤ 64 := by omega
  have hs2 : (8 * (t : Int)).toNat = 8 * t := by omega
  have hw1 : IntKind.i64.wrap (8 * (t : Int)) = 8 * (t : Int) := by rw [IntKind.wrap_i64]; omega
  have hw2 : IntKind.u8.wrap ((n : Int) / 2 ^ (8 * t)) = (n : Int) / 2 ^ (8 * t) % 256 := IntKind.wrap_u8 _
  have hw3 : IntKind.i64.wrap ((t : Int) + 1) = ((t + 1 : Nat) : Int) := by rw [IntKind.wrap_i64]; omega
  refine wp_seq_k fun K5 hK5 => wp_seq_k fun K6 hK6 => rgn (Vv (.int .i64 (t : Int)) (h:=Vt (h:=WL.nil (hK6 _ _ (Ct (h:=wp_skip (hK5 _ _ (wp_seq_k fun K7 hK7 => wp_block (rgn (Vv (v1) (h:=Vv (.int .i64 (n : Int)) (h:=Vv (.int .i64 (t : Int)) (h:=Vv (.int .i64 (8 * (t : Int))) (h:=?_))))))))))))))
  refine Vv (.int .i64 ((n : Int) / 2 ^ (8 * t))) (h:=Vv (.int .u8 ((n : Int) / 2 ^ (8 * t) % 256)) (h:=?_))
  refine WL.bs (by kernel_rfl) 42 1 _ rfl #[(0, .int .u8 ((n : Int) / 2 ^ (8 * t) % 256))] (by simp [Act.eval]) _ _ (bsK ((n : Int) / 2 ^ (8 * t) % 256) wr) ?_
  have Y5 : Keep (RowAt (wr.alloc (.cells (bv [((n : Int) / 2 ^ (8 * t) % 256)]).toArray 5)) (.slice (some ⟨wr.heap.size, 0, none⟩) 1 1) [((n : Int) / 2 ^ (8 * t) % 256)]) := ⟨jb wr _⟩
  have O5 := kk (O4.o.below (qg wr (.cells (bv [((n : Int) / 2 ^ (8 * t) % 256)]).toArray 5)))
  obtain ⟨g, hg0⟩ := nm wr
  rw [← hg0.o] at Y5 ⊢
  generalize wr.alloc (.cells (bv [((n : Int) / 2 ^ (8 * t) % 256)]).toArray 5) = w5 at *
  clear O4
  simp only [Act.put, pqA, pqB, pqC]
  refine WL.app (by kernel_rfl) (.tmp 14) (.tmp 20) rfl v1 (.slice (some ⟨g, 0, none⟩) 1 1) ([2] ++ (le8 n).take t) [((n : Int) / 2 ^ (8 * t) % 256)] rfl rfl O5.o.own Y5.o (by simp; omega) ?_
  intro v6 w6 hp
  have O6 := kk (O5.o.lay hp.1 hp.moved hp.grown)
  rw [List.append_assoc, ← KT n t htl] at O6
  clear hp O5
  simp only [Act.put, pqA, pqB, pqC]
  refine Vv (v6) (h:=WL.nil (hK7 _ _ (rgn (Vv (.int .i64 (t : Int)) (h:=Vv (.int .i64 ((t + 1 : Nat) : Int)) (h:=Vv (.int .i64 ((t + 1 : Nat) : Int)) (h:=?_)))))))
  refine WL.nil ?_
  refine ⟨⟨t + 1, v6, rfl, by omega, O6.o⟩, ?_⟩
  simp only [intOf]; show 8 - (((t + 1 : Nat) : Int)).toNat < 8 - ((t : Int)).toNat; omega
 ·have e8 : t = 8 := by omega
  have htl' : ¬ (t : Int) < 8 := by omega
  have O5 : Keep (OB w2 wr v1 ([2] ++ le8 n)) := ⟨by have h := O4.o; rw [e8, List.take_of_length_le (by rw [xl]; exact Nat.le_refl _)] at h; exact h⟩
  clear O4
  refine wp_seq_k fun K8 hK8 => wp_seq_k fun K9 hK9 => rgn (Vv (.int .i64 (t : Int)) (h:=Vf (h:=WL.nil (hK9 _ _ (Cf (h:=wp_exit (hK3 _ _ (wp_seq_k fun K10 hK10 => wp_seq_k fun K11 hK11 => rgn (Vv (.int .i64 (n : Int)) (h:=Vt (h:=WL.nil (hK11 _ _ (Ct (h:=rgn (Vv (v1) (h:=?_))))))))))))))))
  refine WL.row (by kernel_rfl) 32 (.tmp 5) rfl c rfl 32 (qb 32 a) _ (C2.o.below O5.o.bel C2.o.lt) Try.underlying32 rfl (qd _) ?_
  simp only [Act.put, pqA, pqB, pqC]
  refine ClS (yS v1 ([2] ++ le8 n) a wr O5.o.own (by simp [xl])) ?_
  rintro e w6 ⟨v6, rfl, k1, k2, k3⟩
  refine ⟨_, rfl, ?_⟩
  have O6 := kk (O5.o.lay k1 k2 k3)
  clear k1 k2 k3 O5
  refine Vv (v6) (h:=WL.nil (hK10 _ _ (wp_seq_k fun K12 hK12 => rgn (Vv (.pointer (some ⟨x, 0, none⟩)) (h:=Vv (v6) (h:=?_))))))
  have e7 : [2] ++ le8 n ++ hl 32 a = RtP.topR le8 n (hl 32 a) := by simp [RtP.topR, hn0]
  have O7 : Keep (OB w2 w6 v6 (RtP.topR le8 n (hl 32 a))) := ⟨by rw [← e7]; exact O6.o⟩
  have BK7 := kk (BK2.o.below O7.o.bel)
  have R7 := kbx R2 O7.o.bel
  have hl7 : Keep ((RtP.topR le8 n (hl 32 a)).length ≤ 140737650005000) := ⟨by rw [← e7]; simp [jm, xl]⟩
  have B7 := tb B2 O7.o.bel
  refine ClS (yE B x v6 (RtP.topR le8 n (hl 32 a)) R w6 BK7.o O7.o.own hl7.o HN.o (by have := HB.o; have := B7.o.size; omega)) ?_
  rintro e w8 ⟨rfl, k1, k2⟩
  refine ⟨_, rfl, ?_⟩
  have BK8 := kk k1
  have G8 := kk k2
  have R8 := kk (R7.o.bk k2 (by decide) (by decide))
  clear k1 k2
  refine StR (qb 32 (qy (RtP.topR le8 n (hl 32 a)))) R8.o (qd _) (qh _ _ _) (qi _ _) ?_
  have R9 := kk (R8.o.setRow (qb 32 (qy (RtP.topR le8 n (hl 32 a)))))
  have BK9 := kk (BK8.o.setRow R8.o (qb 32 (qy (RtP.topR le8 n (hl 32 a)))) (by decide) (by decide) (by decide))
  have G9 := kk (kz (r := r) (qb 32 (qy (RtP.topR le8 n (hl 32 a)))) B7.o G8.o hrw.o)
  generalize w8.setRow r (qb 32 (qy (RtP.topR le8 n (hl 32 a)))) = w9 at *
  refine WL.nil (hK12 _ _ (wp_ret ?_))
  refine bodyPost_ret (v := .agg (qb 32 (qy (RtP.topR le8 n (hl 32 a))))) (results_cell_row Try.results57 _ _ r 32 _ (0, 0) _ rfl R9.o Try.underlying32 rfl (qd _)) rfl ⟨rfl, BK9.o, G9.o⟩
theorem Zn (B x n : Nat) (a : Nat → Int) (R : List (List Int)) (w : World) (hK : BkH B w x R) (hn : n < 9223372036854775808) (hN : R.length + 1 ≤ 4398046511104) (hB : B ≤ w.heap.size) (hn0 : ¬ 0 < n) :
  Calls Try.prog 57 #[.pointer (some ⟨x, 0, none⟩), .int .i64 (n : Int), .agg (qb 32 a)] w fun e w' => e = .returned (.agg (qb 32 (qy (RtP.topR le8 n (hl 32 a))))) ∧ BkH B w' x (R ++ [RtP.topR le8 n (hl 32 a)]) ∧ Grown w w' (BkS B w) := by
 have HK := kk hK
 have HN := kk hN
 have HB := kk hB
 have hn1 : ¬ (0 : Int) < (n : Int) := by omega
 have hn2 : (n : Int) ≤ 9223372036854775807 := by omega
 clear hK hN hB
 go_enter Try.func57, Try.ntmps57
 refine wp_seq_k fun K1 hK1 => rgn (xM 32 (.tmp 2) (qb 32 a) fun c w1 hc0 C1 b1 => ?_)
 refine zO 32 qm fun r w2 hr0 R2 b2 => ?_
 have C2 := kbx C1 b2.o
 have B2 := tb b1 b2.o
 have hrw : Keep (w.heap.size ≤ r) := ⟨by rw [hr0.o]; exact b1.o.size⟩
 have BK2 := kk (HK.o.below B2.o)
 clear C1 b1 b2 hr0 hc0
 refine WL.nil (hK1 _ _ (wp_seq_k fun K2 hK2 => rgn ?_))
 refine WL.bs (by kernel_rfl) 42 1 _ rfl #[(0, .int .u8 2)] (by simp [Act.eval]) _ _ (bsK 2 w2) ?_
 have O3 := kk (OB.start w2 2)
 generalize w2.alloc (.cells (bv [2]).toArray 5) = w3 at *
 obtain ⟨v3, hv3⟩ : ∃ z, Keep (z = Value.slice (some ⟨w2.heap.size, 0, none⟩) 1 1) := ⟨_, ⟨rfl⟩⟩
 rw [← hv3.o] at O3 ⊢
 clear hv3
 simp only [Act.put, pqA, pqB, pqC]
 refine Vv (v3) (h:=WL.nil (hK2 _ _ (wp_seq_k fun K3 hK3 => wp_seq_k fun K4 hK4 => rgn (Vv (.int .i64 0) (h:=WL.nil (hK4 _ _ (wp_block (?_))))))))
 refine wp_loop (fun ac wr => ∃ (t : Nat) (v1 : Value), ac = apF (fun f => { tmps := #[.pointer (some ⟨x, 0, none⟩), .int .i64 (n : Int), .agg (qb 32 a), undef, undef, .pointer (some ⟨c, 0, none⟩), .pointer (some ⟨r, 0, none⟩), v1, .int .i64 (t : Int), v3, f 10, f 11, f 12, f 13, f 14, f 15, f 16, f 17, f 18, f 19, f 20, f 21, undef, undef, undef, undef, undef, undef, undef, undef], defers := [] }) ac ∧ t ≤ 8 ∧ OB w2 wr v1 ([2] ++ (le8 n).take t)) (fun a _ => 8 - (intOf (a.tmps.getD 8 undef)).toNat) ⟨0, v3, rfl, by omega, by simpa using O3.o⟩ ?_
 rintro ac wr ⟨t, v1, hac, ht, hO⟩
 obtain ⟨f, rfl⟩ := unF hac
 have O4 := kk hO
 clear hO
 by_cases htl : t < 8
 ·have htl' : (t : Int) < 8 := by omega
  have hs0 : 0 ≤ 8 * (t : Int) := by omega
  have hs1 : 8 * (t : Int) ≤ 64 := by omega
  have hs2 : (8 * (t : Int)).toNat = 8 * t := by omega
  have hw1 : IntKind.i64.wrap (8 * (t : Int)) = 8 * (t : Int) := by rw [IntKind.wrap_i64]; omega
  have hw2 : IntKind.u8.wrap ((n : Int) / 2 ^ (8 * t)) = (n : Int) / 2 ^ (8 * t) % 256 := IntKind.wrap_u8 _
  have hw3 : IntKind.i64.wrap ((t : Int) + 1) = ((t + 1 : Nat) : Int) := by rw [IntKind.wrap_i64]; omega
  refine wp_seq_k fun K5 hK5 => wp_seq_k fun K6 hK6 => rgn (Vv (.int .i64 (t : Int)) (h:=Vt (h:=WL.nil (hK6 _ _ (Ct (h:=wp_skip (hK5 _ _ (wp_seq_k fun K7 hK7 => wp_block (rgn (Vv (v1) (h:=Vv (.int .i64 (n : Int)) (h:=Vv (.int .i64 (t : Int)) (h:=Vv (.int .i64 (8 * (t : Int))) (h:=?_))))))))))))))
  refine Vv (.int .i64 ((n : Int) / 2 ^ (8 * t))) (h:=Vv (.int .u8 ((n : Int) / 2 ^ (8 * t) % 256)) (h:=?_))
  refine WL.bs (by kernel_rfl) 42 1 _ rfl #[(0, .int .u8 ((n : Int) / 2 ^ (8 * t) % 256))] (by simp [Act.eval]) _ _ (bsK ((n : Int) / 2 ^ (8 * t) % 256) wr) ?_
  have Y5 : Keep (RowAt (wr.alloc (.cells (bv [((n : Int) / 2 ^ (8 * t) % 256)]).toArray 5)) (.slice (some ⟨wr.heap.size, 0, none⟩) 1 1) [((n : Int) / 2 ^ (8 * t) % 256)]) := ⟨jb wr _⟩
  have O5 := kk (O4.o.below (qg wr (.cells (bv [((n : Int) / 2 ^ (8 * t) % 256)]).toArray 5)))
  obtain ⟨g, hg0⟩ := nm wr
  rw [← hg0.o] at Y5 ⊢
  generalize wr.alloc (.cells (bv [((n : Int) / 2 ^ (8 * t) % 256)]).toArray 5) = w5 at *
  clear O4
  simp only [Act.put, pqA, pqB, pqC]
  refine WL.app (by kernel_rfl) (.tmp 14) (.tmp 20) rfl v1 (.slice (some ⟨g, 0, none⟩) 1 1) ([2] ++ (le8 n).take t) [((n : Int) / 2 ^ (8 * t) % 256)] rfl rfl O5.o.own Y5.o (by simp; omega) ?_
  intro v6 w6 hp
  have O6 := kk (O5.o.lay hp.1 hp.moved hp.grown)
  rw [List.append_assoc, ← KT n t htl] at O6
  clear hp O5
  simp only [Act.put, pqA, pqB, pqC]
  refine Vv (v6) (h:=WL.nil (hK7 _ _ (rgn (Vv (.int .i64 (t : Int)) (h:=Vv (.int .i64 ((t + 1 : Nat) : Int)) (h:=Vv (.int .i64 ((t + 1 : Nat) : Int)) (h:=?_)))))))
  refine WL.nil ?_
  refine ⟨⟨t + 1, v6, rfl, by omega, O6.o⟩, ?_⟩
  simp only [intOf]; show 8 - (((t + 1 : Nat) : Int)).toNat < 8 - ((t : Int)).toNat; omega
 ·have e8 : t = 8 := by omega
  have htl' : ¬ (t : Int) < 8 := by omega
  have O5 : Keep (OB w2 wr v1 ([2] ++ le8 n)) := ⟨by have h := O4.o; rw [e8, List.take_of_length_le (by rw [xl]; exact Nat.le_refl _)] at h; exact h⟩
  clear O4
  refine wp_seq_k fun K8 hK8 => wp_seq_k fun K9 hK9 => rgn (Vv (.int .i64 (t : Int)) (h:=Vf (h:=WL.nil (hK9 _ _ (Cf (h:=wp_exit (hK3 _ _ (wp_seq_k fun K10 hK10 => wp_seq_k fun K11 hK11 => rgn (Vv (.int .i64 (n : Int)) (h:=Vf (h:=WL.nil (hK11 _ _ (Cf (h:=wp_skip (hK10 _ _ (?_))))))))))))))))
  refine wp_seq_k fun K12 hK12 => rgn (Vv (.pointer (some ⟨x, 0, none⟩)) (h:=Vv (v1) (h:=?_)))
  have e7 : [2] ++ le8 n = RtP.topR le8 n (hl 32 a) := by simp [RtP.topR, hn0]
  have O7 : Keep (OB w2 wr v1 (RtP.topR le8 n (hl 32 a))) := ⟨by rw [← e7]; exact O5.o⟩
  have BK7 := kk (BK2.o.below O7.o.bel)
  have R7 := kbx R2 O7.o.bel
  have hl7 : Keep ((RtP.topR le8 n (hl 32 a)).length ≤ 140737650005000) := ⟨by rw [← e7]; simp [jm, xl]⟩
  have B7 := tb B2 O7.o.bel
  refine ClS (yE B x v1 (RtP.topR le8 n (hl 32 a)) R wr BK7.o O7.o.own hl7.o HN.o (by have := HB.o; have := B7.o.size; omega)) ?_
  rintro e w8 ⟨rfl, k1, k2⟩
  refine ⟨_, rfl, ?_⟩
  have BK8 := kk k1
  have G8 := kk k2
  have R8 := kk (R7.o.bk k2 (by decide) (by decide))
  clear k1 k2
  refine StR (qb 32 (qy (RtP.topR le8 n (hl 32 a)))) R8.o (qd _) (qh _ _ _) (qi _ _) ?_
  have R9 := kk (R8.o.setRow (qb 32 (qy (RtP.topR le8 n (hl 32 a)))))
  have BK9 := kk (BK8.o.setRow R8.o (qb 32 (qy (RtP.topR le8 n (hl 32 a)))) (by decide) (by decide) (by decide))
  have G9 := kk (kz (r := r) (qb 32 (qy (RtP.topR le8 n (hl 32 a)))) B7.o G8.o hrw.o)
  generalize w8.setRow r (qb 32 (qy (RtP.topR le8 n (hl 32 a)))) = w9 at *
  refine WL.nil (hK12 _ _ (wp_ret ?_))
  refine bodyPost_ret (v := .agg (qb 32 (qy (RtP.topR le8 n (hl 32 a))))) (results_cell_row Try.results57 _ _ r 32 _ (0, 0) _ rfl R9.o Try.underlying32 rfl (qd _)) rfl ⟨rfl, BK9.o, G9.o⟩
theorem Xt (B x n : Nat) (a : Nat → Int) (R : List (List Int)) (w : World) (hK : BkH B w x R) (hn : n < 9223372036854775808) (hN : R.length + 1 ≤ 4398046511104) (hB : B ≤ w.heap.size) :
  Calls Try.prog 57 #[.pointer (some ⟨x, 0, none⟩), .int .i64 (n : Int), .agg (qb 32 a)] w fun e w' => e = .returned (.agg (qb 32 (qy (RtP.topR le8 n (hl 32 a))))) ∧ BkH B w' x (R ++ [RtP.topR le8 n (hl 32 a)]) ∧ Grown w w' (BkS B w) := by
 by_cases h : 0 < n
 ·exact Zm B x n a R w hK hn hN hB h
 ·exact Zn B x n a R w hK hn hN hB h
theorem WL.slr {ops : Array Oper} {rest : List Oper} {o : Oper} {a : Act} {w : World} {Q : Exit → Act → World → Prop} (hw : Region.wanted o (yielded ops a.tmps) = true) (t : TypeId) (x : Operand) (lo hi : Option Operand) (ho : o.op = .slice t x lo hi none)
  (vx : Value) (vlo vhi : Option Value) (vs : Value) (hx : a.eval x = vx) (hl : lo.map a.eval = vlo) (hh : hi.map a.eval = vhi) (hr : (Instr.sliceAt t vx vlo vhi none).run Try.prog w = .ok vs w) (h : WL Try.prog ops Q rest (a.put o.dst vs) w) : WL Try.prog ops Q (o :: rest) a w :=
 WL.val hw vs (by unfold execOp; simp only [ho, hx, hl, hh, Option.map_none, Sem.run_bind, hr, Result.andThen_ok, Sem.run_pure]) h
theorem vi : Try.prog.elem 22 = 44 := by kernel_rfl
theorem vt (w : World) : (sizeOf 44).run Try.prog w = .ok 3 w := by kernel_rfl
theorem Xz : Try.prog.underlying 22 = some (.slice (Try.prog.elem 22)) := by rw [vi]; exact Try.underlying22
theorem Zs (b off n c i : Nat) (hi : i < n) (hc : n ≤ c) (w : World) : (Instr.sliceAt 22 (.slice (some ⟨b, off, none⟩) n c) (some (.int .i64 (i : Int))) none none).run Try.prog w = .ok (.slice (some ⟨b, off + i * 3, none⟩) (n - i) (c - i)) w := by
 have h1 := run_slice_l (P := Try.prog) (w := w) 22 (some ⟨b, off, none⟩) n c Xz .i64 (i : Int) (by omega) (by omega)
 have h2 := run_sliceAt_slice (P := Try.prog) (w := w) 22 (.slice (some ⟨b, off, none⟩) n c) (some (.int .i64 (i : Int))) none none Xz
 rw [h2, h1, vi, vt, Result.andThen_ok, Int.toNat_natCast]
 have h4 : ¬ c - i = 0 := by omega
 simp [sliced, h4, Addr.add_mid]
 omega
theorem KD (a : Option Addr) (n c i : Nat) (hi : i ≤ c) (w : World) : (Instr.sliceAt 22 (.slice a n c) none (some (.int .i64 (i : Int))) none).run Try.prog w = .ok (.slice a i c) w := by
 have h1 := run_slice_h (P := Try.prog) (w := w) 22 a n c Xz .i64 (i : Int) (by omega) (by omega)
 have h2 := run_sliceAt_slice (P := Try.prog) (w := w) 22 (.slice a n c) none (some (.int .i64 (i : Int))) none Xz
 rw [h2, h1, vi, vt, Result.andThen_ok, Int.toNat_natCast]
 have h4 : (if c = 0 then a else a.map (·.add (0 * 3))) = a := by
  split
  ·rfl
  ·cases a <;> rfl
 simp only [sliced, Nat.sub_zero, h4]
structure CV where
 k : Int
 s : ByteArray
 v : Value
 l : List Int
def CV.ce (c : CV) : RtP.CE := ⟨c.k.toNat, lst c.s, c.l⟩
def cvL (c : CV) : List Value := [.int .i64 c.k, .string c.s, c.v]
structure CsAt (B : Nat) (w : World) (b off : Nat) (L : List CV) : Prop where
 lt : b < B
 at_ : ∀ (i : Nat) (c : CV), L[i]? = some c → w.rangeAt b (off + i * 3) (cvL c)
 row : ∀ c ∈ L, RowAt w c.v c.l ∧ (c.l ≠ [] → ∀ k, c.v.ownBlock = some k → k < B)
theorem CsAt.take {B : Nat} {w : World} {b off : Nat} {L : List CV} (h : CsAt B w b off L) (m : Nat) : CsAt B w b off (L.take m) :=
 ⟨h.lt, fun i c hc => h.at_ i c (by
  rw [List.getElem?_take] at hc
  split at hc
  ·exact hc
  ·cases hc), fun c hc => h.row c (List.mem_of_mem_take hc)⟩
theorem CsAt.drop {B : Nat} {w : World} {b off : Nat} {L : List CV} (h : CsAt B w b off L) (m : Nat) : CsAt B w b (off + m * 3) (L.drop m) :=
 ⟨h.lt, fun i c hc => by
  rw [List.getElem?_drop] at hc
  have := h.at_ (m + i) c hc
  rw [show off + m * 3 + i * 3 = off + (m + i) * 3 by omega]
  exact this, fun c hc => h.row c (List.mem_of_mem_drop hc)⟩
theorem Grown.ofBelow {B : Nat} {w w' : World} (h : Below B w w') : Grown w w' (fun k => B ≤ k) := ⟨h.os, h.tape, h.output, h.size, fun i _ hs => h.block i (by omega)⟩
theorem CsAt.below {B : Nat} {w w' : World} {b off : Nat} {L : List CV} (h : CsAt B w b off L) (hb : Below B w w') : CsAt B w' b off L :=
 ⟨h.lt, fun i c hc => zj (h.at_ i c hc) hb h.lt, fun c hc => ⟨(by
  by_cases h0 : c.l = []
  ·have h1 := (h.row c hc).1
   rw [h0] at h1 ⊢
   exact vD h1
  ·exact (h.row c hc).1.grown (Grown.ofBelow hb) fun k hk e => by have := (h.row c hc).2 h0 k hk; omega), (h.row c hc).2⟩⟩
def zR (l : List Int) : List Int := hl 32 (qy l)
theorem jB (l : List Int) : (zR l).length = 32 := by simp [zR, jm]
theorem jO {l : List Int} (h : l.length = 32) : hl 32 (hof l) = l := by
 refine List.ext_getElem (by simp [jm, h]) fun i h1 h2 => ?_
 simp [hl, hof, List.getD_eq_getElem?_getD, h2]
theorem xE (f : Nat → Int) : qb 32 (hof (hl 32 f)) = qb 32 f := jd fun i hi => by
 simp [hof, hl, List.getD_eq_getElem?_getD, hi]
def qx (k : Nat) (L : List CV) : List Int := RtP.tree zR qQ k (L.map CV.ce)
def jn (k : Nat) (L : List CV) : List (List Int) := RtP.treeRs zR qQ k (L.map CV.ce)
theorem xO {k : Nat} {L : List CV} (h1 : 1 ≤ L.length) (h2 : L.length ≤ k) : (qx k L).length = 32 := RtP.tree_len zR qQ jB k _ (by simpa using h1) (by simpa using h2)
theorem Jg (k : Nat) (c : CV) : qx (k + 1) [c] = zR (RtP.leafR qQ c.ce) := by simp [qx, RtP.tree]
theorem Je (k : Nat) (c : CV) : jn (k + 1) [c] = [RtP.leafR qQ c.ce] := by simp [jn, RtP.treeRs]
theorem Jf {k : Nat} {L : List CV} (h : ¬ L.length ≤ 1) : qx (k + 1) L = zR (RtP.innR (qx k (L.take (RtP.half L.length))) (qx k (L.drop (RtP.half L.length)))) := by
 unfold qx
 rw [RtP.tree, if_neg (by simpa using h)]
 simp [List.map_take, List.map_drop]
theorem Jd {k : Nat} {L : List CV} (h : ¬ L.length ≤ 1) : jn (k + 1) L = jn k (L.take (RtP.half L.length)) ++ (jn k (L.drop (RtP.half L.length)) ++ [RtP.innR (qx k (L.take (RtP.half L.length))) (qx k (L.drop (RtP.half L.length)))]) := by
 unfold jn qx
 rw [RtP.treeRs, if_neg (by simpa using h)]
 simp [List.map_take, List.map_drop]
theorem jk : ∀ (k : Nat) (L : List CV), 1 ≤ L.length → L.length ≤ k → (jn k L).length + 1 = 2 * L.length
 | 0, L, h1, h2 => by omega
 | k + 1, L, h1, h2 => by
  by_cases h : L.length ≤ 1
  ·match L, h1, h with
   | [c], _, _ => simp [Je]
  ·have hh := RtP.half_le (n := L.length) (by omega)
   have a1 := jk k (L.take (RtP.half L.length)) (by rw [List.length_take]; omega) (by rw [List.length_take]; omega)
   have a2 := jk k (L.drop (RtP.half L.length)) (by rw [List.length_drop]; omega) (by rw [List.length_drop]; omega)
   rw [List.length_take] at a1
   rw [List.length_drop] at a2
   rw [Jd h, List.length_append, List.length_append, List.length_singleton]
   omega
def Fit (L : List CV) : Prop := ∀ c ∈ L, (0 ≤ c.k ∧ c.k < 9223372036854775808) ∧ (c.s.size ≤ 140737488351232 ∧ c.l.length ≤ 140000000)
def TP (B x k : Nat) (L : List CV) (R : List (List Int)) (w : World) (e : Ending) (w' : World) : Prop :=
 e = .returned (.agg (qb 32 (hof (qx k L)))) ∧ BkH B w' x (R ++ jn k L) ∧ Grown w w' (BkS B w)
theorem qw (a b c : Value) : (Try.prog.info? 44).map (·.size) = some (#[a, b, c] : Array Value).size := by kernel_rfl
theorem Zk (B x k b off cap : Nat) (c : CV) (R : List (List Int)) (w : World) (hK : BkH B w x R) (hC : CsAt B w b off [c]) (hF : Fit [c]) (hN : R.length + 1 ≤ 4398046511104) (hB : B ≤ w.heap.size) :
  Calls Try.prog 58 #[.pointer (some ⟨x, 0, none⟩), .slice (some ⟨b, off, none⟩) 1 cap] w (TP B x (k + 1) [c] R w) := by
 have HK := kk hK
 have HC := kk hC
 have HF := kk hF
 have HN := kk hN
 have HB := kk hB
 clear hK hC hF hN hB
 go_enter Try.func58, Try.ntmps58
 refine wp_seq_k fun K1 hK1 => rgn (zO 32 qm fun r w1 hr0 R1 b1 => ?_)
 have BK1 := kk (HK.o.below b1.o)
 have C1 := kk (HC.o.below (b1.o.mono HB.o))
 refine WL.nil (hK1 _ _ (wp_seq_k fun K2 hK2 => wp_seq_k fun K3 hK3 => rgn (Vv (.slice (some ⟨b, off, none⟩) 1 cap) (h:=Vv (.int .i64 1) (h:=Vt (h:=WL.nil (hK3 _ _ (Ct (h:=wp_seq_k fun K4 hK4 => rgn (Vv (.pointer (some ⟨x, 0, none⟩)) (h:=Vv (.slice (some ⟨b, off, none⟩) 1 cap) (h:=Vv (.pointer (some ⟨b, off, none⟩)) (h:=?_)))))))))))))
 have hat : w1.rangeAt b off (#[.int .i64 c.k, .string c.s, c.v] : Array Value).toList := by have h := C1.o.at_ 0 c rfl; simpa [cvL] using h
 refine WL.midA (by kernel_rfl) 44 (.tmp 13) rfl b off rfl #[.int .i64 c.k, .string c.s, c.v] _ hat Try.underlying44 rfl (qw _ _ _) ?_
 clear hat
 simp only [Act.put, pqA, pqB, pqC]
 have hlf := ZQ B x c.k.toNat c.s c.v c.l R w1 BK1.o (C1.o.row c (by simp)).1 (fun h0 k hk => Nat.lt_of_lt_of_le ((C1.o.row c (by simp)).2 h0 k hk) (Nat.le_trans HB.o b1.o.size)) (by have := (HF.o c (by simp)).1; omega) (HF.o c (by simp)).2 HN.o (Nat.le_trans HB.o b1.o.size)
 rw [Int.toNat_of_nonneg (HF.o c (by simp)).1.1] at hlf
 refine ClS (hlf) ?_
 rintro e w8 ⟨rfl, k1, k2⟩
 refine ⟨_, rfl, ?_⟩
 have BK8 := kk k1
 have G8 := kk k2
 have R8 := kk (R1.o.bk k2 (by decide) (by decide))
 clear hlf k1 k2
 refine StR (qb 32 (qy (RtP.leafR qQ c.ce))) R8.o (qd _) (qh _ _ _) (qi _ _) ?_
 have R9 := kk (R8.o.setRow (qb 32 (qy (RtP.leafR qQ c.ce))))
 have K9 := kk (BK8.o.setRow R8.o (qb 32 (qy (RtP.leafR qQ c.ce))) (by decide) (by decide) (by decide))
 have G9 := kk (kz (r := r) (qb 32 (qy (RtP.leafR qQ c.ce))) b1.o G8.o (by rw [hr0.o]; exact Nat.le_refl _))
 generalize w8.setRow r (qb 32 (qy (RtP.leafR qQ c.ce))) = w9 at *
 refine WL.nil (hK4 _ _ (wp_ret ?_))
 refine bodyPost_ret (v := .agg (qb 32 (qy (RtP.leafR qQ c.ce)))) (results_cell_row Try.results58 _ _ r 32 _ (0, 0) _ rfl R9.o Try.underlying32 rfl (qd _)) rfl ⟨?_, ?_, G9.o⟩
 ·rw [Jg, zR, xE]
 ·rw [Je]; exact K9.o
theorem XY (B x k : Nat) (IH : ∀ (b off cap : Nat) (L : List CV) (R : List (List Int)) (w : World), 1 ≤ L.length → L.length ≤ k → BkH B w x R → CsAt B w b off L → Fit L → L.length ≤ cap → R.length + 2 * L.length ≤ 4398046511104 → B ≤ w.heap.size → Calls Try.prog 58 #[.pointer (some ⟨x, 0, none⟩), .slice (some ⟨b, off, none⟩) L.length cap] w (TP B x k L R w))
  (b off cap : Nat) (L : List CV) (R : List (List Int)) (w : World) (h1 : 2 ≤ L.length) (h2 : L.length ≤ k + 1) (hK : BkH B w x R) (hC : CsAt B w b off L) (hF : Fit L) (hc : L.length ≤ cap) (hN : R.length + 2 * L.length ≤ 4398046511104) (hB : B ≤ w.heap.size) : Calls Try.prog 58 #[.pointer (some ⟨x, 0, none⟩), .slice (some ⟨b, off, none⟩) L.length cap] w (TP B x (k + 1) L R w) := by
 obtain ⟨n, hn⟩ : ∃ z, Keep (L.length = z) := ⟨_, ⟨rfl⟩⟩
 obtain ⟨m, hm⟩ : ∃ z, Keep (RtP.half n = z) := ⟨_, ⟨rfl⟩⟩
 rw [hn.o] at h1 h2 hc hN ⊢
 have hh := RtP.half_le h1
 rw [hm.o] at hh
 have hl1 : (L.take m).length = m := by rw [List.length_take, hn.o]; omega
 have hl2 : (L.drop m).length = n - m := by rw [List.length_drop, hn.o]
 have hy1 : Keep ((qx k (L.take m)).length = 32) := ⟨xO (by omega) (by omega)⟩
 have hy2 : Keep ((qx k (L.drop m)).length = 32) := ⟨xO (by omega) (by omega)⟩
 have hq1 : Keep ((jn k (L.take m)).length + 1 = 2 * m) := ⟨by rw [jk k _ (by omega) (by omega), hl1]⟩
 have hq2 : Keep ((jn k (L.drop m)).length + 1 = 2 * (n - m)) := ⟨by rw [jk k _ (by omega) (by omega), hl2]⟩
 have HK := kk hK
 have HC := kk hC
 have HF := kk hF
 have HN := kk hN
 have HB := kk hB
 have hn1 : ((n : Int) == 1) = false := by simp; omega
 clear hK hC hF hN hB
 go_enter Try.func58, Try.ntmps58
 refine wp_seq_k fun K1 hK1 => rgn (zO 32 qm fun r w1 hr0 R1 b1 => ?_)
 have BK1 := kk (HK.o.below b1.o)
 have G1 : Keep (Grown w w1 (BkS B w)) := ⟨Grown.below b1.o⟩
 have hrw := lh hr0
 clear b1 hr0
 refine WL.nil (hK1 _ _ (wp_seq_k fun K2 hK2 => wp_seq_k fun K3 hK3 => rgn (Vv (.slice (some ⟨b, off, none⟩) n cap) (h:=Vv (.int .i64 (n : Int)) (h:=Vf (h:=WL.nil (hK3 _ _ (Cf (h:=wp_skip (hK2 _ _ (wp_seq_k fun K4 hK4 => rgn (Vv (.slice (some ⟨b, off, none⟩) n cap) (h:=Vv (.int .i64 (n : Int)) (h:=ClS (kp n w1 (by omega) (by have := HN.o; omega)) ?_))))))))))))))
 rintro e w1_ ⟨rfl, hw_⟩
 refine ⟨_, rfl, ?_⟩
 have hw_ := hw_.symm
 subst hw_
 rw [hm.o]
 refine Vv (.int .i64 (m : Int)) (h:=WL.nil (hK4 _ _ (wp_seq_k fun K5 hK5 => rgn (Vv (.pointer (some ⟨x, 0, none⟩)) (h:=Vv (.slice (some ⟨b, off, none⟩) n cap) (h:=Vv (.int .i64 (m : Int)) (h:=?_)))))))
 refine WL.slr (by kernel_rfl) 22 (.tmp 20) none (some (.tmp 21)) rfl (.slice (some ⟨b, off, none⟩) n cap) none (some (.int .i64 (m : Int))) (.slice (some ⟨b, off, none⟩) m cap) rfl rfl rfl (KD _ n cap m (by omega) _) ?_
 simp only [Act.put, pqA, pqB, pqC]
 have hS : B ≤ w1.heap.size := Nat.le_trans HB.o G1.o.size
 have hrc := IH b off cap (L.take m) (R) w1 (by rw [hl1]; omega) (by rw [hl1]; omega) BK1.o ((HC.o.take m).below (G1.o.bkBelow HB.o)) (fun c hc => HF.o c (List.mem_of_mem_take hc)) (by rw [hl1]; omega) (by rw [hl1]; have := HN.o; omega) hS
 rw [hl1] at hrc
 refine ClS (hrc) ?_
 rintro e w2 ⟨rfl, k1, k2⟩
 refine ⟨_, rfl, ?_⟩
 have BK2 := kk k1
 have G2 : Keep (Grown w w2 (BkS B w)) := ⟨BkS.next G1.o k2⟩
 have R2 := kk (R1.o.bk k2 (by decide) (by decide))
 clear hrc k1 k2 hS
 refine zO 32 qm fun p w3 hp0 P3 b3 => ?_
 have BK3 := kk (BK2.o.below b3.o)
 have G3 : Keep (Grown w w3 (BkS B w)) := ⟨G2.o.belowS b3.o⟩
 have hpw : Keep (w.heap.size ≤ p) := ⟨by rw [hp0.o]; exact G2.o.size⟩
 have R3 := kbx R2 b3.o
 have eR3p : Keep (r ≠ p) := ⟨by have := R2.o.lt; have := hp0.o; omega⟩
 clear b3 hp0
 refine StR (qb 32 (hof (qx k (L.take m)))) P3.o (qd _) (qh _ _ _) (qi _ _) ?_
 have P4 := kk (P3.o.setRow (qb 32 (hof (qx k (L.take m)))))
 have BK4 := kk (BK3.o.setRow P3.o (qb 32 (hof (qx k (L.take m)))) (by decide) (by decide) (by decide))
 have G4 : Keep (Grown w (w3.setRow p (qb 32 (hof (qx k (L.take m))))) (BkS B w)) := ⟨G3.o.next (Grown.setRow w3 p _ (S := fun k => k = p) fun _ => rfl) fun k hk e => by have := hpw.o; omega⟩
 have R4 := kk (R3.o.setRow_ne eR3p.o (qb 32 (hof (qx k (L.take m)))))
 generalize w3.setRow p (qb 32 (hof (qx k (L.take m)))) = w4 at *
 refine WL.nil (hK5 _ _ (wp_seq_k fun K6 hK6 => rgn (Vv (.pointer (some ⟨x, 0, none⟩)) (h:=Vv (.slice (some ⟨b, off, none⟩) n cap) (h:=Vv (.int .i64 (m : Int)) (h:=?_))))))
 refine WL.slr (by kernel_rfl) 22 (.tmp 25) (some (.tmp 26)) none rfl (.slice (some ⟨b, off, none⟩) n cap) (some (.int .i64 (m : Int))) none (.slice (some ⟨b, off + m * 3, none⟩) (n - m) (cap - m)) rfl rfl rfl (Zs b off n cap m (by omega) (by omega) _) ?_
 simp only [Act.put, pqA, pqB, pqC]
 have hS : B ≤ w4.heap.size := Nat.le_trans HB.o G4.o.size
 have hrc := IH b (off + m * 3) (cap - m) (L.drop m) (R ++ jn k (L.take m)) w4 (by rw [hl2]; omega) (by rw [hl2]; omega) BK4.o ((HC.o.drop m).below (G4.o.bkBelow HB.o)) (fun c hc => HF.o c (List.mem_of_mem_drop hc)) (by rw [hl2]; omega) (by rw [hl2]; have := HN.o; have := hq1.o; rw [List.length_append]; omega) hS
 rw [hl2] at hrc
 refine ClS (hrc) ?_
 rintro e w5 ⟨rfl, k1, k2⟩
 refine ⟨_, rfl, ?_⟩
 have BK5 := kk k1
 have G5 : Keep (Grown w w5 (BkS B w)) := ⟨BkS.next G4.o k2⟩
 have R5 := kk (R4.o.bk k2 (by decide) (by decide))
 have P5 := kk (P4.o.bk k2 (by decide) (by decide))
 clear hrc k1 k2 hS
 refine zO 32 qm fun q w6 hq0 Q6 b6 => ?_
 have BK6 := kk (BK5.o.below b6.o)
 have G6 : Keep (Grown w w6 (BkS B w)) := ⟨G5.o.belowS b6.o⟩
 have hqw : Keep (w.heap.size ≤ q) := ⟨by rw [hq0.o]; exact G5.o.size⟩
 have R6 := kbx R5 b6.o
 have eR6q : Keep (r ≠ q) := ⟨by have := R5.o.lt; have := hq0.o; omega⟩
 have P6 := kbx P5 b6.o
 have eP6q : Keep (p ≠ q) := ⟨by have := P5.o.lt; have := hq0.o; omega⟩
 clear b6 hq0
 refine StR (qb 32 (hof (qx k (L.drop m)))) Q6.o (qd _) (qh _ _ _) (qi _ _) ?_
 have Q7 := kk (Q6.o.setRow (qb 32 (hof (qx k (L.drop m)))))
 have BK7 := kk (BK6.o.setRow Q6.o (qb 32 (hof (qx k (L.drop m)))) (by decide) (by decide) (by decide))
 have G7 : Keep (Grown w (w6.setRow q (qb 32 (hof (qx k (L.drop m))))) (BkS B w)) := ⟨G6.o.next (Grown.setRow w6 q _ (S := fun k => k = q) fun _ => rfl) fun k hk e => by have := hqw.o; omega⟩
 have R7 := kk (R6.o.setRow_ne eR6q.o (qb 32 (hof (qx k (L.drop m)))))
 have P7 := kk (P6.o.setRow_ne eP6q.o (qb 32 (hof (qx k (L.drop m)))))
 generalize w6.setRow q (qb 32 (hof (qx k (L.drop m)))) = w7 at *
 refine WL.nil (hK6 _ _ (wp_seq_k fun K7 hK7 => rgn (Vv (.pointer (some ⟨x, 0, none⟩)) (h:=Vr P7.o (qd _) (h:=Vr Q7.o (qd _) (h:=?_))))))
 have hin := YE B x (hof (qx k (L.take m))) (hof (qx k (L.drop m))) (R ++ jn k (L.take m) ++ jn k (L.drop m)) w7 BK7.o (by have := HN.o; have := hq1.o; have := hq2.o; rw [List.length_append, List.length_append]; omega) (Nat.le_trans HB.o G7.o.size)
 refine ClS (hin) ?_
 rintro e w8 ⟨rfl, k1, k2⟩
 refine ⟨_, rfl, ?_⟩
 have BK8 := kk k1
 have G8 : Keep (Grown w w8 (BkS B w)) := ⟨BkS.next G7.o k2⟩
 have R8 := kk (R7.o.bk k2 (by decide) (by decide))
 clear hin k1 k2
 refine WL.storeR (by kernel_rfl) 32 (.tmp 4) (.tmp 32) rfl r (qb 32 (qy (RtP.innR (hl 32 (hof (qx k (L.take m)))) (hl 32 (hof (qx k (L.drop m))))))) rfl rfl 32 (qb 32 fun _ => 0) R8.o (qd _) (qh _ _ _) (qi _ _) ?_
 have R9 := kk (R8.o.setRow (qb 32 (qy (RtP.innR (hl 32 (hof (qx k (L.take m)))) (hl 32 (hof (qx k (L.drop m))))))))
 have BK9 := kk (BK8.o.setRow R8.o (qb 32 (qy (RtP.innR (hl 32 (hof (qx k (L.take m)))) (hl 32 (hof (qx k (L.drop m))))))) (by decide) (by decide) (by decide))
 have G9 : Keep (Grown w (w8.setRow r (qb 32 (qy (RtP.innR (hl 32 (hof (qx k (L.take m)))) (hl 32 (hof (qx k (L.drop m)))))))) (BkS B w)) := ⟨G8.o.next (Grown.setRow w8 r _ (S := fun k => k = r) fun _ => rfl) fun k hk e => by have := hrw.o; omega⟩
 
 generalize w8.setRow r (qb 32 (qy (RtP.innR (hl 32 (hof (qx k (L.take m)))) (hl 32 (hof (qx k (L.drop m))))))) = w9 at *
 simp only [Act.put]
 refine WL.nil (hK7 _ _ (wp_ret ?_))
 refine bodyPost_ret (v := .agg (qb 32 (qy (RtP.innR (hl 32 (hof (qx k (L.take m)))) (hl 32 (hof (qx k (L.drop m)))))))) (results_cell_row Try.results58 _ _ r 32 _ (0, 0) _ rfl R9.o Try.underlying32 rfl (qd _)) rfl ⟨?_, ?_, G9.o⟩
 ·rw [Jf (by rw [hn.o]; omega), hn.o, hm.o, zR, xE, jO hy1.o, jO hy2.o]
 ·have h := BK9.o
  rw [jO hy1.o, jO hy2.o] at h
  rw [Jd (by rw [hn.o]; omega), hn.o, hm.o]
  simpa using h
theorem yu (B x : Nat) : ∀ (k b off cap : Nat) (L : List CV) (R : List (List Int)) (w : World), 1 ≤ L.length → L.length ≤ k → BkH B w x R → CsAt B w b off L → Fit L → L.length ≤ cap → R.length + 2 * L.length ≤ 4398046511104 → B ≤ w.heap.size → Calls Try.prog 58 #[.pointer (some ⟨x, 0, none⟩), .slice (some ⟨b, off, none⟩) L.length cap] w (TP B x k L R w)
 | 0, b, off, cap, L, R, w, h1, h2, _, _, _, _, _, _ => by omega
 | k + 1, b, off, cap, L, R, w, h1, h2, hK, hC, hF, hc, hN, hB => by
  by_cases h : 2 ≤ L.length
  ·exact XY B x k (yu B x k) b off cap L R w h h2 hK hC hF hc hN hB
  ·obtain ⟨c, rfl⟩ : ∃ c, L = [c] := List.length_eq_one_iff.1 (by omega)
   exact Zk B x k b off cap c R w hK hC hF (by simp at hN; omega) hB
def CsV (B : Nat) (w : World) (v : Value) (L : List CV) : Prop :=
 (∃ a c, v = .slice a 0 c ∧ L = []) ∨ ∃ b off cap, v = .slice (some ⟨b, off, none⟩) L.length cap ∧ L.length ≤ cap ∧ CsAt B w b off L
theorem CsV.below {B : Nat} {w w' : World} {v : Value} {L : List CV} (h : CsV B w v L) (hb : Below B w w') : CsV B w' v L := by
 rcases h with h | ⟨b, off, cap, h1, h2, h3⟩
 ·exact .inl h
 ·exact .inr ⟨b, off, cap, h1, h2, h3.below hb⟩
def xo (L : List CV) : List Int := RtP.rootR zR qQ le8 (L.map CV.ce)
def ZC (L : List CV) : List (List Int) := RtP.rootRs zR qQ le8 (L.map CV.ce)
theorem xz (L : List CV) : xo L = RtP.topR le8 L.length (qx L.length L) := by simp [xo, RtP.rootR, qx]
theorem KK (L : List CV) : ZC L = jn L.length L ++ [xo L] := by simp [ZC, xo, RtP.rootRs, jn]
def RP (B x : Nat) (L : List CV) (R : List (List Int)) (w : World) (e : Ending) (w' : World) : Prop :=
 e = .returned (.agg (qb 32 (qy (xo L)))) ∧ BkH B w' x (R ++ ZC L) ∧ Grown w w' (BkS B w)
theorem Dm : Try.prog.built 32 [] = some (qb 32 fun _ => 0) := by kernel_rfl
theorem Jm (B x cap : Nat) (la : Option Addr) (R : List (List Int)) (w : World) (hK : BkH B w x R) (hN : R.length + 1 ≤ 4398046511104) (hB : B ≤ w.heap.size) :
  Calls Try.prog 40 #[.pointer (some ⟨x, 0, none⟩), .slice la 0 cap] w (RP B x [] R w) := by
 have HK := kk hK
 have HN := kk hN
 have HB := kk hB
 clear hK hN hB
 go_enter Try.func40, Try.ntmps40
 refine wp_seq_k fun K1 hK1 => rgn (zO 32 qm fun r w1 hr0 R1 b1 => ?_)
 have BK1 := kk (HK.o.below b1.o)
 have G1 : Keep (Grown w w1 (BkS B w)) := ⟨Grown.below b1.o⟩
 have hrw := lh hr0
 clear b1 hr0
 refine WL.nil (hK1 _ _ (wp_seq_k fun K2 hK2 => wp_seq_k fun K3 hK3 => rgn (Vv (.slice la 0 cap) (h:=Vv (.int .i64 0) (h:=Vt (h:=WL.nil (hK3 _ _ (Ct (h:=wp_seq_k fun K4 hK4 => rgn (Vv (.pointer (some ⟨x, 0, none⟩)) (h:=?_)))))))))))
 refine WL.bld (by kernel_rfl) 32 _ rfl [] (by simp [Act.eval]) _ Dm ?_
 simp only [Act.put, pqA, pqB, pqC]
 have htp := Xt B x 0 (fun _ => 0) R w1 BK1.o (by omega) (by have := HN.o; omega) (Nat.le_trans HB.o G1.o.size)
 refine ClS (htp) ?_
 rintro e w8 ⟨rfl, k1, k2⟩
 refine ⟨_, rfl, ?_⟩
 have BK8 := kk k1
 have G8 : Keep (Grown w w8 (BkS B w)) := ⟨BkS.next G1.o k2⟩
 have R8 := kk (R1.o.bk k2 (by decide) (by decide))
 clear htp k1 k2
 refine WL.storeR (by kernel_rfl) 32 (.tmp 4) (.tmp 11) rfl r (qb 32 (qy (RtP.topR le8 0 (hl 32 fun _ => 0)))) rfl rfl 32 (qb 32 fun _ => 0) R8.o (qd _) (qh _ _ _) (qi _ _) ?_
 have R9 := kk (R8.o.setRow (qb 32 (qy (RtP.topR le8 0 (hl 32 fun _ => 0)))))
 have BK9 := kk (BK8.o.setRow R8.o (qb 32 (qy (RtP.topR le8 0 (hl 32 fun _ => 0)))) (by decide) (by decide) (by decide))
 have G9 : Keep (Grown w (w8.setRow r (qb 32 (qy (RtP.topR le8 0 (hl 32 fun _ => 0))))) (BkS B w)) := ⟨G8.o.next (Grown.setRow w8 r _ (S := fun k => k = r) fun _ => rfl) fun k hk e => by have := hrw.o; omega⟩
 
 generalize w8.setRow r (qb 32 (qy (RtP.topR le8 0 (hl 32 fun _ => 0)))) = w9 at *
 simp only [Act.put]
 refine WL.nil (hK4 _ _ (wp_ret ?_))
 refine bodyPost_ret (v := .agg (qb 32 (qy (RtP.topR le8 0 (hl 32 fun _ => 0))))) (results_cell_row Try.results40 _ _ r 32 _ (0, 0) _ rfl R9.o Try.underlying32 rfl (qd _)) rfl ⟨?_, ?_, G9.o⟩
 ·rw [xz]; rfl
 ·rw [KK, xz]; exact BK9.o
theorem Ym (B x b off cap : Nat) (L : List CV) (R : List (List Int)) (w : World) (h1 : 1 ≤ L.length) (hK : BkH B w x R) (hC : CsAt B w b off L) (hF : Fit L) (hc : L.length ≤ cap) (hN : R.length + 2 * L.length ≤ 4398046511104) (hB : B ≤ w.heap.size) :
  Calls Try.prog 40 #[.pointer (some ⟨x, 0, none⟩), .slice (some ⟨b, off, none⟩) L.length cap] w (RP B x L R w) := by
 obtain ⟨n, hn⟩ : ∃ z, Keep (L.length = z) := ⟨_, ⟨rfl⟩⟩
 have hy : Keep ((qx n L).length = 32) := ⟨xO h1 (by rw [hn.o]; exact Nat.le_refl _)⟩
 have hq : Keep ((jn n L).length + 1 = 2 * n) := ⟨by rw [jk n L h1 (by rw [hn.o]; exact Nat.le_refl _), hn.o]⟩
 rw [hn.o] at h1 hc hN ⊢
 have HK := kk hK
 have HC := kk hC
 have HF := kk hF
 have HN := kk hN
 have HB := kk hB
 have Hc := kk hc
 have hn1 : ((n : Int) == 0) = false := by simp; omega
 clear hK hC hF hN hB hc
 go_enter Try.func40, Try.ntmps40
 refine wp_seq_k fun K1 hK1 => rgn (zO 32 qm fun r w1 hr0 R1 b1 => ?_)
 have BK1 := kk (HK.o.below b1.o)
 have G1 : Keep (Grown w w1 (BkS B w)) := ⟨Grown.below b1.o⟩
 have hrw := lh hr0
 clear b1 hr0
 refine WL.nil (hK1 _ _ (wp_seq_k fun K2 hK2 => wp_seq_k fun K3 hK3 => rgn (Vv (.slice (some ⟨b, off, none⟩) n cap) (h:=Vv (.int .i64 (n : Int)) (h:=Vf (h:=WL.nil (hK3 _ _ (Cf (h:=wp_skip (hK2 _ _ (wp_seq_k fun K4 hK4 => rgn (Vv (.pointer (some ⟨x, 0, none⟩)) (h:=Vv (.slice (some ⟨b, off, none⟩) n cap) (h:=?_))))))))))))))
 have hrc := yu B x n b off cap L R w1 (by rw [hn.o]; exact h1) (by rw [hn.o]; exact Nat.le_refl _) BK1.o (HC.o.below (G1.o.bkBelow HB.o)) HF.o (by rw [hn.o]; exact Hc.o) (by rw [hn.o]; have := HN.o; omega) (Nat.le_trans HB.o G1.o.size)
 rw [hn.o] at hrc
 refine ClS (hrc) ?_
 rintro e w2 ⟨rfl, k1, k2⟩
 refine ⟨_, rfl, ?_⟩
 have BK2 := kk k1
 have G2 : Keep (Grown w w2 (BkS B w)) := ⟨BkS.next G1.o k2⟩
 have R2 := kk (R1.o.bk k2 (by decide) (by decide))
 clear hrc k1 k2
 refine zO 32 qm fun p w3 hp0 P3 b3 => ?_
 have BK3 := kk (BK2.o.below b3.o)
 have G3 : Keep (Grown w w3 (BkS B w)) := ⟨G2.o.belowS b3.o⟩
 have hpw : Keep (w.heap.size ≤ p) := ⟨by rw [hp0.o]; exact G2.o.size⟩
 have R3 := kbx R2 b3.o
 have eR3p : Keep (r ≠ p) := ⟨by have := R2.o.lt; have := hp0.o; omega⟩
 clear b3 hp0
 refine StR (qb 32 (hof (qx n L))) P3.o (qd _) (qh _ _ _) (qi _ _) ?_
 have P4 := kk (P3.o.setRow (qb 32 (hof (qx n L))))
 have BK4 := kk (BK3.o.setRow P3.o (qb 32 (hof (qx n L))) (by decide) (by decide) (by decide))
 have G4 : Keep (Grown w (w3.setRow p (qb 32 (hof (qx n L)))) (BkS B w)) := ⟨G3.o.next (Grown.setRow w3 p _ (S := fun k => k = p) fun _ => rfl) fun k hk e => by have := hpw.o; omega⟩
 have R4 := kk (R3.o.setRow_ne eR3p.o (qb 32 (hof (qx n L))))
 generalize w3.setRow p (qb 32 (hof (qx n L))) = w4 at *
 refine WL.nil (hK4 _ _ (wp_seq_k fun K5 hK5 => rgn (Vv (.pointer (some ⟨x, 0, none⟩)) (h:=Vv (.slice (some ⟨b, off, none⟩) n cap) (h:=Vv (.int .i64 (n : Int)) (h:=Vr P4.o (qd _) (h:=?_)))))))
 have htp := Xt B x n (hof (qx n L)) (R ++ jn n L) w4 BK4.o (by have := HN.o; omega) (by have := HN.o; have := hq.o; rw [List.length_append]; omega) (Nat.le_trans HB.o G4.o.size)
 refine ClS (htp) ?_
 rintro e w8 ⟨rfl, k1, k2⟩
 refine ⟨_, rfl, ?_⟩
 have BK8 := kk k1
 have G8 : Keep (Grown w w8 (BkS B w)) := ⟨BkS.next G4.o k2⟩
 have R8 := kk (R4.o.bk k2 (by decide) (by decide))
 clear htp k1 k2
 refine WL.storeR (by kernel_rfl) 32 (.tmp 4) (.tmp 19) rfl r (qb 32 (qy (RtP.topR le8 n (hl 32 (hof (qx n L)))))) rfl rfl 32 (qb 32 fun _ => 0) R8.o (qd _) (qh _ _ _) (qi _ _) ?_
 have R9 := kk (R8.o.setRow (qb 32 (qy (RtP.topR le8 n (hl 32 (hof (qx n L)))))))
 have BK9 := kk (BK8.o.setRow R8.o (qb 32 (qy (RtP.topR le8 n (hl 32 (hof (qx n L)))))) (by decide) (by decide) (by decide))
 have G9 : Keep (Grown w (w8.setRow r (qb 32 (qy (RtP.topR le8 n (hl 32 (hof (qx n L))))))) (BkS B w)) := ⟨G8.o.next (Grown.setRow w8 r _ (S := fun k => k = r) fun _ => rfl) fun k hk e => by have := hrw.o; omega⟩
 
 generalize w8.setRow r (qb 32 (qy (RtP.topR le8 n (hl 32 (hof (qx n L)))))) = w9 at *
 simp only [Act.put]
 refine WL.nil (hK5 _ _ (wp_ret ?_))
 refine bodyPost_ret (v := .agg (qb 32 (qy (RtP.topR le8 n (hl 32 (hof (qx n L))))))) (results_cell_row Try.results40 _ _ r 32 _ (0, 0) _ rfl R9.o Try.underlying32 rfl (qd _)) rfl ⟨?_, ?_, G9.o⟩
 ·rw [xz, hn.o, jO hy.o]
 ·have h := BK9.o
  rw [jO hy.o] at h
  rw [KK, xz, hn.o]
  simpa using h
theorem ZB (B x : Nat) (v : Value) (L : List CV) (R : List (List Int)) (w : World) (hK : BkH B w x R) (hC : CsV B w v L) (hF : Fit L) (hN : R.length + 2 * L.length + 1 ≤ 4398046511104) (hB : B ≤ w.heap.size) :
  Calls Try.prog 40 #[.pointer (some ⟨x, 0, none⟩), v] w (RP B x L R w) := by
 rcases hC with ⟨a, c, rfl, rfl⟩ | ⟨b, off, cap, rfl, h2, h3⟩
 ·exact Jm B x c a R w hK (by simp at hN; omega) hB
 ·by_cases h1 : 1 ≤ L.length
  ·exact Ym B x b off cap L R w h1 hK h3 hF h2 (by omega) hB
  ·have e : L = [] := List.eq_nil_of_length_eq_zero (by omega)
   subst e
   exact Jm B x cap _ R w hK (by simp at hN; omega) hB
theorem DW (w : World) (vs : Array Value) : (callFunc 30 vs).run Try.prog w = .ok (.enter 30 vs) w := by kernel_rfl
theorem xL (w : World) (vs : Array Value) : (callFunc 32 vs).run Try.prog w = .ok (.enter 32 vs) w := by kernel_rfl
def okK (L : List CV) : Bool := L.all fun c => zi c.k
def okO : List CV → Bool
 | c :: d :: r => zC c.k c.s d.k d.s && okO (d :: r)
 | _ => true
def qt (L : List CV) : Int := if okK L then (if okO L then 0 else 130) else 40
theorem ZL {L : List CV} {t : Nat} {c : CV} (h : L[t]? = some c) (hc : zi c.k = false) : okK L = false := by
 rw [okK, List.all_eq_false]
 exact ⟨c, List.mem_of_getElem? h, by simp [hc]⟩
theorem vG {L : List CV} (h : ∀ (i : Nat) (c : CV), i < L.length → L[i]? = some c → zi c.k = true) : okK L = true := by
 rw [okK, List.all_eq_true]
 intro c hc
 obtain ⟨i, hi⟩ := List.getElem?_of_mem hc
 exact h i c (List.getElem?_eq_some_iff.1 hi).1 hi
theorem kf : ∀ {L : List CV} {t : Nat} {c d : CV}, L[t]? = some c → L[t + 1]? = some d → zC c.k c.s d.k d.s = false → okO L = false
 | [], t, c, d, h, _, _ => by simp at h
 | [a], t, c, d, _, h, _ => by simp at h
 | a :: b :: r, 0, c, d, h1, h2, h => by
  simp at h1 h2
  subst h1 h2
  simp [okO, h]
 | a :: b :: r, t + 1, c, d, h1, h2, h => by
  have := kf (L := b :: r) (t := t) (by simpa using h1) (by simpa using h2) h
  simp [okO, this]
theorem Kf : ∀ {L : List CV}, (∀ (i : Nat) (c d : CV), L[i]? = some c → L[i + 1]? = some d → zC c.k c.s d.k d.s = true) → okO L = true
 | [], _ => rfl
 | [a], _ => rfl
 | a :: b :: r, h => by
  have h0 := h 0 a b rfl rfl
  have := Kf (L := b :: r) fun i c d hc hd => h (i + 1) c d (by simpa using hc) (by simpa using hd)
  simp [okO, h0, this]
theorem CsAt.c {B : Nat} {w : World} {b off t : Nat} {L : List CV} {c : CV} (h : CsAt B w b off L) (hc : L[t]? = some c) : w.cell? ⟨b, off + t * 3, none⟩ = some (.int .i64 c.k) ∧ w.cell? ⟨b, off + t * 3 + 1, none⟩ = some (.string c.s) ∧ w.cell? ⟨b, off + t * 3 + 2, none⟩ = some c.v :=
 ⟨h.at_ t c hc 0 _ rfl, h.at_ t c hc 1 _ rfl, h.at_ t c hc 2 _ rfl⟩
theorem jQ (B : Nat) (v : Value) (L : List CV) (w : World) (hC : CsV B w v L) (hB : B ≤ w.heap.size) (hN : L.length ≤ 4398046511104) :
  Calls Try.prog 30 #[v] w fun e w' => e = .returned (.int .i64 (qt L)) ∧ Below w.heap.size w w' := by
 obtain ⟨n, hn⟩ : ∃ z, Keep (L.length = z) := ⟨_, ⟨rfl⟩⟩
 obtain ⟨la, cap, rfl, hC'⟩ : ∃ la cap, v = .slice la n cap ∧ (0 < n → ∃ b off, la = some ⟨b, off, none⟩ ∧ CsAt B w b off L) := by
  rcases hC with ⟨a, c, rfl, rfl⟩ | ⟨b, off, cap, rfl, h2, h3⟩
  ·exact ⟨a, c, by rw [← hn.o]; rfl, fun h => by have := hn.o; simp at this; omega⟩
  ·exact ⟨_, cap, by rw [hn.o], fun _ => ⟨b, off, rfl, h3⟩⟩
 have HC := kk hC'
 have HB := kk hB
 have HN : Keep (n ≤ 4398046511104) := ⟨by rw [← hn.o]; exact hN⟩
 clear hC hC' hB hN
 go_enter Try.func30, Try.ntmps30
 refine wp_seq_k fun K1 hK1 => rgn (Vv (.int .i64 0) (h:=WL.nil (hK1 _ _ (wp_seq_k fun K2 hK2 => wp_seq_k fun K3 hK3 => rgn (Vv (.int .i64 0) (h:=WL.nil (hK3 _ _ (wp_block (?_)))))))))
 refine wp_loop (fun ac wr => ∃ (t : Nat), ac = apF (fun f => { tmps := #[.slice la n cap, undef, f 2, .int .i64 (t : Int), f 4, undef, undef, f 7, f 8, f 9, f 10, f 11, f 12, f 13, f 14, f 15, f 16, f 17, f 18, f 19, f 20, undef, undef, undef, undef, undef, undef, undef, undef, undef, undef, undef, undef, undef, undef, undef, undef, undef, undef, undef, undef, undef, undef, undef, undef, undef, undef, undef, undef, undef, undef, undef], defers := [] }) ac ∧ t ≤ n ∧ wr = w ∧ (∀ (i : Nat) (c : CV), i < t → L[i]? = some c → zi c.k = true)) (fun a _ => n - (intOf (a.tmps.getD 3 undef)).toNat) ⟨0, rfl, by omega, rfl, fun i c hi _ => by omega⟩ ?_
 rintro ac wr ⟨t, hac, ht, hw, hI⟩
 obtain ⟨f, rfl⟩ := unF hac
 have hw := hw.symm
 subst hw
 have HI := kk hI
 clear hI
 by_cases htl : t < n
 ·have htl' : (t : Int) < (n : Int) := by omega
  obtain ⟨b, off, hla, hcx⟩ := HC.o (by omega)
  subst hla
  have HX := kk hcx
  clear hcx
  obtain ⟨c, Hc⟩ : ∃ z, Keep (L[t]? = some z) := ⟨L[t]'(by rw [hn.o]; exact htl), ⟨List.getElem?_eq_getElem _⟩⟩
  have c0 := (HX.o.c Hc.o).1
  refine wp_seq_k fun K4 hK4 => wp_seq_k fun K5 hK5 => rgn (Vv (.int .i64 (t : Int)) (h:=Vv (.slice (some ⟨b, off, none⟩) n cap) (h:=Vv (.int .i64 (n : Int)) (h:=Vt (h:=WL.nil (hK5 _ _ (Ct (h:=wp_skip (hK4 _ _ (wp_seq_k fun K6 hK6 => wp_block (wp_seq_k fun K7 hK7 => rgn (Vv (.slice (some ⟨b, off, none⟩) n cap) (h:=Vv (.int .i64 (t : Int)) (h:=?_))))))))))))))
  refine Vv (.pointer (some ⟨b, off + t * 3, none⟩)) (h:=Vv (.pointer (some ⟨b, off + t * 3, none⟩)) (h:=Vv (.int .i64 c.k) (h:=?_)))
  clear c0
  refine ClS (vs := #[.int .i64 c.k]) (xD c.k _) ?_
  rintro e w1_ ⟨rfl, hw_⟩
  refine ⟨_, rfl, ?_⟩
  have hw_ := hw_.symm
  subst hw_
  refine Vv (.bool (zi c.k)) (h:=WL.nil (hK7 _ _ (wp_seq_k fun K8 hK8 => rgn (Vv (.bool (zi c.k)) (h:=Vv (.bool (!zi c.k)) (h:=WL.nil (hK8 _ _ (?_))))))))
  cases hkm : zi c.k
  ·simp only [Bool.not_false]
   refine Ct (h:=wp_seq_k fun K9 hK9 => rgn (Vv (.int .i64 40) (h:=WL.nil (hK9 _ _ (wp_ret ?_)))))
   go_ret
   exact ⟨by rw [qt, ZL Hc.o hkm]; rfl, Below.refl _ _⟩
  ·simp only [Bool.not_true]
   have hw3 : IntKind.i64.wrap ((t : Int) + 1) = ((t + 1 : Nat) : Int) := by rw [IntKind.wrap_i64]; have := HN.o; omega
   refine Cf (h:=wp_skip (hK6 _ _ (rgn (Vv (.int .i64 (t : Int)) (h:=Vv (.int .i64 ((t + 1 : Nat) : Int)) (h:=Vv (.int .i64 ((t + 1 : Nat) : Int)) (h:=?_)))))))
   refine WL.nil ?_
   refine ⟨⟨t + 1, rfl, by omega, rfl, fun i d hi hd => ?_⟩, ?_⟩
   ·by_cases e : i = t
    ·subst e; rw [Hc.o] at hd; injection hd with hd; subst hd; exact hkm
    ·exact HI.o i d (by omega) hd
   ·simp only [intOf]; show n - (((t + 1 : Nat) : Int)).toNat < n - ((t : Int)).toNat; omega
 ·have htl' : ¬ (t : Int) < (n : Int) := by omega
  have HKy : Keep (∀ (i : Nat) (c : CV), i < L.length → L[i]? = some c → zi c.k = true) := ⟨fun i c hi hc => HI.o i c (by rw [hn.o] at hi; omega) hc⟩
  refine wp_seq_k fun K10 hK10 => wp_seq_k fun K11 hK11 => rgn (Vv (.int .i64 (t : Int)) (h:=Vv (.slice la n cap) (h:=Vv (.int .i64 (n : Int)) (h:=Vf (h:=WL.nil (hK11 _ _ (Cf (h:=wp_exit (hK2 _ _ (wp_seq_k fun K12 hK12 => wp_seq_k fun K13 hK13 => rgn (Vv (.int .i64 1) (h:=WL.nil (hK13 _ _ (wp_block (?_)))))))))))))))
  refine wp_loop (fun ac wq => ∃ (u : Nat), ac = apF (fun g => { tmps := #[.slice la n cap, undef, g 2, .int .i64 (t : Int), f 4, .int .i64 ((u + 1 : Nat) : Int), g 6, .int .i64 (t : Int), .slice la n cap, .int .i64 (n : Int), .bool false, f 11, f 12, f 13, f 14, f 15, f 16, f 17, f 18, f 19, f 20, g 21, g 22, g 23, g 24, g 25, g 26, g 27, g 28, g 29, g 30, g 31, g 32, g 33, g 34, g 35, g 36, g 37, g 38, g 39, g 40, g 41, g 42, g 43, g 44, g 45, g 46, g 47, g 48, g 49, g 50, g 51], defers := [] }) ac ∧ u ≤ n ∧ Below w.heap.size w wq ∧ (∀ (i : Nat) (c d : CV), i < u → L[i]? = some c → L[i + 1]? = some d → zC c.k c.s d.k d.s = true)) (fun a _ => n + 1 - (intOf (a.tmps.getD 5 undef)).toNat) ⟨0, rfl, by omega, Below.refl _ _, fun i c d hi _ _ => by omega⟩ ?_
  rintro ac wq ⟨u, hac, hu, hb, hJ⟩
  obtain ⟨g, rfl⟩ := unF hac
  have BB := kk hb
  have HJ := kk hJ
  clear hb hJ
  by_cases hul : u + 1 < n
  ·have hul' : ((u + 1 : Nat) : Int) < (n : Int) := by omega
   have hw4 : IntKind.i64.wrap (((u + 1 : Nat) : Int) - 1) = (u : Int) := by rw [IntKind.wrap_i64]; have := HN.o; omega
   have hul2 : (u : Int) < (n : Int) := by omega
   have hul3 : (u : Int) + 1 < (n : Int) := by omega
   have hul4 : ¬ (u : Int) + 1 < 0 := by omega
   have hw8 : IntKind.i64.wrap (u : Int) = (u : Int) := by rw [IntKind.wrap_i64]; have := HN.o; omega
   have hw6 : IntKind.i64.wrap ((u : Int) + 1 - 1) = (u : Int) := by rw [IntKind.wrap_i64]; have := HN.o; omega
   obtain ⟨b, off, hla, hcx⟩ := HC.o (by omega)
   subst hla
   have HX0 := kk hcx
   clear hcx
   obtain ⟨c, Hc⟩ : ∃ z, Keep (L[u]? = some z) := ⟨L[u]'(by rw [hn.o]; omega), ⟨List.getElem?_eq_getElem _⟩⟩
   obtain ⟨d, Hd⟩ : ∃ z, Keep (L[u + 1]? = some z) := ⟨L[u + 1]'(by rw [hn.o]; omega), ⟨List.getElem?_eq_getElem _⟩⟩
   refine wp_seq_k fun K14 hK14 => wp_seq_k fun K15 hK15 => rgn (Vv (.int .i64 ((u + 1 : Nat) : Int)) (h:=Vv (.slice (some ⟨b, off, none⟩) n cap) (h:=Vv (.int .i64 (n : Int)) (h:=Vt (h:=WL.nil (hK15 _ _ (Ct (h:=wp_skip (hK14 _ _ (wp_seq_k fun K16 hK16 => wp_block (wp_seq_k fun K17 hK17 => ?_)))))))))))
   have hS0 : Keep (∀ wx, Below B w wx → (fun wx => Below B w wx ∧ wx.cell? ⟨b, off + u * 3, none⟩ = some (.int .i64 c.k) ∧ wx.cell? ⟨b, off + u * 3 + 1, none⟩ = some (.string c.s) ∧ wx.cell? ⟨b, off + (u + 1) * 3, none⟩ = some (.int .i64 d.k) ∧ wx.cell? ⟨b, off + (u + 1) * 3 + 1, none⟩ = some (.string d.s)) wx) := ⟨fun wx hb => by
    have hx := HX0.o.below hb
    exact ⟨hb, (hx.c Hc.o).1, (hx.c Hc.o).2.1, (hx.c Hd.o).1, (hx.c Hd.o).2.1⟩⟩
   have BE : Keep (Below w.heap.size w wq.drew) := ⟨BB.o.drew⟩
   refine wp_region_held_drew (S := fun wx => Below B w wx ∧ wx.cell? ⟨b, off + u * 3, none⟩ = some (.int .i64 c.k) ∧ wx.cell? ⟨b, off + u * 3 + 1, none⟩ = some (.string c.s) ∧ wx.cell? ⟨b, off + (u + 1) * 3, none⟩ = some (.int .i64 d.k) ∧ wx.cell? ⟨b, off + (u + 1) * 3 + 1, none⟩ = some (.string d.s)) (by kernel_rfl) (hS0.o _ (BE.o.mono HB.o)) (fun hHeld => ?_)
   refine uS 0 ⟨some 27, .move (.tmp 0), 22, _, _, none⟩ (.slice (some ⟨b, off, none⟩) n cap) rfl (yi (by rintro w ⟨hS0_, hS1, hS2, hS3, hS4⟩; clear hS0_; go_simp)) hHeld ?_
   refine uS 1 ⟨some 28, .move (.tmp 5), 3, _, _, none⟩ (.int .i64 ((u + 1 : Nat) : Int)) rfl (yi (by rintro w ⟨hS0_, hS1, hS2, hS3, hS4⟩; clear hS0_; go_simp)) hHeld ?_
   refine uS 2 ⟨some 29, .binOp BinOp.sub 3 (.tmp 28) (.const (Value.int IntKind.i64 1)) 3, 3, _, _, none⟩ (.int .i64 (u : Int)) rfl (yi (by rintro w ⟨hS0_, hS1, hS2, hS3, hS4⟩; clear hS0_; go_simp)) hHeld ?_
   refine uS 3 ⟨some 30, .indexAddr 22 (.tmp 27) (.tmp 29), 0, _, _, none⟩ (.pointer (some ⟨b, off + u * 3, none⟩)) rfl (yi (by rintro w ⟨hS0_, hS1, hS2, hS3, hS4⟩; clear hS0_; go_simp)) hHeld ?_
   refine uS 4 ⟨some 31, .fieldAddr 44 (.tmp 30) 0, 0, _, _, none⟩ (.pointer (some ⟨b, off + u * 3, none⟩)) rfl (yi (by rintro w ⟨hS0_, hS1, hS2, hS3, hS4⟩; clear hS0_; go_simp)) hHeld ?_
   refine uS 5 ⟨some 32, .load 3 (.tmp 31), 3, _, _, none⟩ (.int .i64 c.k) rfl (yi (by rintro w ⟨hS0_, hS1, hS2, hS3, hS4⟩; clear hS0_; go_simp)) hHeld ?_
   refine uS 6 ⟨some 33, .move (.tmp 0), 22, _, _, none⟩ (.slice (some ⟨b, off, none⟩) n cap) rfl (yi (by rintro w ⟨hS0_, hS1, hS2, hS3, hS4⟩; clear hS0_; go_simp)) hHeld ?_
   refine uS 7 ⟨some 34, .move (.tmp 5), 3, _, _, none⟩ (.int .i64 ((u + 1 : Nat) : Int)) rfl (yi (by rintro w ⟨hS0_, hS1, hS2, hS3, hS4⟩; clear hS0_; go_simp)) hHeld ?_
   refine uS 8 ⟨some 35, .binOp BinOp.sub 3 (.tmp 34) (.const (Value.int IntKind.i64 1)) 3, 3, _, _, none⟩ (.int .i64 (u : Int)) rfl (yi (by rintro w ⟨hS0_, hS1, hS2, hS3, hS4⟩; clear hS0_; go_simp)) hHeld ?_
   refine uS 9 ⟨some 36, .indexAddr 22 (.tmp 33) (.tmp 35), 0, _, _, none⟩ (.pointer (some ⟨b, off + u * 3, none⟩)) rfl (yi (by rintro w ⟨hS0_, hS1, hS2, hS3, hS4⟩; clear hS0_; go_simp)) hHeld ?_
   refine uS 10 ⟨some 37, .fieldAddr 44 (.tmp 36) 1, 0, _, _, none⟩ (.pointer (some ⟨b, off + u * 3 + 1, none⟩)) rfl (yi (by rintro w ⟨hS0_, hS1, hS2, hS3, hS4⟩; clear hS0_; go_simp)) hHeld ?_
   refine uS 11 ⟨some 38, .load 9 (.tmp 37), 9, _, _, none⟩ (.string c.s) rfl (yi (by rintro w ⟨hS0_, hS1, hS2, hS3, hS4⟩; clear hS0_; go_simp)) hHeld ?_
   refine uS 12 ⟨some 39, .move (.tmp 0), 22, _, _, none⟩ (.slice (some ⟨b, off, none⟩) n cap) rfl (yi (by rintro w ⟨hS0_, hS1, hS2, hS3, hS4⟩; clear hS0_; go_simp)) hHeld ?_
   refine uS 13 ⟨some 40, .move (.tmp 5), 3, _, _, none⟩ (.int .i64 ((u + 1 : Nat) : Int)) rfl (yi (by rintro w ⟨hS0_, hS1, hS2, hS3, hS4⟩; clear hS0_; go_simp)) hHeld ?_
   refine uS 14 ⟨some 41, .indexAddr 22 (.tmp 39) (.tmp 40), 0, _, _, none⟩ (.pointer (some ⟨b, off + (u + 1) * 3, none⟩)) rfl (yi (by rintro w ⟨hS0_, hS1, hS2, hS3, hS4⟩; clear hS0_; go_simp)) hHeld ?_
   refine uS 15 ⟨some 42, .fieldAddr 44 (.tmp 41) 0, 0, _, _, none⟩ (.pointer (some ⟨b, off + (u + 1) * 3, none⟩)) rfl (yi (by rintro w ⟨hS0_, hS1, hS2, hS3, hS4⟩; clear hS0_; go_simp)) hHeld ?_
   refine uS 16 ⟨some 43, .load 3 (.tmp 42), 3, _, _, none⟩ (.int .i64 d.k) rfl (yi (by rintro w ⟨hS0_, hS1, hS2, hS3, hS4⟩; clear hS0_; go_simp)) hHeld ?_
   refine uS 17 ⟨some 44, .move (.tmp 0), 22, _, _, none⟩ (.slice (some ⟨b, off, none⟩) n cap) rfl (yi (by rintro w ⟨hS0_, hS1, hS2, hS3, hS4⟩; clear hS0_; go_simp)) hHeld ?_
   refine uS 18 ⟨some 45, .move (.tmp 5), 3, _, _, none⟩ (.int .i64 ((u + 1 : Nat) : Int)) rfl (yi (by rintro w ⟨hS0_, hS1, hS2, hS3, hS4⟩; clear hS0_; go_simp)) hHeld ?_
   refine uS 19 ⟨some 46, .indexAddr 22 (.tmp 44) (.tmp 45), 0, _, _, none⟩ (.pointer (some ⟨b, off + (u + 1) * 3, none⟩)) rfl (yi (by rintro w ⟨hS0_, hS1, hS2, hS3, hS4⟩; clear hS0_; go_simp)) hHeld ?_
   refine uS 20 ⟨some 47, .fieldAddr 44 (.tmp 46) 1, 0, _, _, none⟩ (.pointer (some ⟨b, off + (u + 1) * 3 + 1, none⟩)) rfl (yi (by rintro w ⟨hS0_, hS1, hS2, hS3, hS4⟩; clear hS0_; go_simp)) hHeld ?_
   refine uS 21 ⟨some 48, .load 9 (.tmp 47), 9, _, _, none⟩ (.string d.s) rfl (yi (by rintro w ⟨hS0_, hS1, hS2, hS3, hS4⟩; clear hS0_; go_simp)) hHeld ?_
   refine rd1 22 ⟨some 49, .call { callee := .value (.func 32), args := #[.tmp 32, .tmp 38, .tmp 43, .tmp 48], argTypes := #[3, 9, 3, 9] }, 4, _, _, none⟩ rfl fun K hK => ?_
   refine qz 32 _ _ rfl xL #[.int .i64 c.k, .string c.s, .int .i64 d.k, .string d.s] (by simp [Act.eval]) (fun vz wz => vz = .bool (zC c.k c.s d.k d.s) ∧ wq.drew = wz) ((yJ c.k c.s d.k d.s _).mono fun e w' ⟨h1, h2⟩ => ⟨_, h1, rfl, h2.symm⟩) ?_
   rintro _ wg ⟨rfl, hz⟩
   subst hz
   refine hK _ _ (hS0.o _ (BE.o.mono HB.o)) fun hH1 => kNx ?_
   clear hK
   refine uS 23 ⟨some 6, .assign (.tmp 49), 4, _, _, none⟩ (.bool (zC c.k c.s d.k d.s)) rfl (yi (by rintro w ⟨hS0_, hS1, hS2, hS3, hS4⟩; clear hS0_; go_simp)) hH1 ?_
   refine wpAnyH_done (by kernel_rfl) ?_ _
   refine hK17 _ _ (wp_seq_k fun K18 hK18 => rgn (Vv (.bool (zC c.k c.s d.k d.s)) (h:=Vv (.bool (!zC c.k c.s d.k d.s)) (h:=WL.nil (hK18 _ _ (?_))))))
   cases hah : zC c.k c.s d.k d.s
   ·simp only [Bool.not_false]
    refine Ct (h:=wp_seq_k fun K19 hK19 => rgn (Vv (.int .i64 130) (h:=WL.nil (hK19 _ _ (wp_ret ?_)))))
    go_ret
    exact ⟨by rw [qt, vG HKy.o, kf Hc.o Hd.o hah]; rfl, BE.o⟩
   ·simp only [Bool.not_true]
    have hw5 : IntKind.i64.wrap (((u + 1 : Nat) : Int) + 1) = ((u + 1 + 1 : Nat) : Int) := by rw [IntKind.wrap_i64]; have := HN.o; omega
    have hw7 : IntKind.i64.wrap ((u : Int) + 1 + 1) = (u : Int) + 1 + 1 := by rw [IntKind.wrap_i64]; have := HN.o; omega
    refine Cf (h:=wp_skip (hK16 _ _ (rgn (Vv (.int .i64 ((u + 1 : Nat) : Int)) (h:=Vv (.int .i64 ((u + 1 + 1 : Nat) : Int)) (h:=Vv (.int .i64 ((u + 1 + 1 : Nat) : Int)) (h:=?_)))))))
    refine WL.nil ?_
    refine ⟨⟨u + 1, rfl, by omega, BE.o, fun i x y hi hx hy => ?_⟩, ?_⟩
    ·by_cases e : i = u
     ·subst e; rw [Hc.o] at hx; rw [Hd.o] at hy; injection hx with hx; injection hy with hy; subst hx hy; exact hah
     ·exact HJ.o i x y (by omega) hx hy
    ·simp only [intOf]; show n + 1 - (((u + 1 + 1 : Nat) : Int)).toNat < n + 1 - (((u + 1 : Nat) : Int)).toNat; omega
  ·have hul' : ¬ ((u + 1 : Nat) : Int) < (n : Int) := by omega
   have hul3 : ¬ (u : Int) + 1 < (n : Int) := by omega
   have HOy : Keep (∀ (i : Nat) (c d : CV), L[i]? = some c → L[i + 1]? = some d → zC c.k c.s d.k d.s = true) := ⟨fun i c d hc hd => HJ.o i c d (by have := (List.getElem?_eq_some_iff.1 hd).1; rw [hn.o] at this; omega) hc hd⟩
   refine wp_seq_k fun K20 hK20 => wp_seq_k fun K21 hK21 => rgn (Vv (.int .i64 ((u + 1 : Nat) : Int)) (h:=Vv (.slice la n cap) (h:=Vv (.int .i64 (n : Int)) (h:=Vf (h:=WL.nil (hK21 _ _ (Cf (h:=wp_exit (hK12 _ _ (wp_seq_k fun K22 hK22 => rgn (Vv (.int .i64 0) (h:=WL.nil (hK22 _ _ (wp_ret ?_))))))))))))))
   go_ret
   exact ⟨by rw [qt, vG HKy.o, Kf HOy.o]; rfl, BB.o⟩
theorem UE (w : World) (vs : Array Value) : (callFunc 19 vs).run Try.prog w = .ok (.enter 19 vs) w := by kernel_rfl
theorem CsAt.mono {B B' : Nat} {w : World} {b off : Nat} {L : List CV} (h : CsAt B w b off L) (hB : B ≤ B') : CsAt B' w b off L :=
 ⟨Nat.lt_of_lt_of_le h.lt hB, h.at_, fun c hc => ⟨(h.row c hc).1, fun h0 k hk => Nat.lt_of_lt_of_le ((h.row c hc).2 h0 k hk) hB⟩⟩
theorem CsV.mono {B B' : Nat} {w : World} {v : Value} {L : List CV} (h : CsV B w v L) (hB : B ≤ B') : CsV B' w v L := by
 rcases h with h | ⟨b, off, cap, h1, h2, h3⟩
 ·exact .inl h
 ·exact .inr ⟨b, off, cap, h1, h2, h3.mono hB⟩
theorem BkH.new (w : World) : BkH w.heap.size (w.alloc (.cells #[.slice none 0 0] 77)) w.heap.size [] :=
 ⟨Nat.le_refl _, .slice none 0 0, [], Blk.new w 77 _, ⟨rfl, .inl ⟨rfl, rfl⟩⟩, rfl, fun i v l hv _ => by simp at hv⟩
theorem Uo : Try.prog.built 77 [] = some #[.slice none 0 0] := by kernel_rfl
theorem ky : Try.prog.built 32 [] = some (qb 32 fun _ => 0) := by kernel_rfl
def Sml (L : List CV) : Prop := ∀ c ∈ L, (c.s.size ≤ 140737488351232 ∧ c.l.length ≤ 140000000)
theorem Kk {L : List CV} (h : okK L = true) (hs : Sml L) : Fit L := fun c hc => by
 have := List.all_eq_true.1 h c hc
 simp [zi] at this
 exact ⟨by omega, hs c hc⟩
theorem Kg {L : List CV} (h : qt L = 0) : okK L = true := by
 unfold qt at h
 cases e : okK L
 ·rw [e] at h; simp at h
 ·rfl
def qJ (L : List CV) : Nat → Int := if qt L = 0 then qy (xo L) else fun _ => 0
theorem UI (v : Value) (L : List CV) (w : World) (hC : CsV w.heap.size w v L) (hS : Sml L) (hN : L.length ≤ 1099511627776) (hW : qt L ≠ 0) : Calls Try.prog 19 #[v] w fun e w' => e = .returned (.tuple #[.agg (qb 32 (qJ L)), .int .i64 (qt L)]) ∧ Below w.heap.size w w' := by
 have HR : Keep (qJ L = fun _ => 0) := ⟨if_neg hW⟩
 have HC := kk hC
 have HS := kk hS
 have HN : Keep (L.length ≤ 4398046511104) := ⟨by omega⟩
 have HN2 := kk hN
 have HW := kk hW
 clear hC hS hN hW
 go_enter Try.func19, Try.ntmps19
 refine wp_seq_k fun K1 hK1 => rgn (zO 32 qm fun r w1 hr0 R1 b1 => ?_)
 have hrw := lh hr0
 have C1 := kk (HC.o.below b1.o)
 have B1 : Keep (Below w.heap.size w w1) := ⟨b1.o⟩
 clear b1 hr0
 refine Vv (.int .i64 0) (h:=WL.nil (hK1 _ _ (wp_seq_k fun K2 hK2 => rgn (Vv (v) (h:=ClS (jQ w.heap.size v L w1 C1.o B1.o.size HN.o) ?_)))))
 rintro e w2 ⟨rfl, k1⟩
 refine ⟨_, rfl, ?_⟩
 have R2 := kbx R1 k1
 have B2 := tb B1 k1
 have C2 := kk (HC.o.below B2.o)
 clear k1 R1 B1 C1
 obtain ⟨ee, hee⟩ : ∃ z, Keep (qt L = z) := ⟨_, ⟨rfl⟩⟩
 rw [hee.o]
 refine Vv (.int .i64 ee) (h:=WL.nil (hK2 _ _ (wp_seq_k fun K3 hK3 => wp_seq_k fun K4 hK4 => rgn (Vv (.int .i64 ee) (h:=?_)))))
 have hne : (ee != 0) = true := by rw [bne_iff_ne, ← hee.o]; exact HW.o
 refine Vt (h:=WL.nil (hK4 _ _ (Ct (h:=wp_seq_k fun K5 hK5 => rgn (?_)))))
 refine WL.bld (by kernel_rfl) 32 _ rfl [] (by simp [Act.eval]) _ ky ?_
 simp only [Act.put, pqA, pqB, pqC]
 refine VlS (.int .i64 ee) ?_
 refine StR (qb 32 fun _ => 0) R2.o (qd _) (qh _ _ _) (qi _ _) ?_
 have R9 := kk (R2.o.setRow (qb 32 fun _ => 0))
 have B9 : Keep (Below w.heap.size w (w2.setRow r (qb 32 fun _ => 0))) := ⟨qf B2.o hrw.o _⟩
 generalize w2.setRow r (qb 32 fun _ => 0) = w9 at *
 refine Vv (.int .i64 ee) (h:=WL.nil (hK5 _ _ (wp_ret ?_)))
 try simp only [Exit.inBlock, Exit.then]
 refine bodyPost_ret (v := .tuple #[.agg (qb 32 fun _ => 0), .int .i64 ee]) (qp Try.results19 _ _ r 32 _ (0, 0) _ _ rfl rfl R9.o Try.underlying32 rfl (qd _)) rfl ⟨?_, B9.o⟩
 rw [HR.o]
 rw [hee.o]
theorem Zh (v : Value) (L : List CV) (w : World) (hC : CsV w.heap.size w v L) (hS : Sml L) (hN : L.length ≤ 1099511627776) (hW : qt L = 0) : Calls Try.prog 19 #[v] w fun e w' => e = .returned (.tuple #[.agg (qb 32 (qJ L)), .int .i64 (qt L)]) ∧ Below w.heap.size w w' := by
 have HR : Keep (qJ L = qy (xo L)) := ⟨if_pos hW⟩
 have HC := kk hC
 have HS := kk hS
 have HN : Keep (L.length ≤ 4398046511104) := ⟨by omega⟩
 have HN2 := kk hN
 have HW := kk hW
 clear hC hS hN hW
 go_enter Try.func19, Try.ntmps19
 refine wp_seq_k fun K1 hK1 => rgn (zO 32 qm fun r w1 hr0 R1 b1 => ?_)
 have hrw := lh hr0
 have C1 := kk (HC.o.below b1.o)
 have B1 : Keep (Below w.heap.size w w1) := ⟨b1.o⟩
 clear b1 hr0
 refine Vv (.int .i64 0) (h:=WL.nil (hK1 _ _ (wp_seq_k fun K2 hK2 => rgn (Vv (v) (h:=ClS (jQ w.heap.size v L w1 C1.o B1.o.size HN.o) ?_)))))
 rintro e w2 ⟨rfl, k1⟩
 refine ⟨_, rfl, ?_⟩
 have R2 := kbx R1 k1
 have B2 := tb B1 k1
 have C2 := kk (HC.o.below B2.o)
 clear k1 R1 B1 C1
 obtain ⟨ee, hee⟩ : ∃ z, Keep (qt L = z) := ⟨_, ⟨rfl⟩⟩
 rw [hee.o]
 obtain rfl : ee = 0 := by rw [← hee.o]; exact HW.o
 refine Vv (.int .i64 0) (h:=WL.nil (hK2 _ _ (wp_seq_k fun K3 hK3 => wp_seq_k fun K4 hK4 => rgn (Vv (.int .i64 0) (h:=Vf (h:=WL.nil (hK4 _ _ (Cf (h:=wp_skip (hK3 _ _ (wp_seq_k fun K5 hK5 => rgn (?_))))))))))))
 refine WL.bld (by kernel_rfl) 77 _ rfl [] (by simp [Act.eval]) _ Uo ?_
 simp only [Act.put, pqA, pqB, pqC]
 refine WL.box (by kernel_rfl) 77 (.tmp 12) rfl #[.slice none 0 0] rfl ?_
 have BK3 := kk (BkH.new w2)
 have b3 := qg w2 (.cells #[.slice none 0 0] 77)
 have R3 := kbx R2 b3
 have C3 : Keep (CsV w2.heap.size (w2.alloc (.cells #[.slice none 0 0] 77)) v L) := ⟨(C2.o.below (b3.mono B2.o.size)).mono B2.o.size⟩
 have L3 : Keep (w2.heap.size ≤ (w2.alloc (.cells #[.slice none 0 0] 77)).heap.size) := ⟨b3.size⟩
 have B3 : Keep (Below w.heap.size w (w2.alloc (.cells #[.slice none 0 0] 77))) := ⟨B2.o.trans (b3.mono B2.o.size)⟩
 change WL _ _ _ _ _ (w2.alloc (.cells #[.slice none 0 0] 77))
 generalize w2.alloc (.cells #[.slice none 0 0] 77) = w3 at *
 obtain ⟨p, hp⟩ := nm w2
 rw [← hp.o] at BK3 C3 L3 ⊢
 have hpw : Keep (w.heap.size ≤ p) := ⟨by rw [hp.o]; exact B2.o.size⟩
 clear b3
 simp only [Act.put, pqA, pqB, pqC]
 refine Vv (.pointer (some ⟨p, 0, none⟩)) (h:=WL.nil (hK5 _ _ (wp_seq_k fun K6 hK6 => rgn (Vv (.pointer (some ⟨p, 0, none⟩)) (h:=Vv (v) (h:=?_))))))
 have hrt := ZB p p v L [] w3 BK3.o C3.o (Kk (Kg HW.o) HS.o) (by have := HN2.o; simp; omega) L3.o
 refine ClS (hrt) ?_
 rintro e w8 ⟨rfl, k1, k2⟩
 refine ⟨_, rfl, ?_⟩
 have B8 : Keep (Below w.heap.size w w8) := ⟨B3.o.trans ((k2.bkBelow L3.o).mono hpw.o)⟩
 have R8 := kk (R3.o.bk k2 (by decide) (by decide))
 clear hrt k1 k2
 refine StR (qb 32 (qy (xo L))) R8.o (qd _) (qh _ _ _) (qi _ _) ?_
 have R9 := kk (R8.o.setRow (qb 32 (qy (xo L))))
 have B9 : Keep (Below w.heap.size w (w8.setRow r (qb 32 (qy (xo L))))) := ⟨qf B8.o hrw.o _⟩
 generalize w8.setRow r (qb 32 (qy (xo L))) = w9 at *
 refine Vv (.int .i64 0) (h:=WL.nil (hK6 _ _ (wp_ret ?_)))
 try simp only [Exit.inBlock, Exit.then]
 refine bodyPost_ret (v := .tuple #[.agg (qb 32 (qy (xo L))), .int .i64 0]) (qp Try.results19 _ _ r 32 _ (0, 0) _ _ rfl rfl R9.o Try.underlying32 rfl (qd _)) rfl ⟨?_, B9.o⟩
 rw [HR.o]
 rw [HW.o]
theorem UJ (v : Value) (L : List CV) (w : World) (hC : CsV w.heap.size w v L) (hS : Sml L) (hN : L.length ≤ 1099511627776) : Calls Try.prog 19 #[v] w fun e w' => e = .returned (.tuple #[.agg (qb 32 (qJ L)), .int .i64 (qt L)]) ∧ Below w.heap.size w w' := by
 by_cases h : qt L = 0
 ·exact Zh v L w hC hS hN h
 ·exact UI v L w hC hS hN h
end Go.Proofs.Ytdpcjfafbmhceaa
