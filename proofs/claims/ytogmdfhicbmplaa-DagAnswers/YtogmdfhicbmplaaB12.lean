import Derived.Test.YtogmdfhicbmplaaB11
import Derived.Test.YtogmdfhicbmplaaB08
namespace Go.Proofs.Ytogmdfhicbmplaa
open Go.RowKit
set_option linter.unusedSimpArgs false
set_option linter.unusedVariables false

end Go.Proofs.Ytogmdfhicbmplaa
namespace Go.Proofs.Ytogmdfhicbmplaa
open Go.RowKit
set_option linter.unusedSimpArgs false
set_option linter.unusedVariables false

end Go.Proofs.Ytogmdfhicbmplaa
namespace Go.Proofs.Ytogmdfhicbmplaa
open Go.RowKit
set_option linter.unusedSimpArgs false
set_option linter.unusedVariables false

end Go.Proofs.Ytogmdfhicbmplaa
namespace Go.Proofs.Ytogmdfhicbmplaa
open Go.RowKit
set_option linter.unusedSimpArgs false
set_option linter.unusedVariables false

theorem Try.in9 (w : World) (vs : Array Value) : (callFunc 9 vs).run Try.prog w = .ok (.enter 9 vs) w := by kernel_rfl
def hOne : Hs := Vector.ofFn fun i : Fin 32 => if i.val = 0 then 1 else 0
def hTwo : Hs := Vector.ofFn fun i : Fin 32 => if i.val = 0 then 2 else 0
theorem bOne : Try.prog.built 36 [(0, .int .u8 1)] = some (bytesA 32 hOne.f) := by kernel_rfl
theorem bTwo : Try.prog.built 36 [(0, .int .u8 2)] = some (bytesA 32 hTwo.f) := by kernel_rfl
def xB : VX := ⟨hTwo, 2, [hOne]⟩
def xA : VX := ⟨hOne, 1, []⟩
theorem fitB : fitV [] [] xB = (3, 0) := by decide
theorem fitA : fitV [] [xB] xA = (2, 0) := by decide
theorem findB : ([xB] : List VX).find? (isV xB.id) = some xB := by rw [List.find?_cons]; simp [isV]
theorem allB : xB.ps.all (hasB [xA]) = true := by decide
set_option maxRecDepth 8000 in
set_option maxHeartbeats 1000000 in
theorem fixed_any (w : World) : Calls Try.prog 9 #[] w fun e w' => e = .returned (.bool true) ∧ Below w.heap.size w w' := by
 go_enter Try.func9, Try.ntmps9
 refine wp_seq_k fun K1 hK1 => rgn ?_
 refine VlS (.bool false) ?_
 refine WL.nil (hK1 _ _ ?_)
 refine wp_seq_k fun K2 hK2 => rgn ?_
 have hnw := (new_any 1 w).mono (R' := fun e w' => ∃ d g, e = .returned (.tuple #[ptr d, .int .i64 0]) ∧ DagAt w' (DgS d g) d g ∧ g.room = 1 ∧ g.held = [] ∧ g.wait = [] ∧ g.heads = [] ∧ g.order = [] ∧ g.queue = [] ∧ Below w.heap.size w w' ∧ ∀ k, DgS d g k → w.heap.size ≤ k) (fun e w' h => h.elim (fun h => absurd h.1 (by omega)) fun ⟨_, d, g, h1, h2, h3, h4, h5, h6, h7, h8, h9, h10⟩ => ⟨d, g, h1, h2, h3, h4, h5, h6, h7, h8, h9, h10⟩)
 refine WL.callF (by kernel_rfl) 10 _ _ rfl Try.in10 #[.int .i64 1] (by simp [Act.eval]) ?_
 refine (hnw).mono ?_
 rintro e w1 ⟨d, g, rfl, hD, hr, hg1, hg2, hg3, hg4, hg5, hb, hn⟩
 refine ⟨_, rfl, ?_⟩
 clear hnw
 have HN := Keep.mk hn
 clear hn
 have HD1 := Keep.mk hD
 have HGf : Keep (g.room = 1 ∧ g.held = [] ∧ g.wait = [] ∧ g.heads = [] ∧ g.order = [] ∧ g.queue = []) := ⟨⟨hr, hg1, hg2, hg3, hg4, hg5⟩⟩
 have LB1 := Keep.mk hb
 clear hD hr hg1 hg2 hg3 hg4 hg5 hb
 simp only [Act.put, pqA, pqB, pqC]
 refine VlS (.tuple #[ptr d, .int .i64 0]) ?_
 refine VlS (ptr d) ?_
 refine VlS (.int .i64 0) ?_
 refine VlS (ptr d) ?_
 refine VlS (.int .i64 0) ?_
 refine WL.nil (hK2 _ _ ?_)
 refine wp_seq_k fun K3 hK3 => ?_
 refine wp_seq_k fun K4 hK4 => rgn ?_
 refine VlS (ptr d) ?_
 refine VlS (.bool false) ?_
 refine VlS (.bool false) ?_
 refine VlS (.int .i64 0) ?_
 refine VlS (.bool false) ?_
 refine VlS (.bool false) ?_
 refine WL.nil (hK4 _ _ ?_)
 refine wp_cond_false rfl ?_
 refine wp_skip ?_
 refine hK3 _ _ ?_
 refine wp_seq_k fun K5 hK5 => rgn ?_
 refine WL.bld (by kernel_rfl) 36 _ rfl [(0, .int .u8 1)] (by simp [Act.eval]) (bytesA 32 hOne.f) bOne ?_
 simp only [Act.put, pqA, pqB, pqC]
 refine WL.bld (by kernel_rfl) 36 _ rfl [(0, .int .u8 2)] (by simp [Act.eval]) (bytesA 32 hTwo.f) bTwo ?_
 simp only [Act.put, pqA, pqB, pqC]
 refine WL.new (by kernel_rfl) 36 rfl _ Try.new36 ?_
 have HA2 := Keep.mk (Blk.new w1 36 (bytesA 32 fun _ => 0))
 have B2 := Keep.mk (below_new w1 (.cells (bytesA 32 fun _ => 0) 36))
 generalize w1.alloc (.cells (bytesA 32 fun _ => 0) 36) = w2 at *
 have LA2 : Keep (w1.heap.size < w2.heap.size) := ⟨HA2.out.lt⟩
 obtain ⟨ga, hga⟩ : ∃ b, Keep (b = w1.heap.size) := ⟨_, ⟨rfl⟩⟩
 rw [← hga.out] at HA2 LA2 ⊢
 simp only [Act.put, pqA, pqB, pqC]
 refine WL.new (by kernel_rfl) 36 rfl _ Try.new36 ?_
 have HB3 := Keep.mk (Blk.new w2 36 (bytesA 32 fun _ => 0))
 have B3 := Keep.mk (below_new w2 (.cells (bytesA 32 fun _ => 0) 36))
 generalize w2.alloc (.cells (bytesA 32 fun _ => 0) 36) = w3 at *
 have HA3 := Keep.mk (HA2.out.below B3.out HA2.out.lt)
 obtain ⟨gb, hgb⟩ : ∃ b, Keep (b = w2.heap.size) := ⟨_, ⟨rfl⟩⟩
 rw [← hgb.out] at HB3 LA2 ⊢
 simp only [Act.put, pqA, pqB, pqC]
 refine WL.storeR (by kernel_rfl) 36 (.tmp 3) (.tmp 23) rfl ga (bytesA 32 hOne.f) rfl rfl 36 (bytesA 32 fun _ => 0) HA3.out (Try.size36B _) (bytesA_sizes _ _ _) (bytesA_one _ _) ?_
 have HA4 := Keep.mk (HA3.out.setRow (bytesA 32 hOne.f))
 have HB4 := Keep.mk (HB3.out.setRow_ne (b' := ga) (by have := LA2.out; omega) (bytesA 32 hOne.f))
 have B4 : Keep (Below w1.heap.size w1 (w3.setRow ga (bytesA 32 hOne.f))) := ⟨below_setRow (belowT B2.out B3.out) (by rw [hga.out]; exact Nat.le_refl _) _⟩
 generalize w3.setRow ga (bytesA 32 hOne.f) = w4 at *
 simp only [Act.put]
 refine WL.storeR (by kernel_rfl) 36 (.tmp 4) (.tmp 24) rfl gb (bytesA 32 hTwo.f) rfl rfl 36 (bytesA 32 fun _ => 0) HB4.out (Try.size36B _) (bytesA_sizes _ _ _) (bytesA_one _ _) ?_
 have HB5 := Keep.mk (HB4.out.setRow (bytesA 32 hTwo.f))
 have HA5 := Keep.mk (HA4.out.setRow_ne (b' := gb) (by have := LA2.out; omega) (bytesA 32 hTwo.f))
 have B5 : Keep (Below w1.heap.size w1 (w4.setRow gb (bytesA 32 hTwo.f))) := ⟨below_setRow B4.out (by rw [hgb.out]; exact B2.out.size) _⟩
 generalize w4.setRow gb (bytesA 32 hTwo.f) = w5 at *
 have HD5 := Keep.mk (HD1.out.below B5.out)
 have LB5 := Keep.mk (belowT LB1.out B5.out)
 have NA : Keep (∀ k, DgS d g k → k ≠ ga ∧ k ≠ gb) := ⟨fun k hk => by have := HD1.out.lt k hk; have := hga.out; have := hgb.out; have := B2.out.size; omega⟩
 clear HA2 HA3 HA4 HB3 HB4 B2 B3 B4 LA2
 simp only [Act.put]
 refine WL.nil (hK5 _ _ ?_)
 refine wp_seq_k fun K6 hK6 => rgn ?_
 refine VlS (ptr d) ?_
 refine WL.row (by kernel_rfl) 36 (.tmp 4) rfl gb rfl 36 (bytesA 32 hTwo.f) _ HB5.out Try.underlying36 rfl (Try.size36B _) ?_
 simp only [Act.put, pqA, pqB, pqC]
 refine WL.row (by kernel_rfl) 36 (.tmp 3) rfl ga rfl 36 (bytesA 32 hOne.f) _ HA5.out Try.underlying36 rfl (Try.size36B _) ?_
 simp only [Act.put, pqA, pqB, pqC]
 refine WL.bs (by kernel_rfl) 37 1 _ rfl #[(0, .agg (bytesA 32 hOne.f))] (by simp [Act.eval]) _ _ (bsH hOne w5) ?_
 have hrp := one_row hOne w5
 rw [encH_arr] at hrp
 have HRp := Keep.mk hrp
 have B6 := Keep.mk (below_new w5 (.cells (bytesA 32 hOne.f) 36))
 clear hrp
 generalize w5.alloc (.cells (bytesA 32 hOne.f) 36) = w6 at *
 have HD6 := Keep.mk (HD5.out.below B6.out)
 have HA6 := Keep.mk (HA5.out.below B6.out HA5.out.lt)
 have HB6 := Keep.mk (HB5.out.below B6.out HB5.out.lt)
 have LB6 := Keep.mk (belowT LB5.out B6.out)
 obtain ⟨gpp, hgpp⟩ : ∃ b, Keep (b = w5.heap.size) := ⟨_, ⟨rfl⟩⟩
 rw [← hgpp.out] at HRp ⊢
 clear B6 HD5 HA5 HB5 LB5
 simp only [Act.put, pqA, pqB, pqC]
 obtain ⟨vb, hvb⟩ : ∃ a : Array Value, Keep (a = vtx hTwo.f 2 (.slice (some ⟨gpp, 0, none⟩) 1 1)) := ⟨_, ⟨rfl⟩⟩
 refine WL.bld (by kernel_rfl) 39 _ rfl [(0, .agg (bytesA 32 hTwo.f)), (1, .int .i64 2), (2, .slice (some ⟨gpp, 0, none⟩) 1 1)] (by simp [Act.eval]) vb (by rw [hvb.out]; exact built_ps _ _ _ _ _) ?_
 simp only [Act.put, pqA, pqB, pqC]
 have had := add_waits d xB (.slice (some ⟨gpp, 0, none⟩) 1 1) _ g w6 HD6.out HRp.out (by rw [HGf.out.2.1]; intro v hv; cases hv) (by decide) (by decide) (by rw [HGf.out.2.1, HGf.out.2.2.1]; exact fitB) (by rw [HGf.out.2.2.1]; rfl) (by rw [HGf.out.2.2.2.2.2, HGf.out.1]; decide) (by rw [HGf.out.2.2.2.2.2]; decide)
 rw [show vtx xB.id.f xB.ck (.slice (some ⟨gpp, 0, none⟩) 1 1) = vb from hvb.out.symm] at had
 refine WL.callF (by kernel_rfl) 17 _ _ rfl Try.in17 #[ptr d, .agg vb] (by simp [Act.eval]) ?_
 refine (had).mono ?_
 rintro e w7 ⟨rfl, g7, hs, e1, e2, e3, e4, e5, e6⟩
 refine ⟨_, rfl, ?_⟩
 clear had
 rw [HGf.out.1] at e1
 rw [HGf.out.2.1] at e2
 rw [HGf.out.2.2.1, List.nil_append] at e3
 rw [HGf.out.2.2.2.2.2, List.nil_append] at e4
 rw [HGf.out.2.2.2.2.1] at e5
 rw [HGf.out.2.2.2.1] at e6
 have HS7 := Keep.mk hs
 have HG7 : Keep (g7.room = 1 ∧ g7.held = [] ∧ g7.wait = [xB] ∧ g7.queue = [xB.id] ∧ g7.order = [] ∧ g7.heads = []) := ⟨⟨e1, e2, e3, e4, e5, e6⟩⟩
 have HA7 := Keep.mk (hs.grown.blk HA6.out fun e => (NA.out _ e).1 rfl)
 have HB7 := Keep.mk (hs.grown.blk HB6.out fun e => (NA.out _ e).2 rfl)
 have NA7 : Keep (∀ k, DgS d g7 k → k ≠ ga ∧ k ≠ gb ∧ w.heap.size ≤ k) := ⟨fun k hk => (hs.sub k hk).elim (fun h => ⟨(NA.out k h).1, (NA.out k h).2, HN.out k h⟩) fun h => by have := HA6.out.lt; have := HB6.out.lt; have := LB6.out.size; omega⟩
 have LB7 : Keep (Below w.heap.size w w7) := ⟨LB6.out.trans (hs.grown.to_below (fun k hk e => by have := HN.out k e; omega) LB6.out.size)⟩
 clear hs e1 e2 e3 e4 e5 e6 HA6 HB6 LB6 HD6 HRp hvb
 simp only [Act.put, pqA, pqB, pqC]
 refine VlS (.tuple #[.int .i64 3, .slice none 0 0, .int .i64 0]) ?_
 refine VlS (.int .i64 3) ?_
 refine VlS (.slice none 0 0) ?_
 refine VlS (.int .i64 0) ?_
 refine VlS (.int .i64 3) ?_
 refine VlS (.slice none 0 0) ?_
 refine VlS (.int .i64 0) ?_
 refine WL.nil (hK6 _ _ ?_)
 refine wp_seq_k fun K7 hK7 => rgn ?_
 refine VlS (ptr d) ?_
 refine WL.row (by kernel_rfl) 36 (.tmp 3) rfl ga rfl 36 (bytesA 32 hOne.f) _ HA7.out Try.underlying36 rfl (Try.size36B _) ?_
 simp only [Act.put, pqA, pqB, pqC]
 obtain ⟨va, hva⟩ : ∃ a : Array Value, Keep (a = vtx hOne.f 1 (.slice none 0 0)) := ⟨_, ⟨rfl⟩⟩
 refine WL.bld (by kernel_rfl) 39 _ rfl [(0, .agg (bytesA 32 hOne.f)), (1, .int .i64 1)] (by simp [Act.eval]) va (by rw [hva.out]; exact built_none _ _) ?_
 simp only [Act.put, pqA, pqB, pqC]
 have had := add_took d xA (.slice none 0 0) _ g7 w7 (fun g' => g'.held = [xA] ∧ g'.wait = [xB] ∧ g'.queue = [xB.id]) HS7.out.at' (.inl ⟨none, 0, rfl, rfl, fun _ => rfl⟩) (by rw [HG7.out.2.1]; intro v hv; cases hv) (by decide) (by decide) (by rw [HG7.out.2.1, HG7.out.2.2.1]; exact fitA) (fun w1 p1 h1 h2 h3 => (take_nil d xA p1 _ g7 w1 h1 h2 h3 HG7.out.2.1 HG7.out.2.2.2.2.1 HG7.out.2.2.2.2.2).mono fun e w' ⟨k1, g', k2, k3, k4, k5, k6, k7, k8⟩ => ⟨k1, g', k2, by rw [k4, HG7.out.2.1]; rfl, by rw [k5, HG7.out.2.2.1], by rw [k6, HG7.out.2.2.2.1]⟩)
 rw [show vtx xA.id.f xA.ck (.slice none 0 0) = va from hva.out.symm] at had
 refine WL.callF (by kernel_rfl) 17 _ _ rfl Try.in17 #[ptr d, .agg va] (by simp [Act.eval]) ?_
 refine (had).mono ?_
 rintro e w8 ⟨rfl, g8, hs, e1, e2, e3⟩
 refine ⟨_, rfl, ?_⟩
 clear had
 have HD8 := Keep.mk hs.at'
 have HG8 : Keep (g8.held = [xA] ∧ g8.wait = [xB] ∧ g8.queue = [xB.id]) := ⟨⟨e1, e2, e3⟩⟩
 have HB8 := Keep.mk (hs.grown.blk HB7.out fun e => (NA7.out _ e).2.1 rfl)
 have LB8 : Keep (Below w.heap.size w w8) := ⟨LB7.out.trans (hs.grown.to_below (fun k hk e => by have := (NA7.out k e).2.2; omega) LB7.out.size)⟩
 clear hs e1 e2 e3 HA7 HB7 LB7 HS7 hva
 simp only [Act.put, pqA, pqB, pqC]
 refine VlS (.tuple #[.int .i64 2, .slice none 0 0, .int .i64 0]) ?_
 refine VlS (.int .i64 2) ?_
 refine VlS (.slice none 0 0) ?_
 refine VlS (.int .i64 0) ?_
 refine VlS (.int .i64 2) ?_
 refine VlS (.slice none 0 0) ?_
 refine VlS (.int .i64 0) ?_
 refine WL.nil (hK7 _ _ ?_)
 refine wp_seq_k fun K8 hK8 => rgn ?_
 refine VlS (ptr d) ?_
 have hnx := next_first d xB [] _ g8 w8 HD8.out HG8.out.2.2 (by rw [HG8.out.2.1]; exact findB) (by rw [HG8.out.1]; exact allB) (by decide)
 refine WL.callF (by kernel_rfl) 35 _ _ rfl Try.in35 #[ptr d] (by simp [Act.eval]) ?_
 refine (hnx).mono ?_
 rintro e w9 ⟨a9, n9, c9, rfl, hb⟩
 refine ⟨_, rfl, ?_⟩
 clear hnx
 have HD9 := Keep.mk (HD8.out.below hb)
 have HB9 := Keep.mk (HB8.out.below hb HB8.out.lt)
 have LB9 := Keep.mk (belowT LB8.out hb)
 obtain ⟨vn, hvn⟩ : ∃ a : Array Value, Keep (a = vtx xB.id.f xB.ck (.slice a9 n9 c9)) := ⟨_, ⟨rfl⟩⟩
 rw [← hvn.out]
 clear hb HD8 HB8 LB8
 simp only [Act.put, pqA, pqB, pqC]
 refine VlS (.tuple #[.agg vn, .bool true]) ?_
 refine VlS (.agg vn) ?_
 refine VlS (.bool true) ?_
 refine WL.new (by kernel_rfl) 39 rfl _ Try.new39 ?_
 obtain ⟨vz, hvz⟩ : ∃ a : Array Value, Keep (a = vtx (fun _ => 0) 0 (.slice none 0 0)) := ⟨_, ⟨rfl⟩⟩
 rw [← hvz.out]
 have HN10 := Keep.mk (Blk.new w9 39 vz)
 have B10 := Keep.mk (below_new w9 (.cells vz 39))
 generalize w9.alloc (.cells vz 39) = w10 at *
 obtain ⟨gn, hgn⟩ : ∃ b, Keep (b = w9.heap.size) := ⟨_, ⟨rfl⟩⟩
 rw [← hgn.out] at HN10 ⊢
 simp only [Act.put, pqA, pqB, pqC]
 refine WL.storeR (by kernel_rfl) 39 (.tmp 11) (.tmp 46) rfl gn vn rfl rfl 39 vz HN10.out (by rw [hvn.out]; exact Try.info39s _ _ _) (by rw [hvn.out, hvz.out, vtx_size, vtx_size]) (by rw [hvn.out]; exact vtx_one _ _ _ (slice_one _ _ _)) ?_
 have HN11 := Keep.mk (HN10.out.setRow vn)
 have B11 : Keep (Below w9.heap.size w9 (w10.setRow gn vn)) := ⟨below_setRow B10.out (by rw [hgn.out]; exact Nat.le_refl _) vn⟩
 generalize w10.setRow gn vn = w11 at *
 have HD11 := Keep.mk (HD9.out.below B11.out)
 have HB11 := Keep.mk (HB9.out.below B11.out HB9.out.lt)
 have LB11 := Keep.mk (belowT LB9.out B11.out)
 clear HN10 B10 HD9 HB9 LB9
 simp only [Act.put]
 refine VlS (.bool true) ?_
 refine WL.nil (hK8 _ _ ?_)
 refine wp_seq_k fun K9 hK9 => rgn ?_
 refine VlS (.int .i64 3) ?_
 refine VlS (.bool true) ?_
 refine VlS (.bool true) ?_
 refine VlS (.int .i64 0) ?_
 refine VlS (.bool true) ?_
 refine VlS (.bool true) ?_
 refine VlS (.bool true) ?_
 refine VlS (.int .i64 2) ?_
 refine VlS (.bool true) ?_
 refine VlS (.bool true) ?_
 refine VlS (.bool true) ?_
 refine VlS (.int .i64 0) ?_
 refine VlS (.bool true) ?_
 refine VlS (.bool true) ?_
 refine VlS (.bool true) ?_
 refine VlS (.bool true) ?_
 refine VlS (.bool true) ?_
 refine VlS (.bool true) ?_
 refine VlS (.pointer (some ⟨gn, 0, none⟩)) ?_
 refine WL.midA (by kernel_rfl) 36 (.tmp 66) rfl gn 0 rfl (bytesA 32 hTwo.f) _ (vtx_rng (hvn.out ▸ HN11.out)) Try.underlying36 rfl (Try.size36B _) ?_
 simp only [Act.put, pqA, pqB, pqC]
 refine WL.row (by kernel_rfl) 36 (.tmp 4) rfl gb rfl 36 (bytesA 32 hTwo.f) _ HB11.out Try.underlying36 rfl (Try.size36B _) ?_
 simp only [Act.put, pqA, pqB, pqC]
 refine WL.val (by kernel_rfl) (.bool true) (by go_simp; rw [run_equal_arr2, all_eq_iff, decide_eq_true rfl]; rfl) ?_
 simp only [Act.put, pqA, pqB, pqC]
 refine VlS (.bool true) ?_
 refine VlS (.bool true) ?_
 refine VlS (ptr d) ?_
 have hln := dlen_any d _ g8 w11 HD11.out
 rw [HG8.out.1] at hln
 refine WL.callF (by kernel_rfl) 36 _ _ rfl Try.in36 #[ptr d] (by simp [Act.eval]) ?_
 refine (hln).mono ?_
 rintro e w12 ⟨rfl, hz⟩
 refine ⟨_, rfl, ?_⟩
 clear hln
 subst hz
 simp only [Act.put, pqA, pqB, pqC]
 refine VlS (.bool true) ?_
 refine VlS (.bool true) ?_
 refine VlS (.bool true) ?_
 refine WL.nil (hK9 _ _ ?_)
 refine wp_ret ?_
 go_ret
 exact ⟨rfl, LB11.out⟩
end Go.Proofs.Ytogmdfhicbmplaa
