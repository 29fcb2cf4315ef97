import Derived.Test.YtogmdfhicbmplaaB19
namespace Go.Proofs.Ytogmdfhicbmplaa
open Go.RowKit
set_option linter.unusedSimpArgs false
set_option linter.unusedVariables false

theorem run_bldV (c : Nat → Int) (k : Int) (w : World) : (Next.value <$> Instr.build 39 #[(0, .agg (bytesA 32 c)), (1, .int .i64 k)]).run Try.prog w = .ok (.value (.agg (vtx c k (.slice none 0 0)))) w := by kernel_rfl
theorem yieldsIf_bldV {ops : Array Oper} {S : World → Prop} {op : Oper} {a : Act} (hw : Region.wanted op (yielded ops a.tmps) = true) (x y : Operand) (ho : op.op = .build 39 #[(0, x), (1, y)]) (c : Nat → Int) (k : Int) (hx : a.eval x = .agg (bytesA 32 c)) (hy : a.eval y = .int .i64 k) : YieldsIf Try.prog ops S op (.agg (vtx c k (.slice none 0 0))) a :=
 .inl ⟨hw, fun w _ => by unfold execOp; simp only [ho, List.map_toArray, List.map_cons, List.map_nil, hx, hy]; exact run_bldV c k w⟩
theorem PM.new {B : Nat} {w1 w2 : World} {d : Nat} {g : DG} {r : Int} (hD : DS B w1 d g) (hb : Below w1.heap.size w1 w2) (hx : Blk w2 w1.heap.size 79 (rdA r (.slice none 0 0) (.slice none 0 0) (.slice none 0 0))) (hB : B ≤ w1.heap.size) : PM B w2 d w1.heap.size g (.slice none 0 0) (.slice none 0 0) (.slice none 0 0) ⟨r, [], [], []⟩ := by
 have hR : ∀ k, RgS w1.heap.size (.slice none 0 0) (.slice none 0 0) (.slice none 0 0) k → k = w1.heap.size := fun k hk => by
  rcases hk with h | h | h | h
  ·exact h
  ·cases h
  ·cases h
  ·cases h
 have hlt : ∀ k, DgS d g k → k < w1.heap.size := fun k hk => hD.at'.lt k hk
 refine ⟨hD.at'.grown (Grown.below (S := fun _ => False) hb) (fun _ e => e.elim) (fun _ _ e => e.elim) (fun k hk e => e.elim id fun e => by have := hR k e; omega) (fun k hk => .inl hk) (fun k hk => ?_), RAt.new hx, fun k hk e => by have := hR k e; have := hlt k hk; omega, fun q hq => (by rcases hq with h | h <;> cases h), fun k hk => hk.elim (hD.lo k) fun e => by have := hR k e; omega⟩
 rcases hk with hk | hk
 ·exact Nat.lt_of_lt_of_le (hlt k hk) hb.size
 ·rw [hR k hk]; exact hx.lt
set_option maxRecDepth 8000 in
set_option maxHeartbeats 4000000 in
theorem full_any (n0 wd0 sd : Int) (w : World) (hs : 0 ≤ sd ∧ sd < 256) : Calls Try.prog 5 #[.int .i64 n0, .int .i64 wd0, .int .u8 sd] w fun e w' => e = .returned (.bool true) ∧ Below w.heap.size w w' := by
 have Hsd := Keep.mk hs
 clear hs
 go_enter Try.func5, Try.ntmps5
 refine wp_seq_k fun K1 hK1 => rgn ?_
 refine VlS (.bool false) ?_
 refine WL.nil (hK1 _ _ ?_)
 refine wp_seq_k fun K2 hK2 => rgn ?_
 refine VlS (.int .i64 n0) ?_
 have hp := plN_any n0 4101 w (by omega) (by omega)
 rw [show ((4101 : Nat) : Int) = 4101 from rfl] at hp
 refine WL.callF (by kernel_rfl) 12 _ _ rfl Try.in12 #[.int .i64 n0, .int .i64 4101] (by simp [Act.eval]) ?_
 refine (hp).mono ?_
 rintro e wp ⟨nn, hnn, rfl, hwe⟩
 refine ⟨_, rfl, ?_⟩
 have hwe := hwe.symm
 subst hwe
 clear hp
 simp only [Act.put, pqA, pqB, pqC]
 refine VlS (.int .i64 (nn : Int)) ?_
 refine WL.nil (hK2 _ _ ?_)
 refine wp_seq_k fun K3 hK3 => rgn ?_
 refine VlS (.int .i64 wd0) ?_
 have hp := plN_any wd0 5 w (by omega) (by omega)
 rw [show ((5 : Nat) : Int) = 5 from rfl] at hp
 refine WL.callF (by kernel_rfl) 12 _ _ rfl Try.in12 #[.int .i64 wd0, .int .i64 5] (by simp [Act.eval]) ?_
 refine (hp).mono ?_
 rintro e wp ⟨kk, hkk, rfl, hwe⟩
 refine ⟨_, rfl, ?_⟩
 have hwe := hwe.symm
 subst hwe
 clear hp
 obtain ⟨wd, hwd⟩ : ∃ n, n = kk + 1 := ⟨_, rfl⟩
 have hw24 : IntKind.i64.wrap (1 + (kk : Int)) = (wd : Int) := by rw [IntKind.wrap_i64]; omega
 simp only [Act.put, pqA, pqB, pqC]
 refine WL.val (by kernel_rfl) (.int .i64 (wd : Int)) (by go_simp) ?_
 clear hw24
 have hwd1 : 1 ≤ wd := by omega
 have hwd5 : wd ≤ 5 := by omega
 clear hwd hkk
 simp only [Act.put, pqA, pqB, pqC]
 refine VlS (.int .i64 (wd : Int)) ?_
 refine WL.nil (hK3 _ _ ?_)
 refine wp_seq_k fun K4 hK4 => rgn ?_
 have hnw := (new_ds 2 w).mono (R' := fun e w' => ∃ d g, e = .returned (.tuple #[.pointer (some ⟨d, 0, none⟩), .int .i64 0]) ∧ DS w.heap.size w' d g ∧ Below w.heap.size w w' ∧ g.room = 2 ∧ g.held = [] ∧ g.wait = []) (fun e w' h => h.elim (fun h => absurd h.1 (by omega)) fun ⟨_, _, d, g, h1, h2, h3, h4, h5, h6, _⟩ => ⟨d, g, h1, h2, h3, h4, h5, h6⟩)
 refine WL.callF (by kernel_rfl) 10 _ _ rfl Try.in10 #[.int .i64 2] (by simp [Act.eval]) ?_
 refine (hnw).mono ?_
 rintro e w1 ⟨d, g, rfl, hD, hb, e1, e2, e3⟩
 refine ⟨_, rfl, ?_⟩
 clear hnw
 have D1 := Keep.mk hD
 have B1 := Keep.mk hb
 have E1 : Keep (g.room = 2 ∧ g.held = [] ∧ g.wait = []) := ⟨⟨e1, e2, e3⟩⟩
 clear hD hb e1 e2 e3
 simp only [Act.put, pqA, pqB, pqC]
 refine VlS (.tuple #[.pointer (some ⟨d, 0, none⟩), .int .i64 0]) ?_
 refine VlS (.pointer (some ⟨d, 0, none⟩)) ?_
 refine VlS (.int .i64 0) ?_
 refine VlS (.pointer (some ⟨d, 0, none⟩)) ?_
 refine VlS (.int .i64 0) ?_
 refine WL.nil (hK4 _ _ ?_)
 refine wp_seq_k fun K5 hK5 => rgn ?_
 have hnw := (rnew_any 2 w1).mono (R' := fun e w' => e = .returned (.tuple #[ptr w1.heap.size, .int .i64 0]) ∧ Blk w' w1.heap.size 79 (rdA 2 (.slice none 0 0) (.slice none 0 0) (.slice none 0 0)) ∧ Below w1.heap.size w1 w') (fun e w' h => h.elim (fun h => absurd h.1 (by omega)) fun ⟨_, _, h1, h2, h3⟩ => ⟨h1, h2, h3⟩)
 refine WL.callF (by kernel_rfl) 11 _ _ rfl Try.in11 #[.int .i64 2] (by simp [Act.eval]) ?_
 refine (hnw).mono ?_
 rintro e w2 ⟨rfl, hx, hb⟩
 refine ⟨_, rfl, ?_⟩
 clear hnw
 have P2 := Keep.mk (PM.new D1.out hb hx B1.out.size)
 have B2 := Keep.mk (belowT B1.out hb)
 have S2 : Keep (Sm g ⟨2, [], [], []⟩) := ⟨⟨E1.out.1.symm, E1.out.2.1.symm, E1.out.2.2.symm⟩⟩
 have R2 : Keep (RI ⟨2, [], [], []⟩) := ⟨S2.out.ri' D1.out.di List.Pairwise.nil fun x => by simp [RG.hs]⟩
 clear hx hb
 obtain ⟨x, hxe⟩ : ∃ x, Keep (x = w1.heap.size) := ⟨_, ⟨rfl⟩⟩
 rw [← hxe.out] at P2 ⊢
 simp only [Act.put, pqA, pqB, pqC]
 refine VlS (.tuple #[.pointer (some ⟨x, 0, none⟩), .int .i64 0]) ?_
 refine VlS (.pointer (some ⟨x, 0, none⟩)) ?_
 refine VlS (.int .i64 0) ?_
 refine VlS (.pointer (some ⟨x, 0, none⟩)) ?_
 refine VlS (.int .i64 0) ?_
 refine WL.nil (hK5 _ _ ?_)
 refine wp_seq_k fun K6 hK6 => ?_
 refine wp_seq_k fun K7 hK7 => rgn ?_
 refine VlS (.pointer (some ⟨d, 0, none⟩)) ?_
 refine VlS (.bool false) ?_
 refine VlS (.bool false) ?_
 refine VlS (.int .i64 0) ?_
 refine VlS (.bool false) ?_
 refine VlS (.bool false) ?_
 refine WL.nil (hK7 _ _ ?_)
 refine wp_cond_false rfl ?_
 refine wp_skip ?_
 refine hK6 _ _ ?_
 refine wp_seq_k fun K8 hK8 => ?_
 refine wp_seq_k fun K9 hK9 => rgn ?_
 refine VlS (.int .i64 0) ?_
 refine WL.nil (hK9 _ _ ?_)
 refine wp_block ?_
 refine wp_loop (fun ac wr => ∃ (t : Nat) (f : Nat → Value), ac = { tmps := #[.int .i64 (nn : Int), .int .i64 (wd : Int), .int .u8 sd, undef, undef, undef, f 6, .pointer (some ⟨d, 0, none⟩), .int .i64 0, .pointer (some ⟨x, 0, none⟩), .int .i64 0, .int .i64 (t : Int), f 12, f 13, f 14, f 15, f 16, f 17, f 18, f 19, .int .i64 n0, .int .i64 (nn : Int), .int .i64 wd0, .int .i64 (kk : Int), .int .i64 (wd : Int), .tuple #[.pointer (some ⟨d, 0, none⟩), .int .i64 0], .tuple #[.pointer (some ⟨d, 0, none⟩), .int .i64 0], .pointer (some ⟨d, 0, none⟩), .int .i64 0, .tuple #[.pointer (some ⟨x, 0, none⟩), .int .i64 0], .tuple #[.pointer (some ⟨x, 0, none⟩), .int .i64 0], .pointer (some ⟨x, 0, none⟩), .int .i64 0, .pointer (some ⟨d, 0, none⟩), .bool false, .bool false, .int .i64 0, .bool false, .bool false, f 39, f 40, f 41, f 42, f 43, f 44, f 45, f 46, f 47, f 48, f 49, f 50, f 51, f 52, f 53, f 54, f 55, f 56, f 57, f 58, f 59, f 60, f 61, f 62, f 63, f 64, f 65, f 66, f 67, f 68, f 69, f 70, f 71, f 72, f 73, f 74, f 75, f 76, f 77, f 78, f 79, f 80, f 81, f 82, f 83, f 84, f 85, f 86, f 87, f 88, f 89, f 90, f 91, f 92, f 93, f 94, f 95, f 96, f 97, f 98, f 99, f 100, f 101, f 102, f 103, f 104, f 105, f 106, f 107, f 108, f 109, f 110, f 111, f 112, undef, undef, undef, undef, undef, undef], defers := [] } ∧ t ≤ nn ∧ ∃ g hv wv sv R, PM w.heap.size wr d x g hv wv sv R ∧ DI g ∧ RI R ∧ Sm g R ∧ Below w.heap.size w wr) (fun a _ => nn - (intOf (a.tmps.getD 11 undef)).toNat) ⟨0, fun i => [.int .i64 (nn : Int), .int .i64 (wd : Int), .int .u8 sd, undef, undef, undef, .bool false, .pointer (some ⟨d, 0, none⟩), .int .i64 0, .pointer (some ⟨x, 0, none⟩), .int .i64 0, .int .i64 0, undef, undef, undef, undef, undef, undef, undef, undef, .int .i64 n0, .int .i64 (nn : Int), .int .i64 wd0, .int .i64 (kk : Int), .int .i64 (wd : Int), .tuple #[.pointer (some ⟨d, 0, none⟩), .int .i64 0], .tuple #[.pointer (some ⟨d, 0, none⟩), .int .i64 0], .pointer (some ⟨d, 0, none⟩), .int .i64 0, .tuple #[.pointer (some ⟨x, 0, none⟩), .int .i64 0], .tuple #[.pointer (some ⟨x, 0, none⟩), .int .i64 0], .pointer (some ⟨x, 0, none⟩), .int .i64 0, .pointer (some ⟨d, 0, none⟩), .bool false, .bool false, .int .i64 0, .bool false, .bool false, undef, undef, undef, undef, undef, undef, undef, undef, undef, undef, undef, undef, undef, undef, undef, undef, undef, undef, undef, undef, undef, undef, undef, undef, undef, undef, undef, undef, undef, undef, undef, undef, undef, undef, undef, undef, undef, undef, undef, undef, undef, undef, undef, undef, undef, undef, undef, undef, undef, undef, undef, undef, undef, undef, undef, undef, undef, undef, undef, undef, undef, undef, undef, undef, undef, undef, undef, undef, undef, undef, undef, undef, undef, undef, undef, undef, undef, undef, undef, undef].getD i undef, rfl, by omega, g, _, _, _, _, P2.out, D1.out.di, R2.out, S2.out, B2.out⟩ ?_
 rintro ac wr ⟨t, f, rfl, ht, hX⟩
 obtain ⟨g, hv, wv, sv, R, hP, hI, hR, hS, hB⟩ := hX
 have JP := Keep.mk hP
 have JI := Keep.mk hI
 have JR := Keep.mk hR
 have JS := Keep.mk hS
 have JB := Keep.mk hB
 clear hP hI hR hS hB
 by_cases htl : t < nn
 ·have htl' : (t : Int) < (nn : Int) := by omega
  have hwt : IntKind.i64.wrap ((t : Int) + 1) = ((t + 1 : Nat) : Int) := by rw [IntKind.wrap_i64]; omega
  have hwd0 : ¬ (wd : Int) = 0 := by omega
  have hwdn : ¬ wd = 0 := by omega
  obtain ⟨qq, hqq⟩ : ∃ q, IntKind.i64.wrap ((t : Int) / (wd : Int)) = q := ⟨_, rfl⟩
  have hqb : 0 ≤ qq ∧ qq ≤ 5000 := by
   rw [← hqq, IntKind.wrap_i64]
   have h1 : 0 ≤ (t : Int) / (wd : Int) := Int.ediv_nonneg (by omega) (by omega)
   have h2 : (t : Int) / (wd : Int) ≤ (t : Int) := Int.ediv_le_self _ (by omega)
   omega
  have hwq : IntKind.i64.wrap (1 + qq) = 1 + qq := by rw [IntKind.wrap_i64]; omega
  obtain ⟨rm, hrm⟩ : ∃ r, (t : Int).tmod (wd : Int) = r := ⟨_, rfl⟩
  have hrb : 0 ≤ rm ∧ rm < (wd : Int) := by rw [← hrm]; exact ⟨Int.tmod_nonneg _ (by omega), Int.tmod_lt_of_pos _ (by omega)⟩
  have hwr : IntKind.i64.wrap rm = rm := by rw [IntKind.wrap_i64]; omega
  obtain ⟨c0, hc0⟩ : ∃ c, c = (t : Int) - rm - (wd : Int) := ⟨_, rfl⟩
  have hw56 : IntKind.i64.wrap ((t : Int) - rm) = c0 + (wd : Int) := by rw [IntKind.wrap_i64]; omega
  have hw58 : IntKind.i64.wrap c0 = c0 := by rw [IntKind.wrap_i64]; omega
  have Hc0 : Keep (-10 ≤ c0 ∧ c0 ≤ 5000) := ⟨by omega⟩
  clear hc0
  obtain ⟨vz, hvz⟩ : ∃ a : Array Value, Keep (a = vtx (fun _ => 0) 0 (.slice none 0 0)) := ⟨_, ⟨rfl⟩⟩
  refine wp_seq_k fun K10 hK10 => ?_
  refine wp_seq_k fun K11 hK11 => rgn ?_
  refine VlS (.int .i64 (t : Int)) ?_
  refine VlS (.int .i64 (nn : Int)) ?_
  refine VlS (.bool true) ?_
  refine WL.nil (hK11 _ _ ?_)
  refine wp_cond_true rfl ?_
  refine wp_skip ?_
  refine hK10 _ _ ?_
  refine wp_seq_k fun K12 hK12 => ?_
  refine wp_block ?_
  refine wp_seq_k fun K13 hK13 => ?_
  have BD0 : Keep (Below wr.heap.size wr wr.drew) := ⟨(Below.refl _ _).drew⟩
  refine wp_region_held_drew (S := fun _ : World => True) (by kernel_rfl) trivial (fun hHeld => ?_)
  refine tkS (i := 0) (oi := ⟨some 44, Op.move (Operand.tmp 2), 5, _, _, none⟩) (v := .int .u8 sd) rfl (Or.inl ⟨by rfl, fun w hS => by clear hS; go_simp⟩) hHeld ?_
  refine tkS (i := 1) (oi := ⟨some 45, Op.move (Operand.tmp 11), 3, _, _, none⟩) (v := .int .i64 (t : Int)) rfl (Or.inl ⟨by rfl, fun w hS => by clear hS; go_simp⟩) hHeld ?_
  refine tkS (i := 3) (oi := ⟨some 47, Op.move (Operand.tmp 11), 3, _, _, none⟩) (v := .int .i64 (t : Int)) rfl (Or.inl ⟨by rfl, fun w hS => by clear hS; go_simp⟩) hHeld ?_
  refine tkS (i := 4) (oi := ⟨some 48, Op.move (Operand.tmp 1), 3, _, _, none⟩) (v := .int .i64 (wd : Int)) rfl (Or.inl ⟨by rfl, fun w hS => by clear hS; go_simp⟩) hHeld ?_
  refine tkS (i := 5) (oi := ⟨some 49, Op.binOp BinOp.quo 3 (Operand.tmp 47) (Operand.tmp 48) 3, 3, _, _, none⟩) (v := .int .i64 qq) rfl (Or.inl ⟨by rfl, fun w hS => by clear hS; go_simp⟩) hHeld ?_
  refine tkS (i := 6) (oi := ⟨some 50, Op.binOp BinOp.add 3 (Operand.const (Value.int IntKind.i64 1)) (Operand.tmp 49) 3, 3, _, _, none⟩) (v := .int .i64 (1 + qq)) rfl (Or.inl ⟨by rfl, fun w hS => by clear hS; go_simp⟩) hHeld ?_
  refine wpAnyH_ready (rs := [2, 8]) (by kernel_rfl) (by simp) ?_
  refine AllReadyH.cons (o := ⟨some 46, Op.call { callee := Callee.value (Operand.func 15), args := #[Operand.tmp 44, Operand.tmp 45], argTypes := #[5, 3] }, 36, _, _, none⟩) rfl (fun K hK => ?_) (AllReadyH.cons (o := ⟨some 12, Op.alloc 39, 0, _, _, none⟩) rfl (fun K hK => ?_) AllReadyH.nil)
  all_goals rw [if_pos (by rfl)]
  ·refine wp_callF 15 _ _ rfl Try.in15 #[.int .u8 sd, .int .i64 (t : Int)] (by simp [Act.eval]) (fun u wx => ∃ xid : Hs, u = .agg (bytesA 32 xid.f) ∧ Below wr.drew.heap.size wr.drew wx) ((ident_any sd (t : Int) wr.drew Hsd.out).mono fun e w' ⟨z, h1, h2⟩ => ⟨_, h1, z, rfl, h2⟩) ?_
   rintro _ wa1 ⟨xid, rfl, hb_⟩
   have BA1 := Keep.mk (belowT BD0.out hb_)
   obtain ⟨v0, hv0⟩ : ∃ a : Array Value, Keep (a = vtx xid.f (1 + qq) (.slice none 0 0)) := ⟨_, ⟨rfl⟩⟩
   refine hK _ _ trivial fun hQ1 => ?_
   clear hK hb_
   simp only [Act.put, pqA, pqB, pqC]
   refine tkS (i := 7) (oi := ⟨some 51, Op.build 39 #[(0, Operand.tmp 46), (1, Operand.tmp 50)], 39, _, _, none⟩) (v := .agg v0) rfl (by rw [hv0.out]; exact yieldsIf_bldV (by rfl) (.tmp 46) (.tmp 50) rfl _ _ rfl rfl) hQ1 ?_
   refine wpAnyH_ready (rs := [8]) (by kernel_rfl) (by simp) ?_
   refine AllReadyH.cons (o := ⟨some 12, Op.alloc 39, 0, _, _, none⟩) rfl (fun K hK => ?_) AllReadyH.nil
   rw [if_pos (by rfl)]
   refine wp_newA 39 rfl vz (by rw [hvz.out]; exact Try.new39) ?_
   have HZ := Keep.mk (Blk.new wa1 39 vz)
   have BA2 := Keep.mk (belowT BA1.out (below_new wa1 (.cells vz 39)))
   have LZ : Keep (wr.heap.size ≤ wa1.heap.size) := ⟨BA1.out.size⟩
   generalize wa1.alloc (.cells vz 39) = wa2 at *
   generalize wa1.heap.size = gz at *
   refine hK _ _ trivial fun hQ2 => ?_
   clear hK
   simp only [Act.put, pqA, pqB, pqC]
   refine wpAnyH_ready (rs := [9]) (by kernel_rfl) (by simp) ?_
   refine AllReadyH.cons (o := ⟨none, Op.store 39 (Operand.tmp 12) (Operand.tmp 51), 0, _, _, none⟩) rfl (fun K hK => ?_) AllReadyH.nil
   rw [if_pos (by rfl)]
   refine wp_store_row 39 (.tmp 12) (.tmp 51) rfl gz v0 rfl rfl 39 vz HZ.out (by rw [hv0.out]; exact Try.info39s _ _ _) (by rw [hv0.out, hvz.out, vtx_size, vtx_size]) (by rw [hv0.out]; exact vtx_one _ _ _ (slice_one _ _ _)) ?_
   have HV4 := Keep.mk (HZ.out.setRow v0)
   have B4 := Keep.mk (below_setRow BA2.out LZ.out v0)
   generalize wa2.setRow gz v0 = w4 at *
   refine hK _ _ trivial fun hH9 => ?_
   clear hK hH9 HZ
   simp only [Act.put, pqA, pqB, pqC]
   refine wpAnyH_done (by kernel_rfl) ?_ _
   refine hK13 _ _ ?_
   refine wp_seq_k fun K14 hK14 => ?_
   refine wp_seq_k fun K15 hK15 => rgn ?_
   refine VlS (.int .i64 (t : Int)) ?_
   refine VlS (.int .i64 (t : Int)) ?_
   refine VlS (.int .i64 (wd : Int)) ?_
   refine VlS (.int .i64 rm) ?_
   refine VlS (.int .i64 (c0 + (wd : Int))) ?_
   refine VlS (.int .i64 (wd : Int)) ?_
   refine VlS (.int .i64 (c0 + ((0 : Nat) : Int))) ?_
   refine VlS (.int .i64 (c0 + ((0 : Nat) : Int))) ?_
   refine WL.nil (hK15 _ _ ?_)
   refine wp_block ?_
   refine wp_loop (fun ac ws => ∃ (s : Nat) (fb : Nat → Value), ac = { tmps := #[.int .i64 (nn : Int), .int .i64 (wd : Int), .int .u8 sd, undef, undef, undef, f 6, .pointer (some ⟨d, 0, none⟩), .int .i64 0, .pointer (some ⟨x, 0, none⟩), .int .i64 0, .int .i64 (t : Int), .pointer (some ⟨gz, 0, none⟩), .int .i64 (c0 + (s : Int)), f 14, f 15, f 16, f 17, f 18, f 19, .int .i64 n0, .int .i64 (nn : Int), .int .i64 wd0, .int .i64 (kk : Int), .int .i64 (wd : Int), .tuple #[.pointer (some ⟨d, 0, none⟩), .int .i64 0], .tuple #[.pointer (some ⟨d, 0, none⟩), .int .i64 0], .pointer (some ⟨d, 0, none⟩), .int .i64 0, .tuple #[.pointer (some ⟨x, 0, none⟩), .int .i64 0], .tuple #[.pointer (some ⟨x, 0, none⟩), .int .i64 0], .pointer (some ⟨x, 0, none⟩), .int .i64 0, .pointer (some ⟨d, 0, none⟩), .bool false, .bool false, .int .i64 0, .bool false, .bool false, .int .i64 (t : Int), .int .i64 (nn : Int), .bool true, f 42, f 43, .int .u8 sd, .int .i64 (t : Int), .agg (bytesA 32 xid.f), .int .i64 (t : Int), .int .i64 (wd : Int), .int .i64 qq, .int .i64 (1 + qq), .agg v0, .int .i64 (t : Int), .int .i64 (t : Int), .int .i64 (wd : Int), .int .i64 rm, .int .i64 (c0 + (wd : Int)), .int .i64 (wd : Int), .int .i64 (c0 + ((0 : Nat) : Int)), fb 59, fb 60, fb 61, fb 62, fb 63, fb 64, fb 65, fb 66, fb 67, fb 68, fb 69, fb 70, fb 71, fb 72, fb 73, fb 74, fb 75, fb 76, fb 77, fb 78, fb 79, fb 80, f 81, f 82, f 83, f 84, f 85, f 86, f 87, f 88, f 89, f 90, f 91, f 92, f 93, f 94, f 95, f 96, f 97, f 98, f 99, f 100, f 101, f 102, f 103, f 104, f 105, f 106, f 107, f 108, f 109, f 110, f 111, f 112, undef, undef, undef, undef, undef, undef], defers := [] } ∧ s ≤ wd ∧ ∃ ps pa pc, Blk ws gz 39 (vtx xid.f (1 + qq) (.slice pa ps.length pc)) ∧ OwnH ws (.slice pa ps.length pc) ps ∧ ps.length ≤ s ∧ (∀ k, (Value.slice pa ps.length pc).ownBlock = some k → wr.heap.size ≤ k ∧ k ≠ gz) ∧ Below wr.heap.size wr ws) (fun a _ => wd - (intOf (a.tmps.getD 13 undef) - c0).toNat) ⟨0, fun i => [.int .i64 (nn : Int), .int .i64 (wd : Int), .int .u8 sd, undef, undef, undef, f 6, .pointer (some ⟨d, 0, none⟩), .int .i64 0, .pointer (some ⟨x, 0, none⟩), .int .i64 0, .int .i64 (t : Int), .pointer (some ⟨gz, 0, none⟩), .int .i64 (c0 + ((0 : Nat) : Int)), f 14, f 15, f 16, f 17, f 18, f 19, .int .i64 n0, .int .i64 (nn : Int), .int .i64 wd0, .int .i64 (kk : Int), .int .i64 (wd : Int), .tuple #[.pointer (some ⟨d, 0, none⟩), .int .i64 0], .tuple #[.pointer (some ⟨d, 0, none⟩), .int .i64 0], .pointer (some ⟨d, 0, none⟩), .int .i64 0, .tuple #[.pointer (some ⟨x, 0, none⟩), .int .i64 0], .tuple #[.pointer (some ⟨x, 0, none⟩), .int .i64 0], .pointer (some ⟨x, 0, none⟩), .int .i64 0, .pointer (some ⟨d, 0, none⟩), .bool false, .bool false, .int .i64 0, .bool false, .bool false, .int .i64 (t : Int), .int .i64 (nn : Int), .bool true, f 42, f 43, .int .u8 sd, .int .i64 (t : Int), .agg (bytesA 32 xid.f), .int .i64 (t : Int), .int .i64 (wd : Int), .int .i64 qq, .int .i64 (1 + qq), .agg v0, .int .i64 (t : Int), .int .i64 (t : Int), .int .i64 (wd : Int), .int .i64 rm, .int .i64 (c0 + (wd : Int)), .int .i64 (wd : Int), .int .i64 (c0 + ((0 : Nat) : Int)), f 59, f 60, f 61, f 62, f 63, f 64, f 65, f 66, f 67, f 68, f 69, f 70, f 71, f 72, f 73, f 74, f 75, f 76, f 77, f 78, f 79, f 80, f 81, f 82, f 83, f 84, f 85, f 86, f 87, f 88, f 89, f 90, f 91, f 92, f 93, f 94, f 95, f 96, f 97, f 98, f 99, f 100, f 101, f 102, f 103, f 104, f 105, f 106, f 107, f 108, f 109, f 110, f 111, f 112, undef, undef, undef, undef, undef, undef].getD i undef, rfl, by omega, [], none, 0, (by have h := HV4.out; rw [hv0.out] at h; exact h), ownH_nil _, by simp, (fun k hk => by cases hk), B4.out⟩ ?_
   rintro ac ws ⟨s, fb, rfl, hs, hY⟩
   obtain ⟨ps, pa, pc, hV, hO, hl, hN, hB⟩ := hY
   have KV := Keep.mk hV
   have KO := Keep.mk hO
   have KN := Keep.mk hN
   have KB := Keep.mk hB
   clear hV hO hN hB
   by_cases hgo : wd ≤ t ∧ s < wd
   ·obtain ⟨hg1, hg2⟩ := hgo
    have hg1' : (wd : Int) ≤ (t : Int) := by omega
    have hg2' : c0 + (s : Int) < c0 + (wd : Int) := by omega
    have hws : IntKind.i64.wrap (c0 + (s : Int) + 1) = c0 + ((s + 1 : Nat) : Int) := by rw [IntKind.wrap_i64]; have := Hc0.out; omega
    refine wp_seq_k fun K16 hK16 => ?_
    refine wp_seq_k fun K17 hK17 => rgn ?_
    refine VlS (.int .i64 (t : Int)) ?_
    refine VlS (.int .i64 (wd : Int)) ?_
    refine VlS (.bool true) ?_
    refine VlS (.bool true) ?_
    refine VlS (.int .i64 (c0 + (s : Int))) ?_
    refine VlS (.int .i64 (t : Int)) ?_
    refine VlS (.int .i64 (t : Int)) ?_
    refine VlS (.int .i64 (wd : Int)) ?_
    refine VlS (.int .i64 rm) ?_
    refine VlS (.int .i64 (c0 + (wd : Int))) ?_
    refine VlS (.bool true) ?_
    refine VlS (.bool true) ?_
    refine WL.nil (hK17 _ _ ?_)
    refine wp_cond_true rfl ?_
    refine wp_skip ?_
    refine hK16 _ _ ?_
    refine wp_seq_k fun K18 hK18 => ?_
    refine wp_block ?_
    have BE0 : Keep (Below ws.heap.size ws ws.drew) := ⟨(Below.refl _ _).drew⟩
    refine wp_region_held_drew (S := fun _ : World => True) (by kernel_rfl) trivial (fun hHeld => ?_)
    refine tkS (i := 0) (oi := ⟨some 73, Op.fieldAddr 39 (Operand.tmp 12) 2, 0, _, _, none⟩) (v := .pointer (some ⟨gz, 33, none⟩)) rfl (Or.inl ⟨by rfl, fun w hS => by clear hS; go_simp⟩) hHeld ?_
    refine tkS (i := 2) (oi := ⟨some 75, Op.move (Operand.tmp 2), 5, _, _, none⟩) (v := .int .u8 sd) rfl (Or.inl ⟨by rfl, fun w hS => by clear hS; go_simp⟩) hHeld ?_
    refine tkS (i := 3) (oi := ⟨some 76, Op.move (Operand.tmp 13), 3, _, _, none⟩) (v := .int .i64 (c0 + (s : Int))) rfl (Or.inl ⟨by rfl, fun w hS => by clear hS; go_simp⟩) hHeld ?_
    refine wpAnyH_ready (rs := [1, 4]) (by kernel_rfl) (by simp) ?_
    refine AllReadyH.cons (o := ⟨some 74, Op.load 37 (Operand.tmp 73), 37, _, _, none⟩) rfl (fun K hK => ?_) (AllReadyH.cons (o := ⟨some 77, Op.call { callee := Callee.value (Operand.func 15), args := #[Operand.tmp 75, Operand.tmp 76], argTypes := #[5, 3] }, 36, _, _, none⟩) rfl (fun K hK => ?_) AllReadyH.nil)
    all_goals rw [if_pos (by rfl)]
    ·have c_o : ws.drew.cell? ⟨gz, 33, none⟩ = some (.slice pa ps.length pc) := (KV.out.below BE0.out KV.out.lt).c 33 (vtx_ps _ _ _)
     refine wp_val (.slice pa ps.length pc) (by go_simp) ?_
     clear c_o
     refine hK _ _ trivial fun hR1 => ?_
     clear hK
     simp only [Act.put, pqA, pqB, pqC]
     refine wpAnyH_ready (rs := [4]) (by kernel_rfl) (by simp) ?_
     refine AllReadyH.cons (o := ⟨some 77, Op.call { callee := Callee.value (Operand.func 15), args := #[Operand.tmp 75, Operand.tmp 76], argTypes := #[5, 3] }, 36, _, _, none⟩) rfl (fun K hK => ?_) AllReadyH.nil
     rw [if_pos (by rfl)]
     refine wp_callF 15 _ _ rfl Try.in15 #[.int .u8 sd, .int .i64 (c0 + (s : Int))] (by simp [Act.eval]) (fun u wx => ∃ xk : Hs, u = .agg (bytesA 32 xk.f) ∧ Below ws.drew.heap.size ws.drew wx) ((ident_any sd (c0 + (s : Int)) ws.drew Hsd.out).mono fun e w' ⟨z, h1, h2⟩ => ⟨_, h1, z, rfl, h2⟩) ?_
     rintro _ wb2 ⟨xk, rfl, hb_⟩
     have BE2 := Keep.mk (belowT BE0.out hb_)
     refine hK _ _ trivial fun hR2 => ?_
     clear hK hb_
     simp only [Act.put, pqA, pqB, pqC]
     refine wpAnyH_ready (rs := [5]) (by kernel_rfl) (by simp) ?_
     refine AllReadyH.cons (o := ⟨some 78, Op.buildSlice 37 1 #[(0, Operand.tmp 77)], 37, _, _, none⟩) rfl (fun K hK => ?_) AllReadyH.nil
     rw [if_pos (by rfl)]
     refine wp_bs 37 1 _ rfl #[(0, .agg (bytesA 32 xk.f))] (by simp [Act.eval]) _ _ (bsH xk _) ?_
     have HGx := Keep.mk (Blk.new wb2 36 (bytesA 32 xk.f))
     have BE3 := Keep.mk (belowT BE2.out (below_new wb2 (.cells (bytesA 32 xk.f) 36)))
     generalize wb2.alloc (.cells (bytesA 32 xk.f) 36) = wb3 at *
     generalize wb2.heap.size = gx at *
     refine hK _ _ trivial fun hR3 => ?_
     clear hK
     simp only [Act.put, pqA, pqB, pqC]
     refine wpAnyH_ready (rs := [6]) (by kernel_rfl) (by simp) ?_
     refine AllReadyH.cons (o := ⟨some 79, Op.call { callee := Callee.builtin Builtin.append, args := #[Operand.tmp 74, Operand.tmp 78], argTypes := #[37, 37] }, 37, _, _, none⟩) rfl (fun K hK => ?_) AllReadyH.nil
     rw [if_pos (by rfl)]
     obtain ⟨vA, wA, hr, h1, h2, h3⟩ := run_appH wb3 37 (.slice pa ps.length pc) ps (KO.out.below BE3.out) gx xk HGx.out (by omega)
     refine Go.Lib.wp_append_run wb3 (.tmp 74) (.tmp 78) 37 37 rfl _ _ rfl rfl vA wA hr ?_
     obtain ⟨ja, jc, hj⟩ := h1.sl
     obtain ⟨jn, hjn⟩ : ∃ n, Keep (n = (ps ++ [xk]).length) := ⟨_, ⟨rfl⟩⟩
     rw [← hjn.out] at hj
     subst hj
     have HO5 := Keep.mk h1
     have HG5 := Keep.mk h2
     have HM5 := Keep.mk h3
     clear h1 h2 h3 hr
     have HV5 := Keep.mk (HG5.out.blk (KV.out.below BE3.out KV.out.lt) fun e => (KN.out gz e).2 rfl)
     refine hK _ _ trivial fun hH6 => ?_
     clear hK
     simp only [Act.put, pqA, pqB, pqC]
     refine tkS (i := 7) (oi := ⟨some 80, Op.fieldAddr 39 (Operand.tmp 12) 2, 0, _, _, none⟩) (v := .pointer (some ⟨gz, 33, none⟩)) rfl (Or.inl ⟨by rfl, fun w hS => by clear hS; go_simp⟩) hH6 ?_
     refine wpAnyH_ready (rs := [8]) (by kernel_rfl) (by simp) ?_
     refine AllReadyH.cons (o := ⟨none, Op.store 37 (Operand.tmp 80) (Operand.tmp 79), 0, _, _, none⟩) rfl (fun K hK => ?_) AllReadyH.nil
     rw [if_pos (by rfl)]
     have f_o := HV5.out.frozen 33
     have c_o : wA.cell? ⟨gz, 33, none⟩ = some (.slice pa ps.length pc) := HV5.out.c 33 (vtx_ps _ _ _)
     refine wp_cellS (wA.setCell ⟨gz, 33, none⟩ (.slice ja jn jc)) (by go_simp) ?_
     clear f_o c_o
     have hg6 : Grown wA (wA.setCell ⟨gz, 33, none⟩ (.slice ja jn jc)) fun k => k = gz := Grown.setCell _ _ _ _ fun _ => rfl
     have NN : Keep (∀ k, (Value.slice ja jn jc).ownBlock = some k → wr.heap.size ≤ k ∧ k ≠ gz) := ⟨fun k hk => HM5.out.elim (fun e => KN.out k (e ▸ hk)) fun ⟨j, e, hj⟩ => by rw [hk] at e; have e := Option.some.inj e; subst e; exact ⟨Nat.le_trans KB.out.size (Nat.le_trans BE3.out.size hj), fun e => by have := KV.out.lt; have := BE3.out.size; omega⟩⟩
     have NV : Keep (Blk (wA.setCell ⟨gz, 33, none⟩ (.slice ja jn jc)) gz 39 (vtx xid.f (1 + qq) (.slice ja jn jc))) := ⟨by have h := HV5.out.set 33 (.slice ja jn jc); rw [vtx_set] at h; exact h⟩
     have NO := Keep.mk (HO5.out.grown hg6 fun k hk e => (NN.out k hk).2 e)
     have NB : Keep (Below wr.heap.size wr (wA.setCell ⟨gz, 33, none⟩ (.slice ja jn jc))) := ⟨((KB.out.trans (BE3.out.mono KB.out.size)).trans (HG5.out.to_below (fun k hk e => by have := (KN.out k e).1; omega) (Nat.le_trans KB.out.size BE3.out.size))).trans (hg6.to_below (fun k hk e => by have := LZ.out; omega) (Nat.le_trans (Nat.le_trans KB.out.size BE3.out.size) HG5.out.size))⟩
     clear hg6
     generalize wA.setCell ⟨gz, 33, none⟩ (.slice ja jn jc) = w6 at *
     refine hK _ _ trivial fun hH7 => ?_
     clear hK hH6 hH7 HV5 HO5 HG5 HM5
     simp only [Act.put, pqA, pqB, pqC]
     refine wpAnyH_done (by kernel_rfl) ?_ _
     refine hK18 _ _ ?_
     refine rgn ?_
     refine VlS (.int .i64 (c0 + (s : Int))) ?_
     refine VlS (.int .i64 (c0 + ((s + 1 : Nat) : Int))) ?_
     refine VlS (.int .i64 (c0 + ((s + 1 : Nat) : Int))) ?_
     refine WL.nil ?_
     refine ⟨⟨s + 1, fun i => [.int .i64 (nn : Int), .int .i64 (wd : Int), .int .u8 sd, undef, undef, undef, f 6, .pointer (some ⟨d, 0, none⟩), .int .i64 0, .pointer (some ⟨x, 0, none⟩), .int .i64 0, .int .i64 (t : Int), .pointer (some ⟨gz, 0, none⟩), .int .i64 (c0 + ((s + 1 : Nat) : Int)), f 14, f 15, f 16, f 17, f 18, f 19, .int .i64 n0, .int .i64 (nn : Int), .int .i64 wd0, .int .i64 (kk : Int), .int .i64 (wd : Int), .tuple #[.pointer (some ⟨d, 0, none⟩), .int .i64 0], .tuple #[.pointer (some ⟨d, 0, none⟩), .int .i64 0], .pointer (some ⟨d, 0, none⟩), .int .i64 0, .tuple #[.pointer (some ⟨x, 0, none⟩), .int .i64 0], .tuple #[.pointer (some ⟨x, 0, none⟩), .int .i64 0], .pointer (some ⟨x, 0, none⟩), .int .i64 0, .pointer (some ⟨d, 0, none⟩), .bool false, .bool false, .int .i64 0, .bool false, .bool false, .int .i64 (t : Int), .int .i64 (nn : Int), .bool true, f 42, f 43, .int .u8 sd, .int .i64 (t : Int), .agg (bytesA 32 xid.f), .int .i64 (t : Int), .int .i64 (wd : Int), .int .i64 qq, .int .i64 (1 + qq), .agg v0, .int .i64 (t : Int), .int .i64 (t : Int), .int .i64 (wd : Int), .int .i64 rm, .int .i64 (c0 + (wd : Int)), .int .i64 (wd : Int), .int .i64 (c0 + ((0 : Nat) : Int)), .int .i64 (t : Int), .int .i64 (wd : Int), .bool true, .bool true, .int .i64 (c0 + (s : Int)), .int .i64 (t : Int), .int .i64 (t : Int), .int .i64 (wd : Int), .int .i64 rm, .int .i64 (c0 + (wd : Int)), .bool true, .bool true, .int .i64 (c0 + (s : Int)), .int .i64 (c0 + ((s + 1 : Nat) : Int)), .pointer (some ⟨gz, 33, none⟩), .slice pa ps.length pc, .int .u8 sd, .int .i64 (c0 + (s : Int)), .agg (bytesA 32 xk.f), .slice (some ⟨gx, 0, none⟩) 1 1, .slice ja jn jc, .pointer (some ⟨gz, 33, none⟩), f 81, f 82, f 83, f 84, f 85, f 86, f 87, f 88, f 89, f 90, f 91, f 92, f 93, f 94, f 95, f 96, f 97, f 98, f 99, f 100, f 101, f 102, f 103, f 104, f 105, f 106, f 107, f 108, f 109, f 110, f 111, f 112, undef, undef, undef, undef, undef, undef].getD i undef, rfl, by omega, ps ++ [xk], ja, jc, ?_, ?_, by rw [List.length_append]; simp; omega, ?_, ?_⟩, ?_⟩
     ·rw [← hjn.out]; exact NV.out
     ·rw [← hjn.out]; exact NO.out
     ·rw [← hjn.out]; exact NN.out
     ·exact NB.out
     ·simp only [intOf]; show wd - (c0 + ((s + 1 : Nat) : Int) - c0).toNat < wd - (c0 + (s : Int) - c0).toNat; omega
    ·refine wp_callF 15 _ _ rfl Try.in15 #[.int .u8 sd, .int .i64 (c0 + (s : Int))] (by simp [Act.eval]) (fun u wx => ∃ xk : Hs, u = .agg (bytesA 32 xk.f) ∧ Below ws.drew.heap.size ws.drew wx) ((ident_any sd (c0 + (s : Int)) ws.drew Hsd.out).mono fun e w' ⟨z, h1, h2⟩ => ⟨_, h1, z, rfl, h2⟩) ?_
     rintro _ wb1 ⟨xk, rfl, hb_⟩
     have BE1 := Keep.mk (belowT BE0.out hb_)
     refine hK _ _ trivial fun hR1 => ?_
     clear hK hb_
     simp only [Act.put, pqA, pqB, pqC]
     refine wpAnyH_ready (rs := [1, 5]) (by kernel_rfl) (by simp) ?_
     refine AllReadyH.cons (o := ⟨some 74, Op.load 37 (Operand.tmp 73), 37, _, _, none⟩) rfl (fun K hK => ?_) (AllReadyH.cons (o := ⟨some 78, Op.buildSlice 37 1 #[(0, Operand.tmp 77)], 37, _, _, none⟩) rfl (fun K hK => ?_) AllReadyH.nil)
     all_goals rw [if_pos (by rfl)]
     ·have c_o : wb1.cell? ⟨gz, 33, none⟩ = some (.slice pa ps.length pc) := (KV.out.below BE1.out KV.out.lt).c 33 (vtx_ps _ _ _)
      refine wp_val (.slice pa ps.length pc) (by go_simp) ?_
      clear c_o
      refine hK _ _ trivial fun hR2 => ?_
      clear hK
      simp only [Act.put, pqA, pqB, pqC]
      refine wpAnyH_ready (rs := [5]) (by kernel_rfl) (by simp) ?_
      refine AllReadyH.cons (o := ⟨some 78, Op.buildSlice 37 1 #[(0, Operand.tmp 77)], 37, _, _, none⟩) rfl (fun K hK => ?_) AllReadyH.nil
      rw [if_pos (by rfl)]
      refine wp_bs 37 1 _ rfl #[(0, .agg (bytesA 32 xk.f))] (by simp [Act.eval]) _ _ (bsH xk _) ?_
      have HGx := Keep.mk (Blk.new wb1 36 (bytesA 32 xk.f))
      have BE3 := Keep.mk (belowT BE1.out (below_new wb1 (.cells (bytesA 32 xk.f) 36)))
      generalize wb1.alloc (.cells (bytesA 32 xk.f) 36) = wb3 at *
      generalize wb1.heap.size = gx at *
      refine hK _ _ trivial fun hR3 => ?_
      clear hK
      simp only [Act.put, pqA, pqB, pqC]
      refine wpAnyH_ready (rs := [6]) (by kernel_rfl) (by simp) ?_
      refine AllReadyH.cons (o := ⟨some 79, Op.call { callee := Callee.builtin Builtin.append, args := #[Operand.tmp 74, Operand.tmp 78], argTypes := #[37, 37] }, 37, _, _, none⟩) rfl (fun K hK => ?_) AllReadyH.nil
      rw [if_pos (by rfl)]
      obtain ⟨vA, wA, hr, h1, h2, h3⟩ := run_appH wb3 37 (.slice pa ps.length pc) ps (KO.out.below BE3.out) gx xk HGx.out (by omega)
      refine Go.Lib.wp_append_run wb3 (.tmp 74) (.tmp 78) 37 37 rfl _ _ rfl rfl vA wA hr ?_
      obtain ⟨ja, jc, hj⟩ := h1.sl
      obtain ⟨jn, hjn⟩ : ∃ n, Keep (n = (ps ++ [xk]).length) := ⟨_, ⟨rfl⟩⟩
      rw [← hjn.out] at hj
      subst hj
      have HO5 := Keep.mk h1
      have HG5 := Keep.mk h2
      have HM5 := Keep.mk h3
      clear h1 h2 h3 hr
      have HV5 := Keep.mk (HG5.out.blk (KV.out.below BE3.out KV.out.lt) fun e => (KN.out gz e).2 rfl)
      refine hK _ _ trivial fun hH6 => ?_
      clear hK
      simp only [Act.put, pqA, pqB, pqC]
      refine tkS (i := 7) (oi := ⟨some 80, Op.fieldAddr 39 (Operand.tmp 12) 2, 0, _, _, none⟩) (v := .pointer (some ⟨gz, 33, none⟩)) rfl (Or.inl ⟨by rfl, fun w hS => by clear hS; go_simp⟩) hH6 ?_
      refine wpAnyH_ready (rs := [8]) (by kernel_rfl) (by simp) ?_
      refine AllReadyH.cons (o := ⟨none, Op.store 37 (Operand.tmp 80) (Operand.tmp 79), 0, _, _, none⟩) rfl (fun K hK => ?_) AllReadyH.nil
      rw [if_pos (by rfl)]
      have f_o := HV5.out.frozen 33
      have c_o : wA.cell? ⟨gz, 33, none⟩ = some (.slice pa ps.length pc) := HV5.out.c 33 (vtx_ps _ _ _)
      refine wp_cellS (wA.setCell ⟨gz, 33, none⟩ (.slice ja jn jc)) (by go_simp) ?_
      clear f_o c_o
      have hg6 : Grown wA (wA.setCell ⟨gz, 33, none⟩ (.slice ja jn jc)) fun k => k = gz := Grown.setCell _ _ _ _ fun _ => rfl
      have NN : Keep (∀ k, (Value.slice ja jn jc).ownBlock = some k → wr.heap.size ≤ k ∧ k ≠ gz) := ⟨fun k hk => HM5.out.elim (fun e => KN.out k (e ▸ hk)) fun ⟨j, e, hj⟩ => by rw [hk] at e; have e := Option.some.inj e; subst e; exact ⟨Nat.le_trans KB.out.size (Nat.le_trans BE3.out.size hj), fun e => by have := KV.out.lt; have := BE3.out.size; omega⟩⟩
      have NV : Keep (Blk (wA.setCell ⟨gz, 33, none⟩ (.slice ja jn jc)) gz 39 (vtx xid.f (1 + qq) (.slice ja jn jc))) := ⟨by have h := HV5.out.set 33 (.slice ja jn jc); rw [vtx_set] at h; exact h⟩
      have NO := Keep.mk (HO5.out.grown hg6 fun k hk e => (NN.out k hk).2 e)
      have NB : Keep (Below wr.heap.size wr (wA.setCell ⟨gz, 33, none⟩ (.slice ja jn jc))) := ⟨((KB.out.trans (BE3.out.mono KB.out.size)).trans (HG5.out.to_below (fun k hk e => by have := (KN.out k e).1; omega) (Nat.le_trans KB.out.size BE3.out.size))).trans (hg6.to_below (fun k hk e => by have := LZ.out; omega) (Nat.le_trans (Nat.le_trans KB.out.size BE3.out.size) HG5.out.size))⟩
      clear hg6
      generalize wA.setCell ⟨gz, 33, none⟩ (.slice ja jn jc) = w6 at *
      refine hK _ _ trivial fun hH7 => ?_
      clear hK hH6 hH7 HV5 HO5 HG5 HM5
      simp only [Act.put, pqA, pqB, pqC]
      refine wpAnyH_done (by kernel_rfl) ?_ _
      refine hK18 _ _ ?_
      refine rgn ?_
      refine VlS (.int .i64 (c0 + (s : Int))) ?_
      refine VlS (.int .i64 (c0 + ((s + 1 : Nat) : Int))) ?_
      refine VlS (.int .i64 (c0 + ((s + 1 : Nat) : Int))) ?_
      refine WL.nil ?_
      refine ⟨⟨s + 1, fun i => [.int .i64 (nn : Int), .int .i64 (wd : Int), .int .u8 sd, undef, undef, undef, f 6, .pointer (some ⟨d, 0, none⟩), .int .i64 0, .pointer (some ⟨x, 0, none⟩), .int .i64 0, .int .i64 (t : Int), .pointer (some ⟨gz, 0, none⟩), .int .i64 (c0 + ((s + 1 : Nat) : Int)), f 14, f 15, f 16, f 17, f 18, f 19, .int .i64 n0, .int .i64 (nn : Int), .int .i64 wd0, .int .i64 (kk : Int), .int .i64 (wd : Int), .tuple #[.pointer (some ⟨d, 0, none⟩), .int .i64 0], .tuple #[.pointer (some ⟨d, 0, none⟩), .int .i64 0], .pointer (some ⟨d, 0, none⟩), .int .i64 0, .tuple #[.pointer (some ⟨x, 0, none⟩), .int .i64 0], .tuple #[.pointer (some ⟨x, 0, none⟩), .int .i64 0], .pointer (some ⟨x, 0, none⟩), .int .i64 0, .pointer (some ⟨d, 0, none⟩), .bool false, .bool false, .int .i64 0, .bool false, .bool false, .int .i64 (t : Int), .int .i64 (nn : Int), .bool true, f 42, f 43, .int .u8 sd, .int .i64 (t : Int), .agg (bytesA 32 xid.f), .int .i64 (t : Int), .int .i64 (wd : Int), .int .i64 qq, .int .i64 (1 + qq), .agg v0, .int .i64 (t : Int), .int .i64 (t : Int), .int .i64 (wd : Int), .int .i64 rm, .int .i64 (c0 + (wd : Int)), .int .i64 (wd : Int), .int .i64 (c0 + ((0 : Nat) : Int)), .int .i64 (t : Int), .int .i64 (wd : Int), .bool true, .bool true, .int .i64 (c0 + (s : Int)), .int .i64 (t : Int), .int .i64 (t : Int), .int .i64 (wd : Int), .int .i64 rm, .int .i64 (c0 + (wd : Int)), .bool true, .bool true, .int .i64 (c0 + (s : Int)), .int .i64 (c0 + ((s + 1 : Nat) : Int)), .pointer (some ⟨gz, 33, none⟩), .slice pa ps.length pc, .int .u8 sd, .int .i64 (c0 + (s : Int)), .agg (bytesA 32 xk.f), .slice (some ⟨gx, 0, none⟩) 1 1, .slice ja jn jc, .pointer (some ⟨gz, 33, none⟩), f 81, f 82, f 83, f 84, f 85, f 86, f 87, f 88, f 89, f 90, f 91, f 92, f 93, f 94, f 95, f 96, f 97, f 98, f 99, f 100, f 101, f 102, f 103, f 104, f 105, f 106, f 107, f 108, f 109, f 110, f 111, f 112, undef, undef, undef, undef, undef, undef].getD i undef, rfl, by omega, ps ++ [xk], ja, jc, ?_, ?_, by rw [List.length_append]; simp; omega, ?_, ?_⟩, ?_⟩
      ·rw [← hjn.out]; exact NV.out
      ·rw [← hjn.out]; exact NO.out
      ·rw [← hjn.out]; exact NN.out
      ·exact NB.out
      ·simp only [intOf]; show wd - (c0 + ((s + 1 : Nat) : Int) - c0).toNat < wd - (c0 + (s : Int) - c0).toNat; omega
     ·refine wp_bs 37 1 _ rfl #[(0, .agg (bytesA 32 xk.f))] (by simp [Act.eval]) _ _ (bsH xk _) ?_
      have HGx := Keep.mk (Blk.new wb1 36 (bytesA 32 xk.f))
      have BE2 := Keep.mk (belowT BE1.out (below_new wb1 (.cells (bytesA 32 xk.f) 36)))
      generalize wb1.alloc (.cells (bytesA 32 xk.f) 36) = wb2 at *
      generalize wb1.heap.size = gx at *
      refine hK _ _ trivial fun hR2 => ?_
      clear hK
      simp only [Act.put, pqA, pqB, pqC]
      refine wpAnyH_ready (rs := [1]) (by kernel_rfl) (by simp) ?_
      refine AllReadyH.cons (o := ⟨some 74, Op.load 37 (Operand.tmp 73), 37, _, _, none⟩) rfl (fun K hK => ?_) AllReadyH.nil
      rw [if_pos (by rfl)]
      have c_o : wb2.cell? ⟨gz, 33, none⟩ = some (.slice pa ps.length pc) := (KV.out.below BE2.out KV.out.lt).c 33 (vtx_ps _ _ _)
      refine wp_val (.slice pa ps.length pc) (by go_simp) ?_
      clear c_o
      refine hK _ _ trivial fun hR3 => ?_
      clear hK
      simp only [Act.put, pqA, pqB, pqC]
      refine wpAnyH_ready (rs := [6]) (by kernel_rfl) (by simp) ?_
      refine AllReadyH.cons (o := ⟨some 79, Op.call { callee := Callee.builtin Builtin.append, args := #[Operand.tmp 74, Operand.tmp 78], argTypes := #[37, 37] }, 37, _, _, none⟩) rfl (fun K hK => ?_) AllReadyH.nil
      rw [if_pos (by rfl)]
      obtain ⟨vA, wA, hr, h1, h2, h3⟩ := run_appH wb2 37 (.slice pa ps.length pc) ps (KO.out.below BE2.out) gx xk HGx.out (by omega)
      refine Go.Lib.wp_append_run wb2 (.tmp 74) (.tmp 78) 37 37 rfl _ _ rfl rfl vA wA hr ?_
      obtain ⟨ja, jc, hj⟩ := h1.sl
      obtain ⟨jn, hjn⟩ : ∃ n, Keep (n = (ps ++ [xk]).length) := ⟨_, ⟨rfl⟩⟩
      rw [← hjn.out] at hj
      subst hj
      have HO5 := Keep.mk h1
      have HG5 := Keep.mk h2
      have HM5 := Keep.mk h3
      clear h1 h2 h3 hr
      have HV5 := Keep.mk (HG5.out.blk (KV.out.below BE2.out KV.out.lt) fun e => (KN.out gz e).2 rfl)
      refine hK _ _ trivial fun hH6 => ?_
      clear hK
      simp only [Act.put, pqA, pqB, pqC]
      refine tkS (i := 7) (oi := ⟨some 80, Op.fieldAddr 39 (Operand.tmp 12) 2, 0, _, _, none⟩) (v := .pointer (some ⟨gz, 33, none⟩)) rfl (Or.inl ⟨by rfl, fun w hS => by clear hS; go_simp⟩) hH6 ?_
      refine wpAnyH_ready (rs := [8]) (by kernel_rfl) (by simp) ?_
      refine AllReadyH.cons (o := ⟨none, Op.store 37 (Operand.tmp 80) (Operand.tmp 79), 0, _, _, none⟩) rfl (fun K hK => ?_) AllReadyH.nil
      rw [if_pos (by rfl)]
      have f_o := HV5.out.frozen 33
      have c_o : wA.cell? ⟨gz, 33, none⟩ = some (.slice pa ps.length pc) := HV5.out.c 33 (vtx_ps _ _ _)
      refine wp_cellS (wA.setCell ⟨gz, 33, none⟩ (.slice ja jn jc)) (by go_simp) ?_
      clear f_o c_o
      have hg6 : Grown wA (wA.setCell ⟨gz, 33, none⟩ (.slice ja jn jc)) fun k => k = gz := Grown.setCell _ _ _ _ fun _ => rfl
      have NN : Keep (∀ k, (Value.slice ja jn jc).ownBlock = some k → wr.heap.size ≤ k ∧ k ≠ gz) := ⟨fun k hk => HM5.out.elim (fun e => KN.out k (e ▸ hk)) fun ⟨j, e, hj⟩ => by rw [hk] at e; have e := Option.some.inj e; subst e; exact ⟨Nat.le_trans KB.out.size (Nat.le_trans BE2.out.size hj), fun e => by have := KV.out.lt; have := BE2.out.size; omega⟩⟩
      have NV : Keep (Blk (wA.setCell ⟨gz, 33, none⟩ (.slice ja jn jc)) gz 39 (vtx xid.f (1 + qq) (.slice ja jn jc))) := ⟨by have h := HV5.out.set 33 (.slice ja jn jc); rw [vtx_set] at h; exact h⟩
      have NO := Keep.mk (HO5.out.grown hg6 fun k hk e => (NN.out k hk).2 e)
      have NB : Keep (Below wr.heap.size wr (wA.setCell ⟨gz, 33, none⟩ (.slice ja jn jc))) := ⟨((KB.out.trans (BE2.out.mono KB.out.size)).trans (HG5.out.to_below (fun k hk e => by have := (KN.out k e).1; omega) (Nat.le_trans KB.out.size BE2.out.size))).trans (hg6.to_below (fun k hk e => by have := LZ.out; omega) (Nat.le_trans (Nat.le_trans KB.out.size BE2.out.size) HG5.out.size))⟩
      clear hg6
      generalize wA.setCell ⟨gz, 33, none⟩ (.slice ja jn jc) = w6 at *
      refine hK _ _ trivial fun hH7 => ?_
      clear hK hH6 hH7 HV5 HO5 HG5 HM5
      simp only [Act.put, pqA, pqB, pqC]
      refine wpAnyH_done (by kernel_rfl) ?_ _
      refine hK18 _ _ ?_
      refine rgn ?_
      refine VlS (.int .i64 (c0 + (s : Int))) ?_
      refine VlS (.int .i64 (c0 + ((s + 1 : Nat) : Int))) ?_
      refine VlS (.int .i64 (c0 + ((s + 1 : Nat) : Int))) ?_
      refine WL.nil ?_
      refine ⟨⟨s + 1, fun i => [.int .i64 (nn : Int), .int .i64 (wd : Int), .int .u8 sd, undef, undef, undef, f 6, .pointer (some ⟨d, 0, none⟩), .int .i64 0, .pointer (some ⟨x, 0, none⟩), .int .i64 0, .int .i64 (t : Int), .pointer (some ⟨gz, 0, none⟩), .int .i64 (c0 + ((s + 1 : Nat) : Int)), f 14, f 15, f 16, f 17, f 18, f 19, .int .i64 n0, .int .i64 (nn : Int), .int .i64 wd0, .int .i64 (kk : Int), .int .i64 (wd : Int), .tuple #[.pointer (some ⟨d, 0, none⟩), .int .i64 0], .tuple #[.pointer (some ⟨d, 0, none⟩), .int .i64 0], .pointer (some ⟨d, 0, none⟩), .int .i64 0, .tuple #[.pointer (some ⟨x, 0, none⟩), .int .i64 0], .tuple #[.pointer (some ⟨x, 0, none⟩), .int .i64 0], .pointer (some ⟨x, 0, none⟩), .int .i64 0, .pointer (some ⟨d, 0, none⟩), .bool false, .bool false, .int .i64 0, .bool false, .bool false, .int .i64 (t : Int), .int .i64 (nn : Int), .bool true, f 42, f 43, .int .u8 sd, .int .i64 (t : Int), .agg (bytesA 32 xid.f), .int .i64 (t : Int), .int .i64 (wd : Int), .int .i64 qq, .int .i64 (1 + qq), .agg v0, .int .i64 (t : Int), .int .i64 (t : Int), .int .i64 (wd : Int), .int .i64 rm, .int .i64 (c0 + (wd : Int)), .int .i64 (wd : Int), .int .i64 (c0 + ((0 : Nat) : Int)), .int .i64 (t : Int), .int .i64 (wd : Int), .bool true, .bool true, .int .i64 (c0 + (s : Int)), .int .i64 (t : Int), .int .i64 (t : Int), .int .i64 (wd : Int), .int .i64 rm, .int .i64 (c0 + (wd : Int)), .bool true, .bool true, .int .i64 (c0 + (s : Int)), .int .i64 (c0 + ((s + 1 : Nat) : Int)), .pointer (some ⟨gz, 33, none⟩), .slice pa ps.length pc, .int .u8 sd, .int .i64 (c0 + (s : Int)), .agg (bytesA 32 xk.f), .slice (some ⟨gx, 0, none⟩) 1 1, .slice ja jn jc, .pointer (some ⟨gz, 33, none⟩), f 81, f 82, f 83, f 84, f 85, f 86, f 87, f 88, f 89, f 90, f 91, f 92, f 93, f 94, f 95, f 96, f 97, f 98, f 99, f 100, f 101, f 102, f 103, f 104, f 105, f 106, f 107, f 108, f 109, f 110, f 111, f 112, undef, undef, undef, undef, undef, undef].getD i undef, rfl, by omega, ps ++ [xk], ja, jc, ?_, ?_, by rw [List.length_append]; simp; omega, ?_, ?_⟩, ?_⟩
      ·rw [← hjn.out]; exact NV.out
      ·rw [← hjn.out]; exact NO.out
      ·rw [← hjn.out]; exact NN.out
      ·exact NB.out
      ·simp only [intOf]; show wd - (c0 + ((s + 1 : Nat) : Int) - c0).toNat < wd - (c0 + (s : Int) - c0).toNat; omega
   ·by_cases hg1 : wd ≤ t
    ·have hg1' : (wd : Int) ≤ (t : Int) := by omega
     have hg2' : ¬ c0 + (s : Int) < c0 + (wd : Int) := fun h => hgo ⟨hg1, by omega⟩
     refine wp_seq_k fun K19 hK19 => ?_
     refine wp_seq_k fun K20 hK20 => rgn ?_
     refine VlS (.int .i64 (t : Int)) ?_
     refine VlS (.int .i64 (wd : Int)) ?_
     refine VlS (.bool true) ?_
     refine VlS (.bool true) ?_
     refine VlS (.int .i64 (c0 + (s : Int))) ?_
     refine VlS (.int .i64 (t : Int)) ?_
     refine VlS (.int .i64 (t : Int)) ?_
     refine VlS (.int .i64 (wd : Int)) ?_
     refine VlS (.int .i64 rm) ?_
     refine VlS (.int .i64 (c0 + (wd : Int))) ?_
     refine VlS (.bool false) ?_
     refine VlS (.bool false) ?_
     refine WL.nil (hK20 _ _ ?_)
     refine wp_cond_false rfl ?_
     refine wp_exit ?_
     refine hK14 _ _ ?_
     refine wp_seq_k fun K21 hK21 => rgn ?_
     refine VlS (.pointer (some ⟨gz, 33, none⟩)) ?_
     have c1 : ws.cell? ⟨gz, 33, none⟩ = some (.slice pa ps.length pc) := KV.out.c 33 (vtx_ps _ _ _)
     refine WL.val (by kernel_rfl) (.slice pa ps.length pc) (by go_simp) ?_
     clear c1
     simp only [Act.put, pqA, pqB, pqC]
     refine WL.callF (by kernel_rfl) 16 _ _ rfl Try.in16 #[.slice pa ps.length pc] (by simp [Act.eval]) ?_
     refine (refSort_any _ (.slice pa ps.length pc) ps ws rfl KO.out.row (by omega)).mono ?_
     rintro e w5 ⟨v5, P5, rfl, hown, hpw, hmem, hlen, hb⟩
     refine ⟨_, rfl, ?_⟩
     have O5 := Keep.mk (OwnH.of hown)
     have N5 : Keep (∀ k, v5.ownBlock = some k → ws.heap.size ≤ k) := ⟨fun k hk => (World.ownsRow.lt hown k hk).1⟩
     have L5 : Keep (P5.length ≤ 5) := ⟨by omega⟩
     have V5 := Keep.mk (KV.out.below hb KV.out.lt)
     have B5 := Keep.mk (KB.out.trans (hb.mono KB.out.size))
     clear hown hpw hmem hlen hb
     obtain ⟨sa, sc, rfl⟩ := O5.out.sl
     simp only [Act.put, pqA, pqB, pqC]
     refine VlS (.pointer (some ⟨gz, 33, none⟩)) ?_
     have f_o := V5.out.frozen 33
     have c_o : w5.cell? ⟨gz, 33, none⟩ = some (.slice pa ps.length pc) := V5.out.c 33 (vtx_ps _ _ _)
     refine WL.cell (by kernel_rfl) (w5.setCell ⟨gz, 33, none⟩ (.slice sa P5.length sc)) (by go_simp) ?_
     clear f_o c_o
     obtain ⟨vx, hvx⟩ : ∃ a : Array Value, Keep (a = vtx xid.f (1 + qq) (.slice sa P5.length sc)) := ⟨_, ⟨rfl⟩⟩
     have hg6 : Grown w5 (w5.setCell ⟨gz, 33, none⟩ (.slice sa P5.length sc)) fun k => k = gz := Grown.setCell _ _ _ _ fun _ => rfl
     have V6 : Keep (Blk (w5.setCell ⟨gz, 33, none⟩ (.slice sa P5.length sc)) gz 39 vx) := ⟨by have h := V5.out.set 33 (.slice sa P5.length sc); rw [vtx_set, ← hvx.out] at h; exact h⟩
     have O6 := Keep.mk (O5.out.grown hg6 fun k hk e => by have := N5.out k hk; have := KV.out.lt; omega)
     have B6 := Keep.mk (B5.out.trans (hg6.to_below (fun k hk e => by have := LZ.out; omega) B5.out.size))
     clear hg6
     generalize w5.setCell ⟨gz, 33, none⟩ (.slice sa P5.length sc) = w6 at *
     have P6 := Keep.mk (JP.out.below B6.out)
     have BW6 := Keep.mk (JB.out.trans (B6.out.mono JB.out.size))
     obtain ⟨vX, hvX⟩ : ∃ v : VX, v = ⟨xid, 1 + qq, P5⟩ := ⟨_, rfl⟩
     obtain ⟨hw, ee, hfe⟩ : ∃ a b, Keep (fitV g.held g.wait vX = (a, b)) := ⟨_, _, ⟨rfl⟩⟩
     have HvX := Keep.mk hvX
     clear hvX O5 V5
     simp only [Act.put]
     refine WL.nil (hK21 _ _ ?_)
     refine wp_seq_k fun K22 hK22 => rgn ?_
     refine VlS (.pointer (some ⟨d, 0, none⟩)) ?_
     refine WL.row (by kernel_rfl) 39 (.tmp 12) rfl gz rfl 39 vx _ V6.out Try.underlying39 rfl (by rw [hvx.out]; exact Try.info39s _ _ _) ?_
     simp only [Act.put, pqA, pqB, pqC]
     have had := add_any d vX (.slice sa P5.length sc) _ g w6 P6.out.dg JI.out (by rw [HvX.out]; exact O6.out.row) (by rw [HvX.out]; show (P5.length : Int) ≤ _; have := L5.out; omega)
     rw [show vtx vX.id.f vX.ck (.slice sa P5.length sc) = vx by rw [hvx.out, HvX.out], hfe.out] at had
     refine WL.callF (by kernel_rfl) 17 _ _ rfl Try.in17 #[ptr d, .agg vx] (by simp [Act.eval]) ?_
     refine (had).mono ?_
     rintro e w7 ⟨u7, g7, ol, rfl, hst, hdi, hag, hou, hun⟩
     refine ⟨_, rfl, ?_⟩
     clear had
     have hpm := P6.out.prog hst BW6.out.size
     have P7 := Keep.mk hpm.1
     have BW7 := Keep.mk (BW6.out.trans hpm.2)
     have I7 := Keep.mk hdi
     have A7 := Keep.mk hag
     have U7 := Keep.mk hou
     have N7 := Keep.mk hun
     have HltD : ∀ k, DgS d g k → k < wr.heap.size := fun k hk => JP.out.dg.lt k (.inl hk)
     have V7 := Keep.mk (hst.grown.blk V6.out fun e => by have := HltD _ e; have := LZ.out; omega)
     have O7 := Keep.mk (O6.out.grown hst.grown fun k hk e => by have := HltD _ e; have := N5.out k hk; have := KB.out.size; omega)
     clear hpm hst hdi hag hou hun HltD
     obtain ⟨ua, uc, rfl⟩ := U7.out.sl
     simp only [Act.put, pqA, pqB, pqC]
     refine VlS (.tuple #[.int .i64 hw, .slice ua ol.length uc, .int .i64 ee]) ?_
     refine VlS (.int .i64 hw) ?_
     refine VlS (.slice ua ol.length uc) ?_
     refine VlS (.int .i64 ee) ?_
     refine VlS (.int .i64 hw) ?_
     refine VlS (.slice ua ol.length uc) ?_
     refine VlS (.int .i64 ee) ?_
     refine WL.nil (hK22 _ _ ?_)
     refine wp_seq_k fun K23 hK23 => rgn ?_
     refine VlS (.pointer (some ⟨x, 0, none⟩)) ?_
     refine WL.row (by kernel_rfl) 39 (.tmp 12) rfl gz rfl 39 vx _ V7.out Try.underlying39 rfl (by rw [hvx.out]; exact Try.info39s _ _ _) ?_
     simp only [Act.put, pqA, pqB, pqC]
     have had := radd_any x vX (.slice sa P5.length sc) hv wv sv R w7 P7.out.rg JR.out (by rw [HvX.out]; exact O7.out.row) (by rw [HvX.out]; show (P5.length : Int) ≤ _; have := L5.out; omega) (by rw [JS.out.room]; exact JI.out.room.1)
     rw [show vtx vX.id.f vX.ck (.slice sa P5.length sc) = vx by rw [hvx.out, HvX.out], JS.out.hs, JS.out.ws, hfe.out] at had
     refine WL.callF (by kernel_rfl) 18 _ _ rfl Try.in18 #[ptr x, .agg vx] (by simp [Act.eval]) ?_
     refine (had).mono ?_
     rintro e w8 ⟨u8, p8, hv8, wv8, sv8, R8, ol8, rfl, hst, har, hou, hun⟩
     refine ⟨_, rfl, ?_⟩
     clear had
     have hpm := P7.out.ref hst BW7.out.size
     have P8 := Keep.mk hpm.1
     have BW8 := Keep.mk (BW7.out.trans hpm.2)
     have hsm := JS.out.add JI.out A7.out har
     have S8 := Keep.mk hsm.1
     have R8' := Keep.mk (hsm.1.addRI (g := g) I7.out JR.out har)
     have E8 := Keep.mk hsm.2
     have U8 := Keep.mk (U7.out.grown hst.grown fun k hk e => by have := (N7.out k hk).1; have := JP.out.rg.lt k e; have := B6.out.size; omega)
     have O8 := Keep.mk hou
     clear hpm hsm hst har hou hun
     obtain ⟨ub, ud, rfl⟩ := O8.out.sl
     simp only [Act.put, pqA, pqB, pqC]
     refine VlS (.tuple #[.int .i64 hw, .slice ub ol8.length ud, .int .i64 ee]) ?_
     refine VlS (.int .i64 hw) ?_
     refine VlS (.slice ub ol8.length ud) ?_
     refine VlS (.int .i64 ee) ?_
     refine VlS (.int .i64 hw) ?_
     refine VlS (.slice ub ol8.length ud) ?_
     refine VlS (.int .i64 ee) ?_
     refine WL.nil (hK23 _ _ ?_)
     refine wp_seq_k fun K24 hK24 => rgn ?_
     refine VlS (.int .i64 hw) ?_
     refine VlS (.int .i64 hw) ?_
     refine VlS (.bool false) ?_
     refine VlS (.bool false) ?_
     refine VlS (.int .i64 ee) ?_
     refine VlS (.int .i64 ee) ?_
     refine VlS (.bool false) ?_
     refine VlS (.bool false) ?_
     refine VlS (.bool false) ?_
     refine VlS (.slice ua ol.length uc) ?_
     refine VlS (.slice ub ol8.length ud) ?_
     have hol : ol.length ≤ 1 := by
      rcases A7.out with ⟨_, _, h⟩ | ⟨_, _, _, h⟩ | ⟨_, _, _, _, _, h⟩ | ⟨_, _, _, h⟩ <;> rw [h] <;> simp
     have hsm := smH_any (.slice ua ol.length uc) (.slice ub ol8.length ud) ol ol8 w8 U8.out.row O8.out.row (by omega)
     rw [decide_eq_true E8.out] at hsm
     refine WL.callF (by kernel_rfl) 19 _ _ rfl Try.in19 #[.slice ua ol.length uc, .slice ub ol8.length ud] (by simp [Act.eval]) ?_
     refine (hsm).mono ?_
     rintro e w9 ⟨rfl, hz⟩
     refine ⟨_, rfl, ?_⟩
     clear hsm
     have P9 := Keep.mk (P8.out.below hz)
     have BW9 := Keep.mk (BW8.out.trans (hz.mono BW8.out.size))
     clear hz
     simp only [Act.put, pqA, pqB, pqC]
     refine VlS (.bool false) ?_
     refine VlS (.bool false) ?_
     refine WL.nil (hK24 _ _ ?_)
     refine wp_cond_false rfl ?_
     refine wp_skip ?_
     refine hK12 _ _ ?_
     refine rgn ?_
     refine VlS (.int .i64 (t : Int)) ?_
     refine VlS (.int .i64 ((t + 1 : Nat) : Int)) ?_
     refine VlS (.int .i64 ((t + 1 : Nat) : Int)) ?_
     refine WL.nil ?_
     refine ⟨⟨t + 1, fun i => [.int .i64 (nn : Int), .int .i64 (wd : Int), .int .u8 sd, undef, undef, undef, f 6, .pointer (some ⟨d, 0, none⟩), .int .i64 0, .pointer (some ⟨x, 0, none⟩), .int .i64 0, .int .i64 ((t + 1 : Nat) : Int), .pointer (some ⟨gz, 0, none⟩), .int .i64 (c0 + (s : Int)), .int .i64 hw, .slice ua ol.length uc, .int .i64 ee, .int .i64 hw, .slice ub ol8.length ud, .int .i64 ee, .int .i64 n0, .int .i64 (nn : Int), .int .i64 wd0, .int .i64 (kk : Int), .int .i64 (wd : Int), .tuple #[.pointer (some ⟨d, 0, none⟩), .int .i64 0], .tuple #[.pointer (some ⟨d, 0, none⟩), .int .i64 0], .pointer (some ⟨d, 0, none⟩), .int .i64 0, .tuple #[.pointer (some ⟨x, 0, none⟩), .int .i64 0], .tuple #[.pointer (some ⟨x, 0, none⟩), .int .i64 0], .pointer (some ⟨x, 0, none⟩), .int .i64 0, .pointer (some ⟨d, 0, none⟩), .bool false, .bool false, .int .i64 0, .bool false, .bool false, .int .i64 (t : Int), .int .i64 (nn : Int), .bool true, .int .i64 (t : Int), .int .i64 ((t + 1 : Nat) : Int), .int .u8 sd, .int .i64 (t : Int), .agg (bytesA 32 xid.f), .int .i64 (t : Int), .int .i64 (wd : Int), .int .i64 qq, .int .i64 (1 + qq), .agg v0, .int .i64 (t : Int), .int .i64 (t : Int), .int .i64 (wd : Int), .int .i64 rm, .int .i64 (c0 + (wd : Int)), .int .i64 (wd : Int), .int .i64 (c0 + ((0 : Nat) : Int)), .int .i64 (t : Int), .int .i64 (wd : Int), .bool true, .bool true, .int .i64 (c0 + (s : Int)), .int .i64 (t : Int), .int .i64 (t : Int), .int .i64 (wd : Int), .int .i64 rm, .int .i64 (c0 + (wd : Int)), .bool false, .bool false, fb 71, fb 72, fb 73, fb 74, fb 75, fb 76, fb 77, fb 78, fb 79, fb 80, .pointer (some ⟨gz, 33, none⟩), .slice pa ps.length pc, .slice sa P5.length sc, .pointer (some ⟨gz, 33, none⟩), .tuple #[.int .i64 hw, .slice ua ol.length uc, .int .i64 ee], .pointer (some ⟨d, 0, none⟩), .agg vx, .tuple #[.int .i64 hw, .slice ua ol.length uc, .int .i64 ee], .int .i64 hw, .slice ua ol.length uc, .int .i64 ee, .tuple #[.int .i64 hw, .slice ub ol8.length ud, .int .i64 ee], .pointer (some ⟨x, 0, none⟩), .agg vx, .tuple #[.int .i64 hw, .slice ub ol8.length ud, .int .i64 ee], .int .i64 hw, .slice ub ol8.length ud, .int .i64 ee, .int .i64 hw, .int .i64 hw, .bool false, .bool false, .int .i64 ee, .int .i64 ee, .bool false, .bool false, .bool false, .slice ua ol.length uc, .slice ub ol8.length ud, .bool true, .bool false, .bool false, undef, undef, undef, undef, undef, undef].getD i undef, rfl, by omega, g7, hv8, wv8, sv8, R8, P9.out, I7.out, R8'.out, S8.out, BW9.out⟩, ?_⟩
     simp only [intOf]; show nn - ((t + 1 : Nat) : Int).toNat < nn - ((t : Int)).toNat; omega
    ·have hg1' : ¬ (wd : Int) ≤ (t : Int) := by omega
     refine wp_seq_k fun K25 hK25 => ?_
     refine wp_seq_k fun K26 hK26 => rgn ?_
     refine VlS (.int .i64 (t : Int)) ?_
     refine VlS (.int .i64 (wd : Int)) ?_
     refine VlS (.bool false) ?_
     refine VlS (.bool false) ?_
     refine SkS ?_
     refine SkS ?_
     refine SkS ?_
     refine SkS ?_
     refine SkS ?_
     refine SkS ?_
     refine SkS ?_
     refine VlS (.bool false) ?_
     refine WL.nil (hK26 _ _ ?_)
     refine wp_cond_false rfl ?_
     refine wp_exit ?_
     refine hK14 _ _ ?_
     refine wp_seq_k fun K27 hK27 => rgn ?_
     refine VlS (.pointer (some ⟨gz, 33, none⟩)) ?_
     have c1 : ws.cell? ⟨gz, 33, none⟩ = some (.slice pa ps.length pc) := KV.out.c 33 (vtx_ps _ _ _)
     refine WL.val (by kernel_rfl) (.slice pa ps.length pc) (by go_simp) ?_
     clear c1
     simp only [Act.put, pqA, pqB, pqC]
     refine WL.callF (by kernel_rfl) 16 _ _ rfl Try.in16 #[.slice pa ps.length pc] (by simp [Act.eval]) ?_
     refine (refSort_any _ (.slice pa ps.length pc) ps ws rfl KO.out.row (by omega)).mono ?_
     rintro e w5 ⟨v5, P5, rfl, hown, hpw, hmem, hlen, hb⟩
     refine ⟨_, rfl, ?_⟩
     have O5 := Keep.mk (OwnH.of hown)
     have N5 : Keep (∀ k, v5.ownBlock = some k → ws.heap.size ≤ k) := ⟨fun k hk => (World.ownsRow.lt hown k hk).1⟩
     have L5 : Keep (P5.length ≤ 5) := ⟨by omega⟩
     have V5 := Keep.mk (KV.out.below hb KV.out.lt)
     have B5 := Keep.mk (KB.out.trans (hb.mono KB.out.size))
     clear hown hpw hmem hlen hb
     obtain ⟨sa, sc, rfl⟩ := O5.out.sl
     simp only [Act.put, pqA, pqB, pqC]
     refine VlS (.pointer (some ⟨gz, 33, none⟩)) ?_
     have f_o := V5.out.frozen 33
     have c_o : w5.cell? ⟨gz, 33, none⟩ = some (.slice pa ps.length pc) := V5.out.c 33 (vtx_ps _ _ _)
     refine WL.cell (by kernel_rfl) (w5.setCell ⟨gz, 33, none⟩ (.slice sa P5.length sc)) (by go_simp) ?_
     clear f_o c_o
     obtain ⟨vx, hvx⟩ : ∃ a : Array Value, Keep (a = vtx xid.f (1 + qq) (.slice sa P5.length sc)) := ⟨_, ⟨rfl⟩⟩
     have hg6 : Grown w5 (w5.setCell ⟨gz, 33, none⟩ (.slice sa P5.length sc)) fun k => k = gz := Grown.setCell _ _ _ _ fun _ => rfl
     have V6 : Keep (Blk (w5.setCell ⟨gz, 33, none⟩ (.slice sa P5.length sc)) gz 39 vx) := ⟨by have h := V5.out.set 33 (.slice sa P5.length sc); rw [vtx_set, ← hvx.out] at h; exact h⟩
     have O6 := Keep.mk (O5.out.grown hg6 fun k hk e => by have := N5.out k hk; have := KV.out.lt; omega)
     have B6 := Keep.mk (B5.out.trans (hg6.to_below (fun k hk e => by have := LZ.out; omega) B5.out.size))
     clear hg6
     generalize w5.setCell ⟨gz, 33, none⟩ (.slice sa P5.length sc) = w6 at *
     have P6 := Keep.mk (JP.out.below B6.out)
     have BW6 := Keep.mk (JB.out.trans (B6.out.mono JB.out.size))
     obtain ⟨vX, hvX⟩ : ∃ v : VX, v = ⟨xid, 1 + qq, P5⟩ := ⟨_, rfl⟩
     obtain ⟨hw, ee, hfe⟩ : ∃ a b, Keep (fitV g.held g.wait vX = (a, b)) := ⟨_, _, ⟨rfl⟩⟩
     have HvX := Keep.mk hvX
     clear hvX O5 V5
     simp only [Act.put]
     refine WL.nil (hK27 _ _ ?_)
     refine wp_seq_k fun K28 hK28 => rgn ?_
     refine VlS (.pointer (some ⟨d, 0, none⟩)) ?_
     refine WL.row (by kernel_rfl) 39 (.tmp 12) rfl gz rfl 39 vx _ V6.out Try.underlying39 rfl (by rw [hvx.out]; exact Try.info39s _ _ _) ?_
     simp only [Act.put, pqA, pqB, pqC]
     have had := add_any d vX (.slice sa P5.length sc) _ g w6 P6.out.dg JI.out (by rw [HvX.out]; exact O6.out.row) (by rw [HvX.out]; show (P5.length : Int) ≤ _; have := L5.out; omega)
     rw [show vtx vX.id.f vX.ck (.slice sa P5.length sc) = vx by rw [hvx.out, HvX.out], hfe.out] at had
     refine WL.callF (by kernel_rfl) 17 _ _ rfl Try.in17 #[ptr d, .agg vx] (by simp [Act.eval]) ?_
     refine (had).mono ?_
     rintro e w7 ⟨u7, g7, ol, rfl, hst, hdi, hag, hou, hun⟩
     refine ⟨_, rfl, ?_⟩
     clear had
     have hpm := P6.out.prog hst BW6.out.size
     have P7 := Keep.mk hpm.1
     have BW7 := Keep.mk (BW6.out.trans hpm.2)
     have I7 := Keep.mk hdi
     have A7 := Keep.mk hag
     have U7 := Keep.mk hou
     have N7 := Keep.mk hun
     have HltD : ∀ k, DgS d g k → k < wr.heap.size := fun k hk => JP.out.dg.lt k (.inl hk)
     have V7 := Keep.mk (hst.grown.blk V6.out fun e => by have := HltD _ e; have := LZ.out; omega)
     have O7 := Keep.mk (O6.out.grown hst.grown fun k hk e => by have := HltD _ e; have := N5.out k hk; have := KB.out.size; omega)
     clear hpm hst hdi hag hou hun HltD
     obtain ⟨ua, uc, rfl⟩ := U7.out.sl
     simp only [Act.put, pqA, pqB, pqC]
     refine VlS (.tuple #[.int .i64 hw, .slice ua ol.length uc, .int .i64 ee]) ?_
     refine VlS (.int .i64 hw) ?_
     refine VlS (.slice ua ol.length uc) ?_
     refine VlS (.int .i64 ee) ?_
     refine VlS (.int .i64 hw) ?_
     refine VlS (.slice ua ol.length uc) ?_
     refine VlS (.int .i64 ee) ?_
     refine WL.nil (hK28 _ _ ?_)
     refine wp_seq_k fun K29 hK29 => rgn ?_
     refine VlS (.pointer (some ⟨x, 0, none⟩)) ?_
     refine WL.row (by kernel_rfl) 39 (.tmp 12) rfl gz rfl 39 vx _ V7.out Try.underlying39 rfl (by rw [hvx.out]; exact Try.info39s _ _ _) ?_
     simp only [Act.put, pqA, pqB, pqC]
     have had := radd_any x vX (.slice sa P5.length sc) hv wv sv R w7 P7.out.rg JR.out (by rw [HvX.out]; exact O7.out.row) (by rw [HvX.out]; show (P5.length : Int) ≤ _; have := L5.out; omega) (by rw [JS.out.room]; exact JI.out.room.1)
     rw [show vtx vX.id.f vX.ck (.slice sa P5.length sc) = vx by rw [hvx.out, HvX.out], JS.out.hs, JS.out.ws, hfe.out] at had
     refine WL.callF (by kernel_rfl) 18 _ _ rfl Try.in18 #[ptr x, .agg vx] (by simp [Act.eval]) ?_
     refine (had).mono ?_
     rintro e w8 ⟨u8, p8, hv8, wv8, sv8, R8, ol8, rfl, hst, har, hou, hun⟩
     refine ⟨_, rfl, ?_⟩
     clear had
     have hpm := P7.out.ref hst BW7.out.size
     have P8 := Keep.mk hpm.1
     have BW8 := Keep.mk (BW7.out.trans hpm.2)
     have hsm := JS.out.add JI.out A7.out har
     have S8 := Keep.mk hsm.1
     have R8' := Keep.mk (hsm.1.addRI (g := g) I7.out JR.out har)
     have E8 := Keep.mk hsm.2
     have U8 := Keep.mk (U7.out.grown hst.grown fun k hk e => by have := (N7.out k hk).1; have := JP.out.rg.lt k e; have := B6.out.size; omega)
     have O8 := Keep.mk hou
     clear hpm hsm hst har hou hun
     obtain ⟨ub, ud, rfl⟩ := O8.out.sl
     simp only [Act.put, pqA, pqB, pqC]
     refine VlS (.tuple #[.int .i64 hw, .slice ub ol8.length ud, .int .i64 ee]) ?_
     refine VlS (.int .i64 hw) ?_
     refine VlS (.slice ub ol8.length ud) ?_
     refine VlS (.int .i64 ee) ?_
     refine VlS (.int .i64 hw) ?_
     refine VlS (.slice ub ol8.length ud) ?_
     refine VlS (.int .i64 ee) ?_
     refine WL.nil (hK29 _ _ ?_)
     refine wp_seq_k fun K30 hK30 => rgn ?_
     refine VlS (.int .i64 hw) ?_
     refine VlS (.int .i64 hw) ?_
     refine VlS (.bool false) ?_
     refine VlS (.bool false) ?_
     refine VlS (.int .i64 ee) ?_
     refine VlS (.int .i64 ee) ?_
     refine VlS (.bool false) ?_
     refine VlS (.bool false) ?_
     refine VlS (.bool false) ?_
     refine VlS (.slice ua ol.length uc) ?_
     refine VlS (.slice ub ol8.length ud) ?_
     have hol : ol.length ≤ 1 := by
      rcases A7.out with ⟨_, _, h⟩ | ⟨_, _, _, h⟩ | ⟨_, _, _, _, _, h⟩ | ⟨_, _, _, h⟩ <;> rw [h] <;> simp
     have hsm := smH_any (.slice ua ol.length uc) (.slice ub ol8.length ud) ol ol8 w8 U8.out.row O8.out.row (by omega)
     rw [decide_eq_true E8.out] at hsm
     refine WL.callF (by kernel_rfl) 19 _ _ rfl Try.in19 #[.slice ua ol.length uc, .slice ub ol8.length ud] (by simp [Act.eval]) ?_
     refine (hsm).mono ?_
     rintro e w9 ⟨rfl, hz⟩
     refine ⟨_, rfl, ?_⟩
     clear hsm
     have P9 := Keep.mk (P8.out.below hz)
     have BW9 := Keep.mk (BW8.out.trans (hz.mono BW8.out.size))
     clear hz
     simp only [Act.put, pqA, pqB, pqC]
     refine VlS (.bool false) ?_
     refine VlS (.bool false) ?_
     refine WL.nil (hK30 _ _ ?_)
     refine wp_cond_false rfl ?_
     refine wp_skip ?_
     refine hK12 _ _ ?_
     refine rgn ?_
     refine VlS (.int .i64 (t : Int)) ?_
     refine VlS (.int .i64 ((t + 1 : Nat) : Int)) ?_
     refine VlS (.int .i64 ((t + 1 : Nat) : Int)) ?_
     refine WL.nil ?_
     refine ⟨⟨t + 1, fun i => [.int .i64 (nn : Int), .int .i64 (wd : Int), .int .u8 sd, undef, undef, undef, f 6, .pointer (some ⟨d, 0, none⟩), .int .i64 0, .pointer (some ⟨x, 0, none⟩), .int .i64 0, .int .i64 ((t + 1 : Nat) : Int), .pointer (some ⟨gz, 0, none⟩), .int .i64 (c0 + (s : Int)), .int .i64 hw, .slice ua ol.length uc, .int .i64 ee, .int .i64 hw, .slice ub ol8.length ud, .int .i64 ee, .int .i64 n0, .int .i64 (nn : Int), .int .i64 wd0, .int .i64 (kk : Int), .int .i64 (wd : Int), .tuple #[.pointer (some ⟨d, 0, none⟩), .int .i64 0], .tuple #[.pointer (some ⟨d, 0, none⟩), .int .i64 0], .pointer (some ⟨d, 0, none⟩), .int .i64 0, .tuple #[.pointer (some ⟨x, 0, none⟩), .int .i64 0], .tuple #[.pointer (some ⟨x, 0, none⟩), .int .i64 0], .pointer (some ⟨x, 0, none⟩), .int .i64 0, .pointer (some ⟨d, 0, none⟩), .bool false, .bool false, .int .i64 0, .bool false, .bool false, .int .i64 (t : Int), .int .i64 (nn : Int), .bool true, .int .i64 (t : Int), .int .i64 ((t + 1 : Nat) : Int), .int .u8 sd, .int .i64 (t : Int), .agg (bytesA 32 xid.f), .int .i64 (t : Int), .int .i64 (wd : Int), .int .i64 qq, .int .i64 (1 + qq), .agg v0, .int .i64 (t : Int), .int .i64 (t : Int), .int .i64 (wd : Int), .int .i64 rm, .int .i64 (c0 + (wd : Int)), .int .i64 (wd : Int), .int .i64 (c0 + ((0 : Nat) : Int)), .int .i64 (t : Int), .int .i64 (wd : Int), .bool false, .bool false, undef, undef, undef, undef, undef, undef, undef, .bool false, fb 71, fb 72, fb 73, fb 74, fb 75, fb 76, fb 77, fb 78, fb 79, fb 80, .pointer (some ⟨gz, 33, none⟩), .slice pa ps.length pc, .slice sa P5.length sc, .pointer (some ⟨gz, 33, none⟩), .tuple #[.int .i64 hw, .slice ua ol.length uc, .int .i64 ee], .pointer (some ⟨d, 0, none⟩), .agg vx, .tuple #[.int .i64 hw, .slice ua ol.length uc, .int .i64 ee], .int .i64 hw, .slice ua ol.length uc, .int .i64 ee, .tuple #[.int .i64 hw, .slice ub ol8.length ud, .int .i64 ee], .pointer (some ⟨x, 0, none⟩), .agg vx, .tuple #[.int .i64 hw, .slice ub ol8.length ud, .int .i64 ee], .int .i64 hw, .slice ub ol8.length ud, .int .i64 ee, .int .i64 hw, .int .i64 hw, .bool false, .bool false, .int .i64 ee, .int .i64 ee, .bool false, .bool false, .bool false, .slice ua ol.length uc, .slice ub ol8.length ud, .bool true, .bool false, .bool false, undef, undef, undef, undef, undef, undef].getD i undef, rfl, by omega, g7, hv8, wv8, sv8, R8, P9.out, I7.out, R8'.out, S8.out, BW9.out⟩, ?_⟩
     simp only [intOf]; show nn - ((t + 1 : Nat) : Int).toNat < nn - ((t : Int)).toNat; omega
  ·refine wp_newA 39 rfl vz (by rw [hvz.out]; exact Try.new39) ?_
   have HZ := Keep.mk (Blk.new wr.drew 39 vz)
   have BA1 := Keep.mk (belowT BD0.out (below_new wr.drew (.cells vz 39)))
   have LZ : Keep (wr.heap.size ≤ wr.drew.heap.size) := ⟨BD0.out.size⟩
   generalize wr.drew.alloc (.cells vz 39) = wa1 at *
   generalize wr.drew.heap.size = gz at *
   refine hK _ _ trivial fun hQ1 => ?_
   clear hK
   simp only [Act.put, pqA, pqB, pqC]
   refine wpAnyH_ready (rs := [2]) (by kernel_rfl) (by simp) ?_
   refine AllReadyH.cons (o := ⟨some 46, Op.call { callee := Callee.value (Operand.func 15), args := #[Operand.tmp 44, Operand.tmp 45], argTypes := #[5, 3] }, 36, _, _, none⟩) rfl (fun K hK => ?_) AllReadyH.nil
   rw [if_pos (by rfl)]
   refine wp_callF 15 _ _ rfl Try.in15 #[.int .u8 sd, .int .i64 (t : Int)] (by simp [Act.eval]) (fun u wx => ∃ xid : Hs, u = .agg (bytesA 32 xid.f) ∧ Below wa1.heap.size wa1 wx) ((ident_any sd (t : Int) wa1 Hsd.out).mono fun e w' ⟨z, h1, h2⟩ => ⟨_, h1, z, rfl, h2⟩) ?_
   rintro _ wa2 ⟨xid, rfl, hb_⟩
   have BA2 := Keep.mk (belowT BA1.out hb_)
   have HZ := Keep.mk (HZ.out.below hb_ HZ.out.lt)
   obtain ⟨v0, hv0⟩ : ∃ a : Array Value, Keep (a = vtx xid.f (1 + qq) (.slice none 0 0)) := ⟨_, ⟨rfl⟩⟩
   refine hK _ _ trivial fun hQ2 => ?_
   clear hK hb_
   simp only [Act.put, pqA, pqB, pqC]
   refine tkS (i := 7) (oi := ⟨some 51, Op.build 39 #[(0, Operand.tmp 46), (1, Operand.tmp 50)], 39, _, _, none⟩) (v := .agg v0) rfl (by rw [hv0.out]; exact yieldsIf_bldV (by rfl) (.tmp 46) (.tmp 50) rfl _ _ rfl rfl) hQ2 ?_
   refine wpAnyH_ready (rs := [9]) (by kernel_rfl) (by simp) ?_
   refine AllReadyH.cons (o := ⟨none, Op.store 39 (Operand.tmp 12) (Operand.tmp 51), 0, _, _, none⟩) rfl (fun K hK => ?_) AllReadyH.nil
   rw [if_pos (by rfl)]
   refine wp_store_row 39 (.tmp 12) (.tmp 51) rfl gz v0 rfl rfl 39 vz HZ.out (by rw [hv0.out]; exact Try.info39s _ _ _) (by rw [hv0.out, hvz.out, vtx_size, vtx_size]) (by rw [hv0.out]; exact vtx_one _ _ _ (slice_one _ _ _)) ?_
   have HV4 := Keep.mk (HZ.out.setRow v0)
   have B4 := Keep.mk (below_setRow BA2.out LZ.out v0)
   generalize wa2.setRow gz v0 = w4 at *
   refine hK _ _ trivial fun hH9 => ?_
   clear hK hH9 HZ
   simp only [Act.put, pqA, pqB, pqC]
   refine wpAnyH_done (by kernel_rfl) ?_ _
   refine hK13 _ _ ?_
   refine wp_seq_k fun K31 hK31 => ?_
   refine wp_seq_k fun K32 hK32 => rgn ?_
   refine VlS (.int .i64 (t : Int)) ?_
   refine VlS (.int .i64 (t : Int)) ?_
   refine VlS (.int .i64 (wd : Int)) ?_
   refine VlS (.int .i64 rm) ?_
   refine VlS (.int .i64 (c0 + (wd : Int))) ?_
   refine VlS (.int .i64 (wd : Int)) ?_
   refine VlS (.int .i64 (c0 + ((0 : Nat) : Int))) ?_
   refine VlS (.int .i64 (c0 + ((0 : Nat) : Int))) ?_
   refine WL.nil (hK32 _ _ ?_)
   refine wp_block ?_
   refine wp_loop (fun ac ws => ∃ (s : Nat) (fb : Nat → Value), ac = { tmps := #[.int .i64 (nn : Int), .int .i64 (wd : Int), .int .u8 sd, undef, undef, undef, f 6, .pointer (some ⟨d, 0, none⟩), .int .i64 0, .pointer (some ⟨x, 0, none⟩), .int .i64 0, .int .i64 (t : Int), .pointer (some ⟨gz, 0, none⟩), .int .i64 (c0 + (s : Int)), f 14, f 15, f 16, f 17, f 18, f 19, .int .i64 n0, .int .i64 (nn : Int), .int .i64 wd0, .int .i64 (kk : Int), .int .i64 (wd : Int), .tuple #[.pointer (some ⟨d, 0, none⟩), .int .i64 0], .tuple #[.pointer (some ⟨d, 0, none⟩), .int .i64 0], .pointer (some ⟨d, 0, none⟩), .int .i64 0, .tuple #[.pointer (some ⟨x, 0, none⟩), .int .i64 0], .tuple #[.pointer (some ⟨x, 0, none⟩), .int .i64 0], .pointer (some ⟨x, 0, none⟩), .int .i64 0, .pointer (some ⟨d, 0, none⟩), .bool false, .bool false, .int .i64 0, .bool false, .bool false, .int .i64 (t : Int), .int .i64 (nn : Int), .bool true, f 42, f 43, .int .u8 sd, .int .i64 (t : Int), .agg (bytesA 32 xid.f), .int .i64 (t : Int), .int .i64 (wd : Int), .int .i64 qq, .int .i64 (1 + qq), .agg v0, .int .i64 (t : Int), .int .i64 (t : Int), .int .i64 (wd : Int), .int .i64 rm, .int .i64 (c0 + (wd : Int)), .int .i64 (wd : Int), .int .i64 (c0 + ((0 : Nat) : Int)), fb 59, fb 60, fb 61, fb 62, fb 63, fb 64, fb 65, fb 66, fb 67, fb 68, fb 69, fb 70, fb 71, fb 72, fb 73, fb 74, fb 75, fb 76, fb 77, fb 78, fb 79, fb 80, f 81, f 82, f 83, f 84, f 85, f 86, f 87, f 88, f 89, f 90, f 91, f 92, f 93, f 94, f 95, f 96, f 97, f 98, f 99, f 100, f 101, f 102, f 103, f 104, f 105, f 106, f 107, f 108, f 109, f 110, f 111, f 112, undef, undef, undef, undef, undef, undef], defers := [] } ∧ s ≤ wd ∧ ∃ ps pa pc, Blk ws gz 39 (vtx xid.f (1 + qq) (.slice pa ps.length pc)) ∧ OwnH ws (.slice pa ps.length pc) ps ∧ ps.length ≤ s ∧ (∀ k, (Value.slice pa ps.length pc).ownBlock = some k → wr.heap.size ≤ k ∧ k ≠ gz) ∧ Below wr.heap.size wr ws) (fun a _ => wd - (intOf (a.tmps.getD 13 undef) - c0).toNat) ⟨0, fun i => [.int .i64 (nn : Int), .int .i64 (wd : Int), .int .u8 sd, undef, undef, undef, f 6, .pointer (some ⟨d, 0, none⟩), .int .i64 0, .pointer (some ⟨x, 0, none⟩), .int .i64 0, .int .i64 (t : Int), .pointer (some ⟨gz, 0, none⟩), .int .i64 (c0 + ((0 : Nat) : Int)), f 14, f 15, f 16, f 17, f 18, f 19, .int .i64 n0, .int .i64 (nn : Int), .int .i64 wd0, .int .i64 (kk : Int), .int .i64 (wd : Int), .tuple #[.pointer (some ⟨d, 0, none⟩), .int .i64 0], .tuple #[.pointer (some ⟨d, 0, none⟩), .int .i64 0], .pointer (some ⟨d, 0, none⟩), .int .i64 0, .tuple #[.pointer (some ⟨x, 0, none⟩), .int .i64 0], .tuple #[.pointer (some ⟨x, 0, none⟩), .int .i64 0], .pointer (some ⟨x, 0, none⟩), .int .i64 0, .pointer (some ⟨d, 0, none⟩), .bool false, .bool false, .int .i64 0, .bool false, .bool false, .int .i64 (t : Int), .int .i64 (nn : Int), .bool true, f 42, f 43, .int .u8 sd, .int .i64 (t : Int), .agg (bytesA 32 xid.f), .int .i64 (t : Int), .int .i64 (wd : Int), .int .i64 qq, .int .i64 (1 + qq), .agg v0, .int .i64 (t : Int), .int .i64 (t : Int), .int .i64 (wd : Int), .int .i64 rm, .int .i64 (c0 + (wd : Int)), .int .i64 (wd : Int), .int .i64 (c0 + ((0 : Nat) : Int)), f 59, f 60, f 61, f 62, f 63, f 64, f 65, f 66, f 67, f 68, f 69, f 70, f 71, f 72, f 73, f 74, f 75, f 76, f 77, f 78, f 79, f 80, f 81, f 82, f 83, f 84, f 85, f 86, f 87, f 88, f 89, f 90, f 91, f 92, f 93, f 94, f 95, f 96, f 97, f 98, f 99, f 100, f 101, f 102, f 103, f 104, f 105, f 106, f 107, f 108, f 109, f 110, f 111, f 112, undef, undef, undef, undef, undef, undef].getD i undef, rfl, by omega, [], none, 0, (by have h := HV4.out; rw [hv0.out] at h; exact h), ownH_nil _, by simp, (fun k hk => by cases hk), B4.out⟩ ?_
   rintro ac ws ⟨s, fb, rfl, hs, hY⟩
   obtain ⟨ps, pa, pc, hV, hO, hl, hN, hB⟩ := hY
   have KV := Keep.mk hV
   have KO := Keep.mk hO
   have KN := Keep.mk hN
   have KB := Keep.mk hB
   clear hV hO hN hB
   by_cases hgo : wd ≤ t ∧ s < wd
   ·obtain ⟨hg1, hg2⟩ := hgo
    have hg1' : (wd : Int) ≤ (t : Int) := by omega
    have hg2' : c0 + (s : Int) < c0 + (wd : Int) := by omega
    have hws : IntKind.i64.wrap (c0 + (s : Int) + 1) = c0 + ((s + 1 : Nat) : Int) := by rw [IntKind.wrap_i64]; have := Hc0.out; omega
    refine wp_seq_k fun K33 hK33 => ?_
    refine wp_seq_k fun K34 hK34 => rgn ?_
    refine VlS (.int .i64 (t : Int)) ?_
    refine VlS (.int .i64 (wd : Int)) ?_
    refine VlS (.bool true) ?_
    refine VlS (.bool true) ?_
    refine VlS (.int .i64 (c0 + (s : Int))) ?_
    refine VlS (.int .i64 (t : Int)) ?_
    refine VlS (.int .i64 (t : Int)) ?_
    refine VlS (.int .i64 (wd : Int)) ?_
    refine VlS (.int .i64 rm) ?_
    refine VlS (.int .i64 (c0 + (wd : Int))) ?_
    refine VlS (.bool true) ?_
    refine VlS (.bool true) ?_
    refine WL.nil (hK34 _ _ ?_)
    refine wp_cond_true rfl ?_
    refine wp_skip ?_
    refine hK33 _ _ ?_
    refine wp_seq_k fun K35 hK35 => ?_
    refine wp_block ?_
    have BE0 : Keep (Below ws.heap.size ws ws.drew) := ⟨(Below.refl _ _).drew⟩
    refine wp_region_held_drew (S := fun _ : World => True) (by kernel_rfl) trivial (fun hHeld => ?_)
    refine tkS (i := 0) (oi := ⟨some 73, Op.fieldAddr 39 (Operand.tmp 12) 2, 0, _, _, none⟩) (v := .pointer (some ⟨gz, 33, none⟩)) rfl (Or.inl ⟨by rfl, fun w hS => by clear hS; go_simp⟩) hHeld ?_
    refine tkS (i := 2) (oi := ⟨some 75, Op.move (Operand.tmp 2), 5, _, _, none⟩) (v := .int .u8 sd) rfl (Or.inl ⟨by rfl, fun w hS => by clear hS; go_simp⟩) hHeld ?_
    refine tkS (i := 3) (oi := ⟨some 76, Op.move (Operand.tmp 13), 3, _, _, none⟩) (v := .int .i64 (c0 + (s : Int))) rfl (Or.inl ⟨by rfl, fun w hS => by clear hS; go_simp⟩) hHeld ?_
    refine wpAnyH_ready (rs := [1, 4]) (by kernel_rfl) (by simp) ?_
    refine AllReadyH.cons (o := ⟨some 74, Op.load 37 (Operand.tmp 73), 37, _, _, none⟩) rfl (fun K hK => ?_) (AllReadyH.cons (o := ⟨some 77, Op.call { callee := Callee.value (Operand.func 15), args := #[Operand.tmp 75, Operand.tmp 76], argTypes := #[5, 3] }, 36, _, _, none⟩) rfl (fun K hK => ?_) AllReadyH.nil)
    all_goals rw [if_pos (by rfl)]
    ·have c_o : ws.drew.cell? ⟨gz, 33, none⟩ = some (.slice pa ps.length pc) := (KV.out.below BE0.out KV.out.lt).c 33 (vtx_ps _ _ _)
     refine wp_val (.slice pa ps.length pc) (by go_simp) ?_
     clear c_o
     refine hK _ _ trivial fun hR1 => ?_
     clear hK
     simp only [Act.put, pqA, pqB, pqC]
     refine wpAnyH_ready (rs := [4]) (by kernel_rfl) (by simp) ?_
     refine AllReadyH.cons (o := ⟨some 77, Op.call { callee := Callee.value (Operand.func 15), args := #[Operand.tmp 75, Operand.tmp 76], argTypes := #[5, 3] }, 36, _, _, none⟩) rfl (fun K hK => ?_) AllReadyH.nil
     rw [if_pos (by rfl)]
     refine wp_callF 15 _ _ rfl Try.in15 #[.int .u8 sd, .int .i64 (c0 + (s : Int))] (by simp [Act.eval]) (fun u wx => ∃ xk : Hs, u = .agg (bytesA 32 xk.f) ∧ Below ws.drew.heap.size ws.drew wx) ((ident_any sd (c0 + (s : Int)) ws.drew Hsd.out).mono fun e w' ⟨z, h1, h2⟩ => ⟨_, h1, z, rfl, h2⟩) ?_
     rintro _ wb2 ⟨xk, rfl, hb_⟩
     have BE2 := Keep.mk (belowT BE0.out hb_)
     refine hK _ _ trivial fun hR2 => ?_
     clear hK hb_
     simp only [Act.put, pqA, pqB, pqC]
     refine wpAnyH_ready (rs := [5]) (by kernel_rfl) (by simp) ?_
     refine AllReadyH.cons (o := ⟨some 78, Op.buildSlice 37 1 #[(0, Operand.tmp 77)], 37, _, _, none⟩) rfl (fun K hK => ?_) AllReadyH.nil
     rw [if_pos (by rfl)]
     refine wp_bs 37 1 _ rfl #[(0, .agg (bytesA 32 xk.f))] (by simp [Act.eval]) _ _ (bsH xk _) ?_
     have HGx := Keep.mk (Blk.new wb2 36 (bytesA 32 xk.f))
     have BE3 := Keep.mk (belowT BE2.out (below_new wb2 (.cells (bytesA 32 xk.f) 36)))
     generalize wb2.alloc (.cells (bytesA 32 xk.f) 36) = wb3 at *
     generalize wb2.heap.size = gx at *
     refine hK _ _ trivial fun hR3 => ?_
     clear hK
     simp only [Act.put, pqA, pqB, pqC]
     refine wpAnyH_ready (rs := [6]) (by kernel_rfl) (by simp) ?_
     refine AllReadyH.cons (o := ⟨some 79, Op.call { callee := Callee.builtin Builtin.append, args := #[Operand.tmp 74, Operand.tmp 78], argTypes := #[37, 37] }, 37, _, _, none⟩) rfl (fun K hK => ?_) AllReadyH.nil
     rw [if_pos (by rfl)]
     obtain ⟨vA, wA, hr, h1, h2, h3⟩ := run_appH wb3 37 (.slice pa ps.length pc) ps (KO.out.below BE3.out) gx xk HGx.out (by omega)
     refine Go.Lib.wp_append_run wb3 (.tmp 74) (.tmp 78) 37 37 rfl _ _ rfl rfl vA wA hr ?_
     obtain ⟨ja, jc, hj⟩ := h1.sl
     obtain ⟨jn, hjn⟩ : ∃ n, Keep (n = (ps ++ [xk]).length) := ⟨_, ⟨rfl⟩⟩
     rw [← hjn.out] at hj
     subst hj
     have HO5 := Keep.mk h1
     have HG5 := Keep.mk h2
     have HM5 := Keep.mk h3
     clear h1 h2 h3 hr
     have HV5 := Keep.mk (HG5.out.blk (KV.out.below BE3.out KV.out.lt) fun e => (KN.out gz e).2 rfl)
     refine hK _ _ trivial fun hH6 => ?_
     clear hK
     simp only [Act.put, pqA, pqB, pqC]
     refine tkS (i := 7) (oi := ⟨some 80, Op.fieldAddr 39 (Operand.tmp 12) 2, 0, _, _, none⟩) (v := .pointer (some ⟨gz, 33, none⟩)) rfl (Or.inl ⟨by rfl, fun w hS => by clear hS; go_simp⟩) hH6 ?_
     refine wpAnyH_ready (rs := [8]) (by kernel_rfl) (by simp) ?_
     refine AllReadyH.cons (o := ⟨none, Op.store 37 (Operand.tmp 80) (Operand.tmp 79), 0, _, _, none⟩) rfl (fun K hK => ?_) AllReadyH.nil
     rw [if_pos (by rfl)]
     have f_o := HV5.out.frozen 33
     have c_o : wA.cell? ⟨gz, 33, none⟩ = some (.slice pa ps.length pc) := HV5.out.c 33 (vtx_ps _ _ _)
     refine wp_cellS (wA.setCell ⟨gz, 33, none⟩ (.slice ja jn jc)) (by go_simp) ?_
     clear f_o c_o
     have hg6 : Grown wA (wA.setCell ⟨gz, 33, none⟩ (.slice ja jn jc)) fun k => k = gz := Grown.setCell _ _ _ _ fun _ => rfl
     have NN : Keep (∀ k, (Value.slice ja jn jc).ownBlock = some k → wr.heap.size ≤ k ∧ k ≠ gz) := ⟨fun k hk => HM5.out.elim (fun e => KN.out k (e ▸ hk)) fun ⟨j, e, hj⟩ => by rw [hk] at e; have e := Option.some.inj e; subst e; exact ⟨Nat.le_trans KB.out.size (Nat.le_trans BE3.out.size hj), fun e => by have := KV.out.lt; have := BE3.out.size; omega⟩⟩
     have NV : Keep (Blk (wA.setCell ⟨gz, 33, none⟩ (.slice ja jn jc)) gz 39 (vtx xid.f (1 + qq) (.slice ja jn jc))) := ⟨by have h := HV5.out.set 33 (.slice ja jn jc); rw [vtx_set] at h; exact h⟩
     have NO := Keep.mk (HO5.out.grown hg6 fun k hk e => (NN.out k hk).2 e)
     have NB : Keep (Below wr.heap.size wr (wA.setCell ⟨gz, 33, none⟩ (.slice ja jn jc))) := ⟨((KB.out.trans (BE3.out.mono KB.out.size)).trans (HG5.out.to_below (fun k hk e => by have := (KN.out k e).1; omega) (Nat.le_trans KB.out.size BE3.out.size))).trans (hg6.to_below (fun k hk e => by have := LZ.out; omega) (Nat.le_trans (Nat.le_trans KB.out.size BE3.out.size) HG5.out.size))⟩
     clear hg6
     generalize wA.setCell ⟨gz, 33, none⟩ (.slice ja jn jc) = w6 at *
     refine hK _ _ trivial fun hH7 => ?_
     clear hK hH6 hH7 HV5 HO5 HG5 HM5
     simp only [Act.put, pqA, pqB, pqC]
     refine wpAnyH_done (by kernel_rfl) ?_ _
     refine hK35 _ _ ?_
     refine rgn ?_
     refine VlS (.int .i64 (c0 + (s : Int))) ?_
     refine VlS (.int .i64 (c0 + ((s + 1 : Nat) : Int))) ?_
     refine VlS (.int .i64 (c0 + ((s + 1 : Nat) : Int))) ?_
     refine WL.nil ?_
     refine ⟨⟨s + 1, fun i => [.int .i64 (nn : Int), .int .i64 (wd : Int), .int .u8 sd, undef, undef, undef, f 6, .pointer (some ⟨d, 0, none⟩), .int .i64 0, .pointer (some ⟨x, 0, none⟩), .int .i64 0, .int .i64 (t : Int), .pointer (some ⟨gz, 0, none⟩), .int .i64 (c0 + ((s + 1 : Nat) : Int)), f 14, f 15, f 16, f 17, f 18, f 19, .int .i64 n0, .int .i64 (nn : Int), .int .i64 wd0, .int .i64 (kk : Int), .int .i64 (wd : Int), .tuple #[.pointer (some ⟨d, 0, none⟩), .int .i64 0], .tuple #[.pointer (some ⟨d, 0, none⟩), .int .i64 0], .pointer (some ⟨d, 0, none⟩), .int .i64 0, .tuple #[.pointer (some ⟨x, 0, none⟩), .int .i64 0], .tuple #[.pointer (some ⟨x, 0, none⟩), .int .i64 0], .pointer (some ⟨x, 0, none⟩), .int .i64 0, .pointer (some ⟨d, 0, none⟩), .bool false, .bool false, .int .i64 0, .bool false, .bool false, .int .i64 (t : Int), .int .i64 (nn : Int), .bool true, f 42, f 43, .int .u8 sd, .int .i64 (t : Int), .agg (bytesA 32 xid.f), .int .i64 (t : Int), .int .i64 (wd : Int), .int .i64 qq, .int .i64 (1 + qq), .agg v0, .int .i64 (t : Int), .int .i64 (t : Int), .int .i64 (wd : Int), .int .i64 rm, .int .i64 (c0 + (wd : Int)), .int .i64 (wd : Int), .int .i64 (c0 + ((0 : Nat) : Int)), .int .i64 (t : Int), .int .i64 (wd : Int), .bool true, .bool true, .int .i64 (c0 + (s : Int)), .int .i64 (t : Int), .int .i64 (t : Int), .int .i64 (wd : Int), .int .i64 rm, .int .i64 (c0 + (wd : Int)), .bool true, .bool true, .int .i64 (c0 + (s : Int)), .int .i64 (c0 + ((s + 1 : Nat) : Int)), .pointer (some ⟨gz, 33, none⟩), .slice pa ps.length pc, .int .u8 sd, .int .i64 (c0 + (s : Int)), .agg (bytesA 32 xk.f), .slice (some ⟨gx, 0, none⟩) 1 1, .slice ja jn jc, .pointer (some ⟨gz, 33, none⟩), f 81, f 82, f 83, f 84, f 85, f 86, f 87, f 88, f 89, f 90, f 91, f 92, f 93, f 94, f 95, f 96, f 97, f 98, f 99, f 100, f 101, f 102, f 103, f 104, f 105, f 106, f 107, f 108, f 109, f 110, f 111, f 112, undef, undef, undef, undef, undef, undef].getD i undef, rfl, by omega, ps ++ [xk], ja, jc, ?_, ?_, by rw [List.length_append]; simp; omega, ?_, ?_⟩, ?_⟩
     ·rw [← hjn.out]; exact NV.out
     ·rw [← hjn.out]; exact NO.out
     ·rw [← hjn.out]; exact NN.out
     ·exact NB.out
     ·simp only [intOf]; show wd - (c0 + ((s + 1 : Nat) : Int) - c0).toNat < wd - (c0 + (s : Int) - c0).toNat; omega
    ·refine wp_callF 15 _ _ rfl Try.in15 #[.int .u8 sd, .int .i64 (c0 + (s : Int))] (by simp [Act.eval]) (fun u wx => ∃ xk : Hs, u = .agg (bytesA 32 xk.f) ∧ Below ws.drew.heap.size ws.drew wx) ((ident_any sd (c0 + (s : Int)) ws.drew Hsd.out).mono fun e w' ⟨z, h1, h2⟩ => ⟨_, h1, z, rfl, h2⟩) ?_
     rintro _ wb1 ⟨xk, rfl, hb_⟩
     have BE1 := Keep.mk (belowT BE0.out hb_)
     refine hK _ _ trivial fun hR1 => ?_
     clear hK hb_
     simp only [Act.put, pqA, pqB, pqC]
     refine wpAnyH_ready (rs := [1, 5]) (by kernel_rfl) (by simp) ?_
     refine AllReadyH.cons (o := ⟨some 74, Op.load 37 (Operand.tmp 73), 37, _, _, none⟩) rfl (fun K hK => ?_) (AllReadyH.cons (o := ⟨some 78, Op.buildSlice 37 1 #[(0, Operand.tmp 77)], 37, _, _, none⟩) rfl (fun K hK => ?_) AllReadyH.nil)
     all_goals rw [if_pos (by rfl)]
     ·have c_o : wb1.cell? ⟨gz, 33, none⟩ = some (.slice pa ps.length pc) := (KV.out.below BE1.out KV.out.lt).c 33 (vtx_ps _ _ _)
      refine wp_val (.slice pa ps.length pc) (by go_simp) ?_
      clear c_o
      refine hK _ _ trivial fun hR2 => ?_
      clear hK
      simp only [Act.put, pqA, pqB, pqC]
      refine wpAnyH_ready (rs := [5]) (by kernel_rfl) (by simp) ?_
      refine AllReadyH.cons (o := ⟨some 78, Op.buildSlice 37 1 #[(0, Operand.tmp 77)], 37, _, _, none⟩) rfl (fun K hK => ?_) AllReadyH.nil
      rw [if_pos (by rfl)]
      refine wp_bs 37 1 _ rfl #[(0, .agg (bytesA 32 xk.f))] (by simp [Act.eval]) _ _ (bsH xk _) ?_
      have HGx := Keep.mk (Blk.new wb1 36 (bytesA 32 xk.f))
      have BE3 := Keep.mk (belowT BE1.out (below_new wb1 (.cells (bytesA 32 xk.f) 36)))
      generalize wb1.alloc (.cells (bytesA 32 xk.f) 36) = wb3 at *
      generalize wb1.heap.size = gx at *
      refine hK _ _ trivial fun hR3 => ?_
      clear hK
      simp only [Act.put, pqA, pqB, pqC]
      refine wpAnyH_ready (rs := [6]) (by kernel_rfl) (by simp) ?_
      refine AllReadyH.cons (o := ⟨some 79, Op.call { callee := Callee.builtin Builtin.append, args := #[Operand.tmp 74, Operand.tmp 78], argTypes := #[37, 37] }, 37, _, _, none⟩) rfl (fun K hK => ?_) AllReadyH.nil
      rw [if_pos (by rfl)]
      obtain ⟨vA, wA, hr, h1, h2, h3⟩ := run_appH wb3 37 (.slice pa ps.length pc) ps (KO.out.below BE3.out) gx xk HGx.out (by omega)
      refine Go.Lib.wp_append_run wb3 (.tmp 74) (.tmp 78) 37 37 rfl _ _ rfl rfl vA wA hr ?_
      obtain ⟨ja, jc, hj⟩ := h1.sl
      obtain ⟨jn, hjn⟩ : ∃ n, Keep (n = (ps ++ [xk]).length) := ⟨_, ⟨rfl⟩⟩
      rw [← hjn.out] at hj
      subst hj
      have HO5 := Keep.mk h1
      have HG5 := Keep.mk h2
      have HM5 := Keep.mk h3
      clear h1 h2 h3 hr
      have HV5 := Keep.mk (HG5.out.blk (KV.out.below BE3.out KV.out.lt) fun e => (KN.out gz e).2 rfl)
      refine hK _ _ trivial fun hH6 => ?_
      clear hK
      simp only [Act.put, pqA, pqB, pqC]
      refine tkS (i := 7) (oi := ⟨some 80, Op.fieldAddr 39 (Operand.tmp 12) 2, 0, _, _, none⟩) (v := .pointer (some ⟨gz, 33, none⟩)) rfl (Or.inl ⟨by rfl, fun w hS => by clear hS; go_simp⟩) hH6 ?_
      refine wpAnyH_ready (rs := [8]) (by kernel_rfl) (by simp) ?_
      refine AllReadyH.cons (o := ⟨none, Op.store 37 (Operand.tmp 80) (Operand.tmp 79), 0, _, _, none⟩) rfl (fun K hK => ?_) AllReadyH.nil
      rw [if_pos (by rfl)]
      have f_o := HV5.out.frozen 33
      have c_o : wA.cell? ⟨gz, 33, none⟩ = some (.slice pa ps.length pc) := HV5.out.c 33 (vtx_ps _ _ _)
      refine wp_cellS (wA.setCell ⟨gz, 33, none⟩ (.slice ja jn jc)) (by go_simp) ?_
      clear f_o c_o
      have hg6 : Grown wA (wA.setCell ⟨gz, 33, none⟩ (.slice ja jn jc)) fun k => k = gz := Grown.setCell _ _ _ _ fun _ => rfl
      have NN : Keep (∀ k, (Value.slice ja jn jc).ownBlock = some k → wr.heap.size ≤ k ∧ k ≠ gz) := ⟨fun k hk => HM5.out.elim (fun e => KN.out k (e ▸ hk)) fun ⟨j, e, hj⟩ => by rw [hk] at e; have e := Option.some.inj e; subst e; exact ⟨Nat.le_trans KB.out.size (Nat.le_trans BE3.out.size hj), fun e => by have := KV.out.lt; have := BE3.out.size; omega⟩⟩
      have NV : Keep (Blk (wA.setCell ⟨gz, 33, none⟩ (.slice ja jn jc)) gz 39 (vtx xid.f (1 + qq) (.slice ja jn jc))) := ⟨by have h := HV5.out.set 33 (.slice ja jn jc); rw [vtx_set] at h; exact h⟩
      have NO := Keep.mk (HO5.out.grown hg6 fun k hk e => (NN.out k hk).2 e)
      have NB : Keep (Below wr.heap.size wr (wA.setCell ⟨gz, 33, none⟩ (.slice ja jn jc))) := ⟨((KB.out.trans (BE3.out.mono KB.out.size)).trans (HG5.out.to_below (fun k hk e => by have := (KN.out k e).1; omega) (Nat.le_trans KB.out.size BE3.out.size))).trans (hg6.to_below (fun k hk e => by have := LZ.out; omega) (Nat.le_trans (Nat.le_trans KB.out.size BE3.out.size) HG5.out.size))⟩
      clear hg6
      generalize wA.setCell ⟨gz, 33, none⟩ (.slice ja jn jc) = w6 at *
      refine hK _ _ trivial fun hH7 => ?_
      clear hK hH6 hH7 HV5 HO5 HG5 HM5
      simp only [Act.put, pqA, pqB, pqC]
      refine wpAnyH_done (by kernel_rfl) ?_ _
      refine hK35 _ _ ?_
      refine rgn ?_
      refine VlS (.int .i64 (c0 + (s : Int))) ?_
      refine VlS (.int .i64 (c0 + ((s + 1 : Nat) : Int))) ?_
      refine VlS (.int .i64 (c0 + ((s + 1 : Nat) : Int))) ?_
      refine WL.nil ?_
      refine ⟨⟨s + 1, fun i => [.int .i64 (nn : Int), .int .i64 (wd : Int), .int .u8 sd, undef, undef, undef, f 6, .pointer (some ⟨d, 0, none⟩), .int .i64 0, .pointer (some ⟨x, 0, none⟩), .int .i64 0, .int .i64 (t : Int), .pointer (some ⟨gz, 0, none⟩), .int .i64 (c0 + ((s + 1 : Nat) : Int)), f 14, f 15, f 16, f 17, f 18, f 19, .int .i64 n0, .int .i64 (nn : Int), .int .i64 wd0, .int .i64 (kk : Int), .int .i64 (wd : Int), .tuple #[.pointer (some ⟨d, 0, none⟩), .int .i64 0], .tuple #[.pointer (some ⟨d, 0, none⟩), .int .i64 0], .pointer (some ⟨d, 0, none⟩), .int .i64 0, .tuple #[.pointer (some ⟨x, 0, none⟩), .int .i64 0], .tuple #[.pointer (some ⟨x, 0, none⟩), .int .i64 0], .pointer (some ⟨x, 0, none⟩), .int .i64 0, .pointer (some ⟨d, 0, none⟩), .bool false, .bool false, .int .i64 0, .bool false, .bool false, .int .i64 (t : Int), .int .i64 (nn : Int), .bool true, f 42, f 43, .int .u8 sd, .int .i64 (t : Int), .agg (bytesA 32 xid.f), .int .i64 (t : Int), .int .i64 (wd : Int), .int .i64 qq, .int .i64 (1 + qq), .agg v0, .int .i64 (t : Int), .int .i64 (t : Int), .int .i64 (wd : Int), .int .i64 rm, .int .i64 (c0 + (wd : Int)), .int .i64 (wd : Int), .int .i64 (c0 + ((0 : Nat) : Int)), .int .i64 (t : Int), .int .i64 (wd : Int), .bool true, .bool true, .int .i64 (c0 + (s : Int)), .int .i64 (t : Int), .int .i64 (t : Int), .int .i64 (wd : Int), .int .i64 rm, .int .i64 (c0 + (wd : Int)), .bool true, .bool true, .int .i64 (c0 + (s : Int)), .int .i64 (c0 + ((s + 1 : Nat) : Int)), .pointer (some ⟨gz, 33, none⟩), .slice pa ps.length pc, .int .u8 sd, .int .i64 (c0 + (s : Int)), .agg (bytesA 32 xk.f), .slice (some ⟨gx, 0, none⟩) 1 1, .slice ja jn jc, .pointer (some ⟨gz, 33, none⟩), f 81, f 82, f 83, f 84, f 85, f 86, f 87, f 88, f 89, f 90, f 91, f 92, f 93, f 94, f 95, f 96, f 97, f 98, f 99, f 100, f 101, f 102, f 103, f 104, f 105, f 106, f 107, f 108, f 109, f 110, f 111, f 112, undef, undef, undef, undef, undef, undef].getD i undef, rfl, by omega, ps ++ [xk], ja, jc, ?_, ?_, by rw [List.length_append]; simp; omega, ?_, ?_⟩, ?_⟩
      ·rw [← hjn.out]; exact NV.out
      ·rw [← hjn.out]; exact NO.out
      ·rw [← hjn.out]; exact NN.out
      ·exact NB.out
      ·simp only [intOf]; show wd - (c0 + ((s + 1 : Nat) : Int) - c0).toNat < wd - (c0 + (s : Int) - c0).toNat; omega
     ·refine wp_bs 37 1 _ rfl #[(0, .agg (bytesA 32 xk.f))] (by simp [Act.eval]) _ _ (bsH xk _) ?_
      have HGx := Keep.mk (Blk.new wb1 36 (bytesA 32 xk.f))
      have BE2 := Keep.mk (belowT BE1.out (below_new wb1 (.cells (bytesA 32 xk.f) 36)))
      generalize wb1.alloc (.cells (bytesA 32 xk.f) 36) = wb2 at *
      generalize wb1.heap.size = gx at *
      refine hK _ _ trivial fun hR2 => ?_
      clear hK
      simp only [Act.put, pqA, pqB, pqC]
      refine wpAnyH_ready (rs := [1]) (by kernel_rfl) (by simp) ?_
      refine AllReadyH.cons (o := ⟨some 74, Op.load 37 (Operand.tmp 73), 37, _, _, none⟩) rfl (fun K hK => ?_) AllReadyH.nil
      rw [if_pos (by rfl)]
      have c_o : wb2.cell? ⟨gz, 33, none⟩ = some (.slice pa ps.length pc) := (KV.out.below BE2.out KV.out.lt).c 33 (vtx_ps _ _ _)
      refine wp_val (.slice pa ps.length pc) (by go_simp) ?_
      clear c_o
      refine hK _ _ trivial fun hR3 => ?_
      clear hK
      simp only [Act.put, pqA, pqB, pqC]
      refine wpAnyH_ready (rs := [6]) (by kernel_rfl) (by simp) ?_
      refine AllReadyH.cons (o := ⟨some 79, Op.call { callee := Callee.builtin Builtin.append, args := #[Operand.tmp 74, Operand.tmp 78], argTypes := #[37, 37] }, 37, _, _, none⟩) rfl (fun K hK => ?_) AllReadyH.nil
      rw [if_pos (by rfl)]
      obtain ⟨vA, wA, hr, h1, h2, h3⟩ := run_appH wb2 37 (.slice pa ps.length pc) ps (KO.out.below BE2.out) gx xk HGx.out (by omega)
      refine Go.Lib.wp_append_run wb2 (.tmp 74) (.tmp 78) 37 37 rfl _ _ rfl rfl vA wA hr ?_
      obtain ⟨ja, jc, hj⟩ := h1.sl
      obtain ⟨jn, hjn⟩ : ∃ n, Keep (n = (ps ++ [xk]).length) := ⟨_, ⟨rfl⟩⟩
      rw [← hjn.out] at hj
      subst hj
      have HO5 := Keep.mk h1
      have HG5 := Keep.mk h2
      have HM5 := Keep.mk h3
      clear h1 h2 h3 hr
      have HV5 := Keep.mk (HG5.out.blk (KV.out.below BE2.out KV.out.lt) fun e => (KN.out gz e).2 rfl)
      refine hK _ _ trivial fun hH6 => ?_
      clear hK
      simp only [Act.put, pqA, pqB, pqC]
      refine tkS (i := 7) (oi := ⟨some 80, Op.fieldAddr 39 (Operand.tmp 12) 2, 0, _, _, none⟩) (v := .pointer (some ⟨gz, 33, none⟩)) rfl (Or.inl ⟨by rfl, fun w hS => by clear hS; go_simp⟩) hH6 ?_
      refine wpAnyH_ready (rs := [8]) (by kernel_rfl) (by simp) ?_
      refine AllReadyH.cons (o := ⟨none, Op.store 37 (Operand.tmp 80) (Operand.tmp 79), 0, _, _, none⟩) rfl (fun K hK => ?_) AllReadyH.nil
      rw [if_pos (by rfl)]
      have f_o := HV5.out.frozen 33
      have c_o : wA.cell? ⟨gz, 33, none⟩ = some (.slice pa ps.length pc) := HV5.out.c 33 (vtx_ps _ _ _)
      refine wp_cellS (wA.setCell ⟨gz, 33, none⟩ (.slice ja jn jc)) (by go_simp) ?_
      clear f_o c_o
      have hg6 : Grown wA (wA.setCell ⟨gz, 33, none⟩ (.slice ja jn jc)) fun k => k = gz := Grown.setCell _ _ _ _ fun _ => rfl
      have NN : Keep (∀ k, (Value.slice ja jn jc).ownBlock = some k → wr.heap.size ≤ k ∧ k ≠ gz) := ⟨fun k hk => HM5.out.elim (fun e => KN.out k (e ▸ hk)) fun ⟨j, e, hj⟩ => by rw [hk] at e; have e := Option.some.inj e; subst e; exact ⟨Nat.le_trans KB.out.size (Nat.le_trans BE2.out.size hj), fun e => by have := KV.out.lt; have := BE2.out.size; omega⟩⟩
      have NV : Keep (Blk (wA.setCell ⟨gz, 33, none⟩ (.slice ja jn jc)) gz 39 (vtx xid.f (1 + qq) (.slice ja jn jc))) := ⟨by have h := HV5.out.set 33 (.slice ja jn jc); rw [vtx_set] at h; exact h⟩
      have NO := Keep.mk (HO5.out.grown hg6 fun k hk e => (NN.out k hk).2 e)
      have NB : Keep (Below wr.heap.size wr (wA.setCell ⟨gz, 33, none⟩ (.slice ja jn jc))) := ⟨((KB.out.trans (BE2.out.mono KB.out.size)).trans (HG5.out.to_below (fun k hk e => by have := (KN.out k e).1; omega) (Nat.le_trans KB.out.size BE2.out.size))).trans (hg6.to_below (fun k hk e => by have := LZ.out; omega) (Nat.le_trans (Nat.le_trans KB.out.size BE2.out.size) HG5.out.size))⟩
      clear hg6
      generalize wA.setCell ⟨gz, 33, none⟩ (.slice ja jn jc) = w6 at *
      refine hK _ _ trivial fun hH7 => ?_
      clear hK hH6 hH7 HV5 HO5 HG5 HM5
      simp only [Act.put, pqA, pqB, pqC]
      refine wpAnyH_done (by kernel_rfl) ?_ _
      refine hK35 _ _ ?_
      refine rgn ?_
      refine VlS (.int .i64 (c0 + (s : Int))) ?_
      refine VlS (.int .i64 (c0 + ((s + 1 : Nat) : Int))) ?_
      refine VlS (.int .i64 (c0 + ((s + 1 : Nat) : Int))) ?_
      refine WL.nil ?_
      refine ⟨⟨s + 1, fun i => [.int .i64 (nn : Int), .int .i64 (wd : Int), .int .u8 sd, undef, undef, undef, f 6, .pointer (some ⟨d, 0, none⟩), .int .i64 0, .pointer (some ⟨x, 0, none⟩), .int .i64 0, .int .i64 (t : Int), .pointer (some ⟨gz, 0, none⟩), .int .i64 (c0 + ((s + 1 : Nat) : Int)), f 14, f 15, f 16, f 17, f 18, f 19, .int .i64 n0, .int .i64 (nn : Int), .int .i64 wd0, .int .i64 (kk : Int), .int .i64 (wd : Int), .tuple #[.pointer (some ⟨d, 0, none⟩), .int .i64 0], .tuple #[.pointer (some ⟨d, 0, none⟩), .int .i64 0], .pointer (some ⟨d, 0, none⟩), .int .i64 0, .tuple #[.pointer (some ⟨x, 0, none⟩), .int .i64 0], .tuple #[.pointer (some ⟨x, 0, none⟩), .int .i64 0], .pointer (some ⟨x, 0, none⟩), .int .i64 0, .pointer (some ⟨d, 0, none⟩), .bool false, .bool false, .int .i64 0, .bool false, .bool false, .int .i64 (t : Int), .int .i64 (nn : Int), .bool true, f 42, f 43, .int .u8 sd, .int .i64 (t : Int), .agg (bytesA 32 xid.f), .int .i64 (t : Int), .int .i64 (wd : Int), .int .i64 qq, .int .i64 (1 + qq), .agg v0, .int .i64 (t : Int), .int .i64 (t : Int), .int .i64 (wd : Int), .int .i64 rm, .int .i64 (c0 + (wd : Int)), .int .i64 (wd : Int), .int .i64 (c0 + ((0 : Nat) : Int)), .int .i64 (t : Int), .int .i64 (wd : Int), .bool true, .bool true, .int .i64 (c0 + (s : Int)), .int .i64 (t : Int), .int .i64 (t : Int), .int .i64 (wd : Int), .int .i64 rm, .int .i64 (c0 + (wd : Int)), .bool true, .bool true, .int .i64 (c0 + (s : Int)), .int .i64 (c0 + ((s + 1 : Nat) : Int)), .pointer (some ⟨gz, 33, none⟩), .slice pa ps.length pc, .int .u8 sd, .int .i64 (c0 + (s : Int)), .agg (bytesA 32 xk.f), .slice (some ⟨gx, 0, none⟩) 1 1, .slice ja jn jc, .pointer (some ⟨gz, 33, none⟩), f 81, f 82, f 83, f 84, f 85, f 86, f 87, f 88, f 89, f 90, f 91, f 92, f 93, f 94, f 95, f 96, f 97, f 98, f 99, f 100, f 101, f 102, f 103, f 104, f 105, f 106, f 107, f 108, f 109, f 110, f 111, f 112, undef, undef, undef, undef, undef, undef].getD i undef, rfl, by omega, ps ++ [xk], ja, jc, ?_, ?_, by rw [List.length_append]; simp; omega, ?_, ?_⟩, ?_⟩
      ·rw [← hjn.out]; exact NV.out
      ·rw [← hjn.out]; exact NO.out
      ·rw [← hjn.out]; exact NN.out
      ·exact NB.out
      ·simp only [intOf]; show wd - (c0 + ((s + 1 : Nat) : Int) - c0).toNat < wd - (c0 + (s : Int) - c0).toNat; omega
   ·by_cases hg1 : wd ≤ t
    ·have hg1' : (wd : Int) ≤ (t : Int) := by omega
     have hg2' : ¬ c0 + (s : Int) < c0 + (wd : Int) := fun h => hgo ⟨hg1, by omega⟩
     refine wp_seq_k fun K36 hK36 => ?_
     refine wp_seq_k fun K37 hK37 => rgn ?_
     refine VlS (.int .i64 (t : Int)) ?_
     refine VlS (.int .i64 (wd : Int)) ?_
     refine VlS (.bool true) ?_
     refine VlS (.bool true) ?_
     refine VlS (.int .i64 (c0 + (s : Int))) ?_
     refine VlS (.int .i64 (t : Int)) ?_
     refine VlS (.int .i64 (t : Int)) ?_
     refine VlS (.int .i64 (wd : Int)) ?_
     refine VlS (.int .i64 rm) ?_
     refine VlS (.int .i64 (c0 + (wd : Int))) ?_
     refine VlS (.bool false) ?_
     refine VlS (.bool false) ?_
     refine WL.nil (hK37 _ _ ?_)
     refine wp_cond_false rfl ?_
     refine wp_exit ?_
     refine hK31 _ _ ?_
     refine wp_seq_k fun K38 hK38 => rgn ?_
     refine VlS (.pointer (some ⟨gz, 33, none⟩)) ?_
     have c1 : ws.cell? ⟨gz, 33, none⟩ = some (.slice pa ps.length pc) := KV.out.c 33 (vtx_ps _ _ _)
     refine WL.val (by kernel_rfl) (.slice pa ps.length pc) (by go_simp) ?_
     clear c1
     simp only [Act.put, pqA, pqB, pqC]
     refine WL.callF (by kernel_rfl) 16 _ _ rfl Try.in16 #[.slice pa ps.length pc] (by simp [Act.eval]) ?_
     refine (refSort_any _ (.slice pa ps.length pc) ps ws rfl KO.out.row (by omega)).mono ?_
     rintro e w5 ⟨v5, P5, rfl, hown, hpw, hmem, hlen, hb⟩
     refine ⟨_, rfl, ?_⟩
     have O5 := Keep.mk (OwnH.of hown)
     have N5 : Keep (∀ k, v5.ownBlock = some k → ws.heap.size ≤ k) := ⟨fun k hk => (World.ownsRow.lt hown k hk).1⟩
     have L5 : Keep (P5.length ≤ 5) := ⟨by omega⟩
     have V5 := Keep.mk (KV.out.below hb KV.out.lt)
     have B5 := Keep.mk (KB.out.trans (hb.mono KB.out.size))
     clear hown hpw hmem hlen hb
     obtain ⟨sa, sc, rfl⟩ := O5.out.sl
     simp only [Act.put, pqA, pqB, pqC]
     refine VlS (.pointer (some ⟨gz, 33, none⟩)) ?_
     have f_o := V5.out.frozen 33
     have c_o : w5.cell? ⟨gz, 33, none⟩ = some (.slice pa ps.length pc) := V5.out.c 33 (vtx_ps _ _ _)
     refine WL.cell (by kernel_rfl) (w5.setCell ⟨gz, 33, none⟩ (.slice sa P5.length sc)) (by go_simp) ?_
     clear f_o c_o
     obtain ⟨vx, hvx⟩ : ∃ a : Array Value, Keep (a = vtx xid.f (1 + qq) (.slice sa P5.length sc)) := ⟨_, ⟨rfl⟩⟩
     have hg6 : Grown w5 (w5.setCell ⟨gz, 33, none⟩ (.slice sa P5.length sc)) fun k => k = gz := Grown.setCell _ _ _ _ fun _ => rfl
     have V6 : Keep (Blk (w5.setCell ⟨gz, 33, none⟩ (.slice sa P5.length sc)) gz 39 vx) := ⟨by have h := V5.out.set 33 (.slice sa P5.length sc); rw [vtx_set, ← hvx.out] at h; exact h⟩
     have O6 := Keep.mk (O5.out.grown hg6 fun k hk e => by have := N5.out k hk; have := KV.out.lt; omega)
     have B6 := Keep.mk (B5.out.trans (hg6.to_below (fun k hk e => by have := LZ.out; omega) B5.out.size))
     clear hg6
     generalize w5.setCell ⟨gz, 33, none⟩ (.slice sa P5.length sc) = w6 at *
     have P6 := Keep.mk (JP.out.below B6.out)
     have BW6 := Keep.mk (JB.out.trans (B6.out.mono JB.out.size))
     obtain ⟨vX, hvX⟩ : ∃ v : VX, v = ⟨xid, 1 + qq, P5⟩ := ⟨_, rfl⟩
     obtain ⟨hw, ee, hfe⟩ : ∃ a b, Keep (fitV g.held g.wait vX = (a, b)) := ⟨_, _, ⟨rfl⟩⟩
     have HvX := Keep.mk hvX
     clear hvX O5 V5
     simp only [Act.put]
     refine WL.nil (hK38 _ _ ?_)
     refine wp_seq_k fun K39 hK39 => rgn ?_
     refine VlS (.pointer (some ⟨d, 0, none⟩)) ?_
     refine WL.row (by kernel_rfl) 39 (.tmp 12) rfl gz rfl 39 vx _ V6.out Try.underlying39 rfl (by rw [hvx.out]; exact Try.info39s _ _ _) ?_
     simp only [Act.put, pqA, pqB, pqC]
     have had := add_any d vX (.slice sa P5.length sc) _ g w6 P6.out.dg JI.out (by rw [HvX.out]; exact O6.out.row) (by rw [HvX.out]; show (P5.length : Int) ≤ _; have := L5.out; omega)
     rw [show vtx vX.id.f vX.ck (.slice sa P5.length sc) = vx by rw [hvx.out, HvX.out], hfe.out] at had
     refine WL.callF (by kernel_rfl) 17 _ _ rfl Try.in17 #[ptr d, .agg vx] (by simp [Act.eval]) ?_
     refine (had).mono ?_
     rintro e w7 ⟨u7, g7, ol, rfl, hst, hdi, hag, hou, hun⟩
     refine ⟨_, rfl, ?_⟩
     clear had
     have hpm := P6.out.prog hst BW6.out.size
     have P7 := Keep.mk hpm.1
     have BW7 := Keep.mk (BW6.out.trans hpm.2)
     have I7 := Keep.mk hdi
     have A7 := Keep.mk hag
     have U7 := Keep.mk hou
     have N7 := Keep.mk hun
     have HltD : ∀ k, DgS d g k → k < wr.heap.size := fun k hk => JP.out.dg.lt k (.inl hk)
     have V7 := Keep.mk (hst.grown.blk V6.out fun e => by have := HltD _ e; have := LZ.out; omega)
     have O7 := Keep.mk (O6.out.grown hst.grown fun k hk e => by have := HltD _ e; have := N5.out k hk; have := KB.out.size; omega)
     clear hpm hst hdi hag hou hun HltD
     obtain ⟨ua, uc, rfl⟩ := U7.out.sl
     simp only [Act.put, pqA, pqB, pqC]
     refine VlS (.tuple #[.int .i64 hw, .slice ua ol.length uc, .int .i64 ee]) ?_
     refine VlS (.int .i64 hw) ?_
     refine VlS (.slice ua ol.length uc) ?_
     refine VlS (.int .i64 ee) ?_
     refine VlS (.int .i64 hw) ?_
     refine VlS (.slice ua ol.length uc) ?_
     refine VlS (.int .i64 ee) ?_
     refine WL.nil (hK39 _ _ ?_)
     refine wp_seq_k fun K40 hK40 => rgn ?_
     refine VlS (.pointer (some ⟨x, 0, none⟩)) ?_
     refine WL.row (by kernel_rfl) 39 (.tmp 12) rfl gz rfl 39 vx _ V7.out Try.underlying39 rfl (by rw [hvx.out]; exact Try.info39s _ _ _) ?_
     simp only [Act.put, pqA, pqB, pqC]
     have had := radd_any x vX (.slice sa P5.length sc) hv wv sv R w7 P7.out.rg JR.out (by rw [HvX.out]; exact O7.out.row) (by rw [HvX.out]; show (P5.length : Int) ≤ _; have := L5.out; omega) (by rw [JS.out.room]; exact JI.out.room.1)
     rw [show vtx vX.id.f vX.ck (.slice sa P5.length sc) = vx by rw [hvx.out, HvX.out], JS.out.hs, JS.out.ws, hfe.out] at had
     refine WL.callF (by kernel_rfl) 18 _ _ rfl Try.in18 #[ptr x, .agg vx] (by simp [Act.eval]) ?_
     refine (had).mono ?_
     rintro e w8 ⟨u8, p8, hv8, wv8, sv8, R8, ol8, rfl, hst, har, hou, hun⟩
     refine ⟨_, rfl, ?_⟩
     clear had
     have hpm := P7.out.ref hst BW7.out.size
     have P8 := Keep.mk hpm.1
     have BW8 := Keep.mk (BW7.out.trans hpm.2)
     have hsm := JS.out.add JI.out A7.out har
     have S8 := Keep.mk hsm.1
     have R8' := Keep.mk (hsm.1.addRI (g := g) I7.out JR.out har)
     have E8 := Keep.mk hsm.2
     have U8 := Keep.mk (U7.out.grown hst.grown fun k hk e => by have := (N7.out k hk).1; have := JP.out.rg.lt k e; have := B6.out.size; omega)
     have O8 := Keep.mk hou
     clear hpm hsm hst har hou hun
     obtain ⟨ub, ud, rfl⟩ := O8.out.sl
     simp only [Act.put, pqA, pqB, pqC]
     refine VlS (.tuple #[.int .i64 hw, .slice ub ol8.length ud, .int .i64 ee]) ?_
     refine VlS (.int .i64 hw) ?_
     refine VlS (.slice ub ol8.length ud) ?_
     refine VlS (.int .i64 ee) ?_
     refine VlS (.int .i64 hw) ?_
     refine VlS (.slice ub ol8.length ud) ?_
     refine VlS (.int .i64 ee) ?_
     refine WL.nil (hK40 _ _ ?_)
     refine wp_seq_k fun K41 hK41 => rgn ?_
     refine VlS (.int .i64 hw) ?_
     refine VlS (.int .i64 hw) ?_
     refine VlS (.bool false) ?_
     refine VlS (.bool false) ?_
     refine VlS (.int .i64 ee) ?_
     refine VlS (.int .i64 ee) ?_
     refine VlS (.bool false) ?_
     refine VlS (.bool false) ?_
     refine VlS (.bool false) ?_
     refine VlS (.slice ua ol.length uc) ?_
     refine VlS (.slice ub ol8.length ud) ?_
     have hol : ol.length ≤ 1 := by
      rcases A7.out with ⟨_, _, h⟩ | ⟨_, _, _, h⟩ | ⟨_, _, _, _, _, h⟩ | ⟨_, _, _, h⟩ <;> rw [h] <;> simp
     have hsm := smH_any (.slice ua ol.length uc) (.slice ub ol8.length ud) ol ol8 w8 U8.out.row O8.out.row (by omega)
     rw [decide_eq_true E8.out] at hsm
     refine WL.callF (by kernel_rfl) 19 _ _ rfl Try.in19 #[.slice ua ol.length uc, .slice ub ol8.length ud] (by simp [Act.eval]) ?_
     refine (hsm).mono ?_
     rintro e w9 ⟨rfl, hz⟩
     refine ⟨_, rfl, ?_⟩
     clear hsm
     have P9 := Keep.mk (P8.out.below hz)
     have BW9 := Keep.mk (BW8.out.trans (hz.mono BW8.out.size))
     clear hz
     simp only [Act.put, pqA, pqB, pqC]
     refine VlS (.bool false) ?_
     refine VlS (.bool false) ?_
     refine WL.nil (hK41 _ _ ?_)
     refine wp_cond_false rfl ?_
     refine wp_skip ?_
     refine hK12 _ _ ?_
     refine rgn ?_
     refine VlS (.int .i64 (t : Int)) ?_
     refine VlS (.int .i64 ((t + 1 : Nat) : Int)) ?_
     refine VlS (.int .i64 ((t + 1 : Nat) : Int)) ?_
     refine WL.nil ?_
     refine ⟨⟨t + 1, fun i => [.int .i64 (nn : Int), .int .i64 (wd : Int), .int .u8 sd, undef, undef, undef, f 6, .pointer (some ⟨d, 0, none⟩), .int .i64 0, .pointer (some ⟨x, 0, none⟩), .int .i64 0, .int .i64 ((t + 1 : Nat) : Int), .pointer (some ⟨gz, 0, none⟩), .int .i64 (c0 + (s : Int)), .int .i64 hw, .slice ua ol.length uc, .int .i64 ee, .int .i64 hw, .slice ub ol8.length ud, .int .i64 ee, .int .i64 n0, .int .i64 (nn : Int), .int .i64 wd0, .int .i64 (kk : Int), .int .i64 (wd : Int), .tuple #[.pointer (some ⟨d, 0, none⟩), .int .i64 0], .tuple #[.pointer (some ⟨d, 0, none⟩), .int .i64 0], .pointer (some ⟨d, 0, none⟩), .int .i64 0, .tuple #[.pointer (some ⟨x, 0, none⟩), .int .i64 0], .tuple #[.pointer (some ⟨x, 0, none⟩), .int .i64 0], .pointer (some ⟨x, 0, none⟩), .int .i64 0, .pointer (some ⟨d, 0, none⟩), .bool false, .bool false, .int .i64 0, .bool false, .bool false, .int .i64 (t : Int), .int .i64 (nn : Int), .bool true, .int .i64 (t : Int), .int .i64 ((t + 1 : Nat) : Int), .int .u8 sd, .int .i64 (t : Int), .agg (bytesA 32 xid.f), .int .i64 (t : Int), .int .i64 (wd : Int), .int .i64 qq, .int .i64 (1 + qq), .agg v0, .int .i64 (t : Int), .int .i64 (t : Int), .int .i64 (wd : Int), .int .i64 rm, .int .i64 (c0 + (wd : Int)), .int .i64 (wd : Int), .int .i64 (c0 + ((0 : Nat) : Int)), .int .i64 (t : Int), .int .i64 (wd : Int), .bool true, .bool true, .int .i64 (c0 + (s : Int)), .int .i64 (t : Int), .int .i64 (t : Int), .int .i64 (wd : Int), .int .i64 rm, .int .i64 (c0 + (wd : Int)), .bool false, .bool false, fb 71, fb 72, fb 73, fb 74, fb 75, fb 76, fb 77, fb 78, fb 79, fb 80, .pointer (some ⟨gz, 33, none⟩), .slice pa ps.length pc, .slice sa P5.length sc, .pointer (some ⟨gz, 33, none⟩), .tuple #[.int .i64 hw, .slice ua ol.length uc, .int .i64 ee], .pointer (some ⟨d, 0, none⟩), .agg vx, .tuple #[.int .i64 hw, .slice ua ol.length uc, .int .i64 ee], .int .i64 hw, .slice ua ol.length uc, .int .i64 ee, .tuple #[.int .i64 hw, .slice ub ol8.length ud, .int .i64 ee], .pointer (some ⟨x, 0, none⟩), .agg vx, .tuple #[.int .i64 hw, .slice ub ol8.length ud, .int .i64 ee], .int .i64 hw, .slice ub ol8.length ud, .int .i64 ee, .int .i64 hw, .int .i64 hw, .bool false, .bool false, .int .i64 ee, .int .i64 ee, .bool false, .bool false, .bool false, .slice ua ol.length uc, .slice ub ol8.length ud, .bool true, .bool false, .bool false, undef, undef, undef, undef, undef, undef].getD i undef, rfl, by omega, g7, hv8, wv8, sv8, R8, P9.out, I7.out, R8'.out, S8.out, BW9.out⟩, ?_⟩
     simp only [intOf]; show nn - ((t + 1 : Nat) : Int).toNat < nn - ((t : Int)).toNat; omega
    ·have hg1' : ¬ (wd : Int) ≤ (t : Int) := by omega
     refine wp_seq_k fun K42 hK42 => ?_
     refine wp_seq_k fun K43 hK43 => rgn ?_
     refine VlS (.int .i64 (t : Int)) ?_
     refine VlS (.int .i64 (wd : Int)) ?_
     refine VlS (.bool false) ?_
     refine VlS (.bool false) ?_
     refine SkS ?_
     refine SkS ?_
     refine SkS ?_
     refine SkS ?_
     refine SkS ?_
     refine SkS ?_
     refine SkS ?_
     refine VlS (.bool false) ?_
     refine WL.nil (hK43 _ _ ?_)
     refine wp_cond_false rfl ?_
     refine wp_exit ?_
     refine hK31 _ _ ?_
     refine wp_seq_k fun K44 hK44 => rgn ?_
     refine VlS (.pointer (some ⟨gz, 33, none⟩)) ?_
     have c1 : ws.cell? ⟨gz, 33, none⟩ = some (.slice pa ps.length pc) := KV.out.c 33 (vtx_ps _ _ _)
     refine WL.val (by kernel_rfl) (.slice pa ps.length pc) (by go_simp) ?_
     clear c1
     simp only [Act.put, pqA, pqB, pqC]
     refine WL.callF (by kernel_rfl) 16 _ _ rfl Try.in16 #[.slice pa ps.length pc] (by simp [Act.eval]) ?_
     refine (refSort_any _ (.slice pa ps.length pc) ps ws rfl KO.out.row (by omega)).mono ?_
     rintro e w5 ⟨v5, P5, rfl, hown, hpw, hmem, hlen, hb⟩
     refine ⟨_, rfl, ?_⟩
     have O5 := Keep.mk (OwnH.of hown)
     have N5 : Keep (∀ k, v5.ownBlock = some k → ws.heap.size ≤ k) := ⟨fun k hk => (World.ownsRow.lt hown k hk).1⟩
     have L5 : Keep (P5.length ≤ 5) := ⟨by omega⟩
     have V5 := Keep.mk (KV.out.below hb KV.out.lt)
     have B5 := Keep.mk (KB.out.trans (hb.mono KB.out.size))
     clear hown hpw hmem hlen hb
     obtain ⟨sa, sc, rfl⟩ := O5.out.sl
     simp only [Act.put, pqA, pqB, pqC]
     refine VlS (.pointer (some ⟨gz, 33, none⟩)) ?_
     have f_o := V5.out.frozen 33
     have c_o : w5.cell? ⟨gz, 33, none⟩ = some (.slice pa ps.length pc) := V5.out.c 33 (vtx_ps _ _ _)
     refine WL.cell (by kernel_rfl) (w5.setCell ⟨gz, 33, none⟩ (.slice sa P5.length sc)) (by go_simp) ?_
     clear f_o c_o
     obtain ⟨vx, hvx⟩ : ∃ a : Array Value, Keep (a = vtx xid.f (1 + qq) (.slice sa P5.length sc)) := ⟨_, ⟨rfl⟩⟩
     have hg6 : Grown w5 (w5.setCell ⟨gz, 33, none⟩ (.slice sa P5.length sc)) fun k => k = gz := Grown.setCell _ _ _ _ fun _ => rfl
     have V6 : Keep (Blk (w5.setCell ⟨gz, 33, none⟩ (.slice sa P5.length sc)) gz 39 vx) := ⟨by have h := V5.out.set 33 (.slice sa P5.length sc); rw [vtx_set, ← hvx.out] at h; exact h⟩
     have O6 := Keep.mk (O5.out.grown hg6 fun k hk e => by have := N5.out k hk; have := KV.out.lt; omega)
     have B6 := Keep.mk (B5.out.trans (hg6.to_below (fun k hk e => by have := LZ.out; omega) B5.out.size))
     clear hg6
     generalize w5.setCell ⟨gz, 33, none⟩ (.slice sa P5.length sc) = w6 at *
     have P6 := Keep.mk (JP.out.below B6.out)
     have BW6 := Keep.mk (JB.out.trans (B6.out.mono JB.out.size))
     obtain ⟨vX, hvX⟩ : ∃ v : VX, v = ⟨xid, 1 + qq, P5⟩ := ⟨_, rfl⟩
     obtain ⟨hw, ee, hfe⟩ : ∃ a b, Keep (fitV g.held g.wait vX = (a, b)) := ⟨_, _, ⟨rfl⟩⟩
     have HvX := Keep.mk hvX
     clear hvX O5 V5
     simp only [Act.put]
     refine WL.nil (hK44 _ _ ?_)
     refine wp_seq_k fun K45 hK45 => rgn ?_
     refine VlS (.pointer (some ⟨d, 0, none⟩)) ?_
     refine WL.row (by kernel_rfl) 39 (.tmp 12) rfl gz rfl 39 vx _ V6.out Try.underlying39 rfl (by rw [hvx.out]; exact Try.info39s _ _ _) ?_
     simp only [Act.put, pqA, pqB, pqC]
     have had := add_any d vX (.slice sa P5.length sc) _ g w6 P6.out.dg JI.out (by rw [HvX.out]; exact O6.out.row) (by rw [HvX.out]; show (P5.length : Int) ≤ _; have := L5.out; omega)
     rw [show vtx vX.id.f vX.ck (.slice sa P5.length sc) = vx by rw [hvx.out, HvX.out], hfe.out] at had
     refine WL.callF (by kernel_rfl) 17 _ _ rfl Try.in17 #[ptr d, .agg vx] (by simp [Act.eval]) ?_
     refine (had).mono ?_
     rintro e w7 ⟨u7, g7, ol, rfl, hst, hdi, hag, hou, hun⟩
     refine ⟨_, rfl, ?_⟩
     clear had
     have hpm := P6.out.prog hst BW6.out.size
     have P7 := Keep.mk hpm.1
     have BW7 := Keep.mk (BW6.out.trans hpm.2)
     have I7 := Keep.mk hdi
     have A7 := Keep.mk hag
     have U7 := Keep.mk hou
     have N7 := Keep.mk hun
     have HltD : ∀ k, DgS d g k → k < wr.heap.size := fun k hk => JP.out.dg.lt k (.inl hk)
     have V7 := Keep.mk (hst.grown.blk V6.out fun e => by have := HltD _ e; have := LZ.out; omega)
     have O7 := Keep.mk (O6.out.grown hst.grown fun k hk e => by have := HltD _ e; have := N5.out k hk; have := KB.out.size; omega)
     clear hpm hst hdi hag hou hun HltD
     obtain ⟨ua, uc, rfl⟩ := U7.out.sl
     simp only [Act.put, pqA, pqB, pqC]
     refine VlS (.tuple #[.int .i64 hw, .slice ua ol.length uc, .int .i64 ee]) ?_
     refine VlS (.int .i64 hw) ?_
     refine VlS (.slice ua ol.length uc) ?_
     refine VlS (.int .i64 ee) ?_
     refine VlS (.int .i64 hw) ?_
     refine VlS (.slice ua ol.length uc) ?_
     refine VlS (.int .i64 ee) ?_
     refine WL.nil (hK45 _ _ ?_)
     refine wp_seq_k fun K46 hK46 => rgn ?_
     refine VlS (.pointer (some ⟨x, 0, none⟩)) ?_
     refine WL.row (by kernel_rfl) 39 (.tmp 12) rfl gz rfl 39 vx _ V7.out Try.underlying39 rfl (by rw [hvx.out]; exact Try.info39s _ _ _) ?_
     simp only [Act.put, pqA, pqB, pqC]
     have had := radd_any x vX (.slice sa P5.length sc) hv wv sv R w7 P7.out.rg JR.out (by rw [HvX.out]; exact O7.out.row) (by rw [HvX.out]; show (P5.length : Int) ≤ _; have := L5.out; omega) (by rw [JS.out.room]; exact JI.out.room.1)
     rw [show vtx vX.id.f vX.ck (.slice sa P5.length sc) = vx by rw [hvx.out, HvX.out], JS.out.hs, JS.out.ws, hfe.out] at had
     refine WL.callF (by kernel_rfl) 18 _ _ rfl Try.in18 #[ptr x, .agg vx] (by simp [Act.eval]) ?_
     refine (had).mono ?_
     rintro e w8 ⟨u8, p8, hv8, wv8, sv8, R8, ol8, rfl, hst, har, hou, hun⟩
     refine ⟨_, rfl, ?_⟩
     clear had
     have hpm := P7.out.ref hst BW7.out.size
     have P8 := Keep.mk hpm.1
     have BW8 := Keep.mk (BW7.out.trans hpm.2)
     have hsm := JS.out.add JI.out A7.out har
     have S8 := Keep.mk hsm.1
     have R8' := Keep.mk (hsm.1.addRI (g := g) I7.out JR.out har)
     have E8 := Keep.mk hsm.2
     have U8 := Keep.mk (U7.out.grown hst.grown fun k hk e => by have := (N7.out k hk).1; have := JP.out.rg.lt k e; have := B6.out.size; omega)
     have O8 := Keep.mk hou
     clear hpm hsm hst har hou hun
     obtain ⟨ub, ud, rfl⟩ := O8.out.sl
     simp only [Act.put, pqA, pqB, pqC]
     refine VlS (.tuple #[.int .i64 hw, .slice ub ol8.length ud, .int .i64 ee]) ?_
     refine VlS (.int .i64 hw) ?_
     refine VlS (.slice ub ol8.length ud) ?_
     refine VlS (.int .i64 ee) ?_
     refine VlS (.int .i64 hw) ?_
     refine VlS (.slice ub ol8.length ud) ?_
     refine VlS (.int .i64 ee) ?_
     refine WL.nil (hK46 _ _ ?_)
     refine wp_seq_k fun K47 hK47 => rgn ?_
     refine VlS (.int .i64 hw) ?_
     refine VlS (.int .i64 hw) ?_
     refine VlS (.bool false) ?_
     refine VlS (.bool false) ?_
     refine VlS (.int .i64 ee) ?_
     refine VlS (.int .i64 ee) ?_
     refine VlS (.bool false) ?_
     refine VlS (.bool false) ?_
     refine VlS (.bool false) ?_
     refine VlS (.slice ua ol.length uc) ?_
     refine VlS (.slice ub ol8.length ud) ?_
     have hol : ol.length ≤ 1 := by
      rcases A7.out with ⟨_, _, h⟩ | ⟨_, _, _, h⟩ | ⟨_, _, _, _, _, h⟩ | ⟨_, _, _, h⟩ <;> rw [h] <;> simp
     have hsm := smH_any (.slice ua ol.length uc) (.slice ub ol8.length ud) ol ol8 w8 U8.out.row O8.out.row (by omega)
     rw [decide_eq_true E8.out] at hsm
     refine WL.callF (by kernel_rfl) 19 _ _ rfl Try.in19 #[.slice ua ol.length uc, .slice ub ol8.length ud] (by simp [Act.eval]) ?_
     refine (hsm).mono ?_
     rintro e w9 ⟨rfl, hz⟩
     refine ⟨_, rfl, ?_⟩
     clear hsm
     have P9 := Keep.mk (P8.out.below hz)
     have BW9 := Keep.mk (BW8.out.trans (hz.mono BW8.out.size))
     clear hz
     simp only [Act.put, pqA, pqB, pqC]
     refine VlS (.bool false) ?_
     refine VlS (.bool false) ?_
     refine WL.nil (hK47 _ _ ?_)
     refine wp_cond_false rfl ?_
     refine wp_skip ?_
     refine hK12 _ _ ?_
     refine rgn ?_
     refine VlS (.int .i64 (t : Int)) ?_
     refine VlS (.int .i64 ((t + 1 : Nat) : Int)) ?_
     refine VlS (.int .i64 ((t + 1 : Nat) : Int)) ?_
     refine WL.nil ?_
     refine ⟨⟨t + 1, fun i => [.int .i64 (nn : Int), .int .i64 (wd : Int), .int .u8 sd, undef, undef, undef, f 6, .pointer (some ⟨d, 0, none⟩), .int .i64 0, .pointer (some ⟨x, 0, none⟩), .int .i64 0, .int .i64 ((t + 1 : Nat) : Int), .pointer (some ⟨gz, 0, none⟩), .int .i64 (c0 + (s : Int)), .int .i64 hw, .slice ua ol.length uc, .int .i64 ee, .int .i64 hw, .slice ub ol8.length ud, .int .i64 ee, .int .i64 n0, .int .i64 (nn : Int), .int .i64 wd0, .int .i64 (kk : Int), .int .i64 (wd : Int), .tuple #[.pointer (some ⟨d, 0, none⟩), .int .i64 0], .tuple #[.pointer (some ⟨d, 0, none⟩), .int .i64 0], .pointer (some ⟨d, 0, none⟩), .int .i64 0, .tuple #[.pointer (some ⟨x, 0, none⟩), .int .i64 0], .tuple #[.pointer (some ⟨x, 0, none⟩), .int .i64 0], .pointer (some ⟨x, 0, none⟩), .int .i64 0, .pointer (some ⟨d, 0, none⟩), .bool false, .bool false, .int .i64 0, .bool false, .bool false, .int .i64 (t : Int), .int .i64 (nn : Int), .bool true, .int .i64 (t : Int), .int .i64 ((t + 1 : Nat) : Int), .int .u8 sd, .int .i64 (t : Int), .agg (bytesA 32 xid.f), .int .i64 (t : Int), .int .i64 (wd : Int), .int .i64 qq, .int .i64 (1 + qq), .agg v0, .int .i64 (t : Int), .int .i64 (t : Int), .int .i64 (wd : Int), .int .i64 rm, .int .i64 (c0 + (wd : Int)), .int .i64 (wd : Int), .int .i64 (c0 + ((0 : Nat) : Int)), .int .i64 (t : Int), .int .i64 (wd : Int), .bool false, .bool false, undef, undef, undef, undef, undef, undef, undef, .bool false, fb 71, fb 72, fb 73, fb 74, fb 75, fb 76, fb 77, fb 78, fb 79, fb 80, .pointer (some ⟨gz, 33, none⟩), .slice pa ps.length pc, .slice sa P5.length sc, .pointer (some ⟨gz, 33, none⟩), .tuple #[.int .i64 hw, .slice ua ol.length uc, .int .i64 ee], .pointer (some ⟨d, 0, none⟩), .agg vx, .tuple #[.int .i64 hw, .slice ua ol.length uc, .int .i64 ee], .int .i64 hw, .slice ua ol.length uc, .int .i64 ee, .tuple #[.int .i64 hw, .slice ub ol8.length ud, .int .i64 ee], .pointer (some ⟨x, 0, none⟩), .agg vx, .tuple #[.int .i64 hw, .slice ub ol8.length ud, .int .i64 ee], .int .i64 hw, .slice ub ol8.length ud, .int .i64 ee, .int .i64 hw, .int .i64 hw, .bool false, .bool false, .int .i64 ee, .int .i64 ee, .bool false, .bool false, .bool false, .slice ua ol.length uc, .slice ub ol8.length ud, .bool true, .bool false, .bool false, undef, undef, undef, undef, undef, undef].getD i undef, rfl, by omega, g7, hv8, wv8, sv8, R8, P9.out, I7.out, R8'.out, S8.out, BW9.out⟩, ?_⟩
     simp only [intOf]; show nn - ((t + 1 : Nat) : Int).toNat < nn - ((t : Int)).toNat; omega
 ·have htl' : ¬ (t : Int) < (nn : Int) := by omega
  refine wp_seq_k fun K48 hK48 => ?_
  refine wp_seq_k fun K49 hK49 => rgn ?_
  refine VlS (.int .i64 (t : Int)) ?_
  refine VlS (.int .i64 (nn : Int)) ?_
  refine VlS (.bool false) ?_
  refine WL.nil (hK49 _ _ ?_)
  refine wp_cond_false rfl ?_
  refine wp_exit ?_
  refine hK8 _ _ ?_
  refine wp_seq_k fun K50 hK50 => rgn ?_
  refine VlS (.pointer (some ⟨d, 0, none⟩)) ?_
  refine VlS (.pointer (some ⟨x, 0, none⟩)) ?_
  refine WL.callF (by kernel_rfl) 14 _ _ rfl Try.in14 #[ptr d, ptr x] (by simp [Act.eval]) ?_
  refine (whole_any d x g R _ wr JP.out.dg JI.out JP.out.rg.rd JR.out JS.out).mono ?_
  rintro e w9 ⟨rfl, hz⟩
  refine ⟨_, rfl, ?_⟩
  have B9 := Keep.mk (JB.out.trans (hz.mono JB.out.size))
  clear hz
  simp only [Act.put, pqA, pqB, pqC]
  refine VlS (.bool true) ?_
  refine WL.callF (by kernel_rfl) 9 _ _ rfl Try.in9 #[] (by simp) ?_
  refine (fixed_any w9).mono ?_
  rintro e w10 ⟨rfl, hz⟩
  refine ⟨_, rfl, ?_⟩
  have B10 := Keep.mk (B9.out.trans (hz.mono B9.out.size))
  clear hz
  simp only [Act.put, pqA, pqB, pqC]
  refine VlS (.bool true) ?_
  refine VlS (.bool true) ?_
  refine WL.nil (hK50 _ _ ?_)
  refine wp_ret ?_
  go_ret
  exact ⟨rfl, B10.out⟩
end Go.Proofs.Ytogmdfhicbmplaa
