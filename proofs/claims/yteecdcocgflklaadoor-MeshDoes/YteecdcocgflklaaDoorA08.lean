import Derived.Test.YteecdcocgflklaaDoorA07
import Derived.Test.YteecdcocgflklaaDoorA06
import Derived.Test.YteecdcocgflklaaDoorA01
namespace Go.Proofs.YteecdcocgflklaaDoor
open Go.RowKit
set_option linter.unusedSimpArgs false
set_option linter.unusedVariables false
theorem Tryd.in33 (w : World) (vs : Array Value) : (callFunc 33 vs).run Tryd.prog w = .ok (.enter 33 vs) w := by kernel_rfl
set_option maxRecDepth 8000 in
theorem many_any (w : World) (p mb x g N : Nat) (Ps Ks : List Lk) (kd f t i j m by_ : Int) (ba : Option Addr) (bn bc : Nat) (b : List Int) (HR : Keep (PR w p mb x g N Ps Ks)) (HEq : Keep (EqL Ps Ks)) (HB : Keep (RowAt w (.slice ba bn bc) b)) (Hbn : Keep (b.length = bn)) (HBy : Keep (Byts b)) (HD : Keep (b ≠ [] → ∀ k, (Value.slice ba bn bc).ownBlock = some k → ¬ PrS p mb x g Ps Ks k ∧ k < w.heap.size)) : Calls Tryd.prog 33 #[.agg #[.pointer (some ⟨p, 0, none⟩), .pointer (some ⟨x, 0, none⟩)], .agg #[.int .i64 kd, .int .i64 f, .int .i64 t, .int .i64 i, .int .i64 j, .int .i64 m, .int .u8 by_, .slice ba bn bc]] w fun e w' => e = .returned (.bool true) ∧ ∃ P' K', PrN w p mb x g N Ps Ks P' K' w' ∧ EqL P' K' := by
  go_enter Tryd.func33, Tryd.ntmps33
  refine wp_seq_k fun K1 hK1 => ?_
  refine wp_region_list (WL.out ?_)
  refine WL.box (by kernel_rfl) 34 (.tmp 0) rfl #[.pointer (some ⟨p, 0, none⟩), .pointer (some ⟨x, 0, none⟩)] rfl ?_
  have b1 := below_new w (.cells #[.pointer (some ⟨p, 0, none⟩), .pointer (some ⟨x, 0, none⟩)] 34)
  have Q3 := Keep.mk (Blk.new w 34 #[.pointer (some ⟨p, 0, none⟩), .pointer (some ⟨x, 0, none⟩)])
  generalize w.alloc (.cells #[.pointer (some ⟨p, 0, none⟩), .pointer (some ⟨x, 0, none⟩)] 34) = w1 at *
  obtain ⟨b3, hb3⟩ : ∃ z, Keep (z = w.heap.size) := ⟨_, ⟨rfl⟩⟩
  rw [← hb3.out] at Q3 ⊢
  simp only [Act.put, List.setIfInBounds_toArray, List.set_cons_zero, List.set_cons_succ]
  refine WL.box (by kernel_rfl) 41 (.tmp 1) rfl #[.int .i64 kd, .int .i64 f, .int .i64 t, .int .i64 i, .int .i64 j, .int .i64 m, .int .u8 by_, .slice ba bn bc] rfl ?_
  have b2 := below_new w1 (.cells #[.int .i64 kd, .int .i64 f, .int .i64 t, .int .i64 i, .int .i64 j, .int .i64 m, .int .u8 by_, .slice ba bn bc] 41)
  have Q4 := Keep.mk (Blk.new w1 41 #[.int .i64 kd, .int .i64 f, .int .i64 t, .int .i64 i, .int .i64 j, .int .i64 m, .int .u8 by_, .slice ba bn bc])
  have Q3 := Keep.mk (Q3.out.alloc (.cells #[.int .i64 kd, .int .i64 f, .int .i64 t, .int .i64 i, .int .i64 j, .int .i64 m, .int .u8 by_, .slice ba bn bc] 41))
  generalize w1.alloc (.cells #[.int .i64 kd, .int .i64 f, .int .i64 t, .int .i64 i, .int .i64 j, .int .i64 m, .int .u8 by_, .slice ba bn bc] 41) = w2 at *
  obtain ⟨b4, hb4⟩ : ∃ z, Keep (z = w1.heap.size) := ⟨_, ⟨rfl⟩⟩
  rw [← hb4.out] at Q4 ⊢
  have HB2 : Keep (Below w.heap.size w w2) := ⟨b1.trans (b2.mono b1.size)⟩
  have R2 := Keep.mk (HR.out.below HB2.out)
  have HS2 : Keep (b3 < w2.heap.size ∧ b4 < w2.heap.size) := ⟨Q3.out.lt, Q4.out.lt⟩
  have HF3 : Keep (∀ k, PrS p mb x g Ps Ks k → k ≠ b3 ∧ k ≠ b4) := ⟨fun k hk => by have := HR.out.lt k hk; have := hb3.out; have := hb4.out; have := b1.size; omega⟩
  clear b1 b2
  simp only [Act.put, List.setIfInBounds_toArray, List.set_cons_zero, List.set_cons_succ]
  refine WL.val (by kernel_rfl) (.bool false) (by go_simp) ?_
  simp only [Act.put, List.setIfInBounds_toArray, List.set_cons_zero, List.set_cons_succ]
  refine WL.nil ?_
  refine hK1 _ _ ?_
  refine wp_seq_k fun K2 hK2 => ?_
  refine wp_seq_k fun K3 hK3 => ?_
  refine wp_region_list (WL.out ?_)
  refine WL.val (by kernel_rfl) (.int .i64 0) (by go_simp) ?_
  simp only [Act.put, List.setIfInBounds_toArray, List.set_cons_zero, List.set_cons_succ]
  refine WL.nil ?_
  refine hK3 _ _ ?_
  refine wp_block ?_
  refine wp_loop (fun ac wr => ∃ (u : Nat) (fz : Nat → Value) (P1 K1 : List Lk), ac = { tmps := #[.agg #[.pointer (some ⟨p, 0, none⟩), .pointer (some ⟨x, 0, none⟩)], .agg #[.int .i64 kd, .int .i64 f, .int .i64 t, .int .i64 i, .int .i64 j, .int .i64 m, .int .u8 by_, .slice ba bn bc], .pointer (some ⟨b3, 0, none⟩), .pointer (some ⟨b4, 0, none⟩), fz 4, .int .i64 (u : Int), fz 6, fz 7, fz 8, fz 9, fz 10, fz 11, fz 12, fz 13, fz 14, fz 15, fz 16, fz 17, fz 18, fz 19, fz 20, fz 21, fz 22, fz 23, fz 24, fz 25, fz 26, fz 27, fz 28, fz 29, fz 30, fz 31, fz 32, fz 33, fz 34, fz 35, fz 36], defers := [] } ∧ Keep (u ≤ 1100) ∧ Keep (PrN w2 p mb x g N Ps Ks P1 K1 wr) ∧ Keep (EqL P1 K1)) (fun a _ => 1101 - (intOf (a.tmps.getD 5 undef)).toNat) ⟨0, fun zz => [.agg #[.pointer (some ⟨p, 0, none⟩), .pointer (some ⟨x, 0, none⟩)], .agg #[.int .i64 kd, .int .i64 f, .int .i64 t, .int .i64 i, .int .i64 j, .int .i64 m, .int .u8 by_, .slice ba bn bc], .pointer (some ⟨b3, 0, none⟩), .pointer (some ⟨b4, 0, none⟩), .bool false, .int .i64 0, undef, undef, undef, undef, undef, undef, undef, undef, undef, undef, undef, undef, undef, undef, undef, undef, undef, undef, undef, undef, undef, undef, undef, undef, undef, undef, undef, undef, undef, undef, undef].getD zz undef, Ps, Ks, rfl, ⟨by omega⟩, ⟨PrN.refl R2.out⟩, HEq⟩ ?_
  rintro ac wr ⟨u, fz, P1, K1, rfl, HF, HN, HE1⟩
  obtain ⟨hu9⟩ := HF
  have X3 := HN.out.gr.blk Q3.out fun e => (HF3.out _ e).1 rfl
  have X4 := HN.out.gr.blk Q4.out fun e => (HF3.out _ e).2 rfl
  have c3_0 := X3.c 0 (rfl : _ = some (Value.pointer (some ⟨p, 0, none⟩)))
  have c3_1 := X3.c 1 (rfl : _ = some (Value.pointer (some ⟨x, 0, none⟩)))
  have c4_0 := X4.c 0 (rfl : _ = some (Value.int .i64 kd))
  have c4_1 := X4.c 1 (rfl : _ = some (Value.int .i64 f))
  have c4_2 := X4.c 2 (rfl : _ = some (Value.int .i64 t))
  have c4_3 := X4.c 3 (rfl : _ = some (Value.int .i64 i))
  have c4_4 := X4.c 4 (rfl : _ = some (Value.int .i64 j))
  have c4_5 := X4.c 5 (rfl : _ = some (Value.int .i64 m))
  have c4_6 := X4.c 6 (rfl : _ = some (Value.int .u8 by_))
  have c4_7 := X4.c 7 (rfl : _ = some (Value.slice ba bn bc))
  clear X3 X4
  refine wp_seq_k fun K4 hK4 => ?_
  refine wp_seq_k fun K5 hK5 => ?_
  refine wp_region_list (WL.out ?_)
  refine WL.val (by kernel_rfl) (.int .i64 (u : Int)) (by go_simp) ?_
  simp only [Act.put, List.setIfInBounds_toArray, List.set_cons_zero, List.set_cons_succ]
  refine WL.val (by kernel_rfl) (.pointer (some ⟨b4, 5, none⟩)) (by go_simp) ?_
  simp only [Act.put, List.setIfInBounds_toArray, List.set_cons_zero, List.set_cons_succ]
  refine WL.val (by kernel_rfl) (.int .i64 m) (by go_simp) ?_
  simp only [Act.put, List.setIfInBounds_toArray, List.set_cons_zero, List.set_cons_succ]
  by_cases h2_3 : (u : Int) < m
  · skip
    refine WL.val (by kernel_rfl) (.bool true) (by go_simp) ?_
    simp only [Act.put, List.setIfInBounds_toArray, List.set_cons_zero, List.set_cons_succ]
    refine WL.val (by kernel_rfl) (.bool true) (by go_simp) ?_
    simp only [Act.put, List.setIfInBounds_toArray, List.set_cons_zero, List.set_cons_succ]
    refine WL.val (by kernel_rfl) (.int .i64 (u : Int)) (by go_simp) ?_
    simp only [Act.put, List.setIfInBounds_toArray, List.set_cons_zero, List.set_cons_succ]
    by_cases h2_6 : u < 1100
    · have hcu_ : ((u : Int) < 1100) := by omega
      refine WL.val (by kernel_rfl) (.bool true) (by go_simp) ?_
      simp only [Act.put, List.setIfInBounds_toArray, List.set_cons_zero, List.set_cons_succ]
      refine WL.val (by kernel_rfl) (.bool true) (by go_simp) ?_
      simp only [Act.put, List.setIfInBounds_toArray, List.set_cons_zero, List.set_cons_succ]
      refine WL.nil ?_
      refine hK5 _ _ ?_
      refine wp_cond_true rfl ?_
      refine wp_skip ?_
      refine hK4 _ _ ?_
      refine wp_seq_k fun K6 hK6 => ?_
      refine wp_block ?_
      refine wp_seq_k fun K7 hK7 => ?_
      refine wp_region_list (WL.out ?_)
      refine WL.val (by kernel_rfl) (.pointer (some ⟨b3, 0, none⟩)) (by go_simp) ?_
      simp only [Act.put, List.setIfInBounds_toArray, List.set_cons_zero, List.set_cons_succ]
      refine WL.val (by kernel_rfl) (.pointer (some ⟨p, 0, none⟩)) (by go_simp) ?_
      simp only [Act.put, List.setIfInBounds_toArray, List.set_cons_zero, List.set_cons_succ]
      refine WL.val (by kernel_rfl) (.pointer (some ⟨b4, 1, none⟩)) (by go_simp) ?_
      simp only [Act.put, List.setIfInBounds_toArray, List.set_cons_zero, List.set_cons_succ]
      refine WL.val (by kernel_rfl) (.int .i64 f) (by go_simp) ?_
      simp only [Act.put, List.setIfInBounds_toArray, List.set_cons_zero, List.set_cons_succ]
      refine WL.val (by kernel_rfl) (.pointer (some ⟨b4, 2, none⟩)) (by go_simp) ?_
      simp only [Act.put, List.setIfInBounds_toArray, List.set_cons_zero, List.set_cons_succ]
      refine WL.val (by kernel_rfl) (.int .i64 t) (by go_simp) ?_
      simp only [Act.put, List.setIfInBounds_toArray, List.set_cons_zero, List.set_cons_succ]
      refine WL.val (by kernel_rfl) (.pointer (some ⟨b4, 7, none⟩)) (by go_simp) ?_
      simp only [Act.put, List.setIfInBounds_toArray, List.set_cons_zero, List.set_cons_succ]
      refine WL.val (by kernel_rfl) (.slice ba bn bc) (by go_simp) ?_
      simp only [Act.put, List.setIfInBounds_toArray, List.set_cons_zero, List.set_cons_succ]
      refine WL.callF (by kernel_rfl) 15 _ _ rfl Tryd.in15 #[.pointer (some ⟨p, 0, none⟩), .int .i64 f, .int .i64 t, .slice ba bn bc] (by simp [Act.eval]) ?_
      refine (psn wr p mb N P1 f t ba bn bc b ⟨(row_of (HB.out.below HB2.out) HN.out.gr fun he k hk e => (HD.out he k hk).1 e)⟩ Hbn HBy ⟨fun he k hk e => by
        rcases HN.out.new k (.inl e) with e2 | e2
        · exact (HD.out he k hk).1 e2
        · have := (HD.out he k hk).2; have := HB2.out.size; omega⟩ ⟨HN.out.at_.pm⟩).mono ?_
      rintro e w3 ⟨er, P2, rfl, he, n, k2, k3⟩
      refine ⟨_, rfl, ?_⟩
      clear c3_0 c3_1 c4_0 c4_1 c4_2 c4_3 c4_4 c4_5 c4_6 c4_7
      have N3 := Keep.mk (HN.out.trans (HN.out.at_.prog n))
      have He := Keep.mk he
      have Hk2 := Keep.mk k2
      have Hk3 := Keep.mk k3
      clear he n k2 k3
      have X3 := N3.out.gr.blk Q3.out fun e => (HF3.out _ e).1 rfl
      have X4 := N3.out.gr.blk Q4.out fun e => (HF3.out _ e).2 rfl
      have c3_0 := X3.c 0 (rfl : _ = some (Value.pointer (some ⟨p, 0, none⟩)))
      have c3_1 := X3.c 1 (rfl : _ = some (Value.pointer (some ⟨x, 0, none⟩)))
      have c4_0 := X4.c 0 (rfl : _ = some (Value.int .i64 kd))
      have c4_1 := X4.c 1 (rfl : _ = some (Value.int .i64 f))
      have c4_2 := X4.c 2 (rfl : _ = some (Value.int .i64 t))
      have c4_3 := X4.c 3 (rfl : _ = some (Value.int .i64 i))
      have c4_4 := X4.c 4 (rfl : _ = some (Value.int .i64 j))
      have c4_5 := X4.c 5 (rfl : _ = some (Value.int .i64 m))
      have c4_6 := X4.c 6 (rfl : _ = some (Value.int .u8 by_))
      have c4_7 := X4.c 7 (rfl : _ = some (Value.slice ba bn bc))
      clear X3 X4
      simp only [Act.put, List.setIfInBounds_toArray, List.set_cons_zero, List.set_cons_succ]
      refine WL.val (by kernel_rfl) (.int .i64 er) (by go_simp) ?_
      simp only [Act.put, List.setIfInBounds_toArray, List.set_cons_zero, List.set_cons_succ]
      refine WL.nil ?_
      refine hK7 _ _ ?_
      refine wp_seq_k fun K8 hK8 => ?_
      refine wp_region_list (WL.out ?_)
      refine WL.val (by kernel_rfl) (.int .i64 er) (by go_simp) ?_
      simp only [Act.put, List.setIfInBounds_toArray, List.set_cons_zero, List.set_cons_succ]
      refine WL.val (by kernel_rfl) (.pointer (some ⟨b3, 1, none⟩)) (by go_simp) ?_
      simp only [Act.put, List.setIfInBounds_toArray, List.set_cons_zero, List.set_cons_succ]
      refine WL.val (by kernel_rfl) (.pointer (some ⟨x, 0, none⟩)) (by go_simp) ?_
      simp only [Act.put, List.setIfInBounds_toArray, List.set_cons_zero, List.set_cons_succ]
      refine WL.val (by kernel_rfl) (.pointer (some ⟨b4, 1, none⟩)) (by go_simp) ?_
      simp only [Act.put, List.setIfInBounds_toArray, List.set_cons_zero, List.set_cons_succ]
      refine WL.val (by kernel_rfl) (.int .i64 f) (by go_simp) ?_
      simp only [Act.put, List.setIfInBounds_toArray, List.set_cons_zero, List.set_cons_succ]
      refine WL.val (by kernel_rfl) (.pointer (some ⟨b4, 2, none⟩)) (by go_simp) ?_
      simp only [Act.put, List.setIfInBounds_toArray, List.set_cons_zero, List.set_cons_succ]
      refine WL.val (by kernel_rfl) (.int .i64 t) (by go_simp) ?_
      simp only [Act.put, List.setIfInBounds_toArray, List.set_cons_zero, List.set_cons_succ]
      refine WL.val (by kernel_rfl) (.pointer (some ⟨b4, 7, none⟩)) (by go_simp) ?_
      simp only [Act.put, List.setIfInBounds_toArray, List.set_cons_zero, List.set_cons_succ]
      refine WL.val (by kernel_rfl) (.slice ba bn bc) (by go_simp) ?_
      simp only [Act.put, List.setIfInBounds_toArray, List.set_cons_zero, List.set_cons_succ]
      refine WL.callF (by kernel_rfl) 43 _ _ rfl Tryd.in43 #[.pointer (some ⟨x, 0, none⟩), .int .i64 f, .int .i64 t, .slice ba bn bc] (by simp [Act.eval]) ?_
      refine (rsend_any w3 x g N K1 f t _ b N3.out.at_.rm (row_of (HB.out.below HB2.out) N3.out.gr fun he k hk e => (HD.out he k hk).1 e) HBy.out).mono ?_
      rintro e w4 ⟨rfl, K2, n2, d2, d3⟩
      refine ⟨_, rfl, ?_⟩
      clear c3_0 c3_1 c4_0 c4_1 c4_2 c4_3 c4_4 c4_5 c4_6 c4_7
      obtain ⟨er2, her2⟩ : ∃ z : Int, z = sndE N K1 f t b := ⟨_, rfl⟩
      rw [← her2]
      have N4 := Keep.mk (N3.out.trans (N3.out.at_.ref n2))
      obtain ⟨hee, hE⟩ := eq_send HE1.out He.out Hk2.out Hk3.out her2 d2 d3
      subst hee
      have HE4 := Keep.mk hE
      clear n2 d2 d3 her2 hE
      simp only [Act.put, List.setIfInBounds_toArray, List.set_cons_zero, List.set_cons_succ]
      refine WL.val (by kernel_rfl) (.bool false) (by go_simp) ?_
      simp only [Act.put, List.setIfInBounds_toArray, List.set_cons_zero, List.set_cons_succ]
      refine WL.nil ?_
      refine hK8 _ _ ?_
      refine wp_cond_false rfl ?_
      refine wp_skip ?_
      refine hK6 _ _ ?_
      refine wp_region_list (WL.out ?_)
      refine WL.val (by kernel_rfl) (.int .i64 (u : Int)) (by go_simp) ?_
      simp only [Act.put, List.setIfInBounds_toArray, List.set_cons_zero, List.set_cons_succ]
      have hw6 : IntKind.i64.wrap ((u : Int) + 1) = ((u + 1 : Nat) : Int) := by rw [IntKind.wrap_i64]; omega
      refine WL.val (by kernel_rfl) (.int .i64 ((u + 1 : Nat) : Int)) (by go_simp) ?_
      clear hw6
      simp only [Act.put, List.setIfInBounds_toArray, List.set_cons_zero, List.set_cons_succ]
      refine WL.val (by kernel_rfl) (.int .i64 ((u + 1 : Nat) : Int)) (by go_simp) ?_
      simp only [Act.put, List.setIfInBounds_toArray, List.set_cons_zero, List.set_cons_succ]
      refine WL.nil ?_
      refine ⟨⟨u + 1, fun zz => [.agg #[.pointer (some ⟨p, 0, none⟩), .pointer (some ⟨x, 0, none⟩)], .agg #[.int .i64 kd, .int .i64 f, .int .i64 t, .int .i64 i, .int .i64 j, .int .i64 m, .int .u8 by_, .slice ba bn bc], .pointer (some ⟨b3, 0, none⟩), .pointer (some ⟨b4, 0, none⟩), fz 4, .int .i64 ((u + 1 : Nat) : Int), .int .i64 er, .int .i64 (u : Int), .pointer (some ⟨b4, 5, none⟩), .int .i64 m, .bool true, .bool true, .int .i64 (u : Int), .bool true, .bool true, .int .i64 (u : Int), .int .i64 ((u + 1 : Nat) : Int), .pointer (some ⟨b3, 0, none⟩), .pointer (some ⟨p, 0, none⟩), .pointer (some ⟨b4, 1, none⟩), .int .i64 f, .pointer (some ⟨b4, 2, none⟩), .int .i64 t, .pointer (some ⟨b4, 7, none⟩), .slice ba bn bc, .int .i64 er, .int .i64 er, .pointer (some ⟨b3, 1, none⟩), .pointer (some ⟨x, 0, none⟩), .pointer (some ⟨b4, 1, none⟩), .int .i64 f, .pointer (some ⟨b4, 2, none⟩), .int .i64 t, .pointer (some ⟨b4, 7, none⟩), .slice ba bn bc, .int .i64 er, .bool false].getD zz undef, P2, K2, rfl, ⟨by omega⟩, N4, HE4⟩, ?_⟩
      simp only [intOf]
      show 1101 - (((u + 1 : Nat) : Int)).toNat < 1101 - ((u : Int)).toNat
      omega
    · have hcu_ : (¬ (u : Int) < 1100) := by omega
      refine WL.val (by kernel_rfl) (.bool false) (by go_simp) ?_
      simp only [Act.put, List.setIfInBounds_toArray, List.set_cons_zero, List.set_cons_succ]
      refine WL.val (by kernel_rfl) (.bool false) (by go_simp) ?_
      simp only [Act.put, List.setIfInBounds_toArray, List.set_cons_zero, List.set_cons_succ]
      refine WL.nil ?_
      refine hK5 _ _ ?_
      refine wp_cond_false rfl ?_
      refine wp_exit ?_
      refine hK2 _ _ ?_
      refine wp_seq_k fun K9 hK9 => ?_
      refine wp_region_list (WL.out ?_)
      refine WL.val (by kernel_rfl) (.bool true) (by go_simp) ?_
      simp only [Act.put, List.setIfInBounds_toArray, List.set_cons_zero, List.set_cons_succ]
      refine WL.nil ?_
      refine hK9 _ _ ?_
      refine wp_ret ?_
      try simp only [Exit.inBlock, Exit.then]
      go_ret
      exact ⟨rfl, P1, K1, PrN.of_below HB2.out HN.out, HE1.out⟩
  · skip
    refine WL.val (by kernel_rfl) (.bool false) (by go_simp) ?_
    simp only [Act.put, List.setIfInBounds_toArray, List.set_cons_zero, List.set_cons_succ]
    refine WL.val (by kernel_rfl) (.bool false) (by go_simp) ?_
    simp only [Act.put, List.setIfInBounds_toArray, List.set_cons_zero, List.set_cons_succ]
    refine WL.skip (by kernel_rfl) ?_
    simp only [Act.put, List.setIfInBounds_toArray, List.set_cons_zero, List.set_cons_succ]
    refine WL.skip (by kernel_rfl) ?_
    simp only [Act.put, List.setIfInBounds_toArray, List.set_cons_zero, List.set_cons_succ]
    refine WL.val (by kernel_rfl) (.bool false) (by go_simp) ?_
    simp only [Act.put, List.setIfInBounds_toArray, List.set_cons_zero, List.set_cons_succ]
    refine WL.nil ?_
    refine hK5 _ _ ?_
    refine wp_cond_false rfl ?_
    refine wp_exit ?_
    refine hK2 _ _ ?_
    refine wp_seq_k fun K10 hK10 => ?_
    refine wp_region_list (WL.out ?_)
    refine WL.val (by kernel_rfl) (.bool true) (by go_simp) ?_
    simp only [Act.put, List.setIfInBounds_toArray, List.set_cons_zero, List.set_cons_succ]
    refine WL.nil ?_
    refine hK10 _ _ ?_
    refine wp_ret ?_
    try simp only [Exit.inBlock, Exit.then]
    go_ret
    exact ⟨rfl, P1, K1, PrN.of_below HB2.out HN.out, HE1.out⟩

set_option maxRecDepth 8000 in
theorem st_many (w : World) (p mb x g N : Nat) (Ps Ks : List Lk) (f t i j m by_ : Int) (ba : Option Addr) (bn bc : Nat) (b : List Int) (HR : Keep (PR w p mb x g N Ps Ks)) (HEq : Keep (EqL Ps Ks)) (HB : Keep (RowAt w (.slice ba bn bc) b)) (Hbn : Keep (b.length = bn)) (HBy : Keep (Byts b)) (HD : Keep (b ≠ [] → ∀ k, (Value.slice ba bn bc).ownBlock = some k → ¬ PrS p mb x g Ps Ks k ∧ k < w.heap.size)) (vk : Value) : Calls Tryd.prog 10 #[.agg #[.pointer (some ⟨p, 0, none⟩), .pointer (some ⟨x, 0, none⟩)], .agg #[.int .i64 9, .int .i64 f, .int .i64 t, .int .i64 i, .int .i64 j, .int .i64 m, .int .u8 by_, .slice ba bn bc], vk] w fun e w' => e = .returned (.bool true) ∧ ∃ P' K', PrN w p mb x g N Ps Ks P' K' w' ∧ EqL P' K' := by
  go_enter Tryd.func10, Tryd.ntmps10
  refine wp_seq_k fun K1 hK1 => ?_
  refine wp_region_list (WL.out ?_)
  refine WL.box (by kernel_rfl) 34 (.tmp 0) rfl #[.pointer (some ⟨p, 0, none⟩), .pointer (some ⟨x, 0, none⟩)] rfl ?_
  have b1 := below_new w (.cells #[.pointer (some ⟨p, 0, none⟩), .pointer (some ⟨x, 0, none⟩)] 34)
  have Q3 := Keep.mk (Blk.new w 34 #[.pointer (some ⟨p, 0, none⟩), .pointer (some ⟨x, 0, none⟩)])
  generalize w.alloc (.cells #[.pointer (some ⟨p, 0, none⟩), .pointer (some ⟨x, 0, none⟩)] 34) = w1 at *
  obtain ⟨b3, hb3⟩ : ∃ z, Keep (z = w.heap.size) := ⟨_, ⟨rfl⟩⟩
  rw [← hb3.out] at Q3 ⊢
  simp only [Act.put, List.setIfInBounds_toArray, List.set_cons_zero, List.set_cons_succ]
  refine WL.box (by kernel_rfl) 41 (.tmp 1) rfl #[.int .i64 9, .int .i64 f, .int .i64 t, .int .i64 i, .int .i64 j, .int .i64 m, .int .u8 by_, .slice ba bn bc] rfl ?_
  have b2 := below_new w1 (.cells #[.int .i64 9, .int .i64 f, .int .i64 t, .int .i64 i, .int .i64 j, .int .i64 m, .int .u8 by_, .slice ba bn bc] 41)
  have Q4 := Keep.mk (Blk.new w1 41 #[.int .i64 9, .int .i64 f, .int .i64 t, .int .i64 i, .int .i64 j, .int .i64 m, .int .u8 by_, .slice ba bn bc])
  have Q3 := Keep.mk (Q3.out.alloc (.cells #[.int .i64 9, .int .i64 f, .int .i64 t, .int .i64 i, .int .i64 j, .int .i64 m, .int .u8 by_, .slice ba bn bc] 41))
  generalize w1.alloc (.cells #[.int .i64 9, .int .i64 f, .int .i64 t, .int .i64 i, .int .i64 j, .int .i64 m, .int .u8 by_, .slice ba bn bc] 41) = w2 at *
  obtain ⟨b4, hb4⟩ : ∃ z, Keep (z = w1.heap.size) := ⟨_, ⟨rfl⟩⟩
  rw [← hb4.out] at Q4 ⊢
  have HB2 : Keep (Below w.heap.size w w2) := ⟨b1.trans (b2.mono b1.size)⟩
  have R2 := Keep.mk (HR.out.below HB2.out)
  have HS2 : Keep (b3 < w2.heap.size ∧ b4 < w2.heap.size) := ⟨Q3.out.lt, Q4.out.lt⟩
  have HF3 : Keep (∀ k, PrS p mb x g Ps Ks k → k ≠ b3 ∧ k ≠ b4) := ⟨fun k hk => by have := HR.out.lt k hk; have := hb3.out; have := hb4.out; have := b1.size; omega⟩
  clear b1 b2
  simp only [Act.put, List.setIfInBounds_toArray, List.set_cons_zero, List.set_cons_succ]
  refine WL.val (by kernel_rfl) (.bool false) (by go_simp) ?_
  simp only [Act.put, List.setIfInBounds_toArray, List.set_cons_zero, List.set_cons_succ]
  refine WL.nil ?_
  refine hK1 _ _ ?_
  refine wp_seq_k fun K2 hK2 => ?_
  refine wp_seq_k fun K3 hK3 => ?_
  refine wp_region_list (WL.out ?_)
  refine WL.val (by kernel_rfl) (.pointer (some ⟨b4, 0, none⟩)) (by go_simp) ?_
  simp only [Act.put, List.setIfInBounds_toArray, List.set_cons_zero, List.set_cons_succ]
  have c4_0 := Q4.out.c 0 (rfl : _ = some (Value.int .i64 9))
  refine WL.val (by kernel_rfl) (.int .i64 9) (by go_simp) ?_
  clear c4_0
  simp only [Act.put, List.setIfInBounds_toArray, List.set_cons_zero, List.set_cons_succ]
  refine WL.nil ?_
  refine hK3 _ _ ?_
  refine wp_block ?_
  refine wp_seq_k fun K4 hK4 => ?_
  refine wp_region_list (WL.out ?_)
  refine WL.val (by kernel_rfl) (.bool false) (by go_simp) ?_
  simp only [Act.put, List.setIfInBounds_toArray, List.set_cons_zero, List.set_cons_succ]
  refine WL.val (by kernel_rfl) (.bool false) (by go_simp) ?_
  simp only [Act.put, List.setIfInBounds_toArray, List.set_cons_zero, List.set_cons_succ]
  refine WL.nil ?_
  refine hK4 _ _ ?_
  refine wp_cond_false rfl ?_
  refine wp_seq_k fun K5 hK5 => ?_
  refine wp_region_list (WL.out ?_)
  refine WL.val (by kernel_rfl) (.bool false) (by go_simp) ?_
  simp only [Act.put, List.setIfInBounds_toArray, List.set_cons_zero, List.set_cons_succ]
  refine WL.val (by kernel_rfl) (.bool false) (by go_simp) ?_
  simp only [Act.put, List.setIfInBounds_toArray, List.set_cons_zero, List.set_cons_succ]
  refine WL.nil ?_
  refine hK5 _ _ ?_
  refine wp_cond_false rfl ?_
  refine wp_seq_k fun K6 hK6 => ?_
  refine wp_region_list (WL.out ?_)
  refine WL.val (by kernel_rfl) (.bool false) (by go_simp) ?_
  simp only [Act.put, List.setIfInBounds_toArray, List.set_cons_zero, List.set_cons_succ]
  refine WL.val (by kernel_rfl) (.bool false) (by go_simp) ?_
  simp only [Act.put, List.setIfInBounds_toArray, List.set_cons_zero, List.set_cons_succ]
  refine WL.nil ?_
  refine hK6 _ _ ?_
  refine wp_cond_false rfl ?_
  refine wp_seq_k fun K7 hK7 => ?_
  refine wp_region_list (WL.out ?_)
  refine WL.val (by kernel_rfl) (.bool false) (by go_simp) ?_
  simp only [Act.put, List.setIfInBounds_toArray, List.set_cons_zero, List.set_cons_succ]
  refine WL.val (by kernel_rfl) (.bool false) (by go_simp) ?_
  simp only [Act.put, List.setIfInBounds_toArray, List.set_cons_zero, List.set_cons_succ]
  refine WL.nil ?_
  refine hK7 _ _ ?_
  refine wp_cond_false rfl ?_
  refine wp_seq_k fun K8 hK8 => ?_
  refine wp_region_list (WL.out ?_)
  refine WL.val (by kernel_rfl) (.bool false) (by go_simp) ?_
  simp only [Act.put, List.setIfInBounds_toArray, List.set_cons_zero, List.set_cons_succ]
  refine WL.val (by kernel_rfl) (.bool false) (by go_simp) ?_
  simp only [Act.put, List.setIfInBounds_toArray, List.set_cons_zero, List.set_cons_succ]
  refine WL.nil ?_
  refine hK8 _ _ ?_
  refine wp_cond_false rfl ?_
  refine wp_seq_k fun K9 hK9 => ?_
  refine wp_region_list (WL.out ?_)
  refine WL.val (by kernel_rfl) (.bool false) (by go_simp) ?_
  simp only [Act.put, List.setIfInBounds_toArray, List.set_cons_zero, List.set_cons_succ]
  refine WL.val (by kernel_rfl) (.bool false) (by go_simp) ?_
  simp only [Act.put, List.setIfInBounds_toArray, List.set_cons_zero, List.set_cons_succ]
  refine WL.nil ?_
  refine hK9 _ _ ?_
  refine wp_cond_false rfl ?_
  refine wp_seq_k fun K10 hK10 => ?_
  refine wp_region_list (WL.out ?_)
  refine WL.val (by kernel_rfl) (.bool false) (by go_simp) ?_
  simp only [Act.put, List.setIfInBounds_toArray, List.set_cons_zero, List.set_cons_succ]
  refine WL.val (by kernel_rfl) (.bool false) (by go_simp) ?_
  simp only [Act.put, List.setIfInBounds_toArray, List.set_cons_zero, List.set_cons_succ]
  refine WL.nil ?_
  refine hK10 _ _ ?_
  refine wp_cond_false rfl ?_
  refine wp_seq_k fun K11 hK11 => ?_
  refine wp_region_list (WL.out ?_)
  refine WL.val (by kernel_rfl) (.bool false) (by go_simp) ?_
  simp only [Act.put, List.setIfInBounds_toArray, List.set_cons_zero, List.set_cons_succ]
  refine WL.val (by kernel_rfl) (.bool false) (by go_simp) ?_
  simp only [Act.put, List.setIfInBounds_toArray, List.set_cons_zero, List.set_cons_succ]
  refine WL.nil ?_
  refine hK11 _ _ ?_
  refine wp_cond_false rfl ?_
  refine wp_seq_k fun K12 hK12 => ?_
  refine wp_region_list (WL.out ?_)
  refine WL.val (by kernel_rfl) (.bool true) (by go_simp) ?_
  simp only [Act.put, List.setIfInBounds_toArray, List.set_cons_zero, List.set_cons_succ]
  refine WL.val (by kernel_rfl) (.bool true) (by go_simp) ?_
  simp only [Act.put, List.setIfInBounds_toArray, List.set_cons_zero, List.set_cons_succ]
  refine WL.nil ?_
  refine hK12 _ _ ?_
  refine wp_cond_true rfl ?_
  refine wp_seq_k fun K13 hK13 => ?_
  refine wp_region_list (WL.out ?_)
  refine WL.row (by kernel_rfl) 34 (.tmp 3) rfl b3 rfl 34 #[.pointer (some ⟨p, 0, none⟩), .pointer (some ⟨x, 0, none⟩)] _ Q3.out Tryd.underlying34 rfl (by kernel_rfl) ?_
  simp only [Act.put, List.setIfInBounds_toArray, List.set_cons_zero, List.set_cons_succ]
  refine WL.row (by kernel_rfl) 41 (.tmp 4) rfl b4 rfl 41 #[.int .i64 9, .int .i64 f, .int .i64 t, .int .i64 i, .int .i64 j, .int .i64 m, .int .u8 by_, .slice ba bn bc] _ Q4.out Tryd.underlying41 rfl (by kernel_rfl) ?_
  simp only [Act.put, List.setIfInBounds_toArray, List.set_cons_zero, List.set_cons_succ]
  refine WL.callF (by kernel_rfl) 33 _ _ rfl Tryd.in33 #[.agg #[.pointer (some ⟨p, 0, none⟩), .pointer (some ⟨x, 0, none⟩)], .agg #[.int .i64 9, .int .i64 f, .int .i64 t, .int .i64 i, .int .i64 j, .int .i64 m, .int .u8 by_, .slice ba bn bc]] (by simp [Act.eval]) ?_
  refine (many_any w2 p mb x g N Ps Ks 9 f t i j m by_ ba bn bc b R2 HEq ⟨HB.out.below HB2.out⟩ Hbn HBy ⟨fun he k hk => ⟨(HD.out he k hk).1, Nat.lt_of_lt_of_le (HD.out he k hk).2 HB2.out.size⟩⟩).mono ?_
  rintro e w3 ⟨rfl, P1, K1, hn, hE⟩
  refine ⟨_, rfl, ?_⟩
  have N3 := Keep.mk hn
  have HE3 := Keep.mk hE
  clear hn hE
  simp only [Act.put, List.setIfInBounds_toArray, List.set_cons_zero, List.set_cons_succ]
  refine WL.val (by kernel_rfl) (.bool true) (by go_simp) ?_
  simp only [Act.put, List.setIfInBounds_toArray, List.set_cons_zero, List.set_cons_succ]
  refine WL.nil ?_
  refine hK13 _ _ ?_
  refine wp_ret ?_
  go_ret
  exact ⟨rfl, P1, K1, PrN.of_below HB2.out N3.out, HE3.out⟩

theorem Tryd.in23 (w : World) (vs : Array Value) : (callFunc 23 vs).run Tryd.prog w = .ok (.enter 23 vs) w := by kernel_rfl
def inB (b : List Int) (t : Nat) : List Int := b ++ ((List.range t).map (fun i : Nat => ((160 + i : Nat) : Int)) ++ List.replicate (8 - t) 0)
theorem inB_len (b : List Int) {t : Nat} (h : t ≤ 8) : (inB b t).length = b.length + 8 := by
  unfold inB
  simp; omega
theorem inB_get (b : List Int) {t : Nat} (h : t < 8) : (bv (inB b 8)).toArray[b.length + t]? = some (.int .u8 ((160 + t : Nat) : Int)) := by
  rw [List.getElem?_toArray, bv_get _ _ (by rw [inB_len b (Nat.le_refl _)]; omega)]
  congr 2
  unfold inB
  rw [List.getD_eq_getElem?_getD, List.getElem?_append_right (by omega)]
  simp [h]
theorem inB_set (b : List Int) {t : Nat} (h : t < 8) : (inB b t).set (b.length + t) ((160 + t : Nat) : Int) = inB b (t + 1) := by
  unfold inB
  rw [List.set_append_right _ _ (by omega), Nat.add_sub_cancel_left, List.set_append_right _ _ (by simp)]
  simp only [List.length_map, List.length_range, Nat.sub_self]
  rw [show 8 - t = (8 - (t + 1)) + 1 by omega, List.replicate_succ, List.set_cons_zero, List.range_succ, List.map_append]
  simp
theorem inB_0 {b : List Int} {bn : Nat} (h : b.length = bn) : ((bytesA (bn + 8) fun _ => 0).toList.take 0 ++ bv b ++ (bytesA (bn + 8) fun _ => 0).toList.drop (0 + b.length)).toArray = (bv (inB b 0)).toArray := by
  have e : (bytesA (bn + 8) fun _ => 0).toList = List.replicate (bn + 8) (.int .u8 0) := by
    apply List.ext_getElem?
    intro i
    rw [Array.getElem?_toList, List.getElem?_replicate]
    by_cases hi : i < bn + 8
    · rw [bytesA_get _ _ _ hi, if_pos hi]
    · rw [if_neg hi]
      exact Array.getElem?_eq_none (by rw [bytesA_size]; omega)
  rw [e, List.take_zero, List.nil_append, List.drop_replicate, h, Nat.zero_add, Nat.add_sub_cancel_left]
  unfold inB bv
  simp
theorem row_pre {w : World} {gi bn : Nat} {b : List Int} (h : Blk w gi 5 (bv (inB b 8)).toArray) (hb : b.length = bn) : RowAt w (.slice (some ⟨gi, 0, none⟩) bn (bn + 8)) b := by
  refine .inr (.inr ⟨gi, 0, bn + 8, by rw [hb], by omega, fun i hi => ?_⟩)
  rw [Nat.zero_add, h.cell, List.getElem?_toArray, bv_get _ _ (by rw [inB_len b (Nat.le_refl _)]; omega)]
  congr 2
  unfold inB
  rw [List.getD_eq_getElem?_getD, List.getElem?_append_left hi, List.getD_eq_getElem?_getD]
theorem WL.blt {ops : Array Oper} {rest : List Oper} {o : Oper} {a : Act} {w : World} {Q : Exit → Act → World → Prop} (hw : Region.wanted o (yielded ops a.tmps) = true) (d s : Operand) (ho : o.op = .call { callee := .builtin .copy, args := #[d, s], argTypes := #[39, 39] }) (vd vs v : Value) (w' : World) (hd : a.eval d = vd) (hs : a.eval s = vs)
    (hr : (Builtin.copy_ #[39, 39] o.type #[vd, vs]).run Tryd.prog w = .ok v w') (h : WL Tryd.prog ops Q rest (a.put o.dst v) w') : WL Tryd.prog ops Q (o :: rest) a w :=
  ⟨wpList_wanted hw fun K hK => by
    unfold Oper.wp execOp
    simp only [ho, resolve, invoke, builtin, Sem.run_bind, Sem.run_pure, Result.andThen_ok, List.map_toArray, List.map_cons, List.map_nil, hd, hs, hr]
    exact hK _ _ h.out⟩
theorem snd_end {w w2 wa wd wz : World} {p mb x g N gi : Nat} {P K P' K' : List Lk} (hb : Below w.heap.size w w2) (ha : Grown w2 wa fun k => k = gi) (n : PrN wa p mb x g N P K P' K' wd) (hi : ∀ k, PrS p mb x g P K k → k ≠ gi) (hg : w.heap.size ≤ gi) (hz : Grown wd wz fun k => k = gi) (hga : gi < wa.heap.size := by assumption) : PrN w p mb x g N P K P' K' wz := by
  have hne : ¬ PrS p mb x g P' K' gi := fun e => by
    rcases n.new gi e with e | e
    · exact hi gi e rfl
    · omega
  refine ⟨n.at_.grown hz fun k e e2 => hne (e ▸ e2), ?_, fun k e => ?_⟩
  · refine (((Grown.below hb).trans (ha.mono (T := fun k => PrS p mb x g P K k ∨ k = gi) fun k _ e => .inr e)).trans (n.gr.mono fun k _ e => .inl e) |>.trans (hz.mono fun k _ e => .inr e)) |>.mono fun k hk e => ?_
    rcases e with e | e
    · exact e
    · omega
  · rcases n.new k e with e | e
    · exact .inl e
    · exact .inr (Nat.le_trans (Nat.le_trans hb.size ha.size) e)
set_option maxRecDepth 8000 in
set_option maxHeartbeats 1000000 in
theorem send_any (w : World) (p mb x g N : Nat) (Ps Ks : List Lk) (kd f t i j m by_ : Int) (ba : Option Addr) (bn bc : Nat) (b : List Int) (HR : Keep (PR w p mb x g N Ps Ks)) (HEq : Keep (EqL Ps Ks)) (HB : Keep (RowAt w (.slice ba bn bc) b)) (Hbn : Keep (b.length = bn)) (HBy : Keep (Byts b)) (HD : Keep (b ≠ [] → ∀ k, (Value.slice ba bn bc).ownBlock = some k → ¬ PrS p mb x g Ps Ks k ∧ k < w.heap.size)) (HL : Keep (bn ≤ 140737488355328)) : Calls Tryd.prog 23 #[.agg #[.pointer (some ⟨p, 0, none⟩), .pointer (some ⟨x, 0, none⟩)], .agg #[.int .i64 kd, .int .i64 f, .int .i64 t, .int .i64 i, .int .i64 j, .int .i64 m, .int .u8 by_, .slice ba bn bc]] w fun e w' => e = .returned (.bool true) ∧ ∃ P' K', PrN w p mb x g N Ps Ks P' K' w' ∧ EqL P' K' := by
  go_enter Tryd.func23, Tryd.ntmps23
  refine wp_seq_k fun K1 hK1 => ?_
  refine wp_region_list (WL.out ?_)
  refine WL.box (by kernel_rfl) 34 (.tmp 0) rfl #[.pointer (some ⟨p, 0, none⟩), .pointer (some ⟨x, 0, none⟩)] rfl ?_
  have b1 := below_new w (.cells #[.pointer (some ⟨p, 0, none⟩), .pointer (some ⟨x, 0, none⟩)] 34)
  have Q3 := Keep.mk (Blk.new w 34 #[.pointer (some ⟨p, 0, none⟩), .pointer (some ⟨x, 0, none⟩)])
  generalize w.alloc (.cells #[.pointer (some ⟨p, 0, none⟩), .pointer (some ⟨x, 0, none⟩)] 34) = w1 at *
  obtain ⟨b3, hb3⟩ : ∃ z, Keep (z = w.heap.size) := ⟨_, ⟨rfl⟩⟩
  rw [← hb3.out] at Q3 ⊢
  simp only [Act.put, List.setIfInBounds_toArray, List.set_cons_zero, List.set_cons_succ]
  refine WL.box (by kernel_rfl) 41 (.tmp 1) rfl #[.int .i64 kd, .int .i64 f, .int .i64 t, .int .i64 i, .int .i64 j, .int .i64 m, .int .u8 by_, .slice ba bn bc] rfl ?_
  have b2 := below_new w1 (.cells #[.int .i64 kd, .int .i64 f, .int .i64 t, .int .i64 i, .int .i64 j, .int .i64 m, .int .u8 by_, .slice ba bn bc] 41)
  have Q4 := Keep.mk (Blk.new w1 41 #[.int .i64 kd, .int .i64 f, .int .i64 t, .int .i64 i, .int .i64 j, .int .i64 m, .int .u8 by_, .slice ba bn bc])
  have Q3 := Keep.mk (Q3.out.alloc (.cells #[.int .i64 kd, .int .i64 f, .int .i64 t, .int .i64 i, .int .i64 j, .int .i64 m, .int .u8 by_, .slice ba bn bc] 41))
  generalize w1.alloc (.cells #[.int .i64 kd, .int .i64 f, .int .i64 t, .int .i64 i, .int .i64 j, .int .i64 m, .int .u8 by_, .slice ba bn bc] 41) = w2 at *
  obtain ⟨b4, hb4⟩ : ∃ z, Keep (z = w1.heap.size) := ⟨_, ⟨rfl⟩⟩
  rw [← hb4.out] at Q4 ⊢
  have HB2 : Keep (Below w.heap.size w w2) := ⟨b1.trans (b2.mono b1.size)⟩
  have R2 := Keep.mk (HR.out.below HB2.out)
  have HS2 : Keep (b3 < w2.heap.size ∧ b4 < w2.heap.size) := ⟨Q3.out.lt, Q4.out.lt⟩
  have HF3 : Keep (∀ k, PrS p mb x g Ps Ks k → k ≠ b3 ∧ k ≠ b4) := ⟨fun k hk => by have := HR.out.lt k hk; have := hb3.out; have := hb4.out; have := b1.size; omega⟩
  clear b1 b2
  have c3_0 := Q3.out.c 0 (rfl : _ = some (Value.pointer (some ⟨p, 0, none⟩)))
  have c3_1 := Q3.out.c 1 (rfl : _ = some (Value.pointer (some ⟨x, 0, none⟩)))
  have c4_0 := Q4.out.c 0 (rfl : _ = some (Value.int .i64 kd))
  have c4_1 := Q4.out.c 1 (rfl : _ = some (Value.int .i64 f))
  have c4_2 := Q4.out.c 2 (rfl : _ = some (Value.int .i64 t))
  have c4_7 := Q4.out.c 7 (rfl : _ = some (Value.slice ba bn bc))
  simp only [Act.put, List.setIfInBounds_toArray, List.set_cons_zero, List.set_cons_succ]
  refine WL.val (by kernel_rfl) (.bool false) (by go_simp) ?_
  simp only [Act.put, List.setIfInBounds_toArray, List.set_cons_zero, List.set_cons_succ]
  refine WL.nil ?_
  refine hK1 _ _ ?_
  refine wp_seq_k fun K2 hK2 => ?_
  refine wp_region_list (WL.out ?_)
  refine WL.val (by kernel_rfl) (.pointer (some ⟨b4, 7, none⟩)) (by go_simp) ?_
  simp only [Act.put, List.setIfInBounds_toArray, List.set_cons_zero, List.set_cons_succ]
  refine WL.val (by kernel_rfl) (.slice ba bn bc) (by go_simp) ?_
  simp only [Act.put, List.setIfInBounds_toArray, List.set_cons_zero, List.set_cons_succ]
  refine WL.val (by kernel_rfl) (.int .i64 (bn : Int)) (by go_simp) ?_
  simp only [Act.put, List.setIfInBounds_toArray, List.set_cons_zero, List.set_cons_succ]
  have hw1 : IntKind.i64.wrap ((bn : Int) + 8) = ((bn + 8 : Nat) : Int) := by rw [IntKind.wrap_i64]; have := HL.out; omega
  refine WL.val (by kernel_rfl) (.int .i64 ((bn + 8 : Nat) : Int)) (by go_simp) ?_
  clear hw1
  simp only [Act.put, List.setIfInBounds_toArray, List.set_cons_zero, List.set_cons_succ]
  have hmk : (Instr.makeSlice 39 (.int .i64 ((bn : Int) + 8)) (.int .i64 ((bn : Int) + 8))).run Tryd.prog w2 = .ok (.slice (some ⟨w2.heap.size, 0, none⟩) (bn + 8) (bn + 8)) (w2.alloc (.cells (bytesA (bn + 8) fun _ => 0) 5)) := run_makeB (bn + 8) (bn + 8) (Nat.le_refl _) (by have := HL.out; omega) w2
  refine WL.valW (by kernel_rfl) (.slice (some ⟨w2.heap.size, 0, none⟩) (bn + 8) (bn + 8)) (w2.alloc (.cells (bytesA (bn + 8) fun _ => 0) 5)) (by go_simp) ?_
  clear hmk c3_0 c3_1 c4_0 c4_1 c4_2 c4_7
  have bb := below_new w2 (.cells (bytesA (bn + 8) fun _ => 0) 5)
  have QI := Keep.mk (Blk.new w2 5 (bytesA (bn + 8) fun _ => 0))
  have X3 := Keep.mk (Q3.out.alloc (.cells (bytesA (bn + 8) fun _ => 0) 5))
  have X4 := Keep.mk (Q4.out.alloc (.cells (bytesA (bn + 8) fun _ => 0) 5))
  generalize w2.alloc (.cells (bytesA (bn + 8) fun _ => 0) 5) = w3 at *
  obtain ⟨gi, hgi⟩ : ∃ z, Keep (z = w2.heap.size) := ⟨_, ⟨rfl⟩⟩
  rw [← hgi.out] at QI ⊢
  have HG3 : Keep (Grown w2 w3 fun k => k = gi) := ⟨Grown.below bb⟩
  have HI : Keep (b3 ≠ gi ∧ b4 ≠ gi ∧ ∀ k, PrS p mb x g Ps Ks k → k ≠ gi) := ⟨by have := HS2.out; have := hgi.out; omega, by have := HS2.out; have := hgi.out; omega, fun k hk => by have := R2.out.lt k hk; have := hgi.out; omega⟩
  clear bb
  have c3_0 := X3.out.c 0 (rfl : _ = some (Value.pointer (some ⟨p, 0, none⟩)))
  have c3_1 := X3.out.c 1 (rfl : _ = some (Value.pointer (some ⟨x, 0, none⟩)))
  have c4_0 := X4.out.c 0 (rfl : _ = some (Value.int .i64 kd))
  have c4_1 := X4.out.c 1 (rfl : _ = some (Value.int .i64 f))
  have c4_2 := X4.out.c 2 (rfl : _ = some (Value.int .i64 t))
  have c4_7 := X4.out.c 7 (rfl : _ = some (Value.slice ba bn bc))
  simp only [Act.put, List.setIfInBounds_toArray, List.set_cons_zero, List.set_cons_succ]
  refine WL.val (by kernel_rfl) (.slice (some ⟨gi, 0, none⟩) (bn + 8) (bn + 8)) (by go_simp) ?_
  simp only [Act.put, List.setIfInBounds_toArray, List.set_cons_zero, List.set_cons_succ]
  refine WL.nil ?_
  refine hK2 _ _ ?_
  refine wp_seq_k fun K3 hK3 => ?_
  refine wp_region_list (WL.out ?_)
  refine WL.val (by kernel_rfl) (.slice (some ⟨gi, 0, none⟩) (bn + 8) (bn + 8)) (by go_simp) ?_
  simp only [Act.put, List.setIfInBounds_toArray, List.set_cons_zero, List.set_cons_succ]
  refine WL.val (by kernel_rfl) (.pointer (some ⟨b4, 7, none⟩)) (by go_simp) ?_
  simp only [Act.put, List.setIfInBounds_toArray, List.set_cons_zero, List.set_cons_succ]
  refine WL.val (by kernel_rfl) (.slice ba bn bc) (by go_simp) ?_
  simp only [Act.put, List.setIfInBounds_toArray, List.set_cons_zero, List.set_cons_succ]
  have hcp := fun ty => run_copyG w3 gi 0 (bn + 8) (bn + 8) (.slice ba bn bc) b ty 5 (bytesA (bn + 8) fun _ => 0) QI.out (by have := Hbn.out; omega) (by rw [bytesA_size]; have := Hbn.out; omega) ((HB.out.below HB2.out).grown HG3.out fun k hk hl e => by have := hgi.out; omega)
  rw [inB_0 Hbn.out] at hcp
  refine WL.blt (by kernel_rfl) (.tmp 17) (.tmp 19) rfl (.slice (some ⟨gi, 0, none⟩) (bn + 8) (bn + 8)) (.slice ba bn bc) (goInt b.length) (w3.setRow gi (bv (inB b 0)).toArray) rfl rfl (hcp _) ?_
  clear hcp c3_0 c3_1 c4_0 c4_1 c4_2 c4_7
  have Q5 := Keep.mk (QI.out.setRow (bv (inB b 0)).toArray)
  have G5 : Keep (Grown w2 (w3.setRow gi (bv (inB b 0)).toArray) fun k => k = gi) := ⟨HG3.out.trans (Grown.setRow w3 gi _ fun _ => rfl)⟩
  generalize w3.setRow gi (bv (inB b 0)).toArray = w4 at *
  clear HG3 QI X3 X4
  simp only [Act.put, List.setIfInBounds_toArray, List.set_cons_zero, List.set_cons_succ]
  refine WL.nil ?_
  refine hK3 _ _ ?_
  refine wp_seq_k fun K4 hK4 => ?_
  refine wp_seq_k fun K5 hK5 => ?_
  refine wp_region_list (WL.out ?_)
  refine WL.val (by kernel_rfl) (.int .i64 0) (by go_simp) ?_
  simp only [Act.put, List.setIfInBounds_toArray, List.set_cons_zero, List.set_cons_succ]
  refine WL.nil ?_
  refine hK5 _ _ ?_
  refine wp_block ?_
  refine wp_loop (fun ac wr => ∃ (u : Nat) (fz : Nat → Value), ac = { tmps := #[.agg #[.pointer (some ⟨p, 0, none⟩), .pointer (some ⟨x, 0, none⟩)], .agg #[.int .i64 kd, .int .i64 f, .int .i64 t, .int .i64 i, .int .i64 j, .int .i64 m, .int .u8 by_, .slice ba bn bc], .pointer (some ⟨b3, 0, none⟩), .pointer (some ⟨b4, 0, none⟩), .bool false, .slice (some ⟨gi, 0, none⟩) (bn + 8) (bn + 8), .int .i64 (u : Int), undef, undef, undef, undef, undef, .pointer (some ⟨b4, 7, none⟩), .slice ba bn bc, .int .i64 (bn : Int), .int .i64 ((bn + 8 : Nat) : Int), .slice (some ⟨gi, 0, none⟩) (bn + 8) (bn + 8), .slice (some ⟨gi, 0, none⟩) (bn + 8) (bn + 8), .pointer (some ⟨b4, 7, none⟩), .slice ba bn bc, goInt b.length, fz 21, fz 22, fz 23, fz 24, fz 25, fz 26, fz 27, fz 28, fz 29, fz 30, fz 31, fz 32, fz 33, fz 34, undef, undef, undef, undef, undef, undef, undef, undef, undef, undef, undef, undef, undef, undef, undef, undef, undef, undef, undef, undef, undef, undef, undef, undef, undef, undef, undef, undef, undef, undef, undef, undef, undef, undef, undef, undef, undef, undef, undef, undef, undef, undef, undef, undef, undef, undef, undef, undef, undef, undef, undef, undef, undef, undef, undef, undef, undef, undef, undef, undef, undef, undef, undef, undef, undef, undef], defers := [] } ∧ Keep (u ≤ 8) ∧ Keep (Blk wr gi 5 (bv (inB b u)).toArray) ∧ Keep (Grown w2 wr fun k => k = gi)) (fun a _ => 8 - (intOf (a.tmps.getD 6 undef)).toNat) ⟨0, fun zz => [.agg #[.pointer (some ⟨p, 0, none⟩), .pointer (some ⟨x, 0, none⟩)], .agg #[.int .i64 kd, .int .i64 f, .int .i64 t, .int .i64 i, .int .i64 j, .int .i64 m, .int .u8 by_, .slice ba bn bc], .pointer (some ⟨b3, 0, none⟩), .pointer (some ⟨b4, 0, none⟩), .bool false, .slice (some ⟨gi, 0, none⟩) (bn + 8) (bn + 8), .int .i64 0, undef, undef, undef, undef, undef, .pointer (some ⟨b4, 7, none⟩), .slice ba bn bc, .int .i64 (bn : Int), .int .i64 ((bn + 8 : Nat) : Int), .slice (some ⟨gi, 0, none⟩) (bn + 8) (bn + 8), .slice (some ⟨gi, 0, none⟩) (bn + 8) (bn + 8), .pointer (some ⟨b4, 7, none⟩), .slice ba bn bc, goInt b.length, undef, undef, undef, undef, undef, undef, undef, undef, undef, undef, undef, undef, undef, undef, undef, undef, undef, undef, undef, undef, undef, undef, undef, undef, undef, undef, undef, undef, undef, undef, undef, undef, undef, undef, undef, undef, undef, undef, undef, undef, undef, undef, undef, undef, undef, undef, undef, undef, undef, undef, undef, undef, undef, undef, undef, undef, undef, undef, undef, undef, undef, undef, undef, undef, undef, undef, undef, undef, undef, undef, undef, undef, undef, undef, undef, undef, undef, undef, undef, undef].getD zz undef, rfl, ⟨by omega⟩, Q5, G5⟩ ?_
  rintro ac wr ⟨u, fz, rfl, HU, HQ, HG⟩
  obtain ⟨hu8⟩ := HU
  have hl9 := HL.out
  by_cases hun : u < 8
  · have hcu_ : (u : Int) < 8 := by omega
    have Y3 := Keep.mk (HG.out.blk Q3.out fun e => HI.out.1 e)
    have Y4 := Keep.mk (HG.out.blk Q4.out fun e => HI.out.2.1 e)
    have c3_0 := Y3.out.c 0 (rfl : _ = some (Value.pointer (some ⟨p, 0, none⟩)))
    have c3_1 := Y3.out.c 1 (rfl : _ = some (Value.pointer (some ⟨x, 0, none⟩)))
    have c4_0 := Y4.out.c 0 (rfl : _ = some (Value.int .i64 kd))
    have c4_1 := Y4.out.c 1 (rfl : _ = some (Value.int .i64 f))
    have c4_2 := Y4.out.c 2 (rfl : _ = some (Value.int .i64 t))
    have c4_7 := Y4.out.c 7 (rfl : _ = some (Value.slice ba bn bc))
    refine wp_seq_k fun K6 hK6 => ?_
    refine wp_seq_k fun K7 hK7 => ?_
    refine wp_region_list (WL.out ?_)
    refine WL.val (by kernel_rfl) (.int .i64 (u : Int)) (by go_simp) ?_
    simp only [Act.put, List.setIfInBounds_toArray, List.set_cons_zero, List.set_cons_succ]
    refine WL.val (by kernel_rfl) (.bool true) (by go_simp) ?_
    simp only [Act.put, List.setIfInBounds_toArray, List.set_cons_zero, List.set_cons_succ]
    refine WL.nil ?_
    refine hK7 _ _ ?_
    refine wp_cond_true rfl ?_
    refine wp_skip ?_
    refine hK6 _ _ ?_
    refine wp_seq_k fun K8 hK8 => ?_
    refine wp_block ?_
    refine wp_region_list (WL.out ?_)
    refine WL.val (by kernel_rfl) (.slice (some ⟨gi, 0, none⟩) (bn + 8) (bn + 8)) (by go_simp) ?_
    simp only [Act.put, List.setIfInBounds_toArray, List.set_cons_zero, List.set_cons_succ]
    refine WL.val (by kernel_rfl) (.pointer (some ⟨b4, 7, none⟩)) (by go_simp) ?_
    simp only [Act.put, List.setIfInBounds_toArray, List.set_cons_zero, List.set_cons_succ]
    refine WL.val (by kernel_rfl) (.slice ba bn bc) (by go_simp) ?_
    simp only [Act.put, List.setIfInBounds_toArray, List.set_cons_zero, List.set_cons_succ]
    refine WL.val (by kernel_rfl) (.int .i64 (bn : Int)) (by go_simp) ?_
    simp only [Act.put, List.setIfInBounds_toArray, List.set_cons_zero, List.set_cons_succ]
    refine WL.val (by kernel_rfl) (.int .i64 (u : Int)) (by go_simp) ?_
    simp only [Act.put, List.setIfInBounds_toArray, List.set_cons_zero, List.set_cons_succ]
    have hw1 : IntKind.i64.wrap ((bn : Int) + (u : Int)) = ((bn + u : Nat) : Int) := by rw [IntKind.wrap_i64]; omega
    refine WL.val (by kernel_rfl) (.int .i64 ((bn + u : Nat) : Int)) (by go_simp) ?_
    clear hw1
    simp only [Act.put, List.setIfInBounds_toArray, List.set_cons_zero, List.set_cons_succ]
    refine WL.val (by kernel_rfl) (.int .i64 (u : Int)) (by go_simp) ?_
    simp only [Act.put, List.setIfInBounds_toArray, List.set_cons_zero, List.set_cons_succ]
    have hw2 : IntKind.i64.wrap (160 + (u : Int)) = ((160 + u : Nat) : Int) := by rw [IntKind.wrap_i64]; omega
    refine WL.val (by kernel_rfl) (.int .i64 ((160 + u : Nat) : Int)) (by go_simp) ?_
    clear hw2
    simp only [Act.put, List.setIfInBounds_toArray, List.set_cons_zero, List.set_cons_succ]
    have hw3 : IntKind.u8.wrap (160 + (u : Int)) = ((160 + u : Nat) : Int) := by rw [IntKind.wrap_u8]; omega
    have hw4 : IntKind.u8.wrap ((160 + u : Nat) : Int) = ((160 + u : Nat) : Int) := by rw [IntKind.wrap_u8]; omega
    refine WL.val (by kernel_rfl) (.int .u8 ((160 + u : Nat) : Int)) (by go_simp) ?_
    clear hw3 hw4
    simp only [Act.put, List.setIfInBounds_toArray, List.set_cons_zero, List.set_cons_succ]
    have hi1 : (bn : Int) + (u : Int) < (bn : Int) + 8 := by omega
    have hi2 : ¬ bn + 8 ≤ bn + u := by omega
    have hi3 : (0 : Int) ≤ (bn : Int) + (u : Int) := by omega
    have hi4 : ((bn : Int) + (u : Int)).toNat = bn + u := by omega
    refine WL.val (by kernel_rfl) (.pointer (some ⟨gi, bn + u, none⟩)) (by go_simp) ?_
    clear hi1 hi2 hi3 hi4
    simp only [Act.put, List.setIfInBounds_toArray, List.set_cons_zero, List.set_cons_succ]
    have f_ := HQ.out.frozen (bn + u)
    have c_ : ∃ z, wr.cell? ⟨gi, bn + u, none⟩ = some z := ⟨_, (HQ.out.cell (bn + u)).trans (by rw [List.getElem?_toArray]; exact bv_get _ _ (by rw [inB_len b hu8]; have := Hbn.out; omega))⟩
    obtain ⟨z, c_⟩ := c_
    refine WL.cell (by kernel_rfl) (wr.setCell ⟨gi, bn + u, none⟩ (.int .u8 ((160 + u : Nat) : Int))) (by go_simp) ?_
    have HQ2 : Keep (Blk (wr.setCell ⟨gi, bn + u, none⟩ (.int .u8 ((160 + u : Nat) : Int))) gi 5 (bv (inB b (u + 1))).toArray) := ⟨by
      have h := HQ.out.set (bn + u) (.int .u8 ((160 + u : Nat) : Int))
      rw [List.setIfInBounds_toArray, bv_set, ← Hbn.out, inB_set b hun] at h
      rwa [Hbn.out] at h⟩
    have HG2 : Keep (Grown w2 (wr.setCell ⟨gi, bn + u, none⟩ (.int .u8 ((160 + u : Nat) : Int))) fun k => k = gi) := ⟨HG.out.trans (Grown.setCell wr gi (bn + u) _ fun _ => rfl)⟩
    clear f_ c_ c3_0 c3_1 c4_0 c4_1 c4_2 c4_7
    generalize wr.setCell ⟨gi, bn + u, none⟩ (.int .u8 ((160 + u : Nat) : Int)) = ws at *
    simp only [Act.put]
    refine WL.nil ?_
    refine hK8 _ _ ?_
    refine wp_region_list (WL.out ?_)
    refine WL.val (by kernel_rfl) (.int .i64 (u : Int)) (by go_simp) ?_
    simp only [Act.put, List.setIfInBounds_toArray, List.set_cons_zero, List.set_cons_succ]
    have hw6 : IntKind.i64.wrap ((u : Int) + 1) = ((u + 1 : Nat) : Int) := by rw [IntKind.wrap_i64]; omega
    refine WL.val (by kernel_rfl) (.int .i64 ((u + 1 : Nat) : Int)) (by go_simp) ?_
    clear hw6
    simp only [Act.put, List.setIfInBounds_toArray, List.set_cons_zero, List.set_cons_succ]
    refine WL.val (by kernel_rfl) (.int .i64 ((u + 1 : Nat) : Int)) (by go_simp) ?_
    simp only [Act.put, List.setIfInBounds_toArray, List.set_cons_zero, List.set_cons_succ]
    refine WL.nil ?_
    refine ⟨⟨u + 1, fun zz => [.agg #[.pointer (some ⟨p, 0, none⟩), .pointer (some ⟨x, 0, none⟩)], .agg #[.int .i64 kd, .int .i64 f, .int .i64 t, .int .i64 i, .int .i64 j, .int .i64 m, .int .u8 by_, .slice ba bn bc], .pointer (some ⟨b3, 0, none⟩), .pointer (some ⟨b4, 0, none⟩), .bool false, .slice (some ⟨gi, 0, none⟩) (bn + 8) (bn + 8), .int .i64 ((u + 1 : Nat) : Int), undef, undef, undef, undef, undef, .pointer (some ⟨b4, 7, none⟩), .slice ba bn bc, .int .i64 (bn : Int), .int .i64 ((bn + 8 : Nat) : Int), .slice (some ⟨gi, 0, none⟩) (bn + 8) (bn + 8), .slice (some ⟨gi, 0, none⟩) (bn + 8) (bn + 8), .pointer (some ⟨b4, 7, none⟩), .slice ba bn bc, goInt b.length, .int .i64 (u : Int), .bool true, .int .i64 (u : Int), .int .i64 ((u + 1 : Nat) : Int), .slice (some ⟨gi, 0, none⟩) (bn + 8) (bn + 8), .pointer (some ⟨b4, 7, none⟩), .slice ba bn bc, .int .i64 (bn : Int), .int .i64 (u : Int), .int .i64 ((bn + u : Nat) : Int), .int .i64 (u : Int), .int .i64 ((160 + u : Nat) : Int), .int .u8 ((160 + u : Nat) : Int), .pointer (some ⟨gi, bn + u, none⟩), undef, undef, undef, undef, undef, undef, undef, undef, undef, undef, undef, undef, undef, undef, undef, undef, undef, undef, undef, undef, undef, undef, undef, undef, undef, undef, undef, undef, undef, undef, undef, undef, undef, undef, undef, undef, undef, undef, undef, undef, undef, undef, undef, undef, undef, undef, undef, undef, undef, undef, undef, undef, undef, undef, undef, undef, undef, undef, undef, undef, undef, undef, undef, undef, undef, undef].getD zz undef, rfl, ⟨by omega⟩, HQ2, HG2⟩, ?_⟩
    simp only [intOf]
    show 8 - (((u + 1 : Nat) : Int)).toNat < 8 - ((u : Int)).toNat
    omega
  · have hcu_ : ¬ (u : Int) < 8 := by omega
    have HQ8 : Keep (Blk wr gi 5 (bv (inB b 8)).toArray) := ⟨by have h := HQ.out; rwa [show u = 8 by omega] at h⟩
    clear HQ
    refine wp_seq_k fun K9 hK9 => ?_
    refine wp_seq_k fun K10 hK10 => ?_
    refine wp_region_list (WL.out ?_)
    refine WL.val (by kernel_rfl) (.int .i64 (u : Int)) (by go_simp) ?_
    simp only [Act.put, List.setIfInBounds_toArray, List.set_cons_zero, List.set_cons_succ]
    refine WL.val (by kernel_rfl) (.bool false) (by go_simp) ?_
    simp only [Act.put, List.setIfInBounds_toArray, List.set_cons_zero, List.set_cons_succ]
    refine WL.nil ?_
    refine hK10 _ _ ?_
    refine wp_cond_false rfl ?_
    refine wp_exit ?_
    refine hK4 _ _ ?_
    refine wp_seq_k fun K11 hK11 => ?_
    refine wp_region_held_drew (S := fun wx => Blk wx b3 34 #[.pointer (some ⟨p, 0, none⟩), .pointer (some ⟨x, 0, none⟩)] ∧ Blk wx b4 41 #[.int .i64 kd, .int .i64 f, .int .i64 t, .int .i64 i, .int .i64 j, .int .i64 m, .int .u8 by_, .slice ba bn bc]) (by kernel_rfl) (⟨(HG.out.blk Q3.out fun e => HI.out.1 e).drew, (HG.out.blk Q4.out fun e => HI.out.2.1 e).drew⟩) (fun hHeld => ?_)
    have Ya3 := Keep.mk ((HG.out.blk Q3.out fun e => HI.out.1 e).drew)
    have Ya4 := Keep.mk ((HG.out.blk Q4.out fun e => HI.out.2.1 e).drew)
    have Ga := Keep.mk (HG.out.drew)
    have Ha8 := Keep.mk (HQ8.out.drew)
    have Ra := Keep.mk ((R2.out.grown HG.out fun k e e2 => HI.out.2.2 k e2 e).below (Below.refl wr.heap.size wr).drew)
    clear HG HQ8
    generalize wr.drew = wa at *
    refine wpAnyH_take (i := 0) (oi := ⟨some 35, Op.fieldAddr 34 (Operand.tmp 2) 0, 0, _, _, none⟩) (v := .pointer (some ⟨b3, 0, none⟩)) rfl (by kernel_rfl) (by kernel_rfl) (by kernel_rfl) (fun _ _ _ h => h) (Or.inl ⟨by rfl, fun w hS => by have c3_0 := hS.1.c 0 (rfl : _ = some (Value.pointer (some ⟨p, 0, none⟩))); have c4_1 := hS.2.c 1 (rfl : _ = some (Value.int .i64 f)); have c4_2 := hS.2.c 2 (rfl : _ = some (Value.int .i64 t)); have c4_7 := hS.2.c 7 (rfl : _ = some (Value.slice ba bn bc)); go_simp⟩) hHeld ?_
    simp only [Act.put, List.setIfInBounds_toArray, List.set_cons_zero, List.set_cons_succ]
    refine wpAnyH_take (i := 2) (oi := ⟨some 37, Op.fieldAddr 41 (Operand.tmp 3) 1, 0, _, _, none⟩) (v := .pointer (some ⟨b4, 1, none⟩)) rfl (by kernel_rfl) (by kernel_rfl) (by kernel_rfl) (fun _ _ _ h => h) (Or.inl ⟨by rfl, fun w hS => by have c3_0 := hS.1.c 0 (rfl : _ = some (Value.pointer (some ⟨p, 0, none⟩))); have c4_1 := hS.2.c 1 (rfl : _ = some (Value.int .i64 f)); have c4_2 := hS.2.c 2 (rfl : _ = some (Value.int .i64 t)); have c4_7 := hS.2.c 7 (rfl : _ = some (Value.slice ba bn bc)); go_simp⟩) hHeld ?_
    simp only [Act.put, List.setIfInBounds_toArray, List.set_cons_zero, List.set_cons_succ]
    refine wpAnyH_take (i := 4) (oi := ⟨some 39, Op.fieldAddr 41 (Operand.tmp 3) 2, 0, _, _, none⟩) (v := .pointer (some ⟨b4, 2, none⟩)) rfl (by kernel_rfl) (by kernel_rfl) (by kernel_rfl) (fun _ _ _ h => h) (Or.inl ⟨by rfl, fun w hS => by have c3_0 := hS.1.c 0 (rfl : _ = some (Value.pointer (some ⟨p, 0, none⟩))); have c4_1 := hS.2.c 1 (rfl : _ = some (Value.int .i64 f)); have c4_2 := hS.2.c 2 (rfl : _ = some (Value.int .i64 t)); have c4_7 := hS.2.c 7 (rfl : _ = some (Value.slice ba bn bc)); go_simp⟩) hHeld ?_
    simp only [Act.put, List.setIfInBounds_toArray, List.set_cons_zero, List.set_cons_succ]
    refine wpAnyH_take (i := 6) (oi := ⟨some 41, Op.move (Operand.tmp 5), 39, _, _, none⟩) (v := .slice (some ⟨gi, 0, none⟩) (bn + 8) (bn + 8)) rfl (by kernel_rfl) (by kernel_rfl) (by kernel_rfl) (fun _ _ _ h => h) (Or.inl ⟨by rfl, fun w hS => by have c3_0 := hS.1.c 0 (rfl : _ = some (Value.pointer (some ⟨p, 0, none⟩))); have c4_1 := hS.2.c 1 (rfl : _ = some (Value.int .i64 f)); have c4_2 := hS.2.c 2 (rfl : _ = some (Value.int .i64 t)); have c4_7 := hS.2.c 7 (rfl : _ = some (Value.slice ba bn bc)); go_simp⟩) hHeld ?_
    simp only [Act.put, List.setIfInBounds_toArray, List.set_cons_zero, List.set_cons_succ]
    refine wpAnyH_take (i := 7) (oi := ⟨some 42, Op.fieldAddr 41 (Operand.tmp 3) 7, 0, _, _, none⟩) (v := .pointer (some ⟨b4, 7, none⟩)) rfl (by kernel_rfl) (by kernel_rfl) (by kernel_rfl) (fun _ _ _ h => h) (Or.inl ⟨by rfl, fun w hS => by have c3_0 := hS.1.c 0 (rfl : _ = some (Value.pointer (some ⟨p, 0, none⟩))); have c4_1 := hS.2.c 1 (rfl : _ = some (Value.int .i64 f)); have c4_2 := hS.2.c 2 (rfl : _ = some (Value.int .i64 t)); have c4_7 := hS.2.c 7 (rfl : _ = some (Value.slice ba bn bc)); go_simp⟩) hHeld ?_
    simp only [Act.put, List.setIfInBounds_toArray, List.set_cons_zero, List.set_cons_succ]
    refine wpAnyH_take (i := 1) (oi := ⟨some 36, Op.load 26 (Operand.tmp 35), 26, _, _, none⟩) (v := .pointer (some ⟨p, 0, none⟩)) rfl (by kernel_rfl) (by kernel_rfl) (by kernel_rfl) (fun _ _ _ h => h) (Or.inl ⟨by rfl, fun w hS => by have c3_0 := hS.1.c 0 (rfl : _ = some (Value.pointer (some ⟨p, 0, none⟩))); have c4_1 := hS.2.c 1 (rfl : _ = some (Value.int .i64 f)); have c4_2 := hS.2.c 2 (rfl : _ = some (Value.int .i64 t)); have c4_7 := hS.2.c 7 (rfl : _ = some (Value.slice ba bn bc)); go_simp⟩) hHeld ?_
    simp only [Act.put, List.setIfInBounds_toArray, List.set_cons_zero, List.set_cons_succ]
    refine wpAnyH_take (i := 3) (oi := ⟨some 38, Op.load 3 (Operand.tmp 37), 3, _, _, none⟩) (v := .int .i64 f) rfl (by kernel_rfl) (by kernel_rfl) (by kernel_rfl) (fun _ _ _ h => h) (Or.inl ⟨by rfl, fun w hS => by have c3_0 := hS.1.c 0 (rfl : _ = some (Value.pointer (some ⟨p, 0, none⟩))); have c4_1 := hS.2.c 1 (rfl : _ = some (Value.int .i64 f)); have c4_2 := hS.2.c 2 (rfl : _ = some (Value.int .i64 t)); have c4_7 := hS.2.c 7 (rfl : _ = some (Value.slice ba bn bc)); go_simp⟩) hHeld ?_
    simp only [Act.put, List.setIfInBounds_toArray, List.set_cons_zero, List.set_cons_succ]
    refine wpAnyH_take (i := 5) (oi := ⟨some 40, Op.load 3 (Operand.tmp 39), 3, _, _, none⟩) (v := .int .i64 t) rfl (by kernel_rfl) (by kernel_rfl) (by kernel_rfl) (fun _ _ _ h => h) (Or.inl ⟨by rfl, fun w hS => by have c3_0 := hS.1.c 0 (rfl : _ = some (Value.pointer (some ⟨p, 0, none⟩))); have c4_1 := hS.2.c 1 (rfl : _ = some (Value.int .i64 f)); have c4_2 := hS.2.c 2 (rfl : _ = some (Value.int .i64 t)); have c4_7 := hS.2.c 7 (rfl : _ = some (Value.slice ba bn bc)); go_simp⟩) hHeld ?_
    simp only [Act.put, List.setIfInBounds_toArray, List.set_cons_zero, List.set_cons_succ]
    refine wpAnyH_take (i := 8) (oi := ⟨some 43, Op.load 39 (Operand.tmp 42), 39, _, _, none⟩) (v := .slice ba bn bc) rfl (by kernel_rfl) (by kernel_rfl) (by kernel_rfl) (fun _ _ _ h => h) (Or.inl ⟨by rfl, fun w hS => by have c3_0 := hS.1.c 0 (rfl : _ = some (Value.pointer (some ⟨p, 0, none⟩))); have c4_1 := hS.2.c 1 (rfl : _ = some (Value.int .i64 f)); have c4_2 := hS.2.c 2 (rfl : _ = some (Value.int .i64 t)); have c4_7 := hS.2.c 7 (rfl : _ = some (Value.slice ba bn bc)); go_simp⟩) hHeld ?_
    simp only [Act.put, List.setIfInBounds_toArray, List.set_cons_zero, List.set_cons_succ]
    refine wpAnyH_take (i := 9) (oi := ⟨some 44, Op.call { callee := Callee.builtin Builtin.len, args := #[Operand.tmp 43], argTypes := #[39] }, 3, _, _, none⟩) (v := .int .i64 (bn : Int)) rfl (by kernel_rfl) (by kernel_rfl) (by kernel_rfl) (fun _ _ _ h => h) (Or.inl ⟨by rfl, fun w hS => by have c3_0 := hS.1.c 0 (rfl : _ = some (Value.pointer (some ⟨p, 0, none⟩))); have c4_1 := hS.2.c 1 (rfl : _ = some (Value.int .i64 f)); have c4_2 := hS.2.c 2 (rfl : _ = some (Value.int .i64 t)); have c4_7 := hS.2.c 7 (rfl : _ = some (Value.slice ba bn bc)); go_simp⟩) hHeld ?_
    simp only [Act.put, List.setIfInBounds_toArray, List.set_cons_zero, List.set_cons_succ]
    refine wpAnyH_take (i := 10) (oi := ⟨some 45, Op.slice 39 (Operand.tmp 41) none (some (Operand.tmp 44)) none, 39, _, _, none⟩) (v := .slice (some ⟨gi, 0, none⟩) bn (bn + 8)) rfl (by kernel_rfl) (by kernel_rfl) (by kernel_rfl) (fun _ _ _ h => h) (yieldsIf_slr (by rfl) 39 (Operand.tmp 41) none (some (Operand.tmp 44)) rfl _ none (some (.int .i64 (bn : Int))) _ rfl rfl rfl fun w => sl_run _ _ _ bn (Nat.le_add_right bn 8) w) hHeld ?_
    simp only [Act.put, List.setIfInBounds_toArray, List.set_cons_zero, List.set_cons_succ]
    refine wpAnyH_ready (rs := [11]) (by kernel_rfl) (by simp) ?_
    refine AllReadyH.cons (o := ⟨some 46, Op.call { callee := Callee.value (Operand.func 15), args := #[Operand.tmp 36, Operand.tmp 38, Operand.tmp 40, Operand.tmp 45], argTypes := #[26, 3, 3, 39] }, 27, _, _, none⟩) rfl (fun K hK => ?_) AllReadyH.nil
    rw [if_pos (by rfl)]
    refine wp_callF 15 _ _ rfl Tryd.in15 #[.pointer (some ⟨p, 0, none⟩), .int .i64 f, .int .i64 t, .slice (some ⟨gi, 0, none⟩) bn (bn + 8)] (by simp [Act.eval]) (fun vz wz => ∃ er P1, vz = .int .i64 er ∧ er = sndE N Ps f t b ∧ PmN wa p mb N Ps P1 0 wz ∧ (er ≠ 0 → P1 = Ps) ∧ (er = 0 → ∃ u v, P1 = Ps.set (ix f t) ⟨v, (lkOf Ps f t).R ++ [(u, b)]⟩)) ?_ ?_
    · refine (psn wa p mb N Ps f t _ bn (bn + 8) b ⟨row_pre Ha8.out Hbn.out⟩ Hbn HBy ⟨fun _ k hk e => HI.out.2.2 k (.inl e) (by simpa [Value.ownBlock] using hk.symm)⟩ ⟨Ra.out.pm⟩).mono ?_
      rintro e wz ⟨er, P1, rfl, k1, k2, k3, k4⟩
      exact ⟨_, rfl, er, P1, rfl, k1, k2, k3, k4⟩
    rintro vz wb ⟨er, P1, rfl, k1, k2, k3, k4⟩
    have He := Keep.mk k1
    have Hk2 := Keep.mk k3
    have Hk3 := Keep.mk k4
    have Nb := Keep.mk (Ra.out.prog k2)
    clear k1 k2 k3 k4
    have Z3 := Keep.mk (Nb.out.gr.blk Ya3.out fun e => (HF3.out _ e).1 rfl)
    have Z4 := Keep.mk (Nb.out.gr.blk Ya4.out fun e => (HF3.out _ e).2 rfl)
    refine hK _ _ (⟨Z3.out, Z4.out⟩) fun hHa => ?_
    clear hK
    simp only [Act.put, List.setIfInBounds_toArray, List.set_cons_zero, List.set_cons_succ]
    refine wpAnyH_take (i := 12) (oi := ⟨some 7, Op.assign (Operand.tmp 46), 27, _, _, none⟩) (v := .int .i64 er) rfl (by kernel_rfl) (by kernel_rfl) (by kernel_rfl) (fun _ _ _ h => h) (Or.inl ⟨by rfl, fun w hS => by have c3_0 := hS.1.c 0 (rfl : _ = some (Value.pointer (some ⟨p, 0, none⟩))); have c4_1 := hS.2.c 1 (rfl : _ = some (Value.int .i64 f)); have c4_2 := hS.2.c 2 (rfl : _ = some (Value.int .i64 t)); have c4_7 := hS.2.c 7 (rfl : _ = some (Value.slice ba bn bc)); go_simp⟩) hHa ?_
    simp only [Act.put, List.setIfInBounds_toArray, List.set_cons_zero, List.set_cons_succ]
    refine wpAnyH_done (by kernel_rfl) ?_ _
    refine hK11 _ _ ?_
    refine wp_seq_k fun K12 hK12 => ?_
    refine wp_region_list (WL.out ?_)
    refine WL.val (by kernel_rfl) (.pointer (some ⟨b3, 1, none⟩)) (by go_simp) ?_
    simp only [Act.put, List.setIfInBounds_toArray, List.set_cons_zero, List.set_cons_succ]
    have c3_0 := Z3.out.c 0 (rfl : _ = some (Value.pointer (some ⟨p, 0, none⟩)))
    have c3_1 := Z3.out.c 1 (rfl : _ = some (Value.pointer (some ⟨x, 0, none⟩)))
    have c4_0 := Z4.out.c 0 (rfl : _ = some (Value.int .i64 kd))
    have c4_1 := Z4.out.c 1 (rfl : _ = some (Value.int .i64 f))
    have c4_2 := Z4.out.c 2 (rfl : _ = some (Value.int .i64 t))
    have c4_7 := Z4.out.c 7 (rfl : _ = some (Value.slice ba bn bc))
    refine WL.val (by kernel_rfl) (.pointer (some ⟨x, 0, none⟩)) (by go_simp) ?_
    simp only [Act.put, List.setIfInBounds_toArray, List.set_cons_zero, List.set_cons_succ]
    refine WL.val (by kernel_rfl) (.pointer (some ⟨b4, 1, none⟩)) (by go_simp) ?_
    simp only [Act.put, List.setIfInBounds_toArray, List.set_cons_zero, List.set_cons_succ]
    refine WL.val (by kernel_rfl) (.int .i64 f) (by go_simp) ?_
    simp only [Act.put, List.setIfInBounds_toArray, List.set_cons_zero, List.set_cons_succ]
    refine WL.val (by kernel_rfl) (.pointer (some ⟨b4, 2, none⟩)) (by go_simp) ?_
    simp only [Act.put, List.setIfInBounds_toArray, List.set_cons_zero, List.set_cons_succ]
    refine WL.val (by kernel_rfl) (.int .i64 t) (by go_simp) ?_
    simp only [Act.put, List.setIfInBounds_toArray, List.set_cons_zero, List.set_cons_succ]
    refine WL.val (by kernel_rfl) (.pointer (some ⟨b4, 7, none⟩)) (by go_simp) ?_
    simp only [Act.put, List.setIfInBounds_toArray, List.set_cons_zero, List.set_cons_succ]
    refine WL.val (by kernel_rfl) (.slice ba bn bc) (by go_simp) ?_
    simp only [Act.put, List.setIfInBounds_toArray, List.set_cons_zero, List.set_cons_succ]
    refine WL.callF (by kernel_rfl) 43 _ _ rfl Tryd.in43 #[.pointer (some ⟨x, 0, none⟩), .int .i64 f, .int .i64 t, .slice ba bn bc] (by simp [Act.eval]) ?_
    refine (rsend_any wb x g N Ks f t _ b Nb.out.at_.rm (row_of ((HB.out.below HB2.out).grown Ga.out fun k hk hl e => by have := hgi.out; omega) Nb.out.gr fun he k hk e => (HD.out he k hk).1 e) HBy.out).mono ?_
    rintro e wc ⟨rfl, K1, n2, d2, d3⟩
    refine ⟨_, rfl, ?_⟩
    clear c3_0 c3_1 c4_0 c4_1 c4_2 c4_7
    obtain ⟨er2, her2⟩ : ∃ z : Int, z = sndE N Ks f t b := ⟨_, rfl⟩
    rw [← her2]
    have Nc := Keep.mk (Nb.out.trans (Nb.out.at_.ref n2))
    obtain ⟨hee, hE⟩ := eq_send HEq.out He.out Hk2.out Hk3.out her2 d2 d3
    subst hee
    have HEc := Keep.mk hE
    have V3 := Keep.mk (Nc.out.gr.blk Ya3.out fun e => (HF3.out _ e).1 rfl)
    have V4 := Keep.mk (Nc.out.gr.blk Ya4.out fun e => (HF3.out _ e).2 rfl)
    have V8 := Keep.mk (Nc.out.gr.blk Ha8.out fun e => HI.out.2.2 _ e rfl)
    have VB := Keep.mk (row_of ((HB.out.below HB2.out).grown Ga.out fun k hk hl e => by have := hgi.out; omega) Nc.out.gr fun he k hk e => (HD.out he k hk).1 e)
    clear n2 d2 d3 her2 hE Z3 Z4
    simp only [Act.put, List.setIfInBounds_toArray, List.set_cons_zero, List.set_cons_succ]
    refine WL.val (by kernel_rfl) (.int .i64 er) (by go_simp) ?_
    simp only [Act.put, List.setIfInBounds_toArray, List.set_cons_zero, List.set_cons_succ]
    refine WL.nil ?_
    refine hK12 _ _ ?_
    refine wp_seq_k fun K13 hK13 => ?_
    refine wp_region_held_drew (S := fun wx => Blk wx b3 34 #[.pointer (some ⟨p, 0, none⟩), .pointer (some ⟨x, 0, none⟩)] ∧ Blk wx b4 41 #[.int .i64 kd, .int .i64 f, .int .i64 t, .int .i64 i, .int .i64 j, .int .i64 m, .int .u8 by_, .slice ba bn bc]) (by kernel_rfl) (⟨V3.out.drew, V4.out.drew⟩) (fun hHeld => ?_)
    have U3 := Keep.mk V3.out.drew
    have U4 := Keep.mk V4.out.drew
    have U8 := Keep.mk V8.out.drew
    have UB := Keep.mk (VB.out.below (Below.refl wc.heap.size wc).drew)
    have Nd := Keep.mk (Nc.out.trans (PrN.of_below (Below.refl wc.heap.size wc).drew (PrN.refl (Nc.out.at_.below (Below.refl wc.heap.size wc).drew))))
    clear V3 V4 V8 VB Nc
    generalize wc.drew = wd at *
    refine wpAnyH_take (i := 0) (oi := ⟨some 56, Op.move (Operand.tmp 5), 39, _, _, none⟩) (v := .slice (some ⟨gi, 0, none⟩) (bn + 8) (bn + 8)) rfl (by kernel_rfl) (by kernel_rfl) (by kernel_rfl) (fun _ _ _ h => h) (Or.inl ⟨by rfl, fun w hS => by have c3_0 := hS.1.c 0 (rfl : _ = some (Value.pointer (some ⟨p, 0, none⟩))); have c4_1 := hS.2.c 1 (rfl : _ = some (Value.int .i64 f)); have c4_2 := hS.2.c 2 (rfl : _ = some (Value.int .i64 t)); have c4_7 := hS.2.c 7 (rfl : _ = some (Value.slice ba bn bc)); go_simp⟩) hHeld ?_
    simp only [Act.put, List.setIfInBounds_toArray, List.set_cons_zero, List.set_cons_succ]
    refine wpAnyH_take (i := 1) (oi := ⟨some 57, Op.fieldAddr 41 (Operand.tmp 3) 7, 0, _, _, none⟩) (v := .pointer (some ⟨b4, 7, none⟩)) rfl (by kernel_rfl) (by kernel_rfl) (by kernel_rfl) (fun _ _ _ h => h) (Or.inl ⟨by rfl, fun w hS => by have c3_0 := hS.1.c 0 (rfl : _ = some (Value.pointer (some ⟨p, 0, none⟩))); have c4_1 := hS.2.c 1 (rfl : _ = some (Value.int .i64 f)); have c4_2 := hS.2.c 2 (rfl : _ = some (Value.int .i64 t)); have c4_7 := hS.2.c 7 (rfl : _ = some (Value.slice ba bn bc)); go_simp⟩) hHeld ?_
    simp only [Act.put, List.setIfInBounds_toArray, List.set_cons_zero, List.set_cons_succ]
    refine wpAnyH_take (i := 5) (oi := ⟨some 61, Op.fieldAddr 41 (Operand.tmp 3) 7, 0, _, _, none⟩) (v := .pointer (some ⟨b4, 7, none⟩)) rfl (by kernel_rfl) (by kernel_rfl) (by kernel_rfl) (fun _ _ _ h => h) (Or.inl ⟨by rfl, fun w hS => by have c3_0 := hS.1.c 0 (rfl : _ = some (Value.pointer (some ⟨p, 0, none⟩))); have c4_1 := hS.2.c 1 (rfl : _ = some (Value.int .i64 f)); have c4_2 := hS.2.c 2 (rfl : _ = some (Value.int .i64 t)); have c4_7 := hS.2.c 7 (rfl : _ = some (Value.slice ba bn bc)); go_simp⟩) hHeld ?_
    simp only [Act.put, List.setIfInBounds_toArray, List.set_cons_zero, List.set_cons_succ]
    refine wpAnyH_take (i := 2) (oi := ⟨some 58, Op.load 39 (Operand.tmp 57), 39, _, _, none⟩) (v := .slice ba bn bc) rfl (by kernel_rfl) (by kernel_rfl) (by kernel_rfl) (fun _ _ _ h => h) (Or.inl ⟨by rfl, fun w hS => by have c3_0 := hS.1.c 0 (rfl : _ = some (Value.pointer (some ⟨p, 0, none⟩))); have c4_1 := hS.2.c 1 (rfl : _ = some (Value.int .i64 f)); have c4_2 := hS.2.c 2 (rfl : _ = some (Value.int .i64 t)); have c4_7 := hS.2.c 7 (rfl : _ = some (Value.slice ba bn bc)); go_simp⟩) hHeld ?_
    simp only [Act.put, List.setIfInBounds_toArray, List.set_cons_zero, List.set_cons_succ]
    refine wpAnyH_take (i := 6) (oi := ⟨some 62, Op.load 39 (Operand.tmp 61), 39, _, _, none⟩) (v := .slice ba bn bc) rfl (by kernel_rfl) (by kernel_rfl) (by kernel_rfl) (fun _ _ _ h => h) (Or.inl ⟨by rfl, fun w hS => by have c3_0 := hS.1.c 0 (rfl : _ = some (Value.pointer (some ⟨p, 0, none⟩))); have c4_1 := hS.2.c 1 (rfl : _ = some (Value.int .i64 f)); have c4_2 := hS.2.c 2 (rfl : _ = some (Value.int .i64 t)); have c4_7 := hS.2.c 7 (rfl : _ = some (Value.slice ba bn bc)); go_simp⟩) hHeld ?_
    simp only [Act.put, List.setIfInBounds_toArray, List.set_cons_zero, List.set_cons_succ]
    refine wpAnyH_take (i := 3) (oi := ⟨some 59, Op.call { callee := Callee.builtin Builtin.len, args := #[Operand.tmp 58], argTypes := #[39] }, 3, _, _, none⟩) (v := .int .i64 (bn : Int)) rfl (by kernel_rfl) (by kernel_rfl) (by kernel_rfl) (fun _ _ _ h => h) (Or.inl ⟨by rfl, fun w hS => by have c3_0 := hS.1.c 0 (rfl : _ = some (Value.pointer (some ⟨p, 0, none⟩))); have c4_1 := hS.2.c 1 (rfl : _ = some (Value.int .i64 f)); have c4_2 := hS.2.c 2 (rfl : _ = some (Value.int .i64 t)); have c4_7 := hS.2.c 7 (rfl : _ = some (Value.slice ba bn bc)); go_simp⟩) hHeld ?_
    simp only [Act.put, List.setIfInBounds_toArray, List.set_cons_zero, List.set_cons_succ]
    refine wpAnyH_take (i := 4) (oi := ⟨some 60, Op.slice 39 (Operand.tmp 56) none (some (Operand.tmp 59)) none, 39, _, _, none⟩) (v := .slice (some ⟨gi, 0, none⟩) bn (bn + 8)) rfl (by kernel_rfl) (by kernel_rfl) (by kernel_rfl) (fun _ _ _ h => h) (yieldsIf_slr (by rfl) 39 (Operand.tmp 56) none (some (Operand.tmp 59)) rfl _ none (some (.int .i64 (bn : Int))) _ rfl rfl rfl fun w => sl_run _ _ _ bn (Nat.le_add_right bn 8) w) hHeld ?_
    simp only [Act.put, List.setIfInBounds_toArray, List.set_cons_zero, List.set_cons_succ]
    refine wpAnyH_ready (rs := [7]) (by kernel_rfl) (by simp) ?_
    refine AllReadyH.cons (o := ⟨some 63, Op.call { callee := Callee.value (Operand.func 17), args := #[Operand.tmp 60, Operand.tmp 62], argTypes := #[39, 39] }, 4, _, _, none⟩) rfl (fun K hK => ?_) AllReadyH.nil
    rw [if_pos (by rfl)]
    refine wp_callF 17 _ _ rfl Tryd.in17 #[.slice (some ⟨gi, 0, none⟩) bn (bn + 8), .slice ba bn bc] (by simp [Act.eval]) (fun vz wz => vz = .bool true ∧ wz = wd) ?_ ?_
    · refine (same_any _ _ b b wd (row_pre U8.out Hbn.out) UB.out HBy.out HBy.out).mono ?_
      rintro e wz ⟨rfl, k1⟩
      exact ⟨_, rfl, by simp, k1⟩
    rintro vz wd_ ⟨rfl, hw_⟩
    have hw_ := hw_.symm
    subst hw_
    refine hK _ _ (⟨U3.out, U4.out⟩) fun hHa => ?_
    clear hK
    simp only [Act.put, List.setIfInBounds_toArray, List.set_cons_zero, List.set_cons_succ]
    refine wpAnyH_take (i := 8) (oi := ⟨some 9, Op.assign (Operand.tmp 63), 4, _, _, none⟩) (v := .bool true) rfl (by kernel_rfl) (by kernel_rfl) (by kernel_rfl) (fun _ _ _ h => h) (Or.inl ⟨by rfl, fun w hS => by have c3_0 := hS.1.c 0 (rfl : _ = some (Value.pointer (some ⟨p, 0, none⟩))); have c4_1 := hS.2.c 1 (rfl : _ = some (Value.int .i64 f)); have c4_2 := hS.2.c 2 (rfl : _ = some (Value.int .i64 t)); have c4_7 := hS.2.c 7 (rfl : _ = some (Value.slice ba bn bc)); go_simp⟩) hHa ?_
    simp only [Act.put, List.setIfInBounds_toArray, List.set_cons_zero, List.set_cons_succ]
    refine wpAnyH_done (by kernel_rfl) ?_ _
    refine hK13 _ _ ?_
    refine wp_seq_k fun K14 hK14 => ?_
    refine wp_seq_k fun K15 hK15 => ?_
    refine wp_region_list (WL.out ?_)
    refine WL.val (by kernel_rfl) (.int .i64 0) (by go_simp) ?_
    simp only [Act.put, List.setIfInBounds_toArray, List.set_cons_zero, List.set_cons_succ]
    refine WL.nil ?_
    refine hK15 _ _ ?_
    refine wp_block ?_
    refine wp_loop (fun ac wt => ∃ (v : Nat) (fy : Nat → Value), ac = { tmps := #[.agg #[.pointer (some ⟨p, 0, none⟩), .pointer (some ⟨x, 0, none⟩)], .agg #[.int .i64 kd, .int .i64 f, .int .i64 t, .int .i64 i, .int .i64 j, .int .i64 m, .int .u8 by_, .slice ba bn bc], .pointer (some ⟨b3, 0, none⟩), .pointer (some ⟨b4, 0, none⟩), .bool false, .slice (some ⟨gi, 0, none⟩) (bn + 8) (bn + 8), .int .i64 (u : Int), .int .i64 er, .int .i64 er, .bool true, .int .i64 (v : Int), undef, .pointer (some ⟨b4, 7, none⟩), .slice ba bn bc, .int .i64 (bn : Int), .int .i64 ((bn + 8 : Nat) : Int), .slice (some ⟨gi, 0, none⟩) (bn + 8) (bn + 8), .slice (some ⟨gi, 0, none⟩) (bn + 8) (bn + 8), .pointer (some ⟨b4, 7, none⟩), .slice ba bn bc, goInt b.length, .int .i64 (u : Int), .bool false, fz 23, fz 24, fz 25, fz 26, fz 27, fz 28, fz 29, fz 30, fz 31, fz 32, fz 33, fz 34, .pointer (some ⟨b3, 0, none⟩), .pointer (some ⟨p, 0, none⟩), .pointer (some ⟨b4, 1, none⟩), .int .i64 f, .pointer (some ⟨b4, 2, none⟩), .int .i64 t, .slice (some ⟨gi, 0, none⟩) (bn + 8) (bn + 8), .pointer (some ⟨b4, 7, none⟩), .slice ba bn bc, .int .i64 (bn : Int), .slice (some ⟨gi, 0, none⟩) bn (bn + 8), .int .i64 er, .pointer (some ⟨b3, 1, none⟩), .pointer (some ⟨x, 0, none⟩), .pointer (some ⟨b4, 1, none⟩), .int .i64 f, .pointer (some ⟨b4, 2, none⟩), .int .i64 t, .pointer (some ⟨b4, 7, none⟩), .slice ba bn bc, .int .i64 er, .slice (some ⟨gi, 0, none⟩) (bn + 8) (bn + 8), .pointer (some ⟨b4, 7, none⟩), .slice ba bn bc, .int .i64 (bn : Int), .slice (some ⟨gi, 0, none⟩) bn (bn + 8), .pointer (some ⟨b4, 7, none⟩), .slice ba bn bc, .bool true, fy 64, fy 65, fy 66, fy 67, fy 68, fy 69, fy 70, fy 71, fy 72, fy 73, fy 74, fy 75, fy 76, fy 77, fy 78, fy 79, fy 80, fy 81, fy 82, undef, undef, undef, undef, undef, undef, undef, undef, undef, undef, undef, undef, undef, undef, undef, undef, undef, undef], defers := [] } ∧ Keep (v ≤ 8) ∧ wt = wd) (fun a _ => 8 - (intOf (a.tmps.getD 10 undef)).toNat) ⟨0, fun zz => [.agg #[.pointer (some ⟨p, 0, none⟩), .pointer (some ⟨x, 0, none⟩)], .agg #[.int .i64 kd, .int .i64 f, .int .i64 t, .int .i64 i, .int .i64 j, .int .i64 m, .int .u8 by_, .slice ba bn bc], .pointer (some ⟨b3, 0, none⟩), .pointer (some ⟨b4, 0, none⟩), .bool false, .slice (some ⟨gi, 0, none⟩) (bn + 8) (bn + 8), .int .i64 (u : Int), .int .i64 er, .int .i64 er, .bool true, .int .i64 0, undef, .pointer (some ⟨b4, 7, none⟩), .slice ba bn bc, .int .i64 (bn : Int), .int .i64 ((bn + 8 : Nat) : Int), .slice (some ⟨gi, 0, none⟩) (bn + 8) (bn + 8), .slice (some ⟨gi, 0, none⟩) (bn + 8) (bn + 8), .pointer (some ⟨b4, 7, none⟩), .slice ba bn bc, goInt b.length, .int .i64 (u : Int), .bool false, fz 23, fz 24, fz 25, fz 26, fz 27, fz 28, fz 29, fz 30, fz 31, fz 32, fz 33, fz 34, .pointer (some ⟨b3, 0, none⟩), .pointer (some ⟨p, 0, none⟩), .pointer (some ⟨b4, 1, none⟩), .int .i64 f, .pointer (some ⟨b4, 2, none⟩), .int .i64 t, .slice (some ⟨gi, 0, none⟩) (bn + 8) (bn + 8), .pointer (some ⟨b4, 7, none⟩), .slice ba bn bc, .int .i64 (bn : Int), .slice (some ⟨gi, 0, none⟩) bn (bn + 8), .int .i64 er, .pointer (some ⟨b3, 1, none⟩), .pointer (some ⟨x, 0, none⟩), .pointer (some ⟨b4, 1, none⟩), .int .i64 f, .pointer (some ⟨b4, 2, none⟩), .int .i64 t, .pointer (some ⟨b4, 7, none⟩), .slice ba bn bc, .int .i64 er, .slice (some ⟨gi, 0, none⟩) (bn + 8) (bn + 8), .pointer (some ⟨b4, 7, none⟩), .slice ba bn bc, .int .i64 (bn : Int), .slice (some ⟨gi, 0, none⟩) bn (bn + 8), .pointer (some ⟨b4, 7, none⟩), .slice ba bn bc, .bool true, undef, undef, undef, undef, undef, undef, undef, undef, undef, undef, undef, undef, undef, undef, undef, undef, undef, undef, undef, undef, undef, undef, undef, undef, undef, undef, undef, undef, undef, undef, undef, undef, undef, undef, undef, undef, undef].getD zz undef, rfl, ⟨by omega⟩, rfl⟩ ?_
    rintro ac wt ⟨v, fy, rfl, HV, hw⟩
    obtain ⟨hv8⟩ := HV
    have hw := hw.symm
    subst hw
    have hl9 := HL.out
    by_cases hvn : v < 8
    · have hcu_ : (v : Int) < 8 := by omega
      have c3_0 := U3.out.c 0 (rfl : _ = some (Value.pointer (some ⟨p, 0, none⟩)))
      have c3_1 := U3.out.c 1 (rfl : _ = some (Value.pointer (some ⟨x, 0, none⟩)))
      have c4_0 := U4.out.c 0 (rfl : _ = some (Value.int .i64 kd))
      have c4_1 := U4.out.c 1 (rfl : _ = some (Value.int .i64 f))
      have c4_2 := U4.out.c 2 (rfl : _ = some (Value.int .i64 t))
      have c4_7 := U4.out.c 7 (rfl : _ = some (Value.slice ba bn bc))
      refine wp_seq_k fun K16 hK16 => ?_
      refine wp_seq_k fun K17 hK17 => ?_
      refine wp_region_list (WL.out ?_)
      refine WL.val (by kernel_rfl) (.int .i64 (v : Int)) (by go_simp) ?_
      simp only [Act.put, List.setIfInBounds_toArray, List.set_cons_zero, List.set_cons_succ]
      refine WL.val (by kernel_rfl) (.bool true) (by go_simp) ?_
      simp only [Act.put, List.setIfInBounds_toArray, List.set_cons_zero, List.set_cons_succ]
      refine WL.nil ?_
      refine hK17 _ _ ?_
      refine wp_cond_true rfl ?_
      refine wp_skip ?_
      refine hK16 _ _ ?_
      refine wp_seq_k fun K18 hK18 => ?_
      refine wp_block ?_
      refine wp_region_list (WL.out ?_)
      refine WL.val (by kernel_rfl) (.bool true) (by go_simp) ?_
      simp only [Act.put, List.setIfInBounds_toArray, List.set_cons_zero, List.set_cons_succ]
      refine WL.val (by kernel_rfl) (.bool true) (by go_simp) ?_
      simp only [Act.put, List.setIfInBounds_toArray, List.set_cons_zero, List.set_cons_succ]
      refine WL.val (by kernel_rfl) (.slice (some ⟨gi, 0, none⟩) (bn + 8) (bn + 8)) (by go_simp) ?_
      simp only [Act.put, List.setIfInBounds_toArray, List.set_cons_zero, List.set_cons_succ]
      refine WL.val (by kernel_rfl) (.pointer (some ⟨b4, 7, none⟩)) (by go_simp) ?_
      simp only [Act.put, List.setIfInBounds_toArray, List.set_cons_zero, List.set_cons_succ]
      refine WL.val (by kernel_rfl) (.slice ba bn bc) (by go_simp) ?_
      simp only [Act.put, List.setIfInBounds_toArray, List.set_cons_zero, List.set_cons_succ]
      refine WL.val (by kernel_rfl) (.int .i64 (bn : Int)) (by go_simp) ?_
      simp only [Act.put, List.setIfInBounds_toArray, List.set_cons_zero, List.set_cons_succ]
      refine WL.val (by kernel_rfl) (.int .i64 (v : Int)) (by go_simp) ?_
      simp only [Act.put, List.setIfInBounds_toArray, List.set_cons_zero, List.set_cons_succ]
      have hw1 : IntKind.i64.wrap ((bn : Int) + (v : Int)) = ((bn + v : Nat) : Int) := by rw [IntKind.wrap_i64]; omega
      refine WL.val (by kernel_rfl) (.int .i64 ((bn + v : Nat) : Int)) (by go_simp) ?_
      clear hw1
      simp only [Act.put, List.setIfInBounds_toArray, List.set_cons_zero, List.set_cons_succ]
      have hi1 : (bn : Int) + (v : Int) < (bn : Int) + 8 := by omega
      have hi2 : ¬ bn + 8 ≤ bn + v := by omega
      have hi3 : (0 : Int) ≤ (bn : Int) + (v : Int) := by omega
      have hi4 : ((bn : Int) + (v : Int)).toNat = bn + v := by omega
      refine WL.val (by kernel_rfl) (.pointer (some ⟨gi, bn + v, none⟩)) (by go_simp) ?_
      clear hi1 hi2 hi3 hi4
      simp only [Act.put, List.setIfInBounds_toArray, List.set_cons_zero, List.set_cons_succ]
      have c_ : wd.cell? ⟨gi, bn + v, none⟩ = some (.int .u8 ((160 + v : Nat) : Int)) := (U8.out.cell (bn + v)).trans (by rw [← Hbn.out]; exact inB_get b hvn)
      refine WL.val (by kernel_rfl) (.int .u8 ((160 + v : Nat) : Int)) (by go_simp) ?_
      clear c_
      simp only [Act.put, List.setIfInBounds_toArray, List.set_cons_zero, List.set_cons_succ]
      refine WL.val (by kernel_rfl) (.int .i64 (v : Int)) (by go_simp) ?_
      simp only [Act.put, List.setIfInBounds_toArray, List.set_cons_zero, List.set_cons_succ]
      have hw2 : IntKind.i64.wrap (160 + (v : Int)) = ((160 + v : Nat) : Int) := by rw [IntKind.wrap_i64]; omega
      refine WL.val (by kernel_rfl) (.int .i64 ((160 + v : Nat) : Int)) (by go_simp) ?_
      clear hw2
      simp only [Act.put, List.setIfInBounds_toArray, List.set_cons_zero, List.set_cons_succ]
      have hw3 : IntKind.u8.wrap (160 + (v : Int)) = ((160 + v : Nat) : Int) := by rw [IntKind.wrap_u8]; omega
      have hw4 : IntKind.u8.wrap ((160 + v : Nat) : Int) = ((160 + v : Nat) : Int) := by rw [IntKind.wrap_u8]; omega
      refine WL.val (by kernel_rfl) (.int .u8 ((160 + v : Nat) : Int)) (by go_simp) ?_
      clear hw3 hw4
      simp only [Act.put, List.setIfInBounds_toArray, List.set_cons_zero, List.set_cons_succ]
      refine WL.val (by kernel_rfl) (.bool true) (by go_simp) ?_
      simp only [Act.put, List.setIfInBounds_toArray, List.set_cons_zero, List.set_cons_succ]
      refine WL.val (by kernel_rfl) (.bool true) (by go_simp) ?_
      simp only [Act.put, List.setIfInBounds_toArray, List.set_cons_zero, List.set_cons_succ]
      refine WL.val (by kernel_rfl) (.bool true) (by go_simp) ?_
      simp only [Act.put, List.setIfInBounds_toArray, List.set_cons_zero, List.set_cons_succ]
      refine WL.nil ?_
      refine hK18 _ _ ?_
      refine wp_region_list (WL.out ?_)
      refine WL.val (by kernel_rfl) (.int .i64 (v : Int)) (by go_simp) ?_
      simp only [Act.put, List.setIfInBounds_toArray, List.set_cons_zero, List.set_cons_succ]
      clear c3_0 c3_1 c4_0 c4_1 c4_2 c4_7
      have hw6 : IntKind.i64.wrap ((v : Int) + 1) = ((v + 1 : Nat) : Int) := by rw [IntKind.wrap_i64]; omega
      refine WL.val (by kernel_rfl) (.int .i64 ((v + 1 : Nat) : Int)) (by go_simp) ?_
      clear hw6
      simp only [Act.put, List.setIfInBounds_toArray, List.set_cons_zero, List.set_cons_succ]
      refine WL.val (by kernel_rfl) (.int .i64 ((v + 1 : Nat) : Int)) (by go_simp) ?_
      simp only [Act.put, List.setIfInBounds_toArray, List.set_cons_zero, List.set_cons_succ]
      refine WL.nil ?_
      refine ⟨⟨v + 1, fun zz => [.agg #[.pointer (some ⟨p, 0, none⟩), .pointer (some ⟨x, 0, none⟩)], .agg #[.int .i64 kd, .int .i64 f, .int .i64 t, .int .i64 i, .int .i64 j, .int .i64 m, .int .u8 by_, .slice ba bn bc], .pointer (some ⟨b3, 0, none⟩), .pointer (some ⟨b4, 0, none⟩), .bool false, .slice (some ⟨gi, 0, none⟩) (bn + 8) (bn + 8), .int .i64 (u : Int), .int .i64 er, .int .i64 er, .bool true, .int .i64 ((v + 1 : Nat) : Int), undef, .pointer (some ⟨b4, 7, none⟩), .slice ba bn bc, .int .i64 (bn : Int), .int .i64 ((bn + 8 : Nat) : Int), .slice (some ⟨gi, 0, none⟩) (bn + 8) (bn + 8), .slice (some ⟨gi, 0, none⟩) (bn + 8) (bn + 8), .pointer (some ⟨b4, 7, none⟩), .slice ba bn bc, goInt b.length, .int .i64 (u : Int), .bool false, fz 23, fz 24, fz 25, fz 26, fz 27, fz 28, fz 29, fz 30, fz 31, fz 32, fz 33, fz 34, .pointer (some ⟨b3, 0, none⟩), .pointer (some ⟨p, 0, none⟩), .pointer (some ⟨b4, 1, none⟩), .int .i64 f, .pointer (some ⟨b4, 2, none⟩), .int .i64 t, .slice (some ⟨gi, 0, none⟩) (bn + 8) (bn + 8), .pointer (some ⟨b4, 7, none⟩), .slice ba bn bc, .int .i64 (bn : Int), .slice (some ⟨gi, 0, none⟩) bn (bn + 8), .int .i64 er, .pointer (some ⟨b3, 1, none⟩), .pointer (some ⟨x, 0, none⟩), .pointer (some ⟨b4, 1, none⟩), .int .i64 f, .pointer (some ⟨b4, 2, none⟩), .int .i64 t, .pointer (some ⟨b4, 7, none⟩), .slice ba bn bc, .int .i64 er, .slice (some ⟨gi, 0, none⟩) (bn + 8) (bn + 8), .pointer (some ⟨b4, 7, none⟩), .slice ba bn bc, .int .i64 (bn : Int), .slice (some ⟨gi, 0, none⟩) bn (bn + 8), .pointer (some ⟨b4, 7, none⟩), .slice ba bn bc, .bool true, .int .i64 (v : Int), .bool true, .int .i64 (v : Int), .int .i64 ((v + 1 : Nat) : Int), .bool true, .bool true, .slice (some ⟨gi, 0, none⟩) (bn + 8) (bn + 8), .pointer (some ⟨b4, 7, none⟩), .slice ba bn bc, .int .i64 (bn : Int), .int .i64 (v : Int), .int .i64 ((bn + v : Nat) : Int), .pointer (some ⟨gi, bn + v, none⟩), .int .u8 ((160 + v : Nat) : Int), .int .i64 (v : Int), .int .i64 ((160 + v : Nat) : Int), .int .u8 ((160 + v : Nat) : Int), .bool true, .bool true, undef, undef, undef, undef, undef, undef, undef, undef, undef, undef, undef, undef, undef, undef, undef, undef, undef, undef].getD zz undef, rfl, ⟨by omega⟩, rfl⟩, ?_⟩
      simp only [intOf]
      show 8 - (((v + 1 : Nat) : Int)).toNat < 8 - ((v : Int)).toNat
      omega
    · have hcu_ : ¬ (v : Int) < 8 := by omega
      refine wp_seq_k fun K19 hK19 => ?_
      refine wp_seq_k fun K20 hK20 => ?_
      refine wp_region_list (WL.out ?_)
      refine WL.val (by kernel_rfl) (.int .i64 (v : Int)) (by go_simp) ?_
      simp only [Act.put, List.setIfInBounds_toArray, List.set_cons_zero, List.set_cons_succ]
      refine WL.val (by kernel_rfl) (.bool false) (by go_simp) ?_
      simp only [Act.put, List.setIfInBounds_toArray, List.set_cons_zero, List.set_cons_succ]
      refine WL.nil ?_
      refine hK20 _ _ ?_
      refine wp_cond_false rfl ?_
      refine wp_exit ?_
      refine hK14 _ _ ?_
      refine wp_seq_k fun K21 hK21 => ?_
      refine wp_seq_k fun K22 hK22 => ?_
      refine wp_region_list (WL.out ?_)
      refine WL.val (by kernel_rfl) (.int .i64 0) (by go_simp) ?_
      simp only [Act.put, List.setIfInBounds_toArray, List.set_cons_zero, List.set_cons_succ]
      refine WL.nil ?_
      refine hK22 _ _ ?_
      refine wp_block ?_
      refine wp_loop (fun ac wz => ∃ (z : Nat) (fx : Nat → Value), ac = { tmps := #[.agg #[.pointer (some ⟨p, 0, none⟩), .pointer (some ⟨x, 0, none⟩)], .agg #[.int .i64 kd, .int .i64 f, .int .i64 t, .int .i64 i, .int .i64 j, .int .i64 m, .int .u8 by_, .slice ba bn bc], .pointer (some ⟨b3, 0, none⟩), .pointer (some ⟨b4, 0, none⟩), .bool false, .slice (some ⟨gi, 0, none⟩) (bn + 8) (bn + 8), .int .i64 (u : Int), .int .i64 er, .int .i64 er, .bool true, .int .i64 (v : Int), .int .i64 (z : Int), .pointer (some ⟨b4, 7, none⟩), .slice ba bn bc, .int .i64 (bn : Int), .int .i64 ((bn + 8 : Nat) : Int), .slice (some ⟨gi, 0, none⟩) (bn + 8) (bn + 8), .slice (some ⟨gi, 0, none⟩) (bn + 8) (bn + 8), .pointer (some ⟨b4, 7, none⟩), .slice ba bn bc, goInt b.length, .int .i64 (u : Int), .bool false, fz 23, fz 24, fz 25, fz 26, fz 27, fz 28, fz 29, fz 30, fz 31, fz 32, fz 33, fz 34, .pointer (some ⟨b3, 0, none⟩), .pointer (some ⟨p, 0, none⟩), .pointer (some ⟨b4, 1, none⟩), .int .i64 f, .pointer (some ⟨b4, 2, none⟩), .int .i64 t, .slice (some ⟨gi, 0, none⟩) (bn + 8) (bn + 8), .pointer (some ⟨b4, 7, none⟩), .slice ba bn bc, .int .i64 (bn : Int), .slice (some ⟨gi, 0, none⟩) bn (bn + 8), .int .i64 er, .pointer (some ⟨b3, 1, none⟩), .pointer (some ⟨x, 0, none⟩), .pointer (some ⟨b4, 1, none⟩), .int .i64 f, .pointer (some ⟨b4, 2, none⟩), .int .i64 t, .pointer (some ⟨b4, 7, none⟩), .slice ba bn bc, .int .i64 er, .slice (some ⟨gi, 0, none⟩) (bn + 8) (bn + 8), .pointer (some ⟨b4, 7, none⟩), .slice ba bn bc, .int .i64 (bn : Int), .slice (some ⟨gi, 0, none⟩) bn (bn + 8), .pointer (some ⟨b4, 7, none⟩), .slice ba bn bc, .bool true, .int .i64 (v : Int), .bool false, fy 66, fy 67, fy 68, fy 69, fy 70, fy 71, fy 72, fy 73, fy 74, fy 75, fy 76, fy 77, fy 78, fy 79, fy 80, fy 81, fy 82, fx 83, fx 84, fx 85, fx 86, fx 87, fx 88, fx 89, fx 90, fx 91, fx 92, fx 93, fx 94, undef, undef, undef, undef, undef, undef], defers := [] } ∧ Keep (z ≤ bn + 8) ∧ Keep (∃ l : List Int, l.length = bn + 8 ∧ Blk wz gi 5 (bv l).toArray ∧ Grown wd wz fun k => k = gi)) (fun a _ => bn + 8 - (intOf (a.tmps.getD 11 undef)).toNat) ⟨0, fun zz => [.agg #[.pointer (some ⟨p, 0, none⟩), .pointer (some ⟨x, 0, none⟩)], .agg #[.int .i64 kd, .int .i64 f, .int .i64 t, .int .i64 i, .int .i64 j, .int .i64 m, .int .u8 by_, .slice ba bn bc], .pointer (some ⟨b3, 0, none⟩), .pointer (some ⟨b4, 0, none⟩), .bool false, .slice (some ⟨gi, 0, none⟩) (bn + 8) (bn + 8), .int .i64 (u : Int), .int .i64 er, .int .i64 er, .bool true, .int .i64 (v : Int), .int .i64 0, .pointer (some ⟨b4, 7, none⟩), .slice ba bn bc, .int .i64 (bn : Int), .int .i64 ((bn + 8 : Nat) : Int), .slice (some ⟨gi, 0, none⟩) (bn + 8) (bn + 8), .slice (some ⟨gi, 0, none⟩) (bn + 8) (bn + 8), .pointer (some ⟨b4, 7, none⟩), .slice ba bn bc, goInt b.length, .int .i64 (u : Int), .bool false, fz 23, fz 24, fz 25, fz 26, fz 27, fz 28, fz 29, fz 30, fz 31, fz 32, fz 33, fz 34, .pointer (some ⟨b3, 0, none⟩), .pointer (some ⟨p, 0, none⟩), .pointer (some ⟨b4, 1, none⟩), .int .i64 f, .pointer (some ⟨b4, 2, none⟩), .int .i64 t, .slice (some ⟨gi, 0, none⟩) (bn + 8) (bn + 8), .pointer (some ⟨b4, 7, none⟩), .slice ba bn bc, .int .i64 (bn : Int), .slice (some ⟨gi, 0, none⟩) bn (bn + 8), .int .i64 er, .pointer (some ⟨b3, 1, none⟩), .pointer (some ⟨x, 0, none⟩), .pointer (some ⟨b4, 1, none⟩), .int .i64 f, .pointer (some ⟨b4, 2, none⟩), .int .i64 t, .pointer (some ⟨b4, 7, none⟩), .slice ba bn bc, .int .i64 er, .slice (some ⟨gi, 0, none⟩) (bn + 8) (bn + 8), .pointer (some ⟨b4, 7, none⟩), .slice ba bn bc, .int .i64 (bn : Int), .slice (some ⟨gi, 0, none⟩) bn (bn + 8), .pointer (some ⟨b4, 7, none⟩), .slice ba bn bc, .bool true, .int .i64 (v : Int), .bool false, fy 66, fy 67, fy 68, fy 69, fy 70, fy 71, fy 72, fy 73, fy 74, fy 75, fy 76, fy 77, fy 78, fy 79, fy 80, fy 81, fy 82, undef, undef, undef, undef, undef, undef, undef, undef, undef, undef, undef, undef, undef, undef, undef, undef, undef, undef].getD zz undef, rfl, ⟨by omega⟩, ⟨inB b 8, by rw [inB_len b (Nat.le_refl _), Hbn.out], U8.out, Grown.refl _ _⟩⟩ ?_
      rintro ac wz ⟨z, fx, rfl, HZ, HLz⟩
      obtain ⟨hz8⟩ := HZ
      obtain ⟨l, hll, hbl, hgl⟩ := HLz.out
      have hl9 := HL.out
      by_cases hzn : z < bn + 8
      · have hcz_ : (z : Int) < (bn : Int) + 8 := by omega
        have f_ := hbl.frozen z
        have c_ : wz.cell? ⟨gi, z, none⟩ = some (.int .u8 (l.getD z 0)) := (hbl.cell z).trans (by rw [List.getElem?_toArray]; exact bv_get l z (by omega))
        refine wp_seq_k fun K23 hK23 => ?_
        refine wp_seq_k fun K24 hK24 => ?_
        refine wp_region_list (WL.out ?_)
        refine WL.val (by kernel_rfl) (.int .i64 (z : Int)) (by go_simp) ?_
        simp only [Act.put, List.setIfInBounds_toArray, List.set_cons_zero, List.set_cons_succ]
        refine WL.val (by kernel_rfl) (.slice (some ⟨gi, 0, none⟩) (bn + 8) (bn + 8)) (by go_simp) ?_
        simp only [Act.put, List.setIfInBounds_toArray, List.set_cons_zero, List.set_cons_succ]
        refine WL.val (by kernel_rfl) (.int .i64 ((bn + 8 : Nat) : Int)) (by go_simp) ?_
        simp only [Act.put, List.setIfInBounds_toArray, List.set_cons_zero, List.set_cons_succ]
        refine WL.val (by kernel_rfl) (.bool true) (by go_simp) ?_
        simp only [Act.put, List.setIfInBounds_toArray, List.set_cons_zero, List.set_cons_succ]
        refine WL.nil ?_
        refine hK24 _ _ ?_
        refine wp_cond_true rfl ?_
        refine wp_skip ?_
        refine hK23 _ _ ?_
        refine wp_seq_k fun K25 hK25 => ?_
        refine wp_block ?_
        refine wp_region_list (WL.out ?_)
        refine WL.val (by kernel_rfl) (.slice (some ⟨gi, 0, none⟩) (bn + 8) (bn + 8)) (by go_simp) ?_
        simp only [Act.put, List.setIfInBounds_toArray, List.set_cons_zero, List.set_cons_succ]
        refine WL.val (by kernel_rfl) (.int .i64 (z : Int)) (by go_simp) ?_
        simp only [Act.put, List.setIfInBounds_toArray, List.set_cons_zero, List.set_cons_succ]
        have hi2 : ¬ bn + 8 ≤ z := by omega
        refine WL.val (by kernel_rfl) (.pointer (some ⟨gi, z, none⟩)) (by go_simp) ?_
        clear hi2
        simp only [Act.put, List.setIfInBounds_toArray, List.set_cons_zero, List.set_cons_succ]
        refine WL.val (by kernel_rfl) (.int .u8 (l.getD z 0)) (by go_simp) ?_
        simp only [Act.put, List.setIfInBounds_toArray, List.set_cons_zero, List.set_cons_succ]
        refine WL.val (by kernel_rfl) (.int .u8 (xor8 (l.getD z 0) 85)) (by go_simp) ?_
        simp only [Act.put, List.setIfInBounds_toArray, List.set_cons_zero, List.set_cons_succ]
        have hi2 : ¬ bn + 8 ≤ z := by omega
        refine WL.val (by kernel_rfl) (.pointer (some ⟨gi, z, none⟩)) (by go_simp) ?_
        clear hi2
        simp only [Act.put, List.setIfInBounds_toArray, List.set_cons_zero, List.set_cons_succ]
        refine WL.cell (by kernel_rfl) (wz.setCell ⟨gi, z, none⟩ (.int .u8 (xor8 (l.getD z 0) 85))) (by go_simp) ?_
        have HLz2 : Keep (∃ l2 : List Int, l2.length = bn + 8 ∧ Blk (wz.setCell ⟨gi, z, none⟩ (.int .u8 (xor8 (l.getD z 0) 85))) gi 5 (bv l2).toArray ∧ Grown wd (wz.setCell ⟨gi, z, none⟩ (.int .u8 (xor8 (l.getD z 0) 85))) fun k => k = gi) := ⟨l.set z (xor8 (l.getD z 0) 85), by rw [List.length_set]; exact hll, by have h := hbl.set z (.int .u8 (xor8 (l.getD z 0) 85)); rwa [List.setIfInBounds_toArray, bv_set] at h, hgl.trans (Grown.setCell wz gi z _ fun _ => rfl)⟩
        clear f_ c_
        simp only [Act.put]
        refine WL.nil ?_
        refine hK25 _ _ ?_
        refine wp_region_list (WL.out ?_)
        refine WL.val (by kernel_rfl) (.int .i64 (z : Int)) (by go_simp) ?_
        simp only [Act.put, List.setIfInBounds_toArray, List.set_cons_zero, List.set_cons_succ]
        have hw6 : IntKind.i64.wrap ((z : Int) + 1) = ((z + 1 : Nat) : Int) := by rw [IntKind.wrap_i64]; omega
        refine WL.val (by kernel_rfl) (.int .i64 ((z + 1 : Nat) : Int)) (by go_simp) ?_
        clear hw6
        simp only [Act.put, List.setIfInBounds_toArray, List.set_cons_zero, List.set_cons_succ]
        refine WL.val (by kernel_rfl) (.int .i64 ((z + 1 : Nat) : Int)) (by go_simp) ?_
        simp only [Act.put, List.setIfInBounds_toArray, List.set_cons_zero, List.set_cons_succ]
        refine WL.nil ?_
        refine ⟨⟨z + 1, fun zz => [.agg #[.pointer (some ⟨p, 0, none⟩), .pointer (some ⟨x, 0, none⟩)], .agg #[.int .i64 kd, .int .i64 f, .int .i64 t, .int .i64 i, .int .i64 j, .int .i64 m, .int .u8 by_, .slice ba bn bc], .pointer (some ⟨b3, 0, none⟩), .pointer (some ⟨b4, 0, none⟩), .bool false, .slice (some ⟨gi, 0, none⟩) (bn + 8) (bn + 8), .int .i64 (u : Int), .int .i64 er, .int .i64 er, .bool true, .int .i64 (v : Int), .int .i64 ((z + 1 : Nat) : Int), .pointer (some ⟨b4, 7, none⟩), .slice ba bn bc, .int .i64 (bn : Int), .int .i64 ((bn + 8 : Nat) : Int), .slice (some ⟨gi, 0, none⟩) (bn + 8) (bn + 8), .slice (some ⟨gi, 0, none⟩) (bn + 8) (bn + 8), .pointer (some ⟨b4, 7, none⟩), .slice ba bn bc, goInt b.length, .int .i64 (u : Int), .bool false, fz 23, fz 24, fz 25, fz 26, fz 27, fz 28, fz 29, fz 30, fz 31, fz 32, fz 33, fz 34, .pointer (some ⟨b3, 0, none⟩), .pointer (some ⟨p, 0, none⟩), .pointer (some ⟨b4, 1, none⟩), .int .i64 f, .pointer (some ⟨b4, 2, none⟩), .int .i64 t, .slice (some ⟨gi, 0, none⟩) (bn + 8) (bn + 8), .pointer (some ⟨b4, 7, none⟩), .slice ba bn bc, .int .i64 (bn : Int), .slice (some ⟨gi, 0, none⟩) bn (bn + 8), .int .i64 er, .pointer (some ⟨b3, 1, none⟩), .pointer (some ⟨x, 0, none⟩), .pointer (some ⟨b4, 1, none⟩), .int .i64 f, .pointer (some ⟨b4, 2, none⟩), .int .i64 t, .pointer (some ⟨b4, 7, none⟩), .slice ba bn bc, .int .i64 er, .slice (some ⟨gi, 0, none⟩) (bn + 8) (bn + 8), .pointer (some ⟨b4, 7, none⟩), .slice ba bn bc, .int .i64 (bn : Int), .slice (some ⟨gi, 0, none⟩) bn (bn + 8), .pointer (some ⟨b4, 7, none⟩), .slice ba bn bc, .bool true, .int .i64 (v : Int), .bool false, fy 66, fy 67, fy 68, fy 69, fy 70, fy 71, fy 72, fy 73, fy 74, fy 75, fy 76, fy 77, fy 78, fy 79, fy 80, fy 81, fy 82, .int .i64 (z : Int), .slice (some ⟨gi, 0, none⟩) (bn + 8) (bn + 8), .int .i64 ((bn + 8 : Nat) : Int), .bool true, .int .i64 (z : Int), .int .i64 ((z + 1 : Nat) : Int), .slice (some ⟨gi, 0, none⟩) (bn + 8) (bn + 8), .int .i64 (z : Int), .pointer (some ⟨gi, z, none⟩), .int .u8 (l.getD z 0), .int .u8 (xor8 (l.getD z 0) 85), .pointer (some ⟨gi, z, none⟩), undef, undef, undef, undef, undef, undef].getD zz undef, rfl, ⟨by omega⟩, HLz2⟩, ?_⟩
        simp only [intOf]
        show bn + 8 - (((z + 1 : Nat) : Int)).toNat < bn + 8 - ((z : Int)).toNat
        omega
      · have hcz_ : ¬ (z : Int) < (bn : Int) + 8 := by omega
        refine wp_seq_k fun K26 hK26 => ?_
        refine wp_seq_k fun K27 hK27 => ?_
        refine wp_region_list (WL.out ?_)
        refine WL.val (by kernel_rfl) (.int .i64 (z : Int)) (by go_simp) ?_
        simp only [Act.put, List.setIfInBounds_toArray, List.set_cons_zero, List.set_cons_succ]
        refine WL.val (by kernel_rfl) (.slice (some ⟨gi, 0, none⟩) (bn + 8) (bn + 8)) (by go_simp) ?_
        simp only [Act.put, List.setIfInBounds_toArray, List.set_cons_zero, List.set_cons_succ]
        refine WL.val (by kernel_rfl) (.int .i64 ((bn + 8 : Nat) : Int)) (by go_simp) ?_
        simp only [Act.put, List.setIfInBounds_toArray, List.set_cons_zero, List.set_cons_succ]
        refine WL.val (by kernel_rfl) (.bool false) (by go_simp) ?_
        simp only [Act.put, List.setIfInBounds_toArray, List.set_cons_zero, List.set_cons_succ]
        refine WL.nil ?_
        refine hK27 _ _ ?_
        refine wp_cond_false rfl ?_
        refine wp_exit ?_
        refine hK21 _ _ ?_
        refine wp_seq_k fun K28 hK28 => ?_
        refine wp_region_list (WL.out ?_)
        refine WL.val (by kernel_rfl) (.bool true) (by go_simp) ?_
        simp only [Act.put, List.setIfInBounds_toArray, List.set_cons_zero, List.set_cons_succ]
        refine WL.val (by kernel_rfl) (.bool true) (by go_simp) ?_
        simp only [Act.put, List.setIfInBounds_toArray, List.set_cons_zero, List.set_cons_succ]
        refine WL.val (by kernel_rfl) (.int .i64 er) (by go_simp) ?_
        simp only [Act.put, List.setIfInBounds_toArray, List.set_cons_zero, List.set_cons_succ]
        refine WL.val (by kernel_rfl) (.int .i64 er) (by go_simp) ?_
        simp only [Act.put, List.setIfInBounds_toArray, List.set_cons_zero, List.set_cons_succ]
        refine WL.val (by kernel_rfl) (.bool true) (by go_simp) ?_
        simp only [Act.put, List.setIfInBounds_toArray, List.set_cons_zero, List.set_cons_succ]
        refine WL.val (by kernel_rfl) (.bool true) (by go_simp) ?_
        simp only [Act.put, List.setIfInBounds_toArray, List.set_cons_zero, List.set_cons_succ]
        refine WL.val (by kernel_rfl) (.bool true) (by go_simp) ?_
        simp only [Act.put, List.setIfInBounds_toArray, List.set_cons_zero, List.set_cons_succ]
        refine WL.nil ?_
        refine hK28 _ _ ?_
        refine wp_ret ?_
        try simp only [Exit.inBlock, Exit.then]
        go_ret
        exact ⟨rfl, P1, K1, snd_end HB2.out Ga.out Nd.out (fun k hk => HI.out.2.2 k hk) (by have := hgi.out; have := HB2.out.size; omega) hgl Ha8.out.lt, HEc.out⟩

set_option maxRecDepth 8000 in
theorem st_send (w : World) (p mb x g N : Nat) (Ps Ks : List Lk) (f t i j m by_ : Int) (ba : Option Addr) (bn bc : Nat) (b : List Int) (HR : Keep (PR w p mb x g N Ps Ks)) (HEq : Keep (EqL Ps Ks)) (HB : Keep (RowAt w (.slice ba bn bc) b)) (Hbn : Keep (b.length = bn)) (HBy : Keep (Byts b)) (HD : Keep (b ≠ [] → ∀ k, (Value.slice ba bn bc).ownBlock = some k → ¬ PrS p mb x g Ps Ks k ∧ k < w.heap.size)) (HL : Keep (bn ≤ 140737488355328)) (vk : Value) : Calls Tryd.prog 10 #[.agg #[.pointer (some ⟨p, 0, none⟩), .pointer (some ⟨x, 0, none⟩)], .agg #[.int .i64 1, .int .i64 f, .int .i64 t, .int .i64 i, .int .i64 j, .int .i64 m, .int .u8 by_, .slice ba bn bc], vk] w fun e w' => e = .returned (.bool true) ∧ ∃ P' K', PrN w p mb x g N Ps Ks P' K' w' ∧ EqL P' K' := by
  go_enter Tryd.func10, Tryd.ntmps10
  refine wp_seq_k fun K1 hK1 => ?_
  refine wp_region_list (WL.out ?_)
  refine WL.box (by kernel_rfl) 34 (.tmp 0) rfl #[.pointer (some ⟨p, 0, none⟩), .pointer (some ⟨x, 0, none⟩)] rfl ?_
  have b1 := below_new w (.cells #[.pointer (some ⟨p, 0, none⟩), .pointer (some ⟨x, 0, none⟩)] 34)
  have Q3 := Keep.mk (Blk.new w 34 #[.pointer (some ⟨p, 0, none⟩), .pointer (some ⟨x, 0, none⟩)])
  generalize w.alloc (.cells #[.pointer (some ⟨p, 0, none⟩), .pointer (some ⟨x, 0, none⟩)] 34) = w1 at *
  obtain ⟨b3, hb3⟩ : ∃ z, Keep (z = w.heap.size) := ⟨_, ⟨rfl⟩⟩
  rw [← hb3.out] at Q3 ⊢
  simp only [Act.put, List.setIfInBounds_toArray, List.set_cons_zero, List.set_cons_succ]
  refine WL.box (by kernel_rfl) 41 (.tmp 1) rfl #[.int .i64 1, .int .i64 f, .int .i64 t, .int .i64 i, .int .i64 j, .int .i64 m, .int .u8 by_, .slice ba bn bc] rfl ?_
  have b2 := below_new w1 (.cells #[.int .i64 1, .int .i64 f, .int .i64 t, .int .i64 i, .int .i64 j, .int .i64 m, .int .u8 by_, .slice ba bn bc] 41)
  have Q4 := Keep.mk (Blk.new w1 41 #[.int .i64 1, .int .i64 f, .int .i64 t, .int .i64 i, .int .i64 j, .int .i64 m, .int .u8 by_, .slice ba bn bc])
  have Q3 := Keep.mk (Q3.out.alloc (.cells #[.int .i64 1, .int .i64 f, .int .i64 t, .int .i64 i, .int .i64 j, .int .i64 m, .int .u8 by_, .slice ba bn bc] 41))
  generalize w1.alloc (.cells #[.int .i64 1, .int .i64 f, .int .i64 t, .int .i64 i, .int .i64 j, .int .i64 m, .int .u8 by_, .slice ba bn bc] 41) = w2 at *
  obtain ⟨b4, hb4⟩ : ∃ z, Keep (z = w1.heap.size) := ⟨_, ⟨rfl⟩⟩
  rw [← hb4.out] at Q4 ⊢
  have HB2 : Keep (Below w.heap.size w w2) := ⟨b1.trans (b2.mono b1.size)⟩
  have R2 := Keep.mk (HR.out.below HB2.out)
  have HS2 : Keep (b3 < w2.heap.size ∧ b4 < w2.heap.size) := ⟨Q3.out.lt, Q4.out.lt⟩
  have HF3 : Keep (∀ k, PrS p mb x g Ps Ks k → k ≠ b3 ∧ k ≠ b4) := ⟨fun k hk => by have := HR.out.lt k hk; have := hb3.out; have := hb4.out; have := b1.size; omega⟩
  clear b1 b2
  simp only [Act.put, List.setIfInBounds_toArray, List.set_cons_zero, List.set_cons_succ]
  refine WL.val (by kernel_rfl) (.bool false) (by go_simp) ?_
  simp only [Act.put, List.setIfInBounds_toArray, List.set_cons_zero, List.set_cons_succ]
  refine WL.nil ?_
  refine hK1 _ _ ?_
  refine wp_seq_k fun K2 hK2 => ?_
  refine wp_seq_k fun K3 hK3 => ?_
  refine wp_region_list (WL.out ?_)
  refine WL.val (by kernel_rfl) (.pointer (some ⟨b4, 0, none⟩)) (by go_simp) ?_
  simp only [Act.put, List.setIfInBounds_toArray, List.set_cons_zero, List.set_cons_succ]
  have c4_0 := Q4.out.c 0 (rfl : _ = some (Value.int .i64 1))
  refine WL.val (by kernel_rfl) (.int .i64 1) (by go_simp) ?_
  clear c4_0
  simp only [Act.put, List.setIfInBounds_toArray, List.set_cons_zero, List.set_cons_succ]
  refine WL.nil ?_
  refine hK3 _ _ ?_
  refine wp_block ?_
  refine wp_seq_k fun K4 hK4 => ?_
  refine wp_region_list (WL.out ?_)
  refine WL.val (by kernel_rfl) (.bool true) (by go_simp) ?_
  simp only [Act.put, List.setIfInBounds_toArray, List.set_cons_zero, List.set_cons_succ]
  refine WL.val (by kernel_rfl) (.bool true) (by go_simp) ?_
  simp only [Act.put, List.setIfInBounds_toArray, List.set_cons_zero, List.set_cons_succ]
  refine WL.nil ?_
  refine hK4 _ _ ?_
  refine wp_cond_true rfl ?_
  refine wp_seq_k fun K5 hK5 => ?_
  refine wp_region_list (WL.out ?_)
  refine WL.row (by kernel_rfl) 34 (.tmp 3) rfl b3 rfl 34 #[.pointer (some ⟨p, 0, none⟩), .pointer (some ⟨x, 0, none⟩)] _ Q3.out Tryd.underlying34 rfl (by kernel_rfl) ?_
  simp only [Act.put, List.setIfInBounds_toArray, List.set_cons_zero, List.set_cons_succ]
  refine WL.row (by kernel_rfl) 41 (.tmp 4) rfl b4 rfl 41 #[.int .i64 1, .int .i64 f, .int .i64 t, .int .i64 i, .int .i64 j, .int .i64 m, .int .u8 by_, .slice ba bn bc] _ Q4.out Tryd.underlying41 rfl (by kernel_rfl) ?_
  simp only [Act.put, List.setIfInBounds_toArray, List.set_cons_zero, List.set_cons_succ]
  refine WL.callF (by kernel_rfl) 23 _ _ rfl Tryd.in23 #[.agg #[.pointer (some ⟨p, 0, none⟩), .pointer (some ⟨x, 0, none⟩)], .agg #[.int .i64 1, .int .i64 f, .int .i64 t, .int .i64 i, .int .i64 j, .int .i64 m, .int .u8 by_, .slice ba bn bc]] (by simp [Act.eval]) ?_
  refine (send_any w2 p mb x g N Ps Ks 1 f t i j m by_ ba bn bc b R2 HEq ⟨HB.out.below HB2.out⟩ Hbn HBy ⟨fun he k hk => ⟨(HD.out he k hk).1, Nat.lt_of_lt_of_le (HD.out he k hk).2 HB2.out.size⟩⟩ HL).mono ?_
  rintro e w3 ⟨rfl, P1, K1, hn, hE⟩
  refine ⟨_, rfl, ?_⟩
  have N3 := Keep.mk hn
  have HE3 := Keep.mk hE
  clear hn hE
  simp only [Act.put, List.setIfInBounds_toArray, List.set_cons_zero, List.set_cons_succ]
  refine WL.val (by kernel_rfl) (.bool true) (by go_simp) ?_
  simp only [Act.put, List.setIfInBounds_toArray, List.set_cons_zero, List.set_cons_succ]
  refine WL.nil ?_
  refine hK5 _ _ ?_
  refine wp_ret ?_
  go_ret
  exact ⟨rfl, P1, K1, PrN.of_below HB2.out N3.out, HE3.out⟩

theorem Tryd.in12 (w : World) (vs : Array Value) : (callFunc 12 vs).run Tryd.prog w = .ok (.enter 12 vs) w := by kernel_rfl
def RwR (w : World) (la : Option Addr) (R : List (Value × List Int)) : Prop := 0 < R.length → ∃ g, la = some ⟨g, 0, none⟩ ∧ ∀ (t : Nat) (p : Value × List Int), R[t]? = some p → w.cell? ⟨g, t, none⟩ = some p.1 ∧ RowAt w p.1 p.2 ∧ Byts p.2
set_option maxRecDepth 8000 in
theorem holds_any (q n ca cb : Nat) (la lb : Option Addr) (O Ws : List (Value × List Int)) (w : World) (hO : Keep (O.length = n)) (hW : Keep (Ws.length = n)) (HN : Keep (n ≤ 4398046511104)) (HS : Keep (∀ wx, Below w.heap.size w wx → wx.cell? ⟨q, 0, none⟩ = some (.slice la n ca) ∧ wx.cell? ⟨q, 1, none⟩ = some (.slice lb n cb) ∧ RwR wx la O ∧ RwR wx lb Ws)) : Calls Tryd.prog 12 #[.pointer (some ⟨q, 0, none⟩)] w fun e w' => ∃ b : Bool, e = .returned (.bool b) ∧ ((∀ (i : Nat) (x y : Value × List Int), O[i]? = some x → Ws[i]? = some y → x.2 = y.2) → b = true) ∧ Below w.heap.size w w' := by
  go_enter Tryd.func12, Tryd.ntmps12
  refine wp_seq_k fun K1 hK1 => ?_
  refine wp_region_list (WL.out ?_)
  refine WL.val (by kernel_rfl) (.bool false) (by go_simp) ?_
  simp only [Act.put, List.setIfInBounds_toArray, List.set_cons_zero, List.set_cons_succ]
  refine WL.nil ?_
  refine hK1 _ _ ?_
  refine wp_seq_k fun K2 hK2 => ?_
  refine wp_seq_k fun K3 hK3 => ?_
  refine wp_region_list (WL.out ?_)
  refine WL.val (by kernel_rfl) (.int .i64 0) (by go_simp) ?_
  simp only [Act.put, List.setIfInBounds_toArray, List.set_cons_zero, List.set_cons_succ]
  refine WL.nil ?_
  refine hK3 _ _ ?_
  refine wp_block ?_
  refine wp_loop (fun ac wr => ∃ (t : Nat) (f : Nat → Value), ac = { tmps := #[.pointer (some ⟨q, 0, none⟩), undef, f 2, .int .i64 (t : Int), f 4, f 5, f 6, f 7, f 8, f 9, f 10, f 11, f 12, f 13, f 14, f 15, f 16, f 17, f 18, f 19, f 20, f 21, f 22, f 23, f 24, f 25, f 26, f 27, f 28, f 29, f 30], defers := [] } ∧ Below w.heap.size w wr ∧ ∀ (i : Nat) (x y : Value × List Int), i < t → O[i]? = some x → Ws[i]? = some y → x.2 = y.2) (fun a _ => n - (intOf (a.tmps.getD 3 undef)).toNat) ⟨0, fun zz => [.pointer (some ⟨q, 0, none⟩), undef, .bool false, .int .i64 0, undef, undef, undef, undef, undef, undef, undef, undef, undef, undef, undef, undef, undef, undef, undef, undef, undef, undef, undef, undef, undef, undef, undef, undef, undef, undef, undef].getD zz undef, rfl, Below.refl _ _, fun i x y h => by omega⟩ ?_
  rintro ac wr ⟨t, f, rfl, hrel⟩
  obtain ⟨hb, hall⟩ := hrel
  have BB := Keep.mk hb
  have HAll := Keep.mk hall
  clear hb hall
  obtain ⟨c0, c1, ho, hw_⟩ := HS.out wr BB.out
  have Ho := Keep.mk ho
  have Hw := Keep.mk hw_
  clear ho hw_
  by_cases htn : t < n
  · have htn' : (t : Int) < (n : Int) := by omega
    have hw9 : IntKind.i64.wrap ((t : Int) + 1) = ((t + 1 : Nat) : Int) := by rw [IntKind.wrap_i64]; have := HN.out; omega
    obtain ⟨go, hla, hgo⟩ := Ho.out (by have := hO.out; omega)
    obtain ⟨gw, hlb, hgw⟩ := Hw.out (by have := hW.out; omega)
    subst hla hlb
    obtain ⟨p, Hp⟩ : ∃ z, Keep (O[t]? = some z) := ⟨O[t]'(by rw [hO.out]; exact htn), ⟨List.getElem?_eq_getElem _⟩⟩
    obtain ⟨r, Hr⟩ : ∃ z, Keep (Ws[t]? = some z) := ⟨Ws[t]'(by rw [hW.out]; exact htn), ⟨List.getElem?_eq_getElem _⟩⟩
    have Hgo := Keep.mk (hgo t p Hp.out)
    have Hgw := Keep.mk (hgw t r Hr.out)
    clear hgo hgw
    refine wp_seq_k fun K4 hK4 => ?_
    refine wp_seq_k fun K5 hK5 => ?_
    refine wp_region_list (WL.out ?_)
    refine WL.val (by kernel_rfl) (.int .i64 (t : Int)) (by go_simp) ?_
    simp only [Act.put, List.setIfInBounds_toArray, List.set_cons_zero, List.set_cons_succ]
    refine WL.val (by kernel_rfl) (.pointer (some ⟨q, 0, none⟩)) (by go_simp) ?_
    simp only [Act.put, List.setIfInBounds_toArray, List.set_cons_zero, List.set_cons_succ]
    refine WL.val (by kernel_rfl) (.pointer (some ⟨q, 0, none⟩)) (by go_simp) ?_
    simp only [Act.put, List.setIfInBounds_toArray, List.set_cons_zero, List.set_cons_succ]
    refine WL.val (by kernel_rfl) (.pointer (some ⟨q, 0, none⟩)) (by go_simp) ?_
    simp only [Act.put, List.setIfInBounds_toArray, List.set_cons_zero, List.set_cons_succ]
    refine WL.val (by kernel_rfl) (.slice (some ⟨go, 0, none⟩) n ca) (by go_simp) ?_
    simp only [Act.put, List.setIfInBounds_toArray, List.set_cons_zero, List.set_cons_succ]
    refine WL.val (by kernel_rfl) (.int .i64 (n : Int)) (by go_simp) ?_
    simp only [Act.put, List.setIfInBounds_toArray, List.set_cons_zero, List.set_cons_succ]
    refine WL.val (by kernel_rfl) (.bool true) (by go_simp) ?_
    simp only [Act.put, List.setIfInBounds_toArray, List.set_cons_zero, List.set_cons_succ]
    refine WL.nil ?_
    refine hK5 _ _ ?_
    refine wp_cond_true rfl ?_
    refine wp_skip ?_
    refine hK4 _ _ ?_
    refine wp_seq_k fun K6 hK6 => ?_
    refine wp_block ?_
    refine wp_seq_k fun K7 hK7 => ?_
    have Bd : Keep (Below w.heap.size w wr.drew) := ⟨BB.out.drew⟩
    have hSd : Keep ((fun wx => wx.cell? ⟨q, 0, none⟩ = some (.slice (some ⟨go, 0, none⟩) n ca) ∧ wx.cell? ⟨q, 1, none⟩ = some (.slice (some ⟨gw, 0, none⟩) n cb) ∧ wx.cell? ⟨go, t, none⟩ = some p.1 ∧ wx.cell? ⟨gw, t, none⟩ = some r.1) wr.drew ∧ RowAt wr.drew p.1 p.2 ∧ RowAt wr.drew r.1 r.2) := ⟨⟨c0, c1, Hgo.out.1, Hgw.out.1⟩, Hgo.out.2.1.below (Below.refl _ _).drew, Hgw.out.2.1.below (Below.refl _ _).drew⟩
    clear c0 c1
    refine wp_region_held_drew (S := fun wx => wx.cell? ⟨q, 0, none⟩ = some (.slice (some ⟨go, 0, none⟩) n ca) ∧ wx.cell? ⟨q, 1, none⟩ = some (.slice (some ⟨gw, 0, none⟩) n cb) ∧ wx.cell? ⟨go, t, none⟩ = some p.1 ∧ wx.cell? ⟨gw, t, none⟩ = some r.1) (by kernel_rfl) (hSd.out.1) (fun hHeld => ?_)
    refine wpAnyH_take (i := 0) (oi := ⟨some 14, Op.move (Operand.tmp 0), 35, _, _, none⟩) (v := .pointer (some ⟨q, 0, none⟩)) rfl (by kernel_rfl) (by kernel_rfl) (by kernel_rfl) (fun _ _ _ h => h) (Or.inl ⟨by rfl, fun w hS => by obtain ⟨hS1, hS2, hS3, hS4⟩ := hS; go_simp⟩) hHeld ?_
    simp only [Act.put, List.setIfInBounds_toArray, List.set_cons_zero, List.set_cons_succ]
    refine wpAnyH_take (i := 4) (oi := ⟨some 18, Op.move (Operand.tmp 3), 3, _, _, none⟩) (v := .int .i64 (t : Int)) rfl (by kernel_rfl) (by kernel_rfl) (by kernel_rfl) (fun _ _ _ h => h) (Or.inl ⟨by rfl, fun w hS => by obtain ⟨hS1, hS2, hS3, hS4⟩ := hS; go_simp⟩) hHeld ?_
    simp only [Act.put, List.setIfInBounds_toArray, List.set_cons_zero, List.set_cons_succ]
    refine wpAnyH_take (i := 7) (oi := ⟨some 21, Op.move (Operand.tmp 0), 35, _, _, none⟩) (v := .pointer (some ⟨q, 0, none⟩)) rfl (by kernel_rfl) (by kernel_rfl) (by kernel_rfl) (fun _ _ _ h => h) (Or.inl ⟨by rfl, fun w hS => by obtain ⟨hS1, hS2, hS3, hS4⟩ := hS; go_simp⟩) hHeld ?_
    simp only [Act.put, List.setIfInBounds_toArray, List.set_cons_zero, List.set_cons_succ]
    refine wpAnyH_take (i := 11) (oi := ⟨some 25, Op.move (Operand.tmp 3), 3, _, _, none⟩) (v := .int .i64 (t : Int)) rfl (by kernel_rfl) (by kernel_rfl) (by kernel_rfl) (fun _ _ _ h => h) (Or.inl ⟨by rfl, fun w hS => by obtain ⟨hS1, hS2, hS3, hS4⟩ := hS; go_simp⟩) hHeld ?_
    simp only [Act.put, List.setIfInBounds_toArray, List.set_cons_zero, List.set_cons_succ]
    refine wpAnyH_take (i := 1) (oi := ⟨some 15, Op.nilCheck (Operand.tmp 14), 0, _, _, none⟩) (v := .pointer (some ⟨q, 0, none⟩)) rfl (by kernel_rfl) (by kernel_rfl) (by kernel_rfl) (fun _ _ _ h => h) (Or.inl ⟨by rfl, fun w hS => by obtain ⟨hS1, hS2, hS3, hS4⟩ := hS; go_simp⟩) hHeld ?_
    simp only [Act.put, List.setIfInBounds_toArray, List.set_cons_zero, List.set_cons_succ]
    refine wpAnyH_take (i := 8) (oi := ⟨some 22, Op.nilCheck (Operand.tmp 21), 0, _, _, none⟩) (v := .pointer (some ⟨q, 0, none⟩)) rfl (by kernel_rfl) (by kernel_rfl) (by kernel_rfl) (fun _ _ _ h => h) (Or.inl ⟨by rfl, fun w hS => by obtain ⟨hS1, hS2, hS3, hS4⟩ := hS; go_simp⟩) hHeld ?_
    simp only [Act.put, List.setIfInBounds_toArray, List.set_cons_zero, List.set_cons_succ]
    refine wpAnyH_take (i := 2) (oi := ⟨some 16, Op.fieldAddr 38 (Operand.tmp 15) 0, 0, _, _, none⟩) (v := .pointer (some ⟨q, 0, none⟩)) rfl (by kernel_rfl) (by kernel_rfl) (by kernel_rfl) (fun _ _ _ h => h) (Or.inl ⟨by rfl, fun w hS => by obtain ⟨hS1, hS2, hS3, hS4⟩ := hS; go_simp⟩) hHeld ?_
    simp only [Act.put, List.setIfInBounds_toArray, List.set_cons_zero, List.set_cons_succ]
    refine wpAnyH_take (i := 9) (oi := ⟨some 23, Op.fieldAddr 38 (Operand.tmp 22) 1, 0, _, _, none⟩) (v := .pointer (some ⟨q, 1, none⟩)) rfl (by kernel_rfl) (by kernel_rfl) (by kernel_rfl) (fun _ _ _ h => h) (Or.inl ⟨by rfl, fun w hS => by obtain ⟨hS1, hS2, hS3, hS4⟩ := hS; go_simp⟩) hHeld ?_
    simp only [Act.put, List.setIfInBounds_toArray, List.set_cons_zero, List.set_cons_succ]
    refine wpAnyH_take (i := 3) (oi := ⟨some 17, Op.load 36 (Operand.tmp 16), 36, _, _, none⟩) (v := .slice (some ⟨go, 0, none⟩) n ca) rfl (by kernel_rfl) (by kernel_rfl) (by kernel_rfl) (fun _ _ _ h => h) (Or.inl ⟨by rfl, fun w hS => by obtain ⟨hS1, hS2, hS3, hS4⟩ := hS; go_simp⟩) hHeld ?_
    simp only [Act.put, List.setIfInBounds_toArray, List.set_cons_zero, List.set_cons_succ]
    refine wpAnyH_take (i := 10) (oi := ⟨some 24, Op.load 36 (Operand.tmp 23), 36, _, _, none⟩) (v := .slice (some ⟨gw, 0, none⟩) n cb) rfl (by kernel_rfl) (by kernel_rfl) (by kernel_rfl) (fun _ _ _ h => h) (Or.inl ⟨by rfl, fun w hS => by obtain ⟨hS1, hS2, hS3, hS4⟩ := hS; go_simp⟩) hHeld ?_
    simp only [Act.put, List.setIfInBounds_toArray, List.set_cons_zero, List.set_cons_succ]
    refine wpAnyH_take (i := 5) (oi := ⟨some 19, Op.indexAddr 36 (Operand.tmp 17) (Operand.tmp 18), 0, _, _, none⟩) (v := .pointer (some ⟨go, t, none⟩)) rfl (by kernel_rfl) (by kernel_rfl) (by kernel_rfl) (fun _ _ _ h => h) (Or.inl ⟨by rfl, fun w hS => by obtain ⟨hS1, hS2, hS3, hS4⟩ := hS; go_simp⟩) hHeld ?_
    simp only [Act.put, List.setIfInBounds_toArray, List.set_cons_zero, List.set_cons_succ]
    refine wpAnyH_take (i := 12) (oi := ⟨some 26, Op.indexAddr 36 (Operand.tmp 24) (Operand.tmp 25), 0, _, _, none⟩) (v := .pointer (some ⟨gw, t, none⟩)) rfl (by kernel_rfl) (by kernel_rfl) (by kernel_rfl) (fun _ _ _ h => h) (Or.inl ⟨by rfl, fun w hS => by obtain ⟨hS1, hS2, hS3, hS4⟩ := hS; go_simp⟩) hHeld ?_
    simp only [Act.put, List.setIfInBounds_toArray, List.set_cons_zero, List.set_cons_succ]
    refine wpAnyH_take (i := 6) (oi := ⟨some 20, Op.load 39 (Operand.tmp 19), 39, _, _, none⟩) (v := p.1) rfl (by kernel_rfl) (by kernel_rfl) (by kernel_rfl) (fun _ _ _ h => h) (Or.inl ⟨by rfl, fun w hS => by obtain ⟨hS1, hS2, hS3, hS4⟩ := hS; go_simp⟩) hHeld ?_
    simp only [Act.put, List.setIfInBounds_toArray, List.set_cons_zero, List.set_cons_succ]
    refine wpAnyH_take (i := 13) (oi := ⟨some 27, Op.load 39 (Operand.tmp 26), 39, _, _, none⟩) (v := r.1) rfl (by kernel_rfl) (by kernel_rfl) (by kernel_rfl) (fun _ _ _ h => h) (Or.inl ⟨by rfl, fun w hS => by obtain ⟨hS1, hS2, hS3, hS4⟩ := hS; go_simp⟩) hHeld ?_
    simp only [Act.put, List.setIfInBounds_toArray, List.set_cons_zero, List.set_cons_succ]
    refine wpAnyH_ready (rs := [14]) (by kernel_rfl) (by simp) ?_
    refine AllReadyH.cons (o := ⟨some 28, Op.call { callee := Callee.value (Operand.func 17), args := #[Operand.tmp 20, Operand.tmp 27], argTypes := #[39, 39] }, 4, _, _, none⟩) rfl (fun K hK => ?_) AllReadyH.nil
    rw [if_pos (by rfl)]
    refine wp_callF 17 _ _ rfl Tryd.in17 #[p.1, r.1] (by simp [Act.eval]) (fun vz wz => vz = .bool (decide (p.2 = r.2)) ∧ wr.drew = wz) ((same_any p.1 r.1 p.2 r.2 _ hSd.out.2.1 hSd.out.2.2 Hgo.out.2.2 Hgw.out.2.2).mono fun e w' ⟨h1, h2⟩ => ⟨_, h1, rfl, h2.symm⟩) ?_
    rintro _ wg ⟨rfl, hz⟩
    subst hz
    obtain ⟨sb, hsb⟩ : ∃ z, Keep (decide (p.2 = r.2) = z) := ⟨_, ⟨rfl⟩⟩
    rw [hsb.out]
    refine hK _ _ hSd.out.1 fun hH1 => ?_
    clear hK
    simp only [Act.put, List.setIfInBounds_toArray, List.set_cons_zero, List.set_cons_succ]
    refine wpAnyH_take (i := 15) (oi := ⟨some 4, Op.assign (Operand.tmp 28), 4, _, _, none⟩) (v := .bool sb) rfl (by kernel_rfl) (by kernel_rfl) (by kernel_rfl) (fun _ _ _ h => h) (Or.inl ⟨by rfl, fun w hS => by obtain ⟨hS1, hS2, hS3, hS4⟩ := hS; go_simp⟩) hH1 ?_
    simp only [Act.put, List.setIfInBounds_toArray, List.set_cons_zero, List.set_cons_succ]
    refine wpAnyH_done (by kernel_rfl) ?_ _
    refine hK7 _ _ ?_
    refine wp_seq_k fun K8 hK8 => ?_
    cases sb
    · skip
      refine wp_region_list (WL.out ?_)
      refine WL.val (by kernel_rfl) (.bool false) (by go_simp) ?_
      simp only [Act.put, List.setIfInBounds_toArray, List.set_cons_zero, List.set_cons_succ]
      refine WL.val (by kernel_rfl) (.bool true) (by go_simp) ?_
      simp only [Act.put, List.setIfInBounds_toArray, List.set_cons_zero, List.set_cons_succ]
      refine WL.nil ?_
      refine hK8 _ _ ?_
      refine wp_cond_true rfl ?_
      refine wp_seq_k fun K9 hK9 => ?_
      refine wp_region_list (WL.out ?_)
      refine WL.val (by kernel_rfl) (.bool false) (by go_simp) ?_
      simp only [Act.put, List.setIfInBounds_toArray, List.set_cons_zero, List.set_cons_succ]
      refine WL.nil ?_
      refine hK9 _ _ ?_
      refine wp_ret ?_
      try simp only [Exit.inBlock, Exit.then]
      go_ret
      refine ⟨false, rfl, (fun h => ?_), Bd.out⟩
      exact absurd (of_decide_eq_false hsb.out) (fun hne => hne (h t p r Hp.out Hr.out))
    · skip
      refine wp_region_list (WL.out ?_)
      refine WL.val (by kernel_rfl) (.bool true) (by go_simp) ?_
      simp only [Act.put, List.setIfInBounds_toArray, List.set_cons_zero, List.set_cons_succ]
      refine WL.val (by kernel_rfl) (.bool false) (by go_simp) ?_
      simp only [Act.put, List.setIfInBounds_toArray, List.set_cons_zero, List.set_cons_succ]
      refine WL.nil ?_
      refine hK8 _ _ ?_
      refine wp_cond_false rfl ?_
      refine wp_skip ?_
      refine hK6 _ _ ?_
      refine wp_region_list (WL.out ?_)
      refine WL.val (by kernel_rfl) (.int .i64 (t : Int)) (by go_simp) ?_
      simp only [Act.put, List.setIfInBounds_toArray, List.set_cons_zero, List.set_cons_succ]
      refine WL.val (by kernel_rfl) (.int .i64 ((t + 1 : Nat) : Int)) (by go_simp) ?_
      simp only [Act.put, List.setIfInBounds_toArray, List.set_cons_zero, List.set_cons_succ]
      refine WL.val (by kernel_rfl) (.int .i64 ((t + 1 : Nat) : Int)) (by go_simp) ?_
      simp only [Act.put, List.setIfInBounds_toArray, List.set_cons_zero, List.set_cons_succ]
      refine WL.nil ?_
      refine ⟨⟨t + 1, fun zz => [.pointer (some ⟨q, 0, none⟩), undef, f 2, .int .i64 ((t + 1 : Nat) : Int), .bool true, .int .i64 (t : Int), .pointer (some ⟨q, 0, none⟩), .pointer (some ⟨q, 0, none⟩), .pointer (some ⟨q, 0, none⟩), .slice (some ⟨go, 0, none⟩) n ca, .int .i64 (n : Int), .bool true, .int .i64 (t : Int), .int .i64 ((t + 1 : Nat) : Int), .pointer (some ⟨q, 0, none⟩), .pointer (some ⟨q, 0, none⟩), .pointer (some ⟨q, 0, none⟩), .slice (some ⟨go, 0, none⟩) n ca, .int .i64 (t : Int), .pointer (some ⟨go, t, none⟩), p.1, .pointer (some ⟨q, 0, none⟩), .pointer (some ⟨q, 0, none⟩), .pointer (some ⟨q, 1, none⟩), .slice (some ⟨gw, 0, none⟩) n cb, .int .i64 (t : Int), .pointer (some ⟨gw, t, none⟩), r.1, .bool true, .bool true, .bool false].getD zz undef, rfl, Bd.out, fun i x y hi hx hy => ?_⟩, ?_⟩
      · by_cases e : i = t
        · subst e; rw [Hp.out] at hx; rw [Hr.out] at hy; injection hx with hx; injection hy with hy; subst hx hy; exact of_decide_eq_true hsb.out
        · exact HAll.out i x y (by omega) hx hy
      · simp only [intOf]; show n - (((t + 1 : Nat) : Int)).toNat < n - ((t : Int)).toNat; omega
  · have htn' : ¬ (t : Int) < (n : Int) := by omega
    refine wp_seq_k fun K10 hK10 => ?_
    refine wp_seq_k fun K11 hK11 => ?_
    refine wp_region_list (WL.out ?_)
    refine WL.val (by kernel_rfl) (.int .i64 (t : Int)) (by go_simp) ?_
    simp only [Act.put, List.setIfInBounds_toArray, List.set_cons_zero, List.set_cons_succ]
    refine WL.val (by kernel_rfl) (.pointer (some ⟨q, 0, none⟩)) (by go_simp) ?_
    simp only [Act.put, List.setIfInBounds_toArray, List.set_cons_zero, List.set_cons_succ]
    refine WL.val (by kernel_rfl) (.pointer (some ⟨q, 0, none⟩)) (by go_simp) ?_
    simp only [Act.put, List.setIfInBounds_toArray, List.set_cons_zero, List.set_cons_succ]
    refine WL.val (by kernel_rfl) (.pointer (some ⟨q, 0, none⟩)) (by go_simp) ?_
    simp only [Act.put, List.setIfInBounds_toArray, List.set_cons_zero, List.set_cons_succ]
    refine WL.val (by kernel_rfl) (.slice la n ca) (by go_simp) ?_
    simp only [Act.put, List.setIfInBounds_toArray, List.set_cons_zero, List.set_cons_succ]
    refine WL.val (by kernel_rfl) (.int .i64 (n : Int)) (by go_simp) ?_
    simp only [Act.put, List.setIfInBounds_toArray, List.set_cons_zero, List.set_cons_succ]
    refine WL.val (by kernel_rfl) (.bool false) (by go_simp) ?_
    simp only [Act.put, List.setIfInBounds_toArray, List.set_cons_zero, List.set_cons_succ]
    refine WL.nil ?_
    refine hK11 _ _ ?_
    refine wp_cond_false rfl ?_
    refine wp_exit ?_
    refine hK2 _ _ ?_
    refine wp_seq_k fun K12 hK12 => ?_
    refine wp_region_list (WL.out ?_)
    refine WL.val (by kernel_rfl) (.bool true) (by go_simp) ?_
    simp only [Act.put, List.setIfInBounds_toArray, List.set_cons_zero, List.set_cons_succ]
    refine WL.nil ?_
    refine hK12 _ _ ?_
    refine wp_ret ?_
    go_ret
    exact ⟨true, rfl, fun _ => rfl, BB.out⟩

set_option maxRecDepth 8000 in
theorem full_none (la : Option Addr) (cap i : Nat) (w : World) : Calls Tryd.prog 35 #[.slice la 0 cap, .int .i64 (i : Int)] w fun e w' => e = .returned (.bool true) ∧ w' = w := by
  go_enter Tryd.func35, Tryd.ntmps35
  refine wp_seq_k fun K1 hK1 => ?_
  refine wp_region_list (WL.out ?_)
  refine WL.val (by kernel_rfl) (.bool false) (by go_simp) ?_
  simp only [Act.put, List.setIfInBounds_toArray, List.set_cons_zero, List.set_cons_succ]
  refine WL.nil ?_
  refine hK1 _ _ ?_
  refine wp_seq_k fun K2 hK2 => ?_
  refine wp_seq_k fun K3 hK3 => ?_
  refine wp_region_list (WL.out ?_)
  refine WL.val (by kernel_rfl) (.int .i64 0) (by go_simp) ?_
  simp only [Act.put, List.setIfInBounds_toArray, List.set_cons_zero, List.set_cons_succ]
  refine WL.nil ?_
  refine hK3 _ _ ?_
  refine wp_block ?_
  refine wp_loop (fun ac wr => ∃ (t : Nat) (f : Nat → Value), ac = { tmps := #[.slice la 0 cap, .int .i64 (i : Int), undef, undef, f 4, .int .i64 0, f 6, f 7, f 8, f 9, f 10, f 11, f 12, f 13, f 14, f 15, f 16, f 17, f 18, f 19, f 20], defers := [] } ∧ w = wr) (fun a _ => (0 : Nat)) ⟨0, fun zz => [.slice la 0 cap, .int .i64 (i : Int), undef, undef, .bool false, .int .i64 0, undef, undef, undef, undef, undef, undef, undef, undef, undef, undef, undef, undef, undef, undef, undef].getD zz undef, rfl, rfl⟩ ?_
  rintro ac wr ⟨t, f, rfl, hw⟩
  subst hw
  have hz_ : ¬ (0 : Int) < 0 := by omega
  refine wp_seq_k fun K4 hK4 => ?_
  refine wp_seq_k fun K5 hK5 => ?_
  refine wp_region_list (WL.out ?_)
  refine WL.val (by kernel_rfl) (.int .i64 0) (by go_simp) ?_
  simp only [Act.put, List.setIfInBounds_toArray, List.set_cons_zero, List.set_cons_succ]
  refine WL.val (by kernel_rfl) (.slice la 0 cap) (by go_simp) ?_
  simp only [Act.put, List.setIfInBounds_toArray, List.set_cons_zero, List.set_cons_succ]
  refine WL.val (by kernel_rfl) (.int .i64 0) (by go_simp) ?_
  simp only [Act.put, List.setIfInBounds_toArray, List.set_cons_zero, List.set_cons_succ]
  refine WL.val (by kernel_rfl) (.bool false) (by go_simp) ?_
  simp only [Act.put, List.setIfInBounds_toArray, List.set_cons_zero, List.set_cons_succ]
  refine WL.nil ?_
  refine hK5 _ _ ?_
  refine wp_cond_false rfl ?_
  refine wp_exit ?_
  refine hK2 _ _ ?_
  refine wp_seq_k fun K6 hK6 => ?_
  refine wp_region_list (WL.out ?_)
  refine WL.val (by kernel_rfl) (.bool true) (by go_simp) ?_
  simp only [Act.put, List.setIfInBounds_toArray, List.set_cons_zero, List.set_cons_succ]
  refine WL.nil ?_
  refine hK6 _ _ ?_
  refine wp_ret ?_
  go_ret
  exact ⟨rfl, rfl⟩
theorem full_any (v : Value) (l : List Int) (i : Nat) (w : World) (h : RowAt w v l) (hl : ∀ c ∈ l, c = mkB i) (hn : l.length ≤ 4398046511104) (hi : i ≤ 4398046511104) : Calls Tryd.prog 35 #[v, .int .i64 (i : Int)] w fun e w' => e = .returned (.bool true) ∧ w' = w := by
  rcases h with ⟨rfl, rfl⟩ | ⟨a, c, rfl, rfl⟩ | ⟨b, off, cap, rfl, h1, h2⟩
  · exact full_none none 0 i w
  · exact full_none _ c i w
  · refine full_some b off _ cap i (mkB i) w ⟨rfl⟩ ⟨hn⟩ ⟨hi⟩ ⟨fun t ht => ?_⟩
    rw [h2 t ht, List.getD_eq_getElem?_getD, List.getElem?_eq_getElem ht]
    simp only [Option.getD_some]
    rw [hl _ (List.getElem_mem ht)]

end Go.Proofs.YteecdcocgflklaaDoor
namespace Go.Proofs.YteecdcocgflklaaDoor
open Go.RowKit

theorem row_head {w : World} {v g1 : Value} {n k : Nat} {m : Int} {va : Option Addr} {vc : Nat} (hv : v = .slice va n vc) (h0 : ∀ a, va = some a → a.off = 0 ∧ a.spot = none) (hnv : va = none → n = 0 ∧ vc = 0) (hle : n ≤ vc) (h : OwnT w g1 (List.replicate (n + k) m)) (he : g1.ownBlock = v.ownBlock) : RowAt w v (List.replicate n m) := by
  subst hv
  cases va with
  | none => obtain ⟨rfl, rfl⟩ := hnv rfl; exact .inl ⟨rfl, rfl⟩
  | some a =>
    obtain ⟨h1, h2⟩ := h0 a rfl
    obtain ⟨b, o, sp⟩ := a
    simp only at h1 h2
    subst h1 h2
    refine .inr (.inr ⟨b, 0, vc, by simp, by simpa using hle, fun i hi => ?_⟩)
    simp only [List.length_replicate] at hi
    have h5 := h
    rcases h5 with ⟨e, e2⟩ | ⟨g', cap', cur, fz, e, hb, _⟩
    · have := congrArg List.length e2; simp at this; omega
    · rw [e] at he h
      simp [Value.ownBlock] at he
      subst he
      have := (h.cells i (by simp; omega)).1
      rw [Nat.zero_add, this]
      simp [List.getD_eq_getElem?_getD, hi, show i < n + k by omega]

structure G2 (wL : World) (vb g : Value) (n t : Nat) (m : Int) (w : World) : Prop where
  own : OwnT w g (List.replicate (n + t) m)
  row : RowAt w vb (List.replicate n m)
  typ : ∀ k, vb.ownBlock = some k → Typ w k 5
  pos : g.ownBlock = vb.ownBlock ∨ ∃ k, g.ownBlock = some k ∧ wL.heap.size ≤ k
  gr : Grown wL w fun k => vb.ownBlock = some k
theorem G2.next {wL wx w' : World} {vb g v' : Value} {n t : Nat} {m : Int} {va : Option Addr} {vc : Nat} {l0 : List Int} (h : G2 wL vb g n t m wx) (hv : vb = .slice va n vc) (hO : OwnT wL vb l0) (o : Obj) (hp : AppPostT (wx.alloc o) g (List.replicate (n + t) m ++ [m]) v' w') : G2 wL vb v' n (t + 1) m w' := by
  have hO' := hO
  rw [hv] at hO'
  obtain ⟨p1, p2, p3, _⟩ := hO'.plain
  have hown : OwnT w' v' (List.replicate (n + (t + 1)) m) := by
    have e : List.replicate (n + (t + 1)) m = List.replicate (n + t) m ++ [m] := by rw [← Nat.add_assoc, List.replicate_succ']
    rw [e]; exact hp.1
  have hgL : Grown wL (wx.alloc o) fun k => vb.ownBlock = some k := h.gr.next (Grown.alloc wx o fun _ => False) fun _ _ h => h.elim
  have hrow : RowAt (wx.alloc o) vb (List.replicate n m) := h.row.below (below_new wx o)
  have hgr : Grown wL w' fun k => vb.ownBlock = some k := hgL.next hp.grown fun i hi e => by
    rcases h.pos with h1 | ⟨k, h1, h2⟩
    · rw [← h1]; exact e
    · rw [h1] at e; injection e with e; omega
  have htyp : ∀ k, vb.ownBlock = some k → Typ (wx.alloc o) k 5 := fun k hk => (Grown.alloc wx o fun _ => False).typ (h.typ k hk) fun h => h
  rcases hp.2 with ⟨e1, g1⟩ | ⟨e1, g1⟩
  · by_cases hs : g.ownBlock = vb.ownBlock
    · exact ⟨hown, row_head hv p1 p2 p3 hown (e1.trans hs), fun k hk => hown.typ ((e1.trans hs).trans hk), .inl (e1.trans hs), hgr⟩
    · refine ⟨hown, hrow.grown g1 fun b hb _ e => hs (e.trans hb.symm), fun k hk => g1.typ (htyp k hk) fun e => hs (e.trans hk.symm), ?_, hgr⟩
      rcases h.pos with h1 | h1
      · exact absurd h1 hs
      · rw [e1]; exact .inr h1
  · exact ⟨hown, hrow.below g1, fun k hk => (Grown.below (S := fun _ => False) g1).typ (htyp k hk) fun h => h, .inr ⟨_, e1, hgL.size⟩, hgr⟩

theorem fill_next (l : List Int) (t : Nat) (m : Int) (h : t < l.length) : (List.replicate t m ++ l.drop t).set t m = List.replicate (t + 1) m ++ l.drop (t + 1) := by
  apply List.ext_getElem?
  intro i
  rw [List.getElem?_set]
  simp only [List.getElem?_append, List.length_append, List.length_replicate, List.length_drop, List.getElem?_replicate, List.getElem?_drop]
  by_cases h1 : t = i
  · subst h1
    rw [if_pos rfl, if_pos (by omega), if_pos (by omega), if_pos (by omega)]
  · rw [if_neg h1]
    by_cases h2 : i < t
    · rw [if_pos h2, if_pos h2, if_pos (by omega), if_pos (by omega)]
    · rw [if_neg h2, if_neg (by omega), show t + (i - t) = t + 1 + (i - (t + 1)) by omega]

end Go.Proofs.YteecdcocgflklaaDoor
namespace Go.Proofs.YteecdcocgflklaaDoor
open Go.RowKit
set_option linter.unusedSimpArgs false
set_option linter.unusedVariables false
structure TabV (w : World) (gl m : Nat) (V : Nat → Value) : Prop where
  at_ : ∀ j, j < m → w.cell? ⟨gl, j, none⟩ = some (V j)
  typ : Typ w gl 39
theorem TabV.grown {w w' : World} {gl m : Nat} {V : Nat → Value} {S : Nat → Prop} (h : TabV w gl m V) (hg : Grown w w' S) (hs : ¬ S gl) : TabV w' gl m V :=
  ⟨fun j hj => hg.cell (h.at_ j hj) hs, hg.typ h.typ hs⟩
theorem OwnT.slN {w : World} {v : Value} {l : List Int} (h : OwnT w v l) : ∃ a c, v = .slice a l.length c := by
  obtain ⟨a, n, c, rfl⟩ := h.sl
  exact ⟨a, c, by rw [h.plain.2.2.2]⟩
structure Fil (w0 : World) (gl m : Nat) (V : Nat → Value) (Ls : Nat → List Int) (w : World) : Prop where
  tab : TabV w gl m V
  own : ∀ j, j < m → OwnT w (V j) (Ls j)
  gr : Grown w0 w fun k => ∃ j, j < m ∧ (V j).ownBlock = some k
def Sep (m : Nat) (V : Nat → Value) : Prop := ∀ i j, i < m → j < m → i ≠ j → ∀ k, (V i).ownBlock = some k → (V j).ownBlock ≠ some k
theorem Fil.at {w0 w : World} {gl m : Nat} {V : Nat → Value} {Ls : Nat → List Int} (h : Fil w0 gl m V Ls w) {t : Nat} (ht : t < m) : w.cell? ⟨gl, t, none⟩ = some (V t) := by
  exact h.tab.at_ t ht
theorem Fil.set {w0 w : World} {gl m : Nat} {V : Nat → Value} {Ls : Nat → List Int} (h : Fil w0 gl m V Ls w) (hs : Sep m V) {t : Nat} (ht : t < m) {g n cap : Nat} (hv : V t = .slice (some ⟨g, 0, none⟩) n cap) (u : Nat) (c : Int) : Fil w0 gl m V (updN Ls t ((Ls t).set u c)) (w.setCell ⟨g, u, none⟩ (.int .u8 c)) := by
  have hg : (V t).ownBlock = some g := by rw [hv]; rfl
  have hO := h.own t ht
  have hgg : Grown w (w.setCell ⟨g, u, none⟩ (.int .u8 c)) fun k => k = g := Grown.setCell w g u _ fun _ => rfl
  refine ⟨h.tab.grown hgg fun e => ?_, fun j hj => ?_, h.gr.next hgg fun i _ e => ⟨t, ht, by rw [hg, e]⟩⟩
  · exact absurd ((hO.typ (by rw [hg, e])).one h.tab.typ) (by decide)
  · by_cases e : j = t
    · subst e
      rw [updN_self, hv]
      rw [hv] at hO
      exact hO.set u c
    · rw [updN_ne _ _ e]
      exact (h.own j hj).grown hgg fun k hk e2 => hs t j ht hj (fun e3 => e e3.symm) g hg (by rw [hk, e2])
theorem Fil.more {w0 w w' : World} {gl m : Nat} {V : Nat → Value} {Ls : Nat → List Int} (h : Fil w0 gl m V Ls w) (hb : Below w.heap.size w w') : Fil w0 gl m V Ls w' :=
  ⟨h.tab.grown (Grown.below (S := fun _ => False) hb) id, fun j hj => (h.own j hj).grown (Grown.below (S := fun _ => False) hb) fun _ _ h => h, h.gr.next (Grown.below (S := fun _ => False) hb) fun _ _ h => h.elim⟩
structure Lng (w0 : World) (gl m : Nat) (V : Nat → Value) (n : Nat → Nat) (t : Nat) (lo : Value) (X : Nat → Value) (F : Nat → Prop) (w : World) : Prop where
  tab : TabV w gl m V
  own : ∀ j, t ≤ j → j < m → OwnT w (V j) (List.replicate (n j) (mkB j))
  ra : ∀ j, j < t → RowAt w (V j) (List.replicate (n j) (mkB j))
  rb : ∀ j, j < t → RowAt w (X j) (List.replicate (n j + 40) (mkB j))
  fa : ∀ j, j < t → ∀ k, (V j).ownBlock = some k → F k
  fb : ∀ j, j < t → ∀ k, (X j).ownBlock = some k → F k
  fo : ∀ j, t ≤ j → j < m → ∀ k, (V j).ownBlock = some k → ¬ F k
  ft : ∀ k, F k → Typ w k 5
  lg : OwnV w lo ((List.range t).map X)
  lk : ∀ k, lo.ownBlock = some k → w0.heap.size ≤ k
  gl0 : gl < w0.heap.size
  gr : Grown w0 w fun k => ∃ j, j < m ∧ (V j).ownBlock = some k
theorem Lng.at {w0 w : World} {gl m : Nat} {V : Nat → Value} {n : Nat → Nat} {t : Nat} {lo : Value} {X : Nat → Value} {F : Nat → Prop} (h : Lng w0 gl m V n t lo X F w) {j : Nat} (hj : j < m) : w.cell? ⟨gl, j, none⟩ = some (V j) := by
  exact h.tab.at_ j hj
theorem Fil.lng {w0 w : World} {gl m : Nat} {V : Nat → Value} {n : Nat → Nat} (h : Fil w0 gl m V (fun j => List.replicate (n j) (mkB j)) w) (h0 : gl < w0.heap.size) (hs : w0.heap.size ≤ w.heap.size) : Lng w0 gl m V n 0 (.slice (some ⟨w.heap.size, 0, none⟩) 0 0) (fun _ => .nilIface) (fun _ => False) (w.alloc (.cells #[] 39)) := by
  have h1 := h.more (below_new w (.cells #[] 39))
  refine ⟨h1.tab, fun j _ hj => h1.own j hj, fun j hj => by omega, fun j hj => by omega, fun j hj => by omega, fun j hj => by omega, fun _ _ _ _ _ h => h, fun _ h => h.elim, ?_, fun k hk => by simp [Value.ownBlock] at hk; omega, h0, h1.gr⟩
  exact ⟨rfl, .inr ⟨w.heap.size, 0, #[], rfl, Nat.zero_le _, Blk.new w 39 _, by simp, by unfold maxLen; omega, by simp, by simp⟩⟩
theorem Lng.next {w0 w wi w' : World} {gl m : Nat} {V : Nat → Value} {n : Nat → Nat} {t : Nat} {lo lo' x : Value} {X : Nat → Value} {F : Nat → Prop} (h : Lng w0 gl m V n t lo X F w) (hs : Sep m V) (ht : t < m)
    (hG : G2 w (V t) x (n t) 40 (mkB t) wi) (hO : OwnV w' lo' ((List.range t).map X ++ [x])) (hM : Moved (wi.alloc (.cells #[x] 39)) lo lo') (hg : Grown (wi.alloc (.cells #[x] 39)) w' fun k => lo.ownBlock = some k) :
    Lng w0 gl m V n (t + 1) lo' (updN X t x) (fun k => F k ∨ (V t).ownBlock = some k ∨ x.ownBlock = some k) w' := by
  have hOt := h.own t (Nat.le_refl _) ht
  have lt0 : ∀ k, lo.ownBlock = some k → k < w.heap.size := h.lg.lt
  have tl : ∀ k, Typ w k 5 → lo.ownBlock ≠ some k := fun k hk e => absurd (hk.one (h.lg.typ e)) (by decide)
  -- the two steps, together
  have hg1 : Grown w (wi.alloc (.cells #[x] 39)) fun k => (V t).ownBlock = some k := hG.gr.next (Grown.alloc wi _ fun _ => False) fun _ _ h => h.elim
  have hg2 : Grown w w' fun k => (V t).ownBlock = some k ∨ lo.ownBlock = some k := (hg1.mono fun k _ h => .inl h).next hg fun k _ h => .inr h
  have hX : OwnT w' x (List.replicate (n t + 40) (mkB t)) := by
    have h1 := hG.own.box (.cells #[x] 39)
    refine h1.grown hg fun k hk e => ?_
    rcases hG.pos with h2 | ⟨k2, h2, h3⟩
    · exact tl k (hOt.typ (by rw [← h2]; exact hk)) e
    · have := lt0 k e; rw [h2] at hk; injection hk with hk; omega
  have hVt : RowAt w' (V t) (List.replicate (n t) (mkB t)) := by
    have h1 := hG.row.below (below_new wi (.cells #[x] 39))
    exact h1.grown hg fun k hk _ e => tl k (hOt.typ hk) e
  have hVty : ∀ k, (V t).ownBlock = some k → Typ w' k 5 := fun k hk => hg.typ ((Grown.alloc wi (.cells #[x] 39) fun _ => False).typ (hG.typ k hk) fun h => h) fun e => tl k (hOt.typ hk) e
  have nF : ∀ k, F k → ¬ ((V t).ownBlock = some k ∨ lo.ownBlock = some k) := fun k hk h1 => by
    rcases h1 with h1 | h1
    · exact h.fo t (Nat.le_refl _) ht k h1 hk
    · exact tl k (h.ft k hk) h1
  refine ⟨?_, fun j hj hjm => ?_, fun j hj => ?_, fun j hj => ?_, fun j hj k hk => ?_, fun j hj k hk => ?_, fun j hj hjm k hk hF => ?_, fun k hF => ?_, ?_, fun k hk => ?_, h.gl0, ?_⟩
  · refine h.tab.grown hg2 fun e => ?_
    rcases e with e | e
    · exact absurd ((hOt.typ e).one h.tab.typ) (by decide)
    · have := h.lk gl e; have := h.gl0; omega
  · refine (h.own j (by omega) hjm).grown hg2 fun k hk e => ?_
    rcases e with e | e
    · exact hs t j ht hjm (by omega) k e hk
    · exact tl k ((h.own j (by omega) hjm).typ hk) e
  · by_cases e : j = t
    · subst e; exact hVt
    · exact (h.ra j (by omega)).grown hg2 fun k hk _ => nF k (h.fa j (by omega) k hk)
  · by_cases e : j = t
    · subst e; rw [updN_self]; exact hX.row
    · rw [updN_ne _ _ e]; exact (h.rb j (by omega)).grown hg2 fun k hk _ => nF k (h.fb j (by omega) k hk)
  · by_cases e : j = t
    · subst e; exact .inr (.inl hk)
    · exact .inl (h.fa j (by omega) k hk)
  · by_cases e : j = t
    · subst e; rw [updN_self] at hk; exact .inr (.inr hk)
    · rw [updN_ne _ _ e] at hk; exact .inl (h.fb j (by omega) k hk)
  · rcases hF with hF | hF | hF
    · exact h.fo j (by omega) hjm k hk hF
    · exact hs t j ht hjm (by omega) k hF hk
    · rcases hG.pos with h2 | ⟨k2, h2, h3⟩
      · rw [h2] at hF; exact hs t j ht hjm (by omega) k hF hk
      · rw [h2] at hF; injection hF with hF
        have := (h.own j (by omega) hjm).lt k hk
        omega
  · rcases hF with hF | hF | hF
    · exact hg2.typ (h.ft k hF) (nF k hF)
    · exact hVty k hF
    · exact hX.typ hF
  · rw [range_upd]; exact hO
  · rcases hM with e | ⟨k2, e, h2⟩
    · rw [e] at hk; exact h.lk k hk
    · rw [e] at hk; injection hk with hk
      have h3 := h.gr.size; have h4 := hg1.size
      omega
  · refine h.gr.next hg2 fun k hk e => ?_
    rcases e with e | e
    · exact ⟨t, ht, e⟩
    · have := h.lk k e; omega

end Go.Proofs.YteecdcocgflklaaDoor
