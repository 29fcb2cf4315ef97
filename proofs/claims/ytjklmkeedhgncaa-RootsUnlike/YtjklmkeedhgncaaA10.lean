import Derived.Test.YtjklmkeedhgncaaA09
import Derived.Test.YtjklmkeedhgncaaA08
import Derived.Test.YtjklmkeedhgncaaRows
import Derived.Test.YtjklmkeedhgncaaA04
import Derived.Deep.RegionHeld3
import Derived.ProofKit
import Derived.OpenShut
import Derived.ShutString
import Derived.ChangeOld
import Derived.Below
import Derived.SizedLaws
import Derived.Deep.Slices
import Derived.Deep.Strs
namespace Go.Proofs.Ytjklmkeedhgncaa
open Go.RowKit
set_option linter.unusedSimpArgs false
set_option linter.unusedVariables false
set_option maxRecDepth 8000 in
theorem unlike_a (aa ba : Option Addr) (na kc nb lc : Nat) (A B : List CV) (w : World) (hna : Keep (A.length = na)) (hnb : Keep (B.length = nb)) (hA : CsV w.heap.size w (.slice aa na kc) A) (hB : CsV w.heap.size w (.slice ba nb lc) B) (hNa : na ≤ 549755813888) (hNb : nb ≤ 549755813888) (hSa : Sml A) (hSb : Sml B) (ea eb : Int) (hwa : Keep (wrongI A = ea)) (hwb : Keep (wrongI B = eb)) (hea : ¬ ea = 0) : Calls Try.prog 8 #[.slice aa na kc, .slice ba nb lc] w fun e w' => e = .returned (.bool true) ∧ Below w.heap.size w w' := by
  have HA := Keep.mk hA
  have HB := Keep.mk hB
  have HNa := Keep.mk hNa
  have HNb := Keep.mk hNb
  have HSa := Keep.mk hSa
  have HSb := Keep.mk hSb
  obtain ⟨h1, h1e⟩ : ∃ z : Array Value, Keep (z = bytesA 32 (rootF A)) := ⟨_, ⟨rfl⟩⟩
  obtain ⟨h2, h2e⟩ : ∃ z : Array Value, Keep (z = bytesA 32 (rootF B)) := ⟨_, ⟨rfl⟩⟩
  clear hA hB hNa hNb hSa hSb
  have hea' : (ea == 0) = false := by simpa using hea
  go_enter Try.func8, Try.ntmps8
  refine wp_seq_k fun K1 hK1 => ?_
  refine wp_region_list (WL.out ?_)
  refine WL.val (by kernel_rfl) (.bool false) (by go_simp) ?_
  simp only [Act.put, List.setIfInBounds_toArray, List.set_cons_zero, List.set_cons_succ]
  refine WL.nil ?_
  refine hK1 _ _ ?_
  refine wp_seq_k fun K2 hK2 => ?_
  refine wp_region_list (WL.out ?_)
  refine WL.val (by kernel_rfl) (.slice aa na kc) (by go_simp) ?_
  simp only [Act.put, List.setIfInBounds_toArray, List.set_cons_zero, List.set_cons_succ]
  have hr1 := pRoot_any _ A w HA.out HSa.out (by rw [hna.out]; have := HNa.out; omega)
  rw [← h1e.out, hwa.out] at hr1
  refine WL.callF (by kernel_rfl) 10 _ _ rfl Try.in10 #[.slice aa na kc] (by simp [Act.eval]) ?_
  refine (hr1).mono ?_
  rintro e w1 ⟨rfl, k1⟩
  refine ⟨_, rfl, ?_⟩
  have B1 := Keep.mk k1
  clear hr1 k1
  simp only [Act.put, List.setIfInBounds_toArray, List.set_cons_zero, List.set_cons_succ]
  refine WL.val (by kernel_rfl) (.tuple #[.agg h1, .int .i64 ea]) (by go_simp) ?_
  simp only [Act.put, List.setIfInBounds_toArray, List.set_cons_zero, List.set_cons_succ]
  refine WL.val (by kernel_rfl) (.agg h1) (by go_simp) ?_
  simp only [Act.put, List.setIfInBounds_toArray, List.set_cons_zero, List.set_cons_succ]
  refine WL.val (by kernel_rfl) (.int .i64 ea) (by go_simp) ?_
  simp only [Act.put, List.setIfInBounds_toArray, List.set_cons_zero, List.set_cons_succ]
  refine WL.new (by kernel_rfl) 25 rfl _ Try.new25 ?_
  have P2 := Keep.mk (Blk.new w1 25 (bytesA 32 fun _ => 0))
  have b_ := below_new w1 (.cells (bytesA 32 fun _ => 0) 25)
  change WL _ _ _ _ _ (w1.alloc (.cells (bytesA 32 fun _ => 0) 25))
  generalize w1.alloc (.cells (bytesA 32 fun _ => 0) 25) = w2 at *
  obtain ⟨p, hp⟩ : ∃ z, Keep (z = w1.heap.size) := ⟨_, ⟨rfl⟩⟩
  rw [← hp.out] at P2 ⊢
  have B2 : Keep (Below w.heap.size w w2) := ⟨B1.out.trans (b_.mono B1.out.size)⟩
  have gp : Keep (w.heap.size ≤ p) := ⟨by rw [hp.out]; exact B1.out.size⟩
  clear b_
  simp only [Act.put, List.setIfInBounds_toArray, List.set_cons_zero, List.set_cons_succ]
  refine WL.storeR (by kernel_rfl) 25 (.tmp 5) (.tmp 14) rfl p h1 rfl rfl 25 (bytesA 32 fun _ => 0) P2.out (by rw [h1e.out]; exact Try.size25B _) (by simp [h1e.out, bytesA_size]) (by rw [h1e.out]; exact bytesA_one _ _) ?_
  have P3 := Keep.mk (P2.out.setRow h1)
  have B3 : Keep (Below w.heap.size w (w2.setRow p h1)) := ⟨below_setRow B2.out gp.out _⟩
  generalize w2.setRow p h1 = w3 at *
  simp only [Act.put]
  refine WL.val (by kernel_rfl) (.int .i64 ea) (by go_simp) ?_
  simp only [Act.put, List.setIfInBounds_toArray, List.set_cons_zero, List.set_cons_succ]
  refine WL.nil ?_
  refine hK2 _ _ ?_
  refine wp_seq_k fun K3 hK3 => ?_
  refine wp_region_list (WL.out ?_)
  refine WL.val (by kernel_rfl) (.slice ba nb lc) (by go_simp) ?_
  simp only [Act.put, List.setIfInBounds_toArray, List.set_cons_zero, List.set_cons_succ]
  have hr2 := pRoot_any _ B w3 ((HB.out.below B3.out).mono B3.out.size) HSb.out (by rw [hnb.out]; have := HNb.out; omega)
  rw [← h2e.out, hwb.out] at hr2
  refine WL.callF (by kernel_rfl) 10 _ _ rfl Try.in10 #[.slice ba nb lc] (by simp [Act.eval]) ?_
  refine (hr2).mono ?_
  rintro e w4 ⟨rfl, k1⟩
  refine ⟨_, rfl, ?_⟩
  have P4 := Keep.mk (P3.out.below k1 P3.out.lt)
  have B4 : Keep (Below w.heap.size w w4) := ⟨B3.out.trans (k1.mono B3.out.size)⟩
  clear hr2 k1
  simp only [Act.put, List.setIfInBounds_toArray, List.set_cons_zero, List.set_cons_succ]
  refine WL.val (by kernel_rfl) (.tuple #[.agg h2, .int .i64 eb]) (by go_simp) ?_
  simp only [Act.put, List.setIfInBounds_toArray, List.set_cons_zero, List.set_cons_succ]
  refine WL.val (by kernel_rfl) (.agg h2) (by go_simp) ?_
  simp only [Act.put, List.setIfInBounds_toArray, List.set_cons_zero, List.set_cons_succ]
  refine WL.val (by kernel_rfl) (.int .i64 eb) (by go_simp) ?_
  simp only [Act.put, List.setIfInBounds_toArray, List.set_cons_zero, List.set_cons_succ]
  refine WL.new (by kernel_rfl) 25 rfl _ Try.new25 ?_
  have Q5 := Keep.mk (Blk.new w4 25 (bytesA 32 fun _ => 0))
  have b_ := below_new w4 (.cells (bytesA 32 fun _ => 0) 25)
  change WL _ _ _ _ _ (w4.alloc (.cells (bytesA 32 fun _ => 0) 25))
  generalize w4.alloc (.cells (bytesA 32 fun _ => 0) 25) = w5 at *
  obtain ⟨q, hq⟩ : ∃ z, Keep (z = w4.heap.size) := ⟨_, ⟨rfl⟩⟩
  rw [← hq.out] at Q5 ⊢
  have B5 : Keep (Below w.heap.size w w5) := ⟨B4.out.trans (b_.mono B4.out.size)⟩
  have gq : Keep (w.heap.size ≤ q) := ⟨by rw [hq.out]; exact B4.out.size⟩
  have P5 := Keep.mk (P4.out.below b_ P4.out.lt)
  have neq : Keep (p ≠ q) := ⟨by have := P4.out.lt; have := hq.out; omega⟩
  clear b_
  simp only [Act.put, List.setIfInBounds_toArray, List.set_cons_zero, List.set_cons_succ]
  refine WL.storeR (by kernel_rfl) 25 (.tmp 7) (.tmp 19) rfl q h2 rfl rfl 25 (bytesA 32 fun _ => 0) Q5.out (by rw [h2e.out]; exact Try.size25B _) (by simp [h2e.out, bytesA_size]) (by rw [h2e.out]; exact bytesA_one _ _) ?_
  have Q6 := Keep.mk (Q5.out.setRow h2)
  have B6 : Keep (Below w.heap.size w (w5.setRow q h2)) := ⟨below_setRow B5.out gq.out _⟩
  have P6 := Keep.mk (P5.out.setRow_ne neq.out h2)
  generalize w5.setRow q h2 = w6 at *
  simp only [Act.put]
  refine WL.val (by kernel_rfl) (.int .i64 eb) (by go_simp) ?_
  simp only [Act.put, List.setIfInBounds_toArray, List.set_cons_zero, List.set_cons_succ]
  refine WL.nil ?_
  refine hK3 _ _ ?_
  refine wp_seq_k fun K4 hK4 => ?_
  refine wp_seq_k fun K5 hK5 => ?_
  refine wp_region_list (WL.out ?_)
  refine WL.val (by kernel_rfl) (.slice aa na kc) (by go_simp) ?_
  simp only [Act.put, List.setIfInBounds_toArray, List.set_cons_zero, List.set_cons_succ]
  refine WL.callF (by kernel_rfl) 18 _ _ rfl Try.in18 #[.slice aa na kc] (by simp [Act.eval]) ?_
  refine (wrong_any w.heap.size _ A w6 (HA.out.below B6.out) B6.out.size (by rw [hna.out]; have := HNa.out; omega)).mono ?_
  rintro e w7 ⟨rfl, k1⟩
  refine ⟨_, rfl, ?_⟩
  rw [hwa.out]
  have P7 := Keep.mk (P6.out.below k1 P6.out.lt)
  have Q7 := Keep.mk (Q6.out.below k1 Q6.out.lt)
  have B7 : Keep (Below w.heap.size w w7) := ⟨B6.out.trans (k1.mono B6.out.size)⟩
  clear k1
  simp only [Act.put, List.setIfInBounds_toArray, List.set_cons_zero, List.set_cons_succ]
  refine WL.val (by kernel_rfl) (.bool true) (by go_simp) ?_
  simp only [Act.put, List.setIfInBounds_toArray, List.set_cons_zero, List.set_cons_succ]
  refine WL.val (by kernel_rfl) (.bool true) (by go_simp) ?_
  simp only [Act.put, List.setIfInBounds_toArray, List.set_cons_zero, List.set_cons_succ]
  refine WL.skip (by kernel_rfl) ?_
  simp only [Act.put, List.setIfInBounds_toArray, List.set_cons_zero, List.set_cons_succ]
  refine WL.skip (by kernel_rfl) ?_
  simp only [Act.put, List.setIfInBounds_toArray, List.set_cons_zero, List.set_cons_succ]
  refine WL.skip (by kernel_rfl) ?_
  simp only [Act.put, List.setIfInBounds_toArray, List.set_cons_zero, List.set_cons_succ]
  refine WL.val (by kernel_rfl) (.bool true) (by go_simp) ?_
  simp only [Act.put, List.setIfInBounds_toArray, List.set_cons_zero, List.set_cons_succ]
  refine WL.nil ?_
  refine hK5 _ _ ?_
  refine wp_cond_true rfl ?_
  refine wp_seq_k fun K6 hK6 => ?_
  refine wp_region_list (WL.out ?_)
  refine WL.val (by kernel_rfl) (.int .i64 ea) (by go_simp) ?_
  simp only [Act.put, List.setIfInBounds_toArray, List.set_cons_zero, List.set_cons_succ]
  refine WL.val (by kernel_rfl) (.bool true) (by go_simp) ?_
  simp only [Act.put, List.setIfInBounds_toArray, List.set_cons_zero, List.set_cons_succ]
  refine WL.val (by kernel_rfl) (.bool true) (by go_simp) ?_
  simp only [Act.put, List.setIfInBounds_toArray, List.set_cons_zero, List.set_cons_succ]
  refine WL.skip (by kernel_rfl) ?_
  simp only [Act.put, List.setIfInBounds_toArray, List.set_cons_zero, List.set_cons_succ]
  refine WL.skip (by kernel_rfl) ?_
  simp only [Act.put, List.setIfInBounds_toArray, List.set_cons_zero, List.set_cons_succ]
  refine WL.val (by kernel_rfl) (.bool true) (by go_simp) ?_
  simp only [Act.put, List.setIfInBounds_toArray, List.set_cons_zero, List.set_cons_succ]
  refine WL.val (by kernel_rfl) (.bool true) (by go_simp) ?_
  simp only [Act.put, List.setIfInBounds_toArray, List.set_cons_zero, List.set_cons_succ]
  refine WL.callF (by kernel_rfl) 9 _ _ rfl Try.in9 #[] (by simp) ?_
  refine (fixed_any w7).mono ?_
  rintro e wz ⟨rfl, k1⟩
  refine ⟨_, rfl, ?_⟩
  have Bz : Keep (Below w.heap.size w wz) := ⟨B7.out.trans (k1.mono B7.out.size)⟩
  clear k1
  simp only [Act.put, List.setIfInBounds_toArray, List.set_cons_zero, List.set_cons_succ]
  refine WL.val (by kernel_rfl) (.bool true) (by go_simp) ?_
  simp only [Act.put, List.setIfInBounds_toArray, List.set_cons_zero, List.set_cons_succ]
  refine WL.val (by kernel_rfl) (.bool true) (by go_simp) ?_
  simp only [Act.put, List.setIfInBounds_toArray, List.set_cons_zero, List.set_cons_succ]
  refine WL.nil ?_
  refine hK6 _ _ ?_
  refine wp_ret ?_
  go_ret
  exact ⟨rfl, Bz.out⟩
set_option maxRecDepth 8000 in
theorem unlike_b (aa ba : Option Addr) (na kc nb lc : Nat) (A B : List CV) (w : World) (hna : Keep (A.length = na)) (hnb : Keep (B.length = nb)) (hA : CsV w.heap.size w (.slice aa na kc) A) (hB : CsV w.heap.size w (.slice ba nb lc) B) (hNa : na ≤ 549755813888) (hNb : nb ≤ 549755813888) (hSa : Sml A) (hSb : Sml B) (eb : Int) (hwa : Keep (wrongI A = 0)) (hwb : Keep (wrongI B = eb)) (heb : ¬ eb = 0) : Calls Try.prog 8 #[.slice aa na kc, .slice ba nb lc] w fun e w' => e = .returned (.bool true) ∧ Below w.heap.size w w' := by
  have HA := Keep.mk hA
  have HB := Keep.mk hB
  have HNa := Keep.mk hNa
  have HNb := Keep.mk hNb
  have HSa := Keep.mk hSa
  have HSb := Keep.mk hSb
  obtain ⟨h1, h1e⟩ : ∃ z : Array Value, Keep (z = bytesA 32 (rootF A)) := ⟨_, ⟨rfl⟩⟩
  obtain ⟨h2, h2e⟩ : ∃ z : Array Value, Keep (z = bytesA 32 (rootF B)) := ⟨_, ⟨rfl⟩⟩
  clear hA hB hNa hNb hSa hSb
  have heb' : (eb == 0) = false := by simpa using heb
  go_enter Try.func8, Try.ntmps8
  refine wp_seq_k fun K1 hK1 => ?_
  refine wp_region_list (WL.out ?_)
  refine WL.val (by kernel_rfl) (.bool false) (by go_simp) ?_
  simp only [Act.put, List.setIfInBounds_toArray, List.set_cons_zero, List.set_cons_succ]
  refine WL.nil ?_
  refine hK1 _ _ ?_
  refine wp_seq_k fun K2 hK2 => ?_
  refine wp_region_list (WL.out ?_)
  refine WL.val (by kernel_rfl) (.slice aa na kc) (by go_simp) ?_
  simp only [Act.put, List.setIfInBounds_toArray, List.set_cons_zero, List.set_cons_succ]
  have hr1 := pRoot_any _ A w HA.out HSa.out (by rw [hna.out]; have := HNa.out; omega)
  rw [← h1e.out, hwa.out] at hr1
  refine WL.callF (by kernel_rfl) 10 _ _ rfl Try.in10 #[.slice aa na kc] (by simp [Act.eval]) ?_
  refine (hr1).mono ?_
  rintro e w1 ⟨rfl, k1⟩
  refine ⟨_, rfl, ?_⟩
  have B1 := Keep.mk k1
  clear hr1 k1
  simp only [Act.put, List.setIfInBounds_toArray, List.set_cons_zero, List.set_cons_succ]
  refine WL.val (by kernel_rfl) (.tuple #[.agg h1, .int .i64 0]) (by go_simp) ?_
  simp only [Act.put, List.setIfInBounds_toArray, List.set_cons_zero, List.set_cons_succ]
  refine WL.val (by kernel_rfl) (.agg h1) (by go_simp) ?_
  simp only [Act.put, List.setIfInBounds_toArray, List.set_cons_zero, List.set_cons_succ]
  refine WL.val (by kernel_rfl) (.int .i64 0) (by go_simp) ?_
  simp only [Act.put, List.setIfInBounds_toArray, List.set_cons_zero, List.set_cons_succ]
  refine WL.new (by kernel_rfl) 25 rfl _ Try.new25 ?_
  have P2 := Keep.mk (Blk.new w1 25 (bytesA 32 fun _ => 0))
  have b_ := below_new w1 (.cells (bytesA 32 fun _ => 0) 25)
  change WL _ _ _ _ _ (w1.alloc (.cells (bytesA 32 fun _ => 0) 25))
  generalize w1.alloc (.cells (bytesA 32 fun _ => 0) 25) = w2 at *
  obtain ⟨p, hp⟩ : ∃ z, Keep (z = w1.heap.size) := ⟨_, ⟨rfl⟩⟩
  rw [← hp.out] at P2 ⊢
  have B2 : Keep (Below w.heap.size w w2) := ⟨B1.out.trans (b_.mono B1.out.size)⟩
  have gp : Keep (w.heap.size ≤ p) := ⟨by rw [hp.out]; exact B1.out.size⟩
  clear b_
  simp only [Act.put, List.setIfInBounds_toArray, List.set_cons_zero, List.set_cons_succ]
  refine WL.storeR (by kernel_rfl) 25 (.tmp 5) (.tmp 14) rfl p h1 rfl rfl 25 (bytesA 32 fun _ => 0) P2.out (by rw [h1e.out]; exact Try.size25B _) (by simp [h1e.out, bytesA_size]) (by rw [h1e.out]; exact bytesA_one _ _) ?_
  have P3 := Keep.mk (P2.out.setRow h1)
  have B3 : Keep (Below w.heap.size w (w2.setRow p h1)) := ⟨below_setRow B2.out gp.out _⟩
  generalize w2.setRow p h1 = w3 at *
  simp only [Act.put]
  refine WL.val (by kernel_rfl) (.int .i64 0) (by go_simp) ?_
  simp only [Act.put, List.setIfInBounds_toArray, List.set_cons_zero, List.set_cons_succ]
  refine WL.nil ?_
  refine hK2 _ _ ?_
  refine wp_seq_k fun K3 hK3 => ?_
  refine wp_region_list (WL.out ?_)
  refine WL.val (by kernel_rfl) (.slice ba nb lc) (by go_simp) ?_
  simp only [Act.put, List.setIfInBounds_toArray, List.set_cons_zero, List.set_cons_succ]
  have hr2 := pRoot_any _ B w3 ((HB.out.below B3.out).mono B3.out.size) HSb.out (by rw [hnb.out]; have := HNb.out; omega)
  rw [← h2e.out, hwb.out] at hr2
  refine WL.callF (by kernel_rfl) 10 _ _ rfl Try.in10 #[.slice ba nb lc] (by simp [Act.eval]) ?_
  refine (hr2).mono ?_
  rintro e w4 ⟨rfl, k1⟩
  refine ⟨_, rfl, ?_⟩
  have P4 := Keep.mk (P3.out.below k1 P3.out.lt)
  have B4 : Keep (Below w.heap.size w w4) := ⟨B3.out.trans (k1.mono B3.out.size)⟩
  clear hr2 k1
  simp only [Act.put, List.setIfInBounds_toArray, List.set_cons_zero, List.set_cons_succ]
  refine WL.val (by kernel_rfl) (.tuple #[.agg h2, .int .i64 eb]) (by go_simp) ?_
  simp only [Act.put, List.setIfInBounds_toArray, List.set_cons_zero, List.set_cons_succ]
  refine WL.val (by kernel_rfl) (.agg h2) (by go_simp) ?_
  simp only [Act.put, List.setIfInBounds_toArray, List.set_cons_zero, List.set_cons_succ]
  refine WL.val (by kernel_rfl) (.int .i64 eb) (by go_simp) ?_
  simp only [Act.put, List.setIfInBounds_toArray, List.set_cons_zero, List.set_cons_succ]
  refine WL.new (by kernel_rfl) 25 rfl _ Try.new25 ?_
  have Q5 := Keep.mk (Blk.new w4 25 (bytesA 32 fun _ => 0))
  have b_ := below_new w4 (.cells (bytesA 32 fun _ => 0) 25)
  change WL _ _ _ _ _ (w4.alloc (.cells (bytesA 32 fun _ => 0) 25))
  generalize w4.alloc (.cells (bytesA 32 fun _ => 0) 25) = w5 at *
  obtain ⟨q, hq⟩ : ∃ z, Keep (z = w4.heap.size) := ⟨_, ⟨rfl⟩⟩
  rw [← hq.out] at Q5 ⊢
  have B5 : Keep (Below w.heap.size w w5) := ⟨B4.out.trans (b_.mono B4.out.size)⟩
  have gq : Keep (w.heap.size ≤ q) := ⟨by rw [hq.out]; exact B4.out.size⟩
  have P5 := Keep.mk (P4.out.below b_ P4.out.lt)
  have neq : Keep (p ≠ q) := ⟨by have := P4.out.lt; have := hq.out; omega⟩
  clear b_
  simp only [Act.put, List.setIfInBounds_toArray, List.set_cons_zero, List.set_cons_succ]
  refine WL.storeR (by kernel_rfl) 25 (.tmp 7) (.tmp 19) rfl q h2 rfl rfl 25 (bytesA 32 fun _ => 0) Q5.out (by rw [h2e.out]; exact Try.size25B _) (by simp [h2e.out, bytesA_size]) (by rw [h2e.out]; exact bytesA_one _ _) ?_
  have Q6 := Keep.mk (Q5.out.setRow h2)
  have B6 : Keep (Below w.heap.size w (w5.setRow q h2)) := ⟨below_setRow B5.out gq.out _⟩
  have P6 := Keep.mk (P5.out.setRow_ne neq.out h2)
  generalize w5.setRow q h2 = w6 at *
  simp only [Act.put]
  refine WL.val (by kernel_rfl) (.int .i64 eb) (by go_simp) ?_
  simp only [Act.put, List.setIfInBounds_toArray, List.set_cons_zero, List.set_cons_succ]
  refine WL.nil ?_
  refine hK3 _ _ ?_
  refine wp_seq_k fun K4 hK4 => ?_
  refine wp_seq_k fun K5 hK5 => ?_
  refine wp_region_list (WL.out ?_)
  refine WL.val (by kernel_rfl) (.slice aa na kc) (by go_simp) ?_
  simp only [Act.put, List.setIfInBounds_toArray, List.set_cons_zero, List.set_cons_succ]
  refine WL.callF (by kernel_rfl) 18 _ _ rfl Try.in18 #[.slice aa na kc] (by simp [Act.eval]) ?_
  refine (wrong_any w.heap.size _ A w6 (HA.out.below B6.out) B6.out.size (by rw [hna.out]; have := HNa.out; omega)).mono ?_
  rintro e w7 ⟨rfl, k1⟩
  refine ⟨_, rfl, ?_⟩
  rw [hwa.out]
  have P7 := Keep.mk (P6.out.below k1 P6.out.lt)
  have Q7 := Keep.mk (Q6.out.below k1 Q6.out.lt)
  have B7 : Keep (Below w.heap.size w w7) := ⟨B6.out.trans (k1.mono B6.out.size)⟩
  clear k1
  simp only [Act.put, List.setIfInBounds_toArray, List.set_cons_zero, List.set_cons_succ]
  refine WL.val (by kernel_rfl) (.bool false) (by go_simp) ?_
  simp only [Act.put, List.setIfInBounds_toArray, List.set_cons_zero, List.set_cons_succ]
  refine WL.val (by kernel_rfl) (.bool false) (by go_simp) ?_
  simp only [Act.put, List.setIfInBounds_toArray, List.set_cons_zero, List.set_cons_succ]
  refine WL.val (by kernel_rfl) (.slice ba nb lc) (by go_simp) ?_
  simp only [Act.put, List.setIfInBounds_toArray, List.set_cons_zero, List.set_cons_succ]
  refine WL.callF (by kernel_rfl) 18 _ _ rfl Try.in18 #[.slice ba nb lc] (by simp [Act.eval]) ?_
  refine (wrong_any w.heap.size _ B w7 (HB.out.below B7.out) B7.out.size (by rw [hnb.out]; have := HNb.out; omega)).mono ?_
  rintro e w8 ⟨rfl, k1⟩
  refine ⟨_, rfl, ?_⟩
  rw [hwb.out]
  have P8 := Keep.mk (P7.out.below k1 P7.out.lt)
  have Q8 := Keep.mk (Q7.out.below k1 Q7.out.lt)
  have B8 : Keep (Below w.heap.size w w8) := ⟨B7.out.trans (k1.mono B7.out.size)⟩
  clear k1
  simp only [Act.put, List.setIfInBounds_toArray, List.set_cons_zero, List.set_cons_succ]
  refine WL.val (by kernel_rfl) (.bool true) (by go_simp) ?_
  simp only [Act.put, List.setIfInBounds_toArray, List.set_cons_zero, List.set_cons_succ]
  refine WL.val (by kernel_rfl) (.bool true) (by go_simp) ?_
  simp only [Act.put, List.setIfInBounds_toArray, List.set_cons_zero, List.set_cons_succ]
  refine WL.nil ?_
  refine hK5 _ _ ?_
  refine wp_cond_true rfl ?_
  refine wp_seq_k fun K6 hK6 => ?_
  refine wp_region_list (WL.out ?_)
  refine WL.val (by kernel_rfl) (.int .i64 0) (by go_simp) ?_
  simp only [Act.put, List.setIfInBounds_toArray, List.set_cons_zero, List.set_cons_succ]
  refine WL.val (by kernel_rfl) (.bool false) (by go_simp) ?_
  simp only [Act.put, List.setIfInBounds_toArray, List.set_cons_zero, List.set_cons_succ]
  refine WL.val (by kernel_rfl) (.bool false) (by go_simp) ?_
  simp only [Act.put, List.setIfInBounds_toArray, List.set_cons_zero, List.set_cons_succ]
  refine WL.val (by kernel_rfl) (.int .i64 eb) (by go_simp) ?_
  simp only [Act.put, List.setIfInBounds_toArray, List.set_cons_zero, List.set_cons_succ]
  refine WL.val (by kernel_rfl) (.bool true) (by go_simp) ?_
  simp only [Act.put, List.setIfInBounds_toArray, List.set_cons_zero, List.set_cons_succ]
  refine WL.val (by kernel_rfl) (.bool true) (by go_simp) ?_
  simp only [Act.put, List.setIfInBounds_toArray, List.set_cons_zero, List.set_cons_succ]
  refine WL.val (by kernel_rfl) (.bool true) (by go_simp) ?_
  simp only [Act.put, List.setIfInBounds_toArray, List.set_cons_zero, List.set_cons_succ]
  refine WL.callF (by kernel_rfl) 9 _ _ rfl Try.in9 #[] (by simp) ?_
  refine (fixed_any w8).mono ?_
  rintro e wz ⟨rfl, k1⟩
  refine ⟨_, rfl, ?_⟩
  have Bz : Keep (Below w.heap.size w wz) := ⟨B8.out.trans (k1.mono B8.out.size)⟩
  clear k1
  simp only [Act.put, List.setIfInBounds_toArray, List.set_cons_zero, List.set_cons_succ]
  refine WL.val (by kernel_rfl) (.bool true) (by go_simp) ?_
  simp only [Act.put, List.setIfInBounds_toArray, List.set_cons_zero, List.set_cons_succ]
  refine WL.val (by kernel_rfl) (.bool true) (by go_simp) ?_
  simp only [Act.put, List.setIfInBounds_toArray, List.set_cons_zero, List.set_cons_succ]
  refine WL.nil ?_
  refine hK6 _ _ ?_
  refine wp_ret ?_
  go_ret
  exact ⟨rfl, Bz.out⟩
set_option maxRecDepth 8000 in
set_option maxHeartbeats 1000000 in
theorem unlike_y (aa ba : Option Addr) (na kc nb lc : Nat) (A B : List CV) (w : World) (hna : Keep (A.length = na)) (hnb : Keep (B.length = nb)) (hA : CsV w.heap.size w (.slice aa na kc) A) (hB : CsV w.heap.size w (.slice ba nb lc) B) (hNa : na ≤ 549755813888) (hNb : nb ≤ 549755813888) (hSa : Sml A) (hSb : Sml B) (hwa : Keep (wrongI A = 0)) (hwb : Keep (wrongI B = 0)) (hBa : ∀ c ∈ A, Byts c.l) (hBb : ∀ c ∈ B, Byts c.l) (xa xb : Hs) (hxa : Keep (xa = shaH (rootL A))) (hxb : Keep (xb = shaH (rootL B))) (hsm : Keep (decide (xa = xb) = true)) : Calls Try.prog 8 #[.slice aa na kc, .slice ba nb lc] w fun e w' => e = .returned (.bool true) ∧ Below w.heap.size w w' := by
  have HFa : Keep (Fit A) := ⟨fit_of (okK_of hwa.out) hSa⟩
  have HFb : Keep (Fit B) := ⟨fit_of (okK_of hwb.out) hSb⟩
  have HBa := Keep.mk hBa
  have HBb := Keep.mk hBb
  clear hBa hBb
  have HA := Keep.mk hA
  have HB := Keep.mk hB
  have HNa := Keep.mk hNa
  have HNb := Keep.mk hNb
  have HSa := Keep.mk hSa
  have HSb := Keep.mk hSb
  obtain ⟨h1, h1e⟩ : ∃ z : Array Value, Keep (z = bytesA 32 (rootF A)) := ⟨_, ⟨rfl⟩⟩
  obtain ⟨h2, h2e⟩ : ∃ z : Array Value, Keep (z = bytesA 32 (rootF B)) := ⟨_, ⟨rfl⟩⟩
  clear hA hB hNa hNb hSa hSb
  have h1x : Keep (h1 = bytesA 32 xa.f) := ⟨by rw [h1e.out, hxa.out, rootF, hwa.out, if_pos rfl, shaH_arr, encH_arr]⟩
  have h2x : Keep (h2 = bytesA 32 xb.f) := ⟨by rw [h2e.out, hxb.out, rootF, hwb.out, if_pos rfl, shaH_arr, encH_arr]⟩
  go_enter Try.func8, Try.ntmps8
  refine wp_seq_k fun K1 hK1 => ?_
  refine wp_region_list (WL.out ?_)
  refine WL.val (by kernel_rfl) (.bool false) (by go_simp) ?_
  simp only [Act.put, List.setIfInBounds_toArray, List.set_cons_zero, List.set_cons_succ]
  refine WL.nil ?_
  refine hK1 _ _ ?_
  refine wp_seq_k fun K2 hK2 => ?_
  refine wp_region_list (WL.out ?_)
  refine WL.val (by kernel_rfl) (.slice aa na kc) (by go_simp) ?_
  simp only [Act.put, List.setIfInBounds_toArray, List.set_cons_zero, List.set_cons_succ]
  have hr1 := pRoot_any _ A w HA.out HSa.out (by rw [hna.out]; have := HNa.out; omega)
  rw [← h1e.out, hwa.out] at hr1
  refine WL.callF (by kernel_rfl) 10 _ _ rfl Try.in10 #[.slice aa na kc] (by simp [Act.eval]) ?_
  refine (hr1).mono ?_
  rintro e w1 ⟨rfl, k1⟩
  refine ⟨_, rfl, ?_⟩
  have B1 := Keep.mk k1
  clear hr1 k1
  simp only [Act.put, List.setIfInBounds_toArray, List.set_cons_zero, List.set_cons_succ]
  refine WL.val (by kernel_rfl) (.tuple #[.agg h1, .int .i64 0]) (by go_simp) ?_
  simp only [Act.put, List.setIfInBounds_toArray, List.set_cons_zero, List.set_cons_succ]
  refine WL.val (by kernel_rfl) (.agg h1) (by go_simp) ?_
  simp only [Act.put, List.setIfInBounds_toArray, List.set_cons_zero, List.set_cons_succ]
  refine WL.val (by kernel_rfl) (.int .i64 0) (by go_simp) ?_
  simp only [Act.put, List.setIfInBounds_toArray, List.set_cons_zero, List.set_cons_succ]
  refine WL.new (by kernel_rfl) 25 rfl _ Try.new25 ?_
  have P2 := Keep.mk (Blk.new w1 25 (bytesA 32 fun _ => 0))
  have b_ := below_new w1 (.cells (bytesA 32 fun _ => 0) 25)
  change WL _ _ _ _ _ (w1.alloc (.cells (bytesA 32 fun _ => 0) 25))
  generalize w1.alloc (.cells (bytesA 32 fun _ => 0) 25) = w2 at *
  obtain ⟨p, hp⟩ : ∃ z, Keep (z = w1.heap.size) := ⟨_, ⟨rfl⟩⟩
  rw [← hp.out] at P2 ⊢
  have B2 : Keep (Below w.heap.size w w2) := ⟨B1.out.trans (b_.mono B1.out.size)⟩
  have gp : Keep (w.heap.size ≤ p) := ⟨by rw [hp.out]; exact B1.out.size⟩
  clear b_
  simp only [Act.put, List.setIfInBounds_toArray, List.set_cons_zero, List.set_cons_succ]
  refine WL.storeR (by kernel_rfl) 25 (.tmp 5) (.tmp 14) rfl p h1 rfl rfl 25 (bytesA 32 fun _ => 0) P2.out (by rw [h1e.out]; exact Try.size25B _) (by simp [h1e.out, bytesA_size]) (by rw [h1e.out]; exact bytesA_one _ _) ?_
  have P3 := Keep.mk (P2.out.setRow h1)
  have B3 : Keep (Below w.heap.size w (w2.setRow p h1)) := ⟨below_setRow B2.out gp.out _⟩
  generalize w2.setRow p h1 = w3 at *
  simp only [Act.put]
  refine WL.val (by kernel_rfl) (.int .i64 0) (by go_simp) ?_
  simp only [Act.put, List.setIfInBounds_toArray, List.set_cons_zero, List.set_cons_succ]
  refine WL.nil ?_
  refine hK2 _ _ ?_
  refine wp_seq_k fun K3 hK3 => ?_
  refine wp_region_list (WL.out ?_)
  refine WL.val (by kernel_rfl) (.slice ba nb lc) (by go_simp) ?_
  simp only [Act.put, List.setIfInBounds_toArray, List.set_cons_zero, List.set_cons_succ]
  have hr2 := pRoot_any _ B w3 ((HB.out.below B3.out).mono B3.out.size) HSb.out (by rw [hnb.out]; have := HNb.out; omega)
  rw [← h2e.out, hwb.out] at hr2
  refine WL.callF (by kernel_rfl) 10 _ _ rfl Try.in10 #[.slice ba nb lc] (by simp [Act.eval]) ?_
  refine (hr2).mono ?_
  rintro e w4 ⟨rfl, k1⟩
  refine ⟨_, rfl, ?_⟩
  have P4 := Keep.mk (P3.out.below k1 P3.out.lt)
  have B4 : Keep (Below w.heap.size w w4) := ⟨B3.out.trans (k1.mono B3.out.size)⟩
  clear hr2 k1
  simp only [Act.put, List.setIfInBounds_toArray, List.set_cons_zero, List.set_cons_succ]
  refine WL.val (by kernel_rfl) (.tuple #[.agg h2, .int .i64 0]) (by go_simp) ?_
  simp only [Act.put, List.setIfInBounds_toArray, List.set_cons_zero, List.set_cons_succ]
  refine WL.val (by kernel_rfl) (.agg h2) (by go_simp) ?_
  simp only [Act.put, List.setIfInBounds_toArray, List.set_cons_zero, List.set_cons_succ]
  refine WL.val (by kernel_rfl) (.int .i64 0) (by go_simp) ?_
  simp only [Act.put, List.setIfInBounds_toArray, List.set_cons_zero, List.set_cons_succ]
  refine WL.new (by kernel_rfl) 25 rfl _ Try.new25 ?_
  have Q5 := Keep.mk (Blk.new w4 25 (bytesA 32 fun _ => 0))
  have b_ := below_new w4 (.cells (bytesA 32 fun _ => 0) 25)
  change WL _ _ _ _ _ (w4.alloc (.cells (bytesA 32 fun _ => 0) 25))
  generalize w4.alloc (.cells (bytesA 32 fun _ => 0) 25) = w5 at *
  obtain ⟨q, hq⟩ : ∃ z, Keep (z = w4.heap.size) := ⟨_, ⟨rfl⟩⟩
  rw [← hq.out] at Q5 ⊢
  have B5 : Keep (Below w.heap.size w w5) := ⟨B4.out.trans (b_.mono B4.out.size)⟩
  have gq : Keep (w.heap.size ≤ q) := ⟨by rw [hq.out]; exact B4.out.size⟩
  have P5 := Keep.mk (P4.out.below b_ P4.out.lt)
  have neq : Keep (p ≠ q) := ⟨by have := P4.out.lt; have := hq.out; omega⟩
  clear b_
  simp only [Act.put, List.setIfInBounds_toArray, List.set_cons_zero, List.set_cons_succ]
  refine WL.storeR (by kernel_rfl) 25 (.tmp 7) (.tmp 19) rfl q h2 rfl rfl 25 (bytesA 32 fun _ => 0) Q5.out (by rw [h2e.out]; exact Try.size25B _) (by simp [h2e.out, bytesA_size]) (by rw [h2e.out]; exact bytesA_one _ _) ?_
  have Q6 := Keep.mk (Q5.out.setRow h2)
  have B6 : Keep (Below w.heap.size w (w5.setRow q h2)) := ⟨below_setRow B5.out gq.out _⟩
  have P6 := Keep.mk (P5.out.setRow_ne neq.out h2)
  generalize w5.setRow q h2 = w6 at *
  simp only [Act.put]
  refine WL.val (by kernel_rfl) (.int .i64 0) (by go_simp) ?_
  simp only [Act.put, List.setIfInBounds_toArray, List.set_cons_zero, List.set_cons_succ]
  refine WL.nil ?_
  refine hK3 _ _ ?_
  refine wp_seq_k fun K4 hK4 => ?_
  refine wp_seq_k fun K5 hK5 => ?_
  refine wp_region_list (WL.out ?_)
  refine WL.val (by kernel_rfl) (.slice aa na kc) (by go_simp) ?_
  simp only [Act.put, List.setIfInBounds_toArray, List.set_cons_zero, List.set_cons_succ]
  refine WL.callF (by kernel_rfl) 18 _ _ rfl Try.in18 #[.slice aa na kc] (by simp [Act.eval]) ?_
  refine (wrong_any w.heap.size _ A w6 (HA.out.below B6.out) B6.out.size (by rw [hna.out]; have := HNa.out; omega)).mono ?_
  rintro e w7 ⟨rfl, k1⟩
  refine ⟨_, rfl, ?_⟩
  rw [hwa.out]
  have P7 := Keep.mk (P6.out.below k1 P6.out.lt)
  have Q7 := Keep.mk (Q6.out.below k1 Q6.out.lt)
  have B7 : Keep (Below w.heap.size w w7) := ⟨B6.out.trans (k1.mono B6.out.size)⟩
  clear k1
  simp only [Act.put, List.setIfInBounds_toArray, List.set_cons_zero, List.set_cons_succ]
  refine WL.val (by kernel_rfl) (.bool false) (by go_simp) ?_
  simp only [Act.put, List.setIfInBounds_toArray, List.set_cons_zero, List.set_cons_succ]
  refine WL.val (by kernel_rfl) (.bool false) (by go_simp) ?_
  simp only [Act.put, List.setIfInBounds_toArray, List.set_cons_zero, List.set_cons_succ]
  refine WL.val (by kernel_rfl) (.slice ba nb lc) (by go_simp) ?_
  simp only [Act.put, List.setIfInBounds_toArray, List.set_cons_zero, List.set_cons_succ]
  refine WL.callF (by kernel_rfl) 18 _ _ rfl Try.in18 #[.slice ba nb lc] (by simp [Act.eval]) ?_
  refine (wrong_any w.heap.size _ B w7 (HB.out.below B7.out) B7.out.size (by rw [hnb.out]; have := HNb.out; omega)).mono ?_
  rintro e w8 ⟨rfl, k1⟩
  refine ⟨_, rfl, ?_⟩
  rw [hwb.out]
  have P8 := Keep.mk (P7.out.below k1 P7.out.lt)
  have Q8 := Keep.mk (Q7.out.below k1 Q7.out.lt)
  have B8 : Keep (Below w.heap.size w w8) := ⟨B7.out.trans (k1.mono B7.out.size)⟩
  clear k1
  simp only [Act.put, List.setIfInBounds_toArray, List.set_cons_zero, List.set_cons_succ]
  refine WL.val (by kernel_rfl) (.bool false) (by go_simp) ?_
  simp only [Act.put, List.setIfInBounds_toArray, List.set_cons_zero, List.set_cons_succ]
  refine WL.val (by kernel_rfl) (.bool false) (by go_simp) ?_
  simp only [Act.put, List.setIfInBounds_toArray, List.set_cons_zero, List.set_cons_succ]
  refine WL.nil ?_
  refine hK5 _ _ ?_
  refine wp_cond_false rfl ?_
  refine wp_skip ?_
  refine hK4 _ _ ?_
  refine wp_seq_k fun K6 hK6 => ?_
  refine wp_region_list (WL.out ?_)
  refine WL.val (by kernel_rfl) (.slice aa na kc) (by go_simp) ?_
  simp only [Act.put, List.setIfInBounds_toArray, List.set_cons_zero, List.set_cons_succ]
  refine WL.val (by kernel_rfl) (.int .i64 (na : Int)) (by go_simp) ?_
  simp only [Act.put, List.setIfInBounds_toArray, List.set_cons_zero, List.set_cons_succ]
  refine WL.val (by kernel_rfl) (.slice ba nb lc) (by go_simp) ?_
  simp only [Act.put, List.setIfInBounds_toArray, List.set_cons_zero, List.set_cons_succ]
  refine WL.val (by kernel_rfl) (.int .i64 (nb : Int)) (by go_simp) ?_
  simp only [Act.put, List.setIfInBounds_toArray, List.set_cons_zero, List.set_cons_succ]
  have hal0 : ((na : Int) == (nb : Int)) = alT A B 0 := by
    unfold alT
    rw [hna.out, hnb.out, Bool.eq_iff_iff]
    simp
    omega
  refine WL.val (by kernel_rfl) (.bool (alT A B 0)) (by rw [← hal0]; go_simp) ?_
  clear hal0
  simp only [Act.put, List.setIfInBounds_toArray, List.set_cons_zero, List.set_cons_succ]
  refine WL.val (by kernel_rfl) (.bool (alT A B 0)) (by go_simp) ?_
  simp only [Act.put, List.setIfInBounds_toArray, List.set_cons_zero, List.set_cons_succ]
  refine WL.nil ?_
  refine hK6 _ _ ?_
  refine wp_seq_k fun K7 hK7 => ?_
  refine wp_seq_k fun K8 hK8 => ?_
  refine wp_region_list (WL.out ?_)
  refine WL.val (by kernel_rfl) (.int .i64 0) (by go_simp) ?_
  simp only [Act.put, List.setIfInBounds_toArray, List.set_cons_zero, List.set_cons_succ]
  refine WL.nil ?_
  refine hK8 _ _ ?_
  refine wp_block ?_
  refine wp_loop (fun ac wr => ∃ (t : Nat) (f : Nat → Value), ac = { tmps := #[.slice aa na kc, .slice ba nb lc, undef, undef, .bool false, .pointer (some ⟨p, 0, none⟩), .int .i64 0, .pointer (some ⟨q, 0, none⟩), .int .i64 0, .bool (alT A B t), .int .i64 (t : Int), .tuple #[.agg h1, .int .i64 0], .slice aa na kc, .tuple #[.agg h1, .int .i64 0], .agg h1, .int .i64 0, .tuple #[.agg h2, .int .i64 0], .slice ba nb lc, .tuple #[.agg h2, .int .i64 0], .agg h2, .int .i64 0, .slice aa na kc, .int .i64 0, .bool false, .bool false, .slice ba nb lc, .int .i64 0, .bool false, .bool false, undef, undef, undef, undef, undef, undef, undef, undef, undef, .slice aa na kc, .int .i64 (na : Int), .slice ba nb lc, .int .i64 (nb : Int), .bool (alT A B 0), f 43, f 44, f 45, f 46, f 47, f 48, f 49, f 50, f 51, f 52, f 53, f 54, f 55, f 56, f 57, f 58, f 59, f 60, undef, undef, undef, undef, undef, undef, undef, undef, undef, undef, undef, undef, undef, undef, undef, undef, undef, undef, undef, undef], defers := [] } ∧ t ≤ na ∧ Blk wr p 25 h1 ∧ Blk wr q 25 h2 ∧ Below w.heap.size w wr) (fun a _ => na - (intOf (a.tmps.getD 10 undef)).toNat) ⟨0, fun zz => [.slice aa na kc, .slice ba nb lc, undef, undef, .bool false, .pointer (some ⟨p, 0, none⟩), .int .i64 0, .pointer (some ⟨q, 0, none⟩), .int .i64 0, .bool (alT A B 0), .int .i64 0, .tuple #[.agg h1, .int .i64 0], .slice aa na kc, .tuple #[.agg h1, .int .i64 0], .agg h1, .int .i64 0, .tuple #[.agg h2, .int .i64 0], .slice ba nb lc, .tuple #[.agg h2, .int .i64 0], .agg h2, .int .i64 0, .slice aa na kc, .int .i64 0, .bool false, .bool false, .slice ba nb lc, .int .i64 0, .bool false, .bool false, undef, undef, undef, undef, undef, undef, undef, undef, undef, .slice aa na kc, .int .i64 (na : Int), .slice ba nb lc, .int .i64 (nb : Int), .bool (alT A B 0), undef, undef, undef, undef, undef, undef, undef, undef, undef, undef, undef, undef, undef, undef, undef, undef, undef, undef, undef, undef, undef, undef, undef, undef, undef, undef, undef, undef, undef, undef, undef, undef, undef, undef, undef, undef, undef, undef].getD zz undef, rfl, by omega, P8.out, Q8.out, B8.out⟩ ?_
  rintro ac wr ⟨t, f, rfl, ht, hP, hQ, hb⟩
  have P9 := Keep.mk hP
  have Q9 := Keep.mk hQ
  have B9 := Keep.mk hb
  clear hP hQ hb
  by_cases htl : t < na
  · have htl' : (t : Int) < (na : Int) := by omega
    cases hal : alT A B t
    · have HF : Keep (alT A B na = false) := ⟨alT_false hal na (by omega)⟩
      clear hal
      refine wp_seq_k fun K9 hK9 => ?_
      refine wp_seq_k fun K10 hK10 => ?_
      refine wp_region_list (WL.out ?_)
      refine WL.val (by kernel_rfl) (.int .i64 (t : Int)) (by go_simp) ?_
      simp only [Act.put, List.setIfInBounds_toArray, List.set_cons_zero, List.set_cons_succ]
      refine WL.val (by kernel_rfl) (.slice aa na kc) (by go_simp) ?_
      simp only [Act.put, List.setIfInBounds_toArray, List.set_cons_zero, List.set_cons_succ]
      refine WL.val (by kernel_rfl) (.int .i64 (na : Int)) (by go_simp) ?_
      simp only [Act.put, List.setIfInBounds_toArray, List.set_cons_zero, List.set_cons_succ]
      refine WL.val (by kernel_rfl) (.bool true) (by go_simp) ?_
      simp only [Act.put, List.setIfInBounds_toArray, List.set_cons_zero, List.set_cons_succ]
      refine WL.val (by kernel_rfl) (.bool true) (by go_simp) ?_
      simp only [Act.put, List.setIfInBounds_toArray, List.set_cons_zero, List.set_cons_succ]
      refine WL.val (by kernel_rfl) (.bool false) (by go_simp) ?_
      simp only [Act.put, List.setIfInBounds_toArray, List.set_cons_zero, List.set_cons_succ]
      refine WL.val (by kernel_rfl) (.bool false) (by go_simp) ?_
      simp only [Act.put, List.setIfInBounds_toArray, List.set_cons_zero, List.set_cons_succ]
      refine WL.nil ?_
      refine hK10 _ _ ?_
      refine wp_cond_false rfl ?_
      refine wp_exit ?_
      refine hK7 _ _ ?_
      refine wp_seq_k fun K11 hK11 => ?_
      refine wp_seq_k fun K12 hK12 => ?_
      refine wp_region_list (WL.out ?_)
      refine WL.val (by kernel_rfl) (.int .i64 0) (by go_simp) ?_
      simp only [Act.put, List.setIfInBounds_toArray, List.set_cons_zero, List.set_cons_succ]
      refine WL.val (by kernel_rfl) (.bool false) (by go_simp) ?_
      simp only [Act.put, List.setIfInBounds_toArray, List.set_cons_zero, List.set_cons_succ]
      refine WL.val (by kernel_rfl) (.bool false) (by go_simp) ?_
      simp only [Act.put, List.setIfInBounds_toArray, List.set_cons_zero, List.set_cons_succ]
      refine WL.val (by kernel_rfl) (.int .i64 0) (by go_simp) ?_
      simp only [Act.put, List.setIfInBounds_toArray, List.set_cons_zero, List.set_cons_succ]
      refine WL.val (by kernel_rfl) (.bool false) (by go_simp) ?_
      simp only [Act.put, List.setIfInBounds_toArray, List.set_cons_zero, List.set_cons_succ]
      refine WL.val (by kernel_rfl) (.bool false) (by go_simp) ?_
      simp only [Act.put, List.setIfInBounds_toArray, List.set_cons_zero, List.set_cons_succ]
      refine WL.val (by kernel_rfl) (.bool false) (by go_simp) ?_
      simp only [Act.put, List.setIfInBounds_toArray, List.set_cons_zero, List.set_cons_succ]
      refine WL.val (by kernel_rfl) (.bool false) (by go_simp) ?_
      simp only [Act.put, List.setIfInBounds_toArray, List.set_cons_zero, List.set_cons_succ]
      refine WL.row (by kernel_rfl) 25 (.tmp 5) rfl p rfl 25 h1 _ P9.out Try.underlying25 rfl (by rw [h1e.out]; exact Try.size25B _) ?_
      simp only [Act.put, List.setIfInBounds_toArray, List.set_cons_zero, List.set_cons_succ]
      refine WL.row (by kernel_rfl) 25 (.tmp 7) rfl q rfl 25 h2 _ Q9.out Try.underlying25 rfl (by rw [h2e.out]; exact Try.size25B _) ?_
      simp only [Act.put, List.setIfInBounds_toArray, List.set_cons_zero, List.set_cons_succ]
      refine WL.val (by kernel_rfl) (.bool true) (by have hq_ := eqB h1x.out h2x.out hsm.out wr; go_simp) ?_
      simp only [Act.put, List.setIfInBounds_toArray, List.set_cons_zero, List.set_cons_succ]
      refine WL.val (by kernel_rfl) (.bool true) (by go_simp) ?_
      simp only [Act.put, List.setIfInBounds_toArray, List.set_cons_zero, List.set_cons_succ]
      refine WL.val (by kernel_rfl) (.bool true) (by go_simp) ?_
      simp only [Act.put, List.setIfInBounds_toArray, List.set_cons_zero, List.set_cons_succ]
      refine WL.val (by kernel_rfl) (.slice aa na kc) (by go_simp) ?_
      simp only [Act.put, List.setIfInBounds_toArray, List.set_cons_zero, List.set_cons_succ]
      refine WL.val (by kernel_rfl) (.slice ba nb lc) (by go_simp) ?_
      simp only [Act.put, List.setIfInBounds_toArray, List.set_cons_zero, List.set_cons_succ]
      have hcl : RtP.Cl shaL (rootS A ++ rootS B) := unlike_cl HFa.out HFb.out HBa.out HBb.out (by rw [hna.out]; have := HNa.out; omega) (by rw [hnb.out]; have := HNb.out; omega) (by rw [hna.out, HF.out, ← hxa.out, ← hxb.out, hsm.out]; decide)
      refine WL.callF (by kernel_rfl) 21 _ _ rfl Try.in21 #[.slice aa na kc, .slice ba nb lc] (by simp [Act.eval]) ?_
      refine (meet_any _ _ A B wr ((HA.out.below B9.out).mono B9.out.size) ((HB.out.below B9.out).mono B9.out.size) HFa.out HFb.out HBa.out HBb.out (by rw [hna.out]; exact HNa.out) (by rw [hnb.out]; exact HNb.out)).mono ?_
      rintro e wm ⟨bb, rfl, k1, k2⟩
      refine ⟨_, rfl, ?_⟩
      obtain rfl : bb = true := k1 hcl
      have Bm : Keep (Below w.heap.size w wm) := ⟨B9.out.trans (k2.mono B9.out.size)⟩
      clear k1 k2 hcl
      simp only [Act.put, List.setIfInBounds_toArray, List.set_cons_zero, List.set_cons_succ]
      refine WL.val (by kernel_rfl) (.bool false) (by go_simp) ?_
      simp only [Act.put, List.setIfInBounds_toArray, List.set_cons_zero, List.set_cons_succ]
      refine WL.val (by kernel_rfl) (.bool false) (by go_simp) ?_
      simp only [Act.put, List.setIfInBounds_toArray, List.set_cons_zero, List.set_cons_succ]
      refine WL.val (by kernel_rfl) (.bool false) (by go_simp) ?_
      simp only [Act.put, List.setIfInBounds_toArray, List.set_cons_zero, List.set_cons_succ]
      refine WL.nil ?_
      refine hK12 _ _ ?_
      refine wp_cond_false rfl ?_
      refine wp_skip ?_
      refine hK11 _ _ ?_
      refine wp_seq_k fun K13 hK13 => ?_
      refine wp_region_list (WL.out ?_)
      refine WL.callF (by kernel_rfl) 9 _ _ rfl Try.in9 #[] (by simp) ?_
      refine (fixed_any wm).mono ?_
      rintro e wz ⟨rfl, k1⟩
      refine ⟨_, rfl, ?_⟩
      have Bz : Keep (Below w.heap.size w wz) := ⟨Bm.out.trans (k1.mono Bm.out.size)⟩
      clear k1
      simp only [Act.put, List.setIfInBounds_toArray, List.set_cons_zero, List.set_cons_succ]
      refine WL.val (by kernel_rfl) (.bool true) (by go_simp) ?_
      simp only [Act.put, List.setIfInBounds_toArray, List.set_cons_zero, List.set_cons_succ]
      refine WL.nil ?_
      refine hK13 _ _ ?_
      refine wp_ret ?_
      go_ret
      exact ⟨rfl, Bz.out⟩
    · have HAl := Keep.mk hal
      clear hal
      have HEq : Keep (na = nb) := ⟨by have h := HAl.out; unfold alT at h; simp [hna.out, hnb.out] at h; exact h.1⟩
      have htb : (t : Int) < (nb : Int) := by have := HEq.out; omega
      have hw3 : IntKind.i64.wrap ((t : Int) + 1) = ((t + 1 : Nat) : Int) := by rw [IntKind.wrap_i64]; have := HNa.out; omega
      obtain ⟨c, Hc⟩ : ∃ z, Keep (A[t]? = some z) := ⟨A[t]'(by rw [hna.out]; exact htl), ⟨List.getElem?_eq_getElem _⟩⟩
      obtain ⟨d, Hd⟩ : ∃ z, Keep (B[t]? = some z) := ⟨B[t]'(by rw [hnb.out]; omega), ⟨List.getElem?_eq_getElem _⟩⟩
      obtain ⟨ga, oa, haa, xa⟩ : ∃ ga oa, aa = some ⟨ga, oa, none⟩ ∧ CsAt w.heap.size w ga oa A := by
        rcases HA.out with ⟨a, c, e, h0⟩ | ⟨b, off, cap, e, h2, h3⟩
        · have := hna.out; rw [h0] at this; simp at this; omega
        · injection e with e _ _; exact ⟨b, off, e, h3⟩
      obtain ⟨gb, ob, hbb, xb⟩ : ∃ gb ob, ba = some ⟨gb, ob, none⟩ ∧ CsAt w.heap.size w gb ob B := by
        rcases HB.out with ⟨a, c, e, h0⟩ | ⟨b, off, cap, e, h2, h3⟩
        · have := hnb.out; rw [h0] at this; simp at this; omega
        · injection e with e _ _; exact ⟨b, off, e, h3⟩
      subst haa hbb
      have XA := Keep.mk xa
      have XB := Keep.mk xb
      clear xa xb
      refine wp_seq_k fun K14 hK14 => ?_
      refine wp_seq_k fun K15 hK15 => ?_
      refine wp_region_list (WL.out ?_)
      refine WL.val (by kernel_rfl) (.int .i64 (t : Int)) (by go_simp) ?_
      simp only [Act.put, List.setIfInBounds_toArray, List.set_cons_zero, List.set_cons_succ]
      refine WL.val (by kernel_rfl) (.slice (some ⟨ga, oa, none⟩) na kc) (by go_simp) ?_
      simp only [Act.put, List.setIfInBounds_toArray, List.set_cons_zero, List.set_cons_succ]
      refine WL.val (by kernel_rfl) (.int .i64 (na : Int)) (by go_simp) ?_
      simp only [Act.put, List.setIfInBounds_toArray, List.set_cons_zero, List.set_cons_succ]
      refine WL.val (by kernel_rfl) (.bool true) (by go_simp) ?_
      simp only [Act.put, List.setIfInBounds_toArray, List.set_cons_zero, List.set_cons_succ]
      refine WL.val (by kernel_rfl) (.bool true) (by go_simp) ?_
      simp only [Act.put, List.setIfInBounds_toArray, List.set_cons_zero, List.set_cons_succ]
      refine WL.val (by kernel_rfl) (.bool true) (by go_simp) ?_
      simp only [Act.put, List.setIfInBounds_toArray, List.set_cons_zero, List.set_cons_succ]
      refine WL.val (by kernel_rfl) (.bool true) (by go_simp) ?_
      simp only [Act.put, List.setIfInBounds_toArray, List.set_cons_zero, List.set_cons_succ]
      refine WL.nil ?_
      refine hK15 _ _ ?_
      refine wp_cond_true rfl ?_
      refine wp_skip ?_
      refine hK14 _ _ ?_
      refine wp_seq_k fun K16 hK16 => ?_
      refine wp_block ?_
      have hS0 : Keep (∀ wx, Below w.heap.size w wx → (fun wx => wx.rangeAt ga (oa + t * 3) (cvL c) ∧ wx.rangeAt gb (ob + t * 3) (cvL d)) wx) := ⟨fun wx hb => ⟨(XA.out.below hb).at_ t c Hc.out, (XB.out.below hb).at_ t d Hd.out⟩⟩
      have Pd : Keep (Blk wr.drew p 25 h1) := ⟨P9.out⟩
      have Qd : Keep (Blk wr.drew q 25 h2) := ⟨Q9.out⟩
      have Bd : Keep (Below w.heap.size w wr.drew) := ⟨B9.out.drew⟩
      clear P9 Q9 B9
      refine wp_region_held_drew (S := fun wx => wx.rangeAt ga (oa + t * 3) (cvL c) ∧ wx.rangeAt gb (ob + t * 3) (cvL d)) (by kernel_rfl) (hS0.out _ Bd.out) (fun hHeld => ?_)
      refine wpAnyH_take (i := 0) (oi := ⟨some 52, Op.move (Operand.tmp 0), 23, _, _, none⟩) (v := .slice (some ⟨ga, oa, none⟩) na kc) rfl (by kernel_rfl) (by kernel_rfl) (by kernel_rfl) (fun _ _ _ h => h) (Or.inl ⟨by rfl, fun w hS => by obtain ⟨hS1, hS2⟩ := hS; clear hS1 hS2; go_simp⟩) hHeld ?_
      simp only [Act.put, List.setIfInBounds_toArray, List.set_cons_zero, List.set_cons_succ]
      refine wpAnyH_take (i := 1) (oi := ⟨some 53, Op.move (Operand.tmp 10), 3, _, _, none⟩) (v := .int .i64 (t : Int)) rfl (by kernel_rfl) (by kernel_rfl) (by kernel_rfl) (fun _ _ _ h => h) (Or.inl ⟨by rfl, fun w hS => by obtain ⟨hS1, hS2⟩ := hS; clear hS1 hS2; go_simp⟩) hHeld ?_
      simp only [Act.put, List.setIfInBounds_toArray, List.set_cons_zero, List.set_cons_succ]
      refine wpAnyH_take (i := 4) (oi := ⟨some 56, Op.move (Operand.tmp 1), 23, _, _, none⟩) (v := .slice (some ⟨gb, ob, none⟩) nb lc) rfl (by kernel_rfl) (by kernel_rfl) (by kernel_rfl) (fun _ _ _ h => h) (Or.inl ⟨by rfl, fun w hS => by obtain ⟨hS1, hS2⟩ := hS; clear hS1 hS2; go_simp⟩) hHeld ?_
      simp only [Act.put, List.setIfInBounds_toArray, List.set_cons_zero, List.set_cons_succ]
      refine wpAnyH_take (i := 5) (oi := ⟨some 57, Op.move (Operand.tmp 10), 3, _, _, none⟩) (v := .int .i64 (t : Int)) rfl (by kernel_rfl) (by kernel_rfl) (by kernel_rfl) (fun _ _ _ h => h) (Or.inl ⟨by rfl, fun w hS => by obtain ⟨hS1, hS2⟩ := hS; clear hS1 hS2; go_simp⟩) hHeld ?_
      simp only [Act.put, List.setIfInBounds_toArray, List.set_cons_zero, List.set_cons_succ]
      refine wpAnyH_take (i := 2) (oi := ⟨some 54, Op.indexAddr 23 (Operand.tmp 52) (Operand.tmp 53), 0, _, _, none⟩) (v := .pointer (some ⟨ga, oa + t * 3, none⟩)) rfl (by kernel_rfl) (by kernel_rfl) (by kernel_rfl) (fun _ _ _ h => h) (Or.inl ⟨by rfl, fun w hS => by obtain ⟨hS1, hS2⟩ := hS; clear hS1 hS2; go_simp⟩) hHeld ?_
      simp only [Act.put, List.setIfInBounds_toArray, List.set_cons_zero, List.set_cons_succ]
      refine wpAnyH_take (i := 6) (oi := ⟨some 58, Op.indexAddr 23 (Operand.tmp 56) (Operand.tmp 57), 0, _, _, none⟩) (v := .pointer (some ⟨gb, ob + t * 3, none⟩)) rfl (by kernel_rfl) (by kernel_rfl) (by kernel_rfl) (fun _ _ _ h => h) (Or.inl ⟨by rfl, fun w hS => by obtain ⟨hS1, hS2⟩ := hS; clear hS1 hS2; go_simp⟩) hHeld ?_
      simp only [Act.put, List.setIfInBounds_toArray, List.set_cons_zero, List.set_cons_succ]
      refine wpAnyH_take (i := 3) (oi := ⟨some 55, Op.load 40 (Operand.tmp 54), 40, _, _, none⟩) (v := .agg (cvA c)) rfl (by kernel_rfl) (by kernel_rfl) (by kernel_rfl) (fun _ _ _ h => h) (yieldsIf_ld (by rfl) (Operand.tmp 54) 40 rfl ga (oa + t * 3) rfl (cvA c) _ Try.underlying40 rfl (Try.sizeC _ _ _) fun w hS => hS.1) hHeld ?_
      simp only [Act.put, List.setIfInBounds_toArray, List.set_cons_zero, List.set_cons_succ]
      refine wpAnyH_take (i := 7) (oi := ⟨some 59, Op.load 40 (Operand.tmp 58), 40, _, _, none⟩) (v := .agg (cvA d)) rfl (by kernel_rfl) (by kernel_rfl) (by kernel_rfl) (fun _ _ _ h => h) (yieldsIf_ld (by rfl) (Operand.tmp 58) 40 rfl gb (ob + t * 3) rfl (cvA d) _ Try.underlying40 rfl (Try.sizeC _ _ _) fun w hS => hS.2) hHeld ?_
      simp only [Act.put, List.setIfInBounds_toArray, List.set_cons_zero, List.set_cons_succ]
      refine wpAnyH_ready (rs := [8]) (by kernel_rfl) (by simp) ?_
      refine AllReadyH.cons (o := ⟨some 60, Op.call { callee := Callee.value (Operand.func 17), args := #[Operand.tmp 55, Operand.tmp 59], argTypes := #[40, 40] }, 4, _, _, none⟩) rfl (fun K hK => ?_) AllReadyH.nil
      rw [if_pos (by rfl)]
      refine wp_callF 17 _ _ rfl Try.in17 #[.agg (cvA c), .agg (cvA d)] (by simp [Act.eval]) (fun vz wz => vz = .bool (sameC c d) ∧ Below wr.drew.heap.size wr.drew wz) ?_ ?_
      · refine (sameC_any c d wr.drew ((XA.out.below Bd.out).row c (List.mem_of_getElem? Hc.out)).1 ((XB.out.below Bd.out).row d (List.mem_of_getElem? Hd.out)).1).mono ?_
        rintro e wz ⟨rfl, k1⟩
        exact ⟨_, rfl, rfl, k1⟩
      rintro vz wa ⟨rfl, k1⟩
      have Pa := Keep.mk (Pd.out.below k1 Pd.out.lt)
      have Qa := Keep.mk (Qd.out.below k1 Qd.out.lt)
      have Ba : Keep (Below w.heap.size w wa) := ⟨Bd.out.trans (k1.mono Bd.out.size)⟩
      clear k1 Pd Qd Bd
      refine hK _ _ (hS0.out _ Ba.out) fun hH1 => ?_
      clear hK
      simp only [Act.put, List.setIfInBounds_toArray, List.set_cons_zero, List.set_cons_succ]
      refine wpAnyH_take (i := 9) (oi := ⟨some 9, Op.assign (Operand.tmp 60), 4, _, _, none⟩) (v := .bool (sameC c d)) rfl (by kernel_rfl) (by kernel_rfl) (by kernel_rfl) (fun _ _ _ h => h) (Or.inl ⟨by rfl, fun w hS => by obtain ⟨hS1, hS2⟩ := hS; clear hS1 hS2; go_simp⟩) hH1 ?_
      simp only [Act.put, List.setIfInBounds_toArray, List.set_cons_zero, List.set_cons_succ]
      refine wpAnyH_done (by kernel_rfl) ?_ _
      refine hK16 _ _ ?_
      refine wp_region_list (WL.out ?_)
      refine WL.val (by kernel_rfl) (.int .i64 (t : Int)) (by go_simp) ?_
      simp only [Act.put, List.setIfInBounds_toArray, List.set_cons_zero, List.set_cons_succ]
      refine WL.val (by kernel_rfl) (.int .i64 ((t + 1 : Nat) : Int)) (by go_simp) ?_
      simp only [Act.put, List.setIfInBounds_toArray, List.set_cons_zero, List.set_cons_succ]
      refine WL.val (by kernel_rfl) (.int .i64 ((t + 1 : Nat) : Int)) (by go_simp) ?_
      simp only [Act.put, List.setIfInBounds_toArray, List.set_cons_zero, List.set_cons_succ]
      refine WL.nil ?_
      have hnx : sameC c d = alT A B (t + 1) := by
        rw [alT_next, HAl.out, Bool.true_and, List.getD_eq_getElem?_getD, List.getD_eq_getElem?_getD, Hc.out, Hd.out]
        rfl
      rw [hnx]
      refine ⟨⟨t + 1, fun zz => [.slice (some ⟨ga, oa, none⟩) na kc, .slice (some ⟨gb, ob, none⟩) nb lc, undef, undef, .bool false, .pointer (some ⟨p, 0, none⟩), .int .i64 0, .pointer (some ⟨q, 0, none⟩), .int .i64 0, .bool (alT A B (t + 1)), .int .i64 ((t + 1 : Nat) : Int), .tuple #[.agg h1, .int .i64 0], .slice (some ⟨ga, oa, none⟩) na kc, .tuple #[.agg h1, .int .i64 0], .agg h1, .int .i64 0, .tuple #[.agg h2, .int .i64 0], .slice (some ⟨gb, ob, none⟩) nb lc, .tuple #[.agg h2, .int .i64 0], .agg h2, .int .i64 0, .slice (some ⟨ga, oa, none⟩) na kc, .int .i64 0, .bool false, .bool false, .slice (some ⟨gb, ob, none⟩) nb lc, .int .i64 0, .bool false, .bool false, undef, undef, undef, undef, undef, undef, undef, undef, undef, .slice (some ⟨ga, oa, none⟩) na kc, .int .i64 (na : Int), .slice (some ⟨gb, ob, none⟩) nb lc, .int .i64 (nb : Int), .bool (alT A B 0), .int .i64 (t : Int), .slice (some ⟨ga, oa, none⟩) na kc, .int .i64 (na : Int), .bool true, .bool true, .bool true, .bool true, .int .i64 (t : Int), .int .i64 ((t + 1 : Nat) : Int), .slice (some ⟨ga, oa, none⟩) na kc, .int .i64 (t : Int), .pointer (some ⟨ga, oa + t * 3, none⟩), .agg (cvA c), .slice (some ⟨gb, ob, none⟩) nb lc, .int .i64 (t : Int), .pointer (some ⟨gb, ob + t * 3, none⟩), .agg (cvA d), .bool (alT A B (t + 1)), undef, undef, undef, undef, undef, undef, undef, undef, undef, undef, undef, undef, undef, undef, undef, undef, undef, undef, undef, undef].getD zz undef, rfl, by omega, Pa.out, Qa.out, Ba.out⟩, ?_⟩
      simp only [intOf]; show na - (((t + 1 : Nat) : Int)).toNat < na - ((t : Int)).toNat; omega
  · have htl' : ¬ (t : Int) < (na : Int) := by omega
    cases hal : alT A B t
    · have HF : Keep (alT A B na = false) := ⟨by rw [← hal]; congr 1; omega⟩
      clear hal
      refine wp_seq_k fun K17 hK17 => ?_
      refine wp_seq_k fun K18 hK18 => ?_
      refine wp_region_list (WL.out ?_)
      refine WL.val (by kernel_rfl) (.int .i64 (t : Int)) (by go_simp) ?_
      simp only [Act.put, List.setIfInBounds_toArray, List.set_cons_zero, List.set_cons_succ]
      refine WL.val (by kernel_rfl) (.slice aa na kc) (by go_simp) ?_
      simp only [Act.put, List.setIfInBounds_toArray, List.set_cons_zero, List.set_cons_succ]
      refine WL.val (by kernel_rfl) (.int .i64 (na : Int)) (by go_simp) ?_
      simp only [Act.put, List.setIfInBounds_toArray, List.set_cons_zero, List.set_cons_succ]
      refine WL.val (by kernel_rfl) (.bool false) (by go_simp) ?_
      simp only [Act.put, List.setIfInBounds_toArray, List.set_cons_zero, List.set_cons_succ]
      refine WL.val (by kernel_rfl) (.bool false) (by go_simp) ?_
      simp only [Act.put, List.setIfInBounds_toArray, List.set_cons_zero, List.set_cons_succ]
      refine WL.skip (by kernel_rfl) ?_
      simp only [Act.put, List.setIfInBounds_toArray, List.set_cons_zero, List.set_cons_succ]
      refine WL.val (by kernel_rfl) (.bool false) (by go_simp) ?_
      simp only [Act.put, List.setIfInBounds_toArray, List.set_cons_zero, List.set_cons_succ]
      refine WL.nil ?_
      refine hK18 _ _ ?_
      refine wp_cond_false rfl ?_
      refine wp_exit ?_
      refine hK7 _ _ ?_
      refine wp_seq_k fun K19 hK19 => ?_
      refine wp_seq_k fun K20 hK20 => ?_
      refine wp_region_list (WL.out ?_)
      refine WL.val (by kernel_rfl) (.int .i64 0) (by go_simp) ?_
      simp only [Act.put, List.setIfInBounds_toArray, List.set_cons_zero, List.set_cons_succ]
      refine WL.val (by kernel_rfl) (.bool false) (by go_simp) ?_
      simp only [Act.put, List.setIfInBounds_toArray, List.set_cons_zero, List.set_cons_succ]
      refine WL.val (by kernel_rfl) (.bool false) (by go_simp) ?_
      simp only [Act.put, List.setIfInBounds_toArray, List.set_cons_zero, List.set_cons_succ]
      refine WL.val (by kernel_rfl) (.int .i64 0) (by go_simp) ?_
      simp only [Act.put, List.setIfInBounds_toArray, List.set_cons_zero, List.set_cons_succ]
      refine WL.val (by kernel_rfl) (.bool false) (by go_simp) ?_
      simp only [Act.put, List.setIfInBounds_toArray, List.set_cons_zero, List.set_cons_succ]
      refine WL.val (by kernel_rfl) (.bool false) (by go_simp) ?_
      simp only [Act.put, List.setIfInBounds_toArray, List.set_cons_zero, List.set_cons_succ]
      refine WL.val (by kernel_rfl) (.bool false) (by go_simp) ?_
      simp only [Act.put, List.setIfInBounds_toArray, List.set_cons_zero, List.set_cons_succ]
      refine WL.val (by kernel_rfl) (.bool false) (by go_simp) ?_
      simp only [Act.put, List.setIfInBounds_toArray, List.set_cons_zero, List.set_cons_succ]
      refine WL.row (by kernel_rfl) 25 (.tmp 5) rfl p rfl 25 h1 _ P9.out Try.underlying25 rfl (by rw [h1e.out]; exact Try.size25B _) ?_
      simp only [Act.put, List.setIfInBounds_toArray, List.set_cons_zero, List.set_cons_succ]
      refine WL.row (by kernel_rfl) 25 (.tmp 7) rfl q rfl 25 h2 _ Q9.out Try.underlying25 rfl (by rw [h2e.out]; exact Try.size25B _) ?_
      simp only [Act.put, List.setIfInBounds_toArray, List.set_cons_zero, List.set_cons_succ]
      refine WL.val (by kernel_rfl) (.bool true) (by have hq_ := eqB h1x.out h2x.out hsm.out wr; go_simp) ?_
      simp only [Act.put, List.setIfInBounds_toArray, List.set_cons_zero, List.set_cons_succ]
      refine WL.val (by kernel_rfl) (.bool true) (by go_simp) ?_
      simp only [Act.put, List.setIfInBounds_toArray, List.set_cons_zero, List.set_cons_succ]
      refine WL.val (by kernel_rfl) (.bool true) (by go_simp) ?_
      simp only [Act.put, List.setIfInBounds_toArray, List.set_cons_zero, List.set_cons_succ]
      refine WL.val (by kernel_rfl) (.slice aa na kc) (by go_simp) ?_
      simp only [Act.put, List.setIfInBounds_toArray, List.set_cons_zero, List.set_cons_succ]
      refine WL.val (by kernel_rfl) (.slice ba nb lc) (by go_simp) ?_
      simp only [Act.put, List.setIfInBounds_toArray, List.set_cons_zero, List.set_cons_succ]
      have hcl : RtP.Cl shaL (rootS A ++ rootS B) := unlike_cl HFa.out HFb.out HBa.out HBb.out (by rw [hna.out]; have := HNa.out; omega) (by rw [hnb.out]; have := HNb.out; omega) (by rw [hna.out, HF.out, ← hxa.out, ← hxb.out, hsm.out]; decide)
      refine WL.callF (by kernel_rfl) 21 _ _ rfl Try.in21 #[.slice aa na kc, .slice ba nb lc] (by simp [Act.eval]) ?_
      refine (meet_any _ _ A B wr ((HA.out.below B9.out).mono B9.out.size) ((HB.out.below B9.out).mono B9.out.size) HFa.out HFb.out HBa.out HBb.out (by rw [hna.out]; exact HNa.out) (by rw [hnb.out]; exact HNb.out)).mono ?_
      rintro e wm ⟨bb, rfl, k1, k2⟩
      refine ⟨_, rfl, ?_⟩
      obtain rfl : bb = true := k1 hcl
      have Bm : Keep (Below w.heap.size w wm) := ⟨B9.out.trans (k2.mono B9.out.size)⟩
      clear k1 k2 hcl
      simp only [Act.put, List.setIfInBounds_toArray, List.set_cons_zero, List.set_cons_succ]
      refine WL.val (by kernel_rfl) (.bool false) (by go_simp) ?_
      simp only [Act.put, List.setIfInBounds_toArray, List.set_cons_zero, List.set_cons_succ]
      refine WL.val (by kernel_rfl) (.bool false) (by go_simp) ?_
      simp only [Act.put, List.setIfInBounds_toArray, List.set_cons_zero, List.set_cons_succ]
      refine WL.val (by kernel_rfl) (.bool false) (by go_simp) ?_
      simp only [Act.put, List.setIfInBounds_toArray, List.set_cons_zero, List.set_cons_succ]
      refine WL.nil ?_
      refine hK20 _ _ ?_
      refine wp_cond_false rfl ?_
      refine wp_skip ?_
      refine hK19 _ _ ?_
      refine wp_seq_k fun K21 hK21 => ?_
      refine wp_region_list (WL.out ?_)
      refine WL.callF (by kernel_rfl) 9 _ _ rfl Try.in9 #[] (by simp) ?_
      refine (fixed_any wm).mono ?_
      rintro e wz ⟨rfl, k1⟩
      refine ⟨_, rfl, ?_⟩
      have Bz : Keep (Below w.heap.size w wz) := ⟨Bm.out.trans (k1.mono Bm.out.size)⟩
      clear k1
      simp only [Act.put, List.setIfInBounds_toArray, List.set_cons_zero, List.set_cons_succ]
      refine WL.val (by kernel_rfl) (.bool true) (by go_simp) ?_
      simp only [Act.put, List.setIfInBounds_toArray, List.set_cons_zero, List.set_cons_succ]
      refine WL.nil ?_
      refine hK21 _ _ ?_
      refine wp_ret ?_
      go_ret
      exact ⟨rfl, Bz.out⟩
    · have HF : Keep (alT A B na = true) := ⟨by rw [← hal]; congr 1; omega⟩
      clear hal
      refine wp_seq_k fun K22 hK22 => ?_
      refine wp_seq_k fun K23 hK23 => ?_
      refine wp_region_list (WL.out ?_)
      refine WL.val (by kernel_rfl) (.int .i64 (t : Int)) (by go_simp) ?_
      simp only [Act.put, List.setIfInBounds_toArray, List.set_cons_zero, List.set_cons_succ]
      refine WL.val (by kernel_rfl) (.slice aa na kc) (by go_simp) ?_
      simp only [Act.put, List.setIfInBounds_toArray, List.set_cons_zero, List.set_cons_succ]
      refine WL.val (by kernel_rfl) (.int .i64 (na : Int)) (by go_simp) ?_
      simp only [Act.put, List.setIfInBounds_toArray, List.set_cons_zero, List.set_cons_succ]
      refine WL.val (by kernel_rfl) (.bool false) (by go_simp) ?_
      simp only [Act.put, List.setIfInBounds_toArray, List.set_cons_zero, List.set_cons_succ]
      refine WL.val (by kernel_rfl) (.bool false) (by go_simp) ?_
      simp only [Act.put, List.setIfInBounds_toArray, List.set_cons_zero, List.set_cons_succ]
      refine WL.skip (by kernel_rfl) ?_
      simp only [Act.put, List.setIfInBounds_toArray, List.set_cons_zero, List.set_cons_succ]
      refine WL.val (by kernel_rfl) (.bool false) (by go_simp) ?_
      simp only [Act.put, List.setIfInBounds_toArray, List.set_cons_zero, List.set_cons_succ]
      refine WL.nil ?_
      refine hK23 _ _ ?_
      refine wp_cond_false rfl ?_
      refine wp_exit ?_
      refine hK7 _ _ ?_
      refine wp_seq_k fun K24 hK24 => ?_
      refine wp_seq_k fun K25 hK25 => ?_
      refine wp_region_list (WL.out ?_)
      refine WL.val (by kernel_rfl) (.int .i64 0) (by go_simp) ?_
      simp only [Act.put, List.setIfInBounds_toArray, List.set_cons_zero, List.set_cons_succ]
      refine WL.val (by kernel_rfl) (.bool false) (by go_simp) ?_
      simp only [Act.put, List.setIfInBounds_toArray, List.set_cons_zero, List.set_cons_succ]
      refine WL.val (by kernel_rfl) (.bool false) (by go_simp) ?_
      simp only [Act.put, List.setIfInBounds_toArray, List.set_cons_zero, List.set_cons_succ]
      refine WL.val (by kernel_rfl) (.int .i64 0) (by go_simp) ?_
      simp only [Act.put, List.setIfInBounds_toArray, List.set_cons_zero, List.set_cons_succ]
      refine WL.val (by kernel_rfl) (.bool false) (by go_simp) ?_
      simp only [Act.put, List.setIfInBounds_toArray, List.set_cons_zero, List.set_cons_succ]
      refine WL.val (by kernel_rfl) (.bool false) (by go_simp) ?_
      simp only [Act.put, List.setIfInBounds_toArray, List.set_cons_zero, List.set_cons_succ]
      refine WL.val (by kernel_rfl) (.bool false) (by go_simp) ?_
      simp only [Act.put, List.setIfInBounds_toArray, List.set_cons_zero, List.set_cons_succ]
      refine WL.val (by kernel_rfl) (.bool true) (by go_simp) ?_
      simp only [Act.put, List.setIfInBounds_toArray, List.set_cons_zero, List.set_cons_succ]
      refine WL.row (by kernel_rfl) 25 (.tmp 5) rfl p rfl 25 h1 _ P9.out Try.underlying25 rfl (by rw [h1e.out]; exact Try.size25B _) ?_
      simp only [Act.put, List.setIfInBounds_toArray, List.set_cons_zero, List.set_cons_succ]
      refine WL.row (by kernel_rfl) 25 (.tmp 7) rfl q rfl 25 h2 _ Q9.out Try.underlying25 rfl (by rw [h2e.out]; exact Try.size25B _) ?_
      simp only [Act.put, List.setIfInBounds_toArray, List.set_cons_zero, List.set_cons_succ]
      refine WL.val (by kernel_rfl) (.bool true) (by have hq_ := eqB h1x.out h2x.out hsm.out wr; go_simp) ?_
      simp only [Act.put, List.setIfInBounds_toArray, List.set_cons_zero, List.set_cons_succ]
      refine WL.val (by kernel_rfl) (.bool false) (by go_simp) ?_
      simp only [Act.put, List.setIfInBounds_toArray, List.set_cons_zero, List.set_cons_succ]
      refine WL.val (by kernel_rfl) (.bool false) (by go_simp) ?_
      simp only [Act.put, List.setIfInBounds_toArray, List.set_cons_zero, List.set_cons_succ]
      refine WL.skip (by kernel_rfl) ?_
      simp only [Act.put, List.setIfInBounds_toArray, List.set_cons_zero, List.set_cons_succ]
      refine WL.skip (by kernel_rfl) ?_
      simp only [Act.put, List.setIfInBounds_toArray, List.set_cons_zero, List.set_cons_succ]
      refine WL.skip (by kernel_rfl) ?_
      simp only [Act.put, List.setIfInBounds_toArray, List.set_cons_zero, List.set_cons_succ]
      refine WL.skip (by kernel_rfl) ?_
      simp only [Act.put, List.setIfInBounds_toArray, List.set_cons_zero, List.set_cons_succ]
      refine WL.val (by kernel_rfl) (.bool false) (by go_simp) ?_
      simp only [Act.put, List.setIfInBounds_toArray, List.set_cons_zero, List.set_cons_succ]
      refine WL.val (by kernel_rfl) (.bool false) (by go_simp) ?_
      simp only [Act.put, List.setIfInBounds_toArray, List.set_cons_zero, List.set_cons_succ]
      refine WL.nil ?_
      refine hK25 _ _ ?_
      refine wp_cond_false rfl ?_
      refine wp_skip ?_
      refine hK24 _ _ ?_
      refine wp_seq_k fun K26 hK26 => ?_
      refine wp_region_list (WL.out ?_)
      refine WL.callF (by kernel_rfl) 9 _ _ rfl Try.in9 #[] (by simp) ?_
      refine (fixed_any wr).mono ?_
      rintro e wz ⟨rfl, k1⟩
      refine ⟨_, rfl, ?_⟩
      have Bz : Keep (Below w.heap.size w wz) := ⟨B9.out.trans (k1.mono B9.out.size)⟩
      clear k1
      simp only [Act.put, List.setIfInBounds_toArray, List.set_cons_zero, List.set_cons_succ]
      refine WL.val (by kernel_rfl) (.bool true) (by go_simp) ?_
      simp only [Act.put, List.setIfInBounds_toArray, List.set_cons_zero, List.set_cons_succ]
      refine WL.nil ?_
      refine hK26 _ _ ?_
      refine wp_ret ?_
      go_ret
      exact ⟨rfl, Bz.out⟩
set_option maxRecDepth 8000 in
set_option maxHeartbeats 1000000 in
theorem unlike_n (aa ba : Option Addr) (na kc nb lc : Nat) (A B : List CV) (w : World) (hna : Keep (A.length = na)) (hnb : Keep (B.length = nb)) (hA : CsV w.heap.size w (.slice aa na kc) A) (hB : CsV w.heap.size w (.slice ba nb lc) B) (hNa : na ≤ 549755813888) (hNb : nb ≤ 549755813888) (hSa : Sml A) (hSb : Sml B) (hwa : Keep (wrongI A = 0)) (hwb : Keep (wrongI B = 0)) (hBa : ∀ c ∈ A, Byts c.l) (hBb : ∀ c ∈ B, Byts c.l) (xa xb : Hs) (hxa : Keep (xa = shaH (rootL A))) (hxb : Keep (xb = shaH (rootL B))) (hsm : Keep (decide (xa = xb) = false)) : Calls Try.prog 8 #[.slice aa na kc, .slice ba nb lc] w fun e w' => e = .returned (.bool true) ∧ Below w.heap.size w w' := by
  have HFa : Keep (Fit A) := ⟨fit_of (okK_of hwa.out) hSa⟩
  have HFb : Keep (Fit B) := ⟨fit_of (okK_of hwb.out) hSb⟩
  have HBa := Keep.mk hBa
  have HBb := Keep.mk hBb
  clear hBa hBb
  have HA := Keep.mk hA
  have HB := Keep.mk hB
  have HNa := Keep.mk hNa
  have HNb := Keep.mk hNb
  have HSa := Keep.mk hSa
  have HSb := Keep.mk hSb
  obtain ⟨h1, h1e⟩ : ∃ z : Array Value, Keep (z = bytesA 32 (rootF A)) := ⟨_, ⟨rfl⟩⟩
  obtain ⟨h2, h2e⟩ : ∃ z : Array Value, Keep (z = bytesA 32 (rootF B)) := ⟨_, ⟨rfl⟩⟩
  clear hA hB hNa hNb hSa hSb
  have h1x : Keep (h1 = bytesA 32 xa.f) := ⟨by rw [h1e.out, hxa.out, rootF, hwa.out, if_pos rfl, shaH_arr, encH_arr]⟩
  have h2x : Keep (h2 = bytesA 32 xb.f) := ⟨by rw [h2e.out, hxb.out, rootF, hwb.out, if_pos rfl, shaH_arr, encH_arr]⟩
  go_enter Try.func8, Try.ntmps8
  refine wp_seq_k fun K1 hK1 => ?_
  refine wp_region_list (WL.out ?_)
  refine WL.val (by kernel_rfl) (.bool false) (by go_simp) ?_
  simp only [Act.put, List.setIfInBounds_toArray, List.set_cons_zero, List.set_cons_succ]
  refine WL.nil ?_
  refine hK1 _ _ ?_
  refine wp_seq_k fun K2 hK2 => ?_
  refine wp_region_list (WL.out ?_)
  refine WL.val (by kernel_rfl) (.slice aa na kc) (by go_simp) ?_
  simp only [Act.put, List.setIfInBounds_toArray, List.set_cons_zero, List.set_cons_succ]
  have hr1 := pRoot_any _ A w HA.out HSa.out (by rw [hna.out]; have := HNa.out; omega)
  rw [← h1e.out, hwa.out] at hr1
  refine WL.callF (by kernel_rfl) 10 _ _ rfl Try.in10 #[.slice aa na kc] (by simp [Act.eval]) ?_
  refine (hr1).mono ?_
  rintro e w1 ⟨rfl, k1⟩
  refine ⟨_, rfl, ?_⟩
  have B1 := Keep.mk k1
  clear hr1 k1
  simp only [Act.put, List.setIfInBounds_toArray, List.set_cons_zero, List.set_cons_succ]
  refine WL.val (by kernel_rfl) (.tuple #[.agg h1, .int .i64 0]) (by go_simp) ?_
  simp only [Act.put, List.setIfInBounds_toArray, List.set_cons_zero, List.set_cons_succ]
  refine WL.val (by kernel_rfl) (.agg h1) (by go_simp) ?_
  simp only [Act.put, List.setIfInBounds_toArray, List.set_cons_zero, List.set_cons_succ]
  refine WL.val (by kernel_rfl) (.int .i64 0) (by go_simp) ?_
  simp only [Act.put, List.setIfInBounds_toArray, List.set_cons_zero, List.set_cons_succ]
  refine WL.new (by kernel_rfl) 25 rfl _ Try.new25 ?_
  have P2 := Keep.mk (Blk.new w1 25 (bytesA 32 fun _ => 0))
  have b_ := below_new w1 (.cells (bytesA 32 fun _ => 0) 25)
  change WL _ _ _ _ _ (w1.alloc (.cells (bytesA 32 fun _ => 0) 25))
  generalize w1.alloc (.cells (bytesA 32 fun _ => 0) 25) = w2 at *
  obtain ⟨p, hp⟩ : ∃ z, Keep (z = w1.heap.size) := ⟨_, ⟨rfl⟩⟩
  rw [← hp.out] at P2 ⊢
  have B2 : Keep (Below w.heap.size w w2) := ⟨B1.out.trans (b_.mono B1.out.size)⟩
  have gp : Keep (w.heap.size ≤ p) := ⟨by rw [hp.out]; exact B1.out.size⟩
  clear b_
  simp only [Act.put, List.setIfInBounds_toArray, List.set_cons_zero, List.set_cons_succ]
  refine WL.storeR (by kernel_rfl) 25 (.tmp 5) (.tmp 14) rfl p h1 rfl rfl 25 (bytesA 32 fun _ => 0) P2.out (by rw [h1e.out]; exact Try.size25B _) (by simp [h1e.out, bytesA_size]) (by rw [h1e.out]; exact bytesA_one _ _) ?_
  have P3 := Keep.mk (P2.out.setRow h1)
  have B3 : Keep (Below w.heap.size w (w2.setRow p h1)) := ⟨below_setRow B2.out gp.out _⟩
  generalize w2.setRow p h1 = w3 at *
  simp only [Act.put]
  refine WL.val (by kernel_rfl) (.int .i64 0) (by go_simp) ?_
  simp only [Act.put, List.setIfInBounds_toArray, List.set_cons_zero, List.set_cons_succ]
  refine WL.nil ?_
  refine hK2 _ _ ?_
  refine wp_seq_k fun K3 hK3 => ?_
  refine wp_region_list (WL.out ?_)
  refine WL.val (by kernel_rfl) (.slice ba nb lc) (by go_simp) ?_
  simp only [Act.put, List.setIfInBounds_toArray, List.set_cons_zero, List.set_cons_succ]
  have hr2 := pRoot_any _ B w3 ((HB.out.below B3.out).mono B3.out.size) HSb.out (by rw [hnb.out]; have := HNb.out; omega)
  rw [← h2e.out, hwb.out] at hr2
  refine WL.callF (by kernel_rfl) 10 _ _ rfl Try.in10 #[.slice ba nb lc] (by simp [Act.eval]) ?_
  refine (hr2).mono ?_
  rintro e w4 ⟨rfl, k1⟩
  refine ⟨_, rfl, ?_⟩
  have P4 := Keep.mk (P3.out.below k1 P3.out.lt)
  have B4 : Keep (Below w.heap.size w w4) := ⟨B3.out.trans (k1.mono B3.out.size)⟩
  clear hr2 k1
  simp only [Act.put, List.setIfInBounds_toArray, List.set_cons_zero, List.set_cons_succ]
  refine WL.val (by kernel_rfl) (.tuple #[.agg h2, .int .i64 0]) (by go_simp) ?_
  simp only [Act.put, List.setIfInBounds_toArray, List.set_cons_zero, List.set_cons_succ]
  refine WL.val (by kernel_rfl) (.agg h2) (by go_simp) ?_
  simp only [Act.put, List.setIfInBounds_toArray, List.set_cons_zero, List.set_cons_succ]
  refine WL.val (by kernel_rfl) (.int .i64 0) (by go_simp) ?_
  simp only [Act.put, List.setIfInBounds_toArray, List.set_cons_zero, List.set_cons_succ]
  refine WL.new (by kernel_rfl) 25 rfl _ Try.new25 ?_
  have Q5 := Keep.mk (Blk.new w4 25 (bytesA 32 fun _ => 0))
  have b_ := below_new w4 (.cells (bytesA 32 fun _ => 0) 25)
  change WL _ _ _ _ _ (w4.alloc (.cells (bytesA 32 fun _ => 0) 25))
  generalize w4.alloc (.cells (bytesA 32 fun _ => 0) 25) = w5 at *
  obtain ⟨q, hq⟩ : ∃ z, Keep (z = w4.heap.size) := ⟨_, ⟨rfl⟩⟩
  rw [← hq.out] at Q5 ⊢
  have B5 : Keep (Below w.heap.size w w5) := ⟨B4.out.trans (b_.mono B4.out.size)⟩
  have gq : Keep (w.heap.size ≤ q) := ⟨by rw [hq.out]; exact B4.out.size⟩
  have P5 := Keep.mk (P4.out.below b_ P4.out.lt)
  have neq : Keep (p ≠ q) := ⟨by have := P4.out.lt; have := hq.out; omega⟩
  clear b_
  simp only [Act.put, List.setIfInBounds_toArray, List.set_cons_zero, List.set_cons_succ]
  refine WL.storeR (by kernel_rfl) 25 (.tmp 7) (.tmp 19) rfl q h2 rfl rfl 25 (bytesA 32 fun _ => 0) Q5.out (by rw [h2e.out]; exact Try.size25B _) (by simp [h2e.out, bytesA_size]) (by rw [h2e.out]; exact bytesA_one _ _) ?_
  have Q6 := Keep.mk (Q5.out.setRow h2)
  have B6 : Keep (Below w.heap.size w (w5.setRow q h2)) := ⟨below_setRow B5.out gq.out _⟩
  have P6 := Keep.mk (P5.out.setRow_ne neq.out h2)
  generalize w5.setRow q h2 = w6 at *
  simp only [Act.put]
  refine WL.val (by kernel_rfl) (.int .i64 0) (by go_simp) ?_
  simp only [Act.put, List.setIfInBounds_toArray, List.set_cons_zero, List.set_cons_succ]
  refine WL.nil ?_
  refine hK3 _ _ ?_
  refine wp_seq_k fun K4 hK4 => ?_
  refine wp_seq_k fun K5 hK5 => ?_
  refine wp_region_list (WL.out ?_)
  refine WL.val (by kernel_rfl) (.slice aa na kc) (by go_simp) ?_
  simp only [Act.put, List.setIfInBounds_toArray, List.set_cons_zero, List.set_cons_succ]
  refine WL.callF (by kernel_rfl) 18 _ _ rfl Try.in18 #[.slice aa na kc] (by simp [Act.eval]) ?_
  refine (wrong_any w.heap.size _ A w6 (HA.out.below B6.out) B6.out.size (by rw [hna.out]; have := HNa.out; omega)).mono ?_
  rintro e w7 ⟨rfl, k1⟩
  refine ⟨_, rfl, ?_⟩
  rw [hwa.out]
  have P7 := Keep.mk (P6.out.below k1 P6.out.lt)
  have Q7 := Keep.mk (Q6.out.below k1 Q6.out.lt)
  have B7 : Keep (Below w.heap.size w w7) := ⟨B6.out.trans (k1.mono B6.out.size)⟩
  clear k1
  simp only [Act.put, List.setIfInBounds_toArray, List.set_cons_zero, List.set_cons_succ]
  refine WL.val (by kernel_rfl) (.bool false) (by go_simp) ?_
  simp only [Act.put, List.setIfInBounds_toArray, List.set_cons_zero, List.set_cons_succ]
  refine WL.val (by kernel_rfl) (.bool false) (by go_simp) ?_
  simp only [Act.put, List.setIfInBounds_toArray, List.set_cons_zero, List.set_cons_succ]
  refine WL.val (by kernel_rfl) (.slice ba nb lc) (by go_simp) ?_
  simp only [Act.put, List.setIfInBounds_toArray, List.set_cons_zero, List.set_cons_succ]
  refine WL.callF (by kernel_rfl) 18 _ _ rfl Try.in18 #[.slice ba nb lc] (by simp [Act.eval]) ?_
  refine (wrong_any w.heap.size _ B w7 (HB.out.below B7.out) B7.out.size (by rw [hnb.out]; have := HNb.out; omega)).mono ?_
  rintro e w8 ⟨rfl, k1⟩
  refine ⟨_, rfl, ?_⟩
  rw [hwb.out]
  have P8 := Keep.mk (P7.out.below k1 P7.out.lt)
  have Q8 := Keep.mk (Q7.out.below k1 Q7.out.lt)
  have B8 : Keep (Below w.heap.size w w8) := ⟨B7.out.trans (k1.mono B7.out.size)⟩
  clear k1
  simp only [Act.put, List.setIfInBounds_toArray, List.set_cons_zero, List.set_cons_succ]
  refine WL.val (by kernel_rfl) (.bool false) (by go_simp) ?_
  simp only [Act.put, List.setIfInBounds_toArray, List.set_cons_zero, List.set_cons_succ]
  refine WL.val (by kernel_rfl) (.bool false) (by go_simp) ?_
  simp only [Act.put, List.setIfInBounds_toArray, List.set_cons_zero, List.set_cons_succ]
  refine WL.nil ?_
  refine hK5 _ _ ?_
  refine wp_cond_false rfl ?_
  refine wp_skip ?_
  refine hK4 _ _ ?_
  refine wp_seq_k fun K6 hK6 => ?_
  refine wp_region_list (WL.out ?_)
  refine WL.val (by kernel_rfl) (.slice aa na kc) (by go_simp) ?_
  simp only [Act.put, List.setIfInBounds_toArray, List.set_cons_zero, List.set_cons_succ]
  refine WL.val (by kernel_rfl) (.int .i64 (na : Int)) (by go_simp) ?_
  simp only [Act.put, List.setIfInBounds_toArray, List.set_cons_zero, List.set_cons_succ]
  refine WL.val (by kernel_rfl) (.slice ba nb lc) (by go_simp) ?_
  simp only [Act.put, List.setIfInBounds_toArray, List.set_cons_zero, List.set_cons_succ]
  refine WL.val (by kernel_rfl) (.int .i64 (nb : Int)) (by go_simp) ?_
  simp only [Act.put, List.setIfInBounds_toArray, List.set_cons_zero, List.set_cons_succ]
  have hal0 : ((na : Int) == (nb : Int)) = alT A B 0 := by
    unfold alT
    rw [hna.out, hnb.out, Bool.eq_iff_iff]
    simp
    omega
  refine WL.val (by kernel_rfl) (.bool (alT A B 0)) (by rw [← hal0]; go_simp) ?_
  clear hal0
  simp only [Act.put, List.setIfInBounds_toArray, List.set_cons_zero, List.set_cons_succ]
  refine WL.val (by kernel_rfl) (.bool (alT A B 0)) (by go_simp) ?_
  simp only [Act.put, List.setIfInBounds_toArray, List.set_cons_zero, List.set_cons_succ]
  refine WL.nil ?_
  refine hK6 _ _ ?_
  refine wp_seq_k fun K7 hK7 => ?_
  refine wp_seq_k fun K8 hK8 => ?_
  refine wp_region_list (WL.out ?_)
  refine WL.val (by kernel_rfl) (.int .i64 0) (by go_simp) ?_
  simp only [Act.put, List.setIfInBounds_toArray, List.set_cons_zero, List.set_cons_succ]
  refine WL.nil ?_
  refine hK8 _ _ ?_
  refine wp_block ?_
  refine wp_loop (fun ac wr => ∃ (t : Nat) (f : Nat → Value), ac = { tmps := #[.slice aa na kc, .slice ba nb lc, undef, undef, .bool false, .pointer (some ⟨p, 0, none⟩), .int .i64 0, .pointer (some ⟨q, 0, none⟩), .int .i64 0, .bool (alT A B t), .int .i64 (t : Int), .tuple #[.agg h1, .int .i64 0], .slice aa na kc, .tuple #[.agg h1, .int .i64 0], .agg h1, .int .i64 0, .tuple #[.agg h2, .int .i64 0], .slice ba nb lc, .tuple #[.agg h2, .int .i64 0], .agg h2, .int .i64 0, .slice aa na kc, .int .i64 0, .bool false, .bool false, .slice ba nb lc, .int .i64 0, .bool false, .bool false, undef, undef, undef, undef, undef, undef, undef, undef, undef, .slice aa na kc, .int .i64 (na : Int), .slice ba nb lc, .int .i64 (nb : Int), .bool (alT A B 0), f 43, f 44, f 45, f 46, f 47, f 48, f 49, f 50, f 51, f 52, f 53, f 54, f 55, f 56, f 57, f 58, f 59, f 60, undef, undef, undef, undef, undef, undef, undef, undef, undef, undef, undef, undef, undef, undef, undef, undef, undef, undef, undef, undef], defers := [] } ∧ t ≤ na ∧ Blk wr p 25 h1 ∧ Blk wr q 25 h2 ∧ Below w.heap.size w wr) (fun a _ => na - (intOf (a.tmps.getD 10 undef)).toNat) ⟨0, fun zz => [.slice aa na kc, .slice ba nb lc, undef, undef, .bool false, .pointer (some ⟨p, 0, none⟩), .int .i64 0, .pointer (some ⟨q, 0, none⟩), .int .i64 0, .bool (alT A B 0), .int .i64 0, .tuple #[.agg h1, .int .i64 0], .slice aa na kc, .tuple #[.agg h1, .int .i64 0], .agg h1, .int .i64 0, .tuple #[.agg h2, .int .i64 0], .slice ba nb lc, .tuple #[.agg h2, .int .i64 0], .agg h2, .int .i64 0, .slice aa na kc, .int .i64 0, .bool false, .bool false, .slice ba nb lc, .int .i64 0, .bool false, .bool false, undef, undef, undef, undef, undef, undef, undef, undef, undef, .slice aa na kc, .int .i64 (na : Int), .slice ba nb lc, .int .i64 (nb : Int), .bool (alT A B 0), undef, undef, undef, undef, undef, undef, undef, undef, undef, undef, undef, undef, undef, undef, undef, undef, undef, undef, undef, undef, undef, undef, undef, undef, undef, undef, undef, undef, undef, undef, undef, undef, undef, undef, undef, undef, undef, undef].getD zz undef, rfl, by omega, P8.out, Q8.out, B8.out⟩ ?_
  rintro ac wr ⟨t, f, rfl, ht, hP, hQ, hb⟩
  have P9 := Keep.mk hP
  have Q9 := Keep.mk hQ
  have B9 := Keep.mk hb
  clear hP hQ hb
  by_cases htl : t < na
  · have htl' : (t : Int) < (na : Int) := by omega
    cases hal : alT A B t
    · have HF : Keep (alT A B na = false) := ⟨alT_false hal na (by omega)⟩
      clear hal
      refine wp_seq_k fun K9 hK9 => ?_
      refine wp_seq_k fun K10 hK10 => ?_
      refine wp_region_list (WL.out ?_)
      refine WL.val (by kernel_rfl) (.int .i64 (t : Int)) (by go_simp) ?_
      simp only [Act.put, List.setIfInBounds_toArray, List.set_cons_zero, List.set_cons_succ]
      refine WL.val (by kernel_rfl) (.slice aa na kc) (by go_simp) ?_
      simp only [Act.put, List.setIfInBounds_toArray, List.set_cons_zero, List.set_cons_succ]
      refine WL.val (by kernel_rfl) (.int .i64 (na : Int)) (by go_simp) ?_
      simp only [Act.put, List.setIfInBounds_toArray, List.set_cons_zero, List.set_cons_succ]
      refine WL.val (by kernel_rfl) (.bool true) (by go_simp) ?_
      simp only [Act.put, List.setIfInBounds_toArray, List.set_cons_zero, List.set_cons_succ]
      refine WL.val (by kernel_rfl) (.bool true) (by go_simp) ?_
      simp only [Act.put, List.setIfInBounds_toArray, List.set_cons_zero, List.set_cons_succ]
      refine WL.val (by kernel_rfl) (.bool false) (by go_simp) ?_
      simp only [Act.put, List.setIfInBounds_toArray, List.set_cons_zero, List.set_cons_succ]
      refine WL.val (by kernel_rfl) (.bool false) (by go_simp) ?_
      simp only [Act.put, List.setIfInBounds_toArray, List.set_cons_zero, List.set_cons_succ]
      refine WL.nil ?_
      refine hK10 _ _ ?_
      refine wp_cond_false rfl ?_
      refine wp_exit ?_
      refine hK7 _ _ ?_
      refine wp_seq_k fun K11 hK11 => ?_
      refine wp_seq_k fun K12 hK12 => ?_
      refine wp_region_list (WL.out ?_)
      refine WL.val (by kernel_rfl) (.int .i64 0) (by go_simp) ?_
      simp only [Act.put, List.setIfInBounds_toArray, List.set_cons_zero, List.set_cons_succ]
      refine WL.val (by kernel_rfl) (.bool false) (by go_simp) ?_
      simp only [Act.put, List.setIfInBounds_toArray, List.set_cons_zero, List.set_cons_succ]
      refine WL.val (by kernel_rfl) (.bool false) (by go_simp) ?_
      simp only [Act.put, List.setIfInBounds_toArray, List.set_cons_zero, List.set_cons_succ]
      refine WL.val (by kernel_rfl) (.int .i64 0) (by go_simp) ?_
      simp only [Act.put, List.setIfInBounds_toArray, List.set_cons_zero, List.set_cons_succ]
      refine WL.val (by kernel_rfl) (.bool false) (by go_simp) ?_
      simp only [Act.put, List.setIfInBounds_toArray, List.set_cons_zero, List.set_cons_succ]
      refine WL.val (by kernel_rfl) (.bool false) (by go_simp) ?_
      simp only [Act.put, List.setIfInBounds_toArray, List.set_cons_zero, List.set_cons_succ]
      refine WL.val (by kernel_rfl) (.bool false) (by go_simp) ?_
      simp only [Act.put, List.setIfInBounds_toArray, List.set_cons_zero, List.set_cons_succ]
      refine WL.val (by kernel_rfl) (.bool false) (by go_simp) ?_
      simp only [Act.put, List.setIfInBounds_toArray, List.set_cons_zero, List.set_cons_succ]
      refine WL.row (by kernel_rfl) 25 (.tmp 5) rfl p rfl 25 h1 _ P9.out Try.underlying25 rfl (by rw [h1e.out]; exact Try.size25B _) ?_
      simp only [Act.put, List.setIfInBounds_toArray, List.set_cons_zero, List.set_cons_succ]
      refine WL.row (by kernel_rfl) 25 (.tmp 7) rfl q rfl 25 h2 _ Q9.out Try.underlying25 rfl (by rw [h2e.out]; exact Try.size25B _) ?_
      simp only [Act.put, List.setIfInBounds_toArray, List.set_cons_zero, List.set_cons_succ]
      refine WL.val (by kernel_rfl) (.bool false) (by have hq_ := eqB h1x.out h2x.out hsm.out wr; go_simp) ?_
      simp only [Act.put, List.setIfInBounds_toArray, List.set_cons_zero, List.set_cons_succ]
      refine WL.val (by kernel_rfl) (.bool false) (by go_simp) ?_
      simp only [Act.put, List.setIfInBounds_toArray, List.set_cons_zero, List.set_cons_succ]
      refine WL.val (by kernel_rfl) (.bool false) (by go_simp) ?_
      simp only [Act.put, List.setIfInBounds_toArray, List.set_cons_zero, List.set_cons_succ]
      refine WL.skip (by kernel_rfl) ?_
      simp only [Act.put, List.setIfInBounds_toArray, List.set_cons_zero, List.set_cons_succ]
      refine WL.skip (by kernel_rfl) ?_
      simp only [Act.put, List.setIfInBounds_toArray, List.set_cons_zero, List.set_cons_succ]
      refine WL.skip (by kernel_rfl) ?_
      simp only [Act.put, List.setIfInBounds_toArray, List.set_cons_zero, List.set_cons_succ]
      refine WL.skip (by kernel_rfl) ?_
      simp only [Act.put, List.setIfInBounds_toArray, List.set_cons_zero, List.set_cons_succ]
      refine WL.val (by kernel_rfl) (.bool false) (by go_simp) ?_
      simp only [Act.put, List.setIfInBounds_toArray, List.set_cons_zero, List.set_cons_succ]
      refine WL.val (by kernel_rfl) (.bool false) (by go_simp) ?_
      simp only [Act.put, List.setIfInBounds_toArray, List.set_cons_zero, List.set_cons_succ]
      refine WL.nil ?_
      refine hK12 _ _ ?_
      refine wp_cond_false rfl ?_
      refine wp_skip ?_
      refine hK11 _ _ ?_
      refine wp_seq_k fun K13 hK13 => ?_
      refine wp_region_list (WL.out ?_)
      refine WL.callF (by kernel_rfl) 9 _ _ rfl Try.in9 #[] (by simp) ?_
      refine (fixed_any wr).mono ?_
      rintro e wz ⟨rfl, k1⟩
      refine ⟨_, rfl, ?_⟩
      have Bz : Keep (Below w.heap.size w wz) := ⟨B9.out.trans (k1.mono B9.out.size)⟩
      clear k1
      simp only [Act.put, List.setIfInBounds_toArray, List.set_cons_zero, List.set_cons_succ]
      refine WL.val (by kernel_rfl) (.bool true) (by go_simp) ?_
      simp only [Act.put, List.setIfInBounds_toArray, List.set_cons_zero, List.set_cons_succ]
      refine WL.nil ?_
      refine hK13 _ _ ?_
      refine wp_ret ?_
      go_ret
      exact ⟨rfl, Bz.out⟩
    · have HAl := Keep.mk hal
      clear hal
      have HEq : Keep (na = nb) := ⟨by have h := HAl.out; unfold alT at h; simp [hna.out, hnb.out] at h; exact h.1⟩
      have htb : (t : Int) < (nb : Int) := by have := HEq.out; omega
      have hw3 : IntKind.i64.wrap ((t : Int) + 1) = ((t + 1 : Nat) : Int) := by rw [IntKind.wrap_i64]; have := HNa.out; omega
      obtain ⟨c, Hc⟩ : ∃ z, Keep (A[t]? = some z) := ⟨A[t]'(by rw [hna.out]; exact htl), ⟨List.getElem?_eq_getElem _⟩⟩
      obtain ⟨d, Hd⟩ : ∃ z, Keep (B[t]? = some z) := ⟨B[t]'(by rw [hnb.out]; omega), ⟨List.getElem?_eq_getElem _⟩⟩
      obtain ⟨ga, oa, haa, xa⟩ : ∃ ga oa, aa = some ⟨ga, oa, none⟩ ∧ CsAt w.heap.size w ga oa A := by
        rcases HA.out with ⟨a, c, e, h0⟩ | ⟨b, off, cap, e, h2, h3⟩
        · have := hna.out; rw [h0] at this; simp at this; omega
        · injection e with e _ _; exact ⟨b, off, e, h3⟩
      obtain ⟨gb, ob, hbb, xb⟩ : ∃ gb ob, ba = some ⟨gb, ob, none⟩ ∧ CsAt w.heap.size w gb ob B := by
        rcases HB.out with ⟨a, c, e, h0⟩ | ⟨b, off, cap, e, h2, h3⟩
        · have := hnb.out; rw [h0] at this; simp at this; omega
        · injection e with e _ _; exact ⟨b, off, e, h3⟩
      subst haa hbb
      have XA := Keep.mk xa
      have XB := Keep.mk xb
      clear xa xb
      refine wp_seq_k fun K14 hK14 => ?_
      refine wp_seq_k fun K15 hK15 => ?_
      refine wp_region_list (WL.out ?_)
      refine WL.val (by kernel_rfl) (.int .i64 (t : Int)) (by go_simp) ?_
      simp only [Act.put, List.setIfInBounds_toArray, List.set_cons_zero, List.set_cons_succ]
      refine WL.val (by kernel_rfl) (.slice (some ⟨ga, oa, none⟩) na kc) (by go_simp) ?_
      simp only [Act.put, List.setIfInBounds_toArray, List.set_cons_zero, List.set_cons_succ]
      refine WL.val (by kernel_rfl) (.int .i64 (na : Int)) (by go_simp) ?_
      simp only [Act.put, List.setIfInBounds_toArray, List.set_cons_zero, List.set_cons_succ]
      refine WL.val (by kernel_rfl) (.bool true) (by go_simp) ?_
      simp only [Act.put, List.setIfInBounds_toArray, List.set_cons_zero, List.set_cons_succ]
      refine WL.val (by kernel_rfl) (.bool true) (by go_simp) ?_
      simp only [Act.put, List.setIfInBounds_toArray, List.set_cons_zero, List.set_cons_succ]
      refine WL.val (by kernel_rfl) (.bool true) (by go_simp) ?_
      simp only [Act.put, List.setIfInBounds_toArray, List.set_cons_zero, List.set_cons_succ]
      refine WL.val (by kernel_rfl) (.bool true) (by go_simp) ?_
      simp only [Act.put, List.setIfInBounds_toArray, List.set_cons_zero, List.set_cons_succ]
      refine WL.nil ?_
      refine hK15 _ _ ?_
      refine wp_cond_true rfl ?_
      refine wp_skip ?_
      refine hK14 _ _ ?_
      refine wp_seq_k fun K16 hK16 => ?_
      refine wp_block ?_
      have hS0 : Keep (∀ wx, Below w.heap.size w wx → (fun wx => wx.rangeAt ga (oa + t * 3) (cvL c) ∧ wx.rangeAt gb (ob + t * 3) (cvL d)) wx) := ⟨fun wx hb => ⟨(XA.out.below hb).at_ t c Hc.out, (XB.out.below hb).at_ t d Hd.out⟩⟩
      have Pd : Keep (Blk wr.drew p 25 h1) := ⟨P9.out⟩
      have Qd : Keep (Blk wr.drew q 25 h2) := ⟨Q9.out⟩
      have Bd : Keep (Below w.heap.size w wr.drew) := ⟨B9.out.drew⟩
      clear P9 Q9 B9
      refine wp_region_held_drew (S := fun wx => wx.rangeAt ga (oa + t * 3) (cvL c) ∧ wx.rangeAt gb (ob + t * 3) (cvL d)) (by kernel_rfl) (hS0.out _ Bd.out) (fun hHeld => ?_)
      refine wpAnyH_take (i := 0) (oi := ⟨some 52, Op.move (Operand.tmp 0), 23, _, _, none⟩) (v := .slice (some ⟨ga, oa, none⟩) na kc) rfl (by kernel_rfl) (by kernel_rfl) (by kernel_rfl) (fun _ _ _ h => h) (Or.inl ⟨by rfl, fun w hS => by obtain ⟨hS1, hS2⟩ := hS; clear hS1 hS2; go_simp⟩) hHeld ?_
      simp only [Act.put, List.setIfInBounds_toArray, List.set_cons_zero, List.set_cons_succ]
      refine wpAnyH_take (i := 1) (oi := ⟨some 53, Op.move (Operand.tmp 10), 3, _, _, none⟩) (v := .int .i64 (t : Int)) rfl (by kernel_rfl) (by kernel_rfl) (by kernel_rfl) (fun _ _ _ h => h) (Or.inl ⟨by rfl, fun w hS => by obtain ⟨hS1, hS2⟩ := hS; clear hS1 hS2; go_simp⟩) hHeld ?_
      simp only [Act.put, List.setIfInBounds_toArray, List.set_cons_zero, List.set_cons_succ]
      refine wpAnyH_take (i := 4) (oi := ⟨some 56, Op.move (Operand.tmp 1), 23, _, _, none⟩) (v := .slice (some ⟨gb, ob, none⟩) nb lc) rfl (by kernel_rfl) (by kernel_rfl) (by kernel_rfl) (fun _ _ _ h => h) (Or.inl ⟨by rfl, fun w hS => by obtain ⟨hS1, hS2⟩ := hS; clear hS1 hS2; go_simp⟩) hHeld ?_
      simp only [Act.put, List.setIfInBounds_toArray, List.set_cons_zero, List.set_cons_succ]
      refine wpAnyH_take (i := 5) (oi := ⟨some 57, Op.move (Operand.tmp 10), 3, _, _, none⟩) (v := .int .i64 (t : Int)) rfl (by kernel_rfl) (by kernel_rfl) (by kernel_rfl) (fun _ _ _ h => h) (Or.inl ⟨by rfl, fun w hS => by obtain ⟨hS1, hS2⟩ := hS; clear hS1 hS2; go_simp⟩) hHeld ?_
      simp only [Act.put, List.setIfInBounds_toArray, List.set_cons_zero, List.set_cons_succ]
      refine wpAnyH_take (i := 2) (oi := ⟨some 54, Op.indexAddr 23 (Operand.tmp 52) (Operand.tmp 53), 0, _, _, none⟩) (v := .pointer (some ⟨ga, oa + t * 3, none⟩)) rfl (by kernel_rfl) (by kernel_rfl) (by kernel_rfl) (fun _ _ _ h => h) (Or.inl ⟨by rfl, fun w hS => by obtain ⟨hS1, hS2⟩ := hS; clear hS1 hS2; go_simp⟩) hHeld ?_
      simp only [Act.put, List.setIfInBounds_toArray, List.set_cons_zero, List.set_cons_succ]
      refine wpAnyH_take (i := 6) (oi := ⟨some 58, Op.indexAddr 23 (Operand.tmp 56) (Operand.tmp 57), 0, _, _, none⟩) (v := .pointer (some ⟨gb, ob + t * 3, none⟩)) rfl (by kernel_rfl) (by kernel_rfl) (by kernel_rfl) (fun _ _ _ h => h) (Or.inl ⟨by rfl, fun w hS => by obtain ⟨hS1, hS2⟩ := hS; clear hS1 hS2; go_simp⟩) hHeld ?_
      simp only [Act.put, List.setIfInBounds_toArray, List.set_cons_zero, List.set_cons_succ]
      refine wpAnyH_take (i := 3) (oi := ⟨some 55, Op.load 40 (Operand.tmp 54), 40, _, _, none⟩) (v := .agg (cvA c)) rfl (by kernel_rfl) (by kernel_rfl) (by kernel_rfl) (fun _ _ _ h => h) (yieldsIf_ld (by rfl) (Operand.tmp 54) 40 rfl ga (oa + t * 3) rfl (cvA c) _ Try.underlying40 rfl (Try.sizeC _ _ _) fun w hS => hS.1) hHeld ?_
      simp only [Act.put, List.setIfInBounds_toArray, List.set_cons_zero, List.set_cons_succ]
      refine wpAnyH_take (i := 7) (oi := ⟨some 59, Op.load 40 (Operand.tmp 58), 40, _, _, none⟩) (v := .agg (cvA d)) rfl (by kernel_rfl) (by kernel_rfl) (by kernel_rfl) (fun _ _ _ h => h) (yieldsIf_ld (by rfl) (Operand.tmp 58) 40 rfl gb (ob + t * 3) rfl (cvA d) _ Try.underlying40 rfl (Try.sizeC _ _ _) fun w hS => hS.2) hHeld ?_
      simp only [Act.put, List.setIfInBounds_toArray, List.set_cons_zero, List.set_cons_succ]
      refine wpAnyH_ready (rs := [8]) (by kernel_rfl) (by simp) ?_
      refine AllReadyH.cons (o := ⟨some 60, Op.call { callee := Callee.value (Operand.func 17), args := #[Operand.tmp 55, Operand.tmp 59], argTypes := #[40, 40] }, 4, _, _, none⟩) rfl (fun K hK => ?_) AllReadyH.nil
      rw [if_pos (by rfl)]
      refine wp_callF 17 _ _ rfl Try.in17 #[.agg (cvA c), .agg (cvA d)] (by simp [Act.eval]) (fun vz wz => vz = .bool (sameC c d) ∧ Below wr.drew.heap.size wr.drew wz) ?_ ?_
      · refine (sameC_any c d wr.drew ((XA.out.below Bd.out).row c (List.mem_of_getElem? Hc.out)).1 ((XB.out.below Bd.out).row d (List.mem_of_getElem? Hd.out)).1).mono ?_
        rintro e wz ⟨rfl, k1⟩
        exact ⟨_, rfl, rfl, k1⟩
      rintro vz wa ⟨rfl, k1⟩
      have Pa := Keep.mk (Pd.out.below k1 Pd.out.lt)
      have Qa := Keep.mk (Qd.out.below k1 Qd.out.lt)
      have Ba : Keep (Below w.heap.size w wa) := ⟨Bd.out.trans (k1.mono Bd.out.size)⟩
      clear k1 Pd Qd Bd
      refine hK _ _ (hS0.out _ Ba.out) fun hH1 => ?_
      clear hK
      simp only [Act.put, List.setIfInBounds_toArray, List.set_cons_zero, List.set_cons_succ]
      refine wpAnyH_take (i := 9) (oi := ⟨some 9, Op.assign (Operand.tmp 60), 4, _, _, none⟩) (v := .bool (sameC c d)) rfl (by kernel_rfl) (by kernel_rfl) (by kernel_rfl) (fun _ _ _ h => h) (Or.inl ⟨by rfl, fun w hS => by obtain ⟨hS1, hS2⟩ := hS; clear hS1 hS2; go_simp⟩) hH1 ?_
      simp only [Act.put, List.setIfInBounds_toArray, List.set_cons_zero, List.set_cons_succ]
      refine wpAnyH_done (by kernel_rfl) ?_ _
      refine hK16 _ _ ?_
      refine wp_region_list (WL.out ?_)
      refine WL.val (by kernel_rfl) (.int .i64 (t : Int)) (by go_simp) ?_
      simp only [Act.put, List.setIfInBounds_toArray, List.set_cons_zero, List.set_cons_succ]
      refine WL.val (by kernel_rfl) (.int .i64 ((t + 1 : Nat) : Int)) (by go_simp) ?_
      simp only [Act.put, List.setIfInBounds_toArray, List.set_cons_zero, List.set_cons_succ]
      refine WL.val (by kernel_rfl) (.int .i64 ((t + 1 : Nat) : Int)) (by go_simp) ?_
      simp only [Act.put, List.setIfInBounds_toArray, List.set_cons_zero, List.set_cons_succ]
      refine WL.nil ?_
      have hnx : sameC c d = alT A B (t + 1) := by
        rw [alT_next, HAl.out, Bool.true_and, List.getD_eq_getElem?_getD, List.getD_eq_getElem?_getD, Hc.out, Hd.out]
        rfl
      rw [hnx]
      refine ⟨⟨t + 1, fun zz => [.slice (some ⟨ga, oa, none⟩) na kc, .slice (some ⟨gb, ob, none⟩) nb lc, undef, undef, .bool false, .pointer (some ⟨p, 0, none⟩), .int .i64 0, .pointer (some ⟨q, 0, none⟩), .int .i64 0, .bool (alT A B (t + 1)), .int .i64 ((t + 1 : Nat) : Int), .tuple #[.agg h1, .int .i64 0], .slice (some ⟨ga, oa, none⟩) na kc, .tuple #[.agg h1, .int .i64 0], .agg h1, .int .i64 0, .tuple #[.agg h2, .int .i64 0], .slice (some ⟨gb, ob, none⟩) nb lc, .tuple #[.agg h2, .int .i64 0], .agg h2, .int .i64 0, .slice (some ⟨ga, oa, none⟩) na kc, .int .i64 0, .bool false, .bool false, .slice (some ⟨gb, ob, none⟩) nb lc, .int .i64 0, .bool false, .bool false, undef, undef, undef, undef, undef, undef, undef, undef, undef, .slice (some ⟨ga, oa, none⟩) na kc, .int .i64 (na : Int), .slice (some ⟨gb, ob, none⟩) nb lc, .int .i64 (nb : Int), .bool (alT A B 0), .int .i64 (t : Int), .slice (some ⟨ga, oa, none⟩) na kc, .int .i64 (na : Int), .bool true, .bool true, .bool true, .bool true, .int .i64 (t : Int), .int .i64 ((t + 1 : Nat) : Int), .slice (some ⟨ga, oa, none⟩) na kc, .int .i64 (t : Int), .pointer (some ⟨ga, oa + t * 3, none⟩), .agg (cvA c), .slice (some ⟨gb, ob, none⟩) nb lc, .int .i64 (t : Int), .pointer (some ⟨gb, ob + t * 3, none⟩), .agg (cvA d), .bool (alT A B (t + 1)), undef, undef, undef, undef, undef, undef, undef, undef, undef, undef, undef, undef, undef, undef, undef, undef, undef, undef, undef, undef].getD zz undef, rfl, by omega, Pa.out, Qa.out, Ba.out⟩, ?_⟩
      simp only [intOf]; show na - (((t + 1 : Nat) : Int)).toNat < na - ((t : Int)).toNat; omega
  · have htl' : ¬ (t : Int) < (na : Int) := by omega
    cases hal : alT A B t
    · have HF : Keep (alT A B na = false) := ⟨by rw [← hal]; congr 1; omega⟩
      clear hal
      refine wp_seq_k fun K17 hK17 => ?_
      refine wp_seq_k fun K18 hK18 => ?_
      refine wp_region_list (WL.out ?_)
      refine WL.val (by kernel_rfl) (.int .i64 (t : Int)) (by go_simp) ?_
      simp only [Act.put, List.setIfInBounds_toArray, List.set_cons_zero, List.set_cons_succ]
      refine WL.val (by kernel_rfl) (.slice aa na kc) (by go_simp) ?_
      simp only [Act.put, List.setIfInBounds_toArray, List.set_cons_zero, List.set_cons_succ]
      refine WL.val (by kernel_rfl) (.int .i64 (na : Int)) (by go_simp) ?_
      simp only [Act.put, List.setIfInBounds_toArray, List.set_cons_zero, List.set_cons_succ]
      refine WL.val (by kernel_rfl) (.bool false) (by go_simp) ?_
      simp only [Act.put, List.setIfInBounds_toArray, List.set_cons_zero, List.set_cons_succ]
      refine WL.val (by kernel_rfl) (.bool false) (by go_simp) ?_
      simp only [Act.put, List.setIfInBounds_toArray, List.set_cons_zero, List.set_cons_succ]
      refine WL.skip (by kernel_rfl) ?_
      simp only [Act.put, List.setIfInBounds_toArray, List.set_cons_zero, List.set_cons_succ]
      refine WL.val (by kernel_rfl) (.bool false) (by go_simp) ?_
      simp only [Act.put, List.setIfInBounds_toArray, List.set_cons_zero, List.set_cons_succ]
      refine WL.nil ?_
      refine hK18 _ _ ?_
      refine wp_cond_false rfl ?_
      refine wp_exit ?_
      refine hK7 _ _ ?_
      refine wp_seq_k fun K19 hK19 => ?_
      refine wp_seq_k fun K20 hK20 => ?_
      refine wp_region_list (WL.out ?_)
      refine WL.val (by kernel_rfl) (.int .i64 0) (by go_simp) ?_
      simp only [Act.put, List.setIfInBounds_toArray, List.set_cons_zero, List.set_cons_succ]
      refine WL.val (by kernel_rfl) (.bool false) (by go_simp) ?_
      simp only [Act.put, List.setIfInBounds_toArray, List.set_cons_zero, List.set_cons_succ]
      refine WL.val (by kernel_rfl) (.bool false) (by go_simp) ?_
      simp only [Act.put, List.setIfInBounds_toArray, List.set_cons_zero, List.set_cons_succ]
      refine WL.val (by kernel_rfl) (.int .i64 0) (by go_simp) ?_
      simp only [Act.put, List.setIfInBounds_toArray, List.set_cons_zero, List.set_cons_succ]
      refine WL.val (by kernel_rfl) (.bool false) (by go_simp) ?_
      simp only [Act.put, List.setIfInBounds_toArray, List.set_cons_zero, List.set_cons_succ]
      refine WL.val (by kernel_rfl) (.bool false) (by go_simp) ?_
      simp only [Act.put, List.setIfInBounds_toArray, List.set_cons_zero, List.set_cons_succ]
      refine WL.val (by kernel_rfl) (.bool false) (by go_simp) ?_
      simp only [Act.put, List.setIfInBounds_toArray, List.set_cons_zero, List.set_cons_succ]
      refine WL.val (by kernel_rfl) (.bool false) (by go_simp) ?_
      simp only [Act.put, List.setIfInBounds_toArray, List.set_cons_zero, List.set_cons_succ]
      refine WL.row (by kernel_rfl) 25 (.tmp 5) rfl p rfl 25 h1 _ P9.out Try.underlying25 rfl (by rw [h1e.out]; exact Try.size25B _) ?_
      simp only [Act.put, List.setIfInBounds_toArray, List.set_cons_zero, List.set_cons_succ]
      refine WL.row (by kernel_rfl) 25 (.tmp 7) rfl q rfl 25 h2 _ Q9.out Try.underlying25 rfl (by rw [h2e.out]; exact Try.size25B _) ?_
      simp only [Act.put, List.setIfInBounds_toArray, List.set_cons_zero, List.set_cons_succ]
      refine WL.val (by kernel_rfl) (.bool false) (by have hq_ := eqB h1x.out h2x.out hsm.out wr; go_simp) ?_
      simp only [Act.put, List.setIfInBounds_toArray, List.set_cons_zero, List.set_cons_succ]
      refine WL.val (by kernel_rfl) (.bool false) (by go_simp) ?_
      simp only [Act.put, List.setIfInBounds_toArray, List.set_cons_zero, List.set_cons_succ]
      refine WL.val (by kernel_rfl) (.bool false) (by go_simp) ?_
      simp only [Act.put, List.setIfInBounds_toArray, List.set_cons_zero, List.set_cons_succ]
      refine WL.skip (by kernel_rfl) ?_
      simp only [Act.put, List.setIfInBounds_toArray, List.set_cons_zero, List.set_cons_succ]
      refine WL.skip (by kernel_rfl) ?_
      simp only [Act.put, List.setIfInBounds_toArray, List.set_cons_zero, List.set_cons_succ]
      refine WL.skip (by kernel_rfl) ?_
      simp only [Act.put, List.setIfInBounds_toArray, List.set_cons_zero, List.set_cons_succ]
      refine WL.skip (by kernel_rfl) ?_
      simp only [Act.put, List.setIfInBounds_toArray, List.set_cons_zero, List.set_cons_succ]
      refine WL.val (by kernel_rfl) (.bool false) (by go_simp) ?_
      simp only [Act.put, List.setIfInBounds_toArray, List.set_cons_zero, List.set_cons_succ]
      refine WL.val (by kernel_rfl) (.bool false) (by go_simp) ?_
      simp only [Act.put, List.setIfInBounds_toArray, List.set_cons_zero, List.set_cons_succ]
      refine WL.nil ?_
      refine hK20 _ _ ?_
      refine wp_cond_false rfl ?_
      refine wp_skip ?_
      refine hK19 _ _ ?_
      refine wp_seq_k fun K21 hK21 => ?_
      refine wp_region_list (WL.out ?_)
      refine WL.callF (by kernel_rfl) 9 _ _ rfl Try.in9 #[] (by simp) ?_
      refine (fixed_any wr).mono ?_
      rintro e wz ⟨rfl, k1⟩
      refine ⟨_, rfl, ?_⟩
      have Bz : Keep (Below w.heap.size w wz) := ⟨B9.out.trans (k1.mono B9.out.size)⟩
      clear k1
      simp only [Act.put, List.setIfInBounds_toArray, List.set_cons_zero, List.set_cons_succ]
      refine WL.val (by kernel_rfl) (.bool true) (by go_simp) ?_
      simp only [Act.put, List.setIfInBounds_toArray, List.set_cons_zero, List.set_cons_succ]
      refine WL.nil ?_
      refine hK21 _ _ ?_
      refine wp_ret ?_
      go_ret
      exact ⟨rfl, Bz.out⟩
    · have HF : Keep (alT A B na = true) := ⟨by rw [← hal]; congr 1; omega⟩
      clear hal
      refine wp_seq_k fun K22 hK22 => ?_
      refine wp_seq_k fun K23 hK23 => ?_
      refine wp_region_list (WL.out ?_)
      refine WL.val (by kernel_rfl) (.int .i64 (t : Int)) (by go_simp) ?_
      simp only [Act.put, List.setIfInBounds_toArray, List.set_cons_zero, List.set_cons_succ]
      refine WL.val (by kernel_rfl) (.slice aa na kc) (by go_simp) ?_
      simp only [Act.put, List.setIfInBounds_toArray, List.set_cons_zero, List.set_cons_succ]
      refine WL.val (by kernel_rfl) (.int .i64 (na : Int)) (by go_simp) ?_
      simp only [Act.put, List.setIfInBounds_toArray, List.set_cons_zero, List.set_cons_succ]
      refine WL.val (by kernel_rfl) (.bool false) (by go_simp) ?_
      simp only [Act.put, List.setIfInBounds_toArray, List.set_cons_zero, List.set_cons_succ]
      refine WL.val (by kernel_rfl) (.bool false) (by go_simp) ?_
      simp only [Act.put, List.setIfInBounds_toArray, List.set_cons_zero, List.set_cons_succ]
      refine WL.skip (by kernel_rfl) ?_
      simp only [Act.put, List.setIfInBounds_toArray, List.set_cons_zero, List.set_cons_succ]
      refine WL.val (by kernel_rfl) (.bool false) (by go_simp) ?_
      simp only [Act.put, List.setIfInBounds_toArray, List.set_cons_zero, List.set_cons_succ]
      refine WL.nil ?_
      refine hK23 _ _ ?_
      refine wp_cond_false rfl ?_
      refine wp_exit ?_
      refine hK7 _ _ ?_
      refine wp_seq_k fun K24 hK24 => ?_
      refine wp_seq_k fun K25 hK25 => ?_
      refine wp_region_list (WL.out ?_)
      refine WL.val (by kernel_rfl) (.int .i64 0) (by go_simp) ?_
      simp only [Act.put, List.setIfInBounds_toArray, List.set_cons_zero, List.set_cons_succ]
      refine WL.val (by kernel_rfl) (.bool false) (by go_simp) ?_
      simp only [Act.put, List.setIfInBounds_toArray, List.set_cons_zero, List.set_cons_succ]
      refine WL.val (by kernel_rfl) (.bool false) (by go_simp) ?_
      simp only [Act.put, List.setIfInBounds_toArray, List.set_cons_zero, List.set_cons_succ]
      refine WL.val (by kernel_rfl) (.int .i64 0) (by go_simp) ?_
      simp only [Act.put, List.setIfInBounds_toArray, List.set_cons_zero, List.set_cons_succ]
      refine WL.val (by kernel_rfl) (.bool false) (by go_simp) ?_
      simp only [Act.put, List.setIfInBounds_toArray, List.set_cons_zero, List.set_cons_succ]
      refine WL.val (by kernel_rfl) (.bool false) (by go_simp) ?_
      simp only [Act.put, List.setIfInBounds_toArray, List.set_cons_zero, List.set_cons_succ]
      refine WL.val (by kernel_rfl) (.bool false) (by go_simp) ?_
      simp only [Act.put, List.setIfInBounds_toArray, List.set_cons_zero, List.set_cons_succ]
      refine WL.val (by kernel_rfl) (.bool true) (by go_simp) ?_
      simp only [Act.put, List.setIfInBounds_toArray, List.set_cons_zero, List.set_cons_succ]
      refine WL.row (by kernel_rfl) 25 (.tmp 5) rfl p rfl 25 h1 _ P9.out Try.underlying25 rfl (by rw [h1e.out]; exact Try.size25B _) ?_
      simp only [Act.put, List.setIfInBounds_toArray, List.set_cons_zero, List.set_cons_succ]
      refine WL.row (by kernel_rfl) 25 (.tmp 7) rfl q rfl 25 h2 _ Q9.out Try.underlying25 rfl (by rw [h2e.out]; exact Try.size25B _) ?_
      simp only [Act.put, List.setIfInBounds_toArray, List.set_cons_zero, List.set_cons_succ]
      refine WL.val (by kernel_rfl) (.bool false) (by have hq_ := eqB h1x.out h2x.out hsm.out wr; go_simp) ?_
      simp only [Act.put, List.setIfInBounds_toArray, List.set_cons_zero, List.set_cons_succ]
      refine WL.val (by kernel_rfl) (.bool true) (by go_simp) ?_
      simp only [Act.put, List.setIfInBounds_toArray, List.set_cons_zero, List.set_cons_succ]
      refine WL.val (by kernel_rfl) (.bool true) (by go_simp) ?_
      simp only [Act.put, List.setIfInBounds_toArray, List.set_cons_zero, List.set_cons_succ]
      refine WL.val (by kernel_rfl) (.slice aa na kc) (by go_simp) ?_
      simp only [Act.put, List.setIfInBounds_toArray, List.set_cons_zero, List.set_cons_succ]
      refine WL.val (by kernel_rfl) (.slice ba nb lc) (by go_simp) ?_
      simp only [Act.put, List.setIfInBounds_toArray, List.set_cons_zero, List.set_cons_succ]
      have hcl : RtP.Cl shaL (rootS A ++ rootS B) := unlike_cl HFa.out HFb.out HBa.out HBb.out (by rw [hna.out]; have := HNa.out; omega) (by rw [hnb.out]; have := HNb.out; omega) (by rw [hna.out, HF.out, ← hxa.out, ← hxb.out, hsm.out]; decide)
      refine WL.callF (by kernel_rfl) 21 _ _ rfl Try.in21 #[.slice aa na kc, .slice ba nb lc] (by simp [Act.eval]) ?_
      refine (meet_any _ _ A B wr ((HA.out.below B9.out).mono B9.out.size) ((HB.out.below B9.out).mono B9.out.size) HFa.out HFb.out HBa.out HBb.out (by rw [hna.out]; exact HNa.out) (by rw [hnb.out]; exact HNb.out)).mono ?_
      rintro e wm ⟨bb, rfl, k1, k2⟩
      refine ⟨_, rfl, ?_⟩
      obtain rfl : bb = true := k1 hcl
      have Bm : Keep (Below w.heap.size w wm) := ⟨B9.out.trans (k2.mono B9.out.size)⟩
      clear k1 k2 hcl
      simp only [Act.put, List.setIfInBounds_toArray, List.set_cons_zero, List.set_cons_succ]
      refine WL.val (by kernel_rfl) (.bool false) (by go_simp) ?_
      simp only [Act.put, List.setIfInBounds_toArray, List.set_cons_zero, List.set_cons_succ]
      refine WL.val (by kernel_rfl) (.bool false) (by go_simp) ?_
      simp only [Act.put, List.setIfInBounds_toArray, List.set_cons_zero, List.set_cons_succ]
      refine WL.val (by kernel_rfl) (.bool false) (by go_simp) ?_
      simp only [Act.put, List.setIfInBounds_toArray, List.set_cons_zero, List.set_cons_succ]
      refine WL.nil ?_
      refine hK25 _ _ ?_
      refine wp_cond_false rfl ?_
      refine wp_skip ?_
      refine hK24 _ _ ?_
      refine wp_seq_k fun K26 hK26 => ?_
      refine wp_region_list (WL.out ?_)
      refine WL.callF (by kernel_rfl) 9 _ _ rfl Try.in9 #[] (by simp) ?_
      refine (fixed_any wm).mono ?_
      rintro e wz ⟨rfl, k1⟩
      refine ⟨_, rfl, ?_⟩
      have Bz : Keep (Below w.heap.size w wz) := ⟨Bm.out.trans (k1.mono Bm.out.size)⟩
      clear k1
      simp only [Act.put, List.setIfInBounds_toArray, List.set_cons_zero, List.set_cons_succ]
      refine WL.val (by kernel_rfl) (.bool true) (by go_simp) ?_
      simp only [Act.put, List.setIfInBounds_toArray, List.set_cons_zero, List.set_cons_succ]
      refine WL.nil ?_
      refine hK26 _ _ ?_
      refine wp_ret ?_
      go_ret
      exact ⟨rfl, Bz.out⟩
theorem unlike_any (va vb : Value) (A B : List CV) (w : World) (hA : CsV w.heap.size w va A) (hB : CsV w.heap.size w vb B) (hNa : A.length ≤ 549755813888) (hNb : B.length ≤ 549755813888) (hSa : Sml A) (hSb : Sml B) (hBa : ∀ c ∈ A, Byts c.l) (hBb : ∀ c ∈ B, Byts c.l) :
    Calls Try.prog 8 #[va, vb] w fun e w' => e = .returned (.bool true) ∧ Below w.heap.size w w' := by
  have form : ∀ {v : Value} {L : List CV}, CsV w.heap.size w v L → ∃ a c, v = .slice a L.length c := fun h => by
    rcases h with ⟨a, c, rfl, rfl⟩ | ⟨b, off, cap, rfl, _, _⟩
    · exact ⟨a, c, rfl⟩
    · exact ⟨_, cap, rfl⟩
  obtain ⟨aa, kc, rfl⟩ := form hA
  obtain ⟨ba, lc, rfl⟩ := form hB
  by_cases ha : wrongI A = 0
  · by_cases hb : wrongI B = 0
    · cases e : decide (shaH (rootL A) = shaH (rootL B))
      · exact unlike_n aa ba _ kc _ lc A B w ⟨rfl⟩ ⟨rfl⟩ hA hB hNa hNb hSa hSb ⟨ha⟩ ⟨hb⟩ hBa hBb _ _ ⟨rfl⟩ ⟨rfl⟩ ⟨e⟩
      · exact unlike_y aa ba _ kc _ lc A B w ⟨rfl⟩ ⟨rfl⟩ hA hB hNa hNb hSa hSb ⟨ha⟩ ⟨hb⟩ hBa hBb _ _ ⟨rfl⟩ ⟨rfl⟩ ⟨e⟩
    · exact unlike_b aa ba _ kc _ lc A B w ⟨rfl⟩ ⟨rfl⟩ hA hB hNa hNb hSa hSb _ ⟨ha⟩ ⟨rfl⟩ hb
  · exact unlike_a aa ba _ kc _ lc A B w ⟨rfl⟩ ⟨rfl⟩ hA hB hNa hNb hSa hSb _ _ ⟨rfl⟩ ⟨rfl⟩ ha

end Go.Proofs.Ytjklmkeedhgncaa
namespace Go.Proofs.Ytjklmkeedhgncaa
open Go.ChangeShapes Go.WideShapes Go.ChangeAt Go.RowKit Go.Deep
set_option linter.unusedSimpArgs false
set_option linter.unusedVariables false
theorem Try.cellsOf3 : Try.prog.cellsOf 3 = 1 := by kernel_rfl
theorem Try.cellsOf9 : Try.prog.cellsOf 9 = 1 := by kernel_rfl
theorem Try.cellsOf5 : Try.prog.cellsOf 5 = 1 := by kernel_rfl
theorem Try.cellsOf38 : Try.prog.cellsOf 38 = 1 := by kernel_rfl
theorem Try.cellsOf25 : Try.prog.cellsOf 25 = 32 := by kernel_rfl
theorem Try.cellsOf40 : Try.prog.cellsOf 40 = 3 := by kernel_rfl
theorem Try.bytesOf5 : Try.prog.bytesOf 5 = 1 := by kernel_rfl
theorem reach_is : reachBytes = 140737488351232 := by decide
theorem add_none' (b o i : Nat) : (⟨b, o, none⟩ : Addr).add i = ⟨b, o + i, none⟩ := by
  cases i with
  | zero => rfl
  | succ i => rfl
theorem wf_u8 {n : Int} (h : (Lit.int .u8 n).wf = true) : 0 ≤ n ∧ n < 256 := by
  have h1 : IntKind.u8.min = 0 := by decide
  have h2 : IntKind.u8.max = 255 := by decide
  simp only [Lit.wf, h1, h2, Bool.and_eq_true, decide_eq_true_eq] at h
  omega
theorem wf_i64 {n : Int} (h : (Lit.int .i64 n).wf = true) : -9223372036854775808 ≤ n ∧ n ≤ 9223372036854775807 := by
  have h1 : IntKind.i64.min = -9223372036854775808 := by decide
  have h2 : IntKind.i64.max = 9223372036854775807 := by decide
  simp only [Lit.wf, h1, h2, Bool.and_eq_true, decide_eq_true_eq] at h
  omega

theorem row_of_trod {H : Type} {enc : TypeId × Value → H} {W : World} {sp : Nat → Bool} {held : Bool} {n base : Nat} {v : Value} {x : DataW H × List MemPlace} (hf : DataW.trod enc Try.prog W base sp held n 38 [v] = some x) (hw : ∀ n ∈ x.1.weights Try.prog 38, n ≤ reachBytes) :
    ∃ l : List Int, RowAt W v l ∧ Byts l ∧ l.length ≤ 140737488351232 := by
  rcases open_ints Try.underlying38 Try.underlying5 Try.cellsOf5 hf with ⟨hcs, _⟩ | ⟨a, len, cap, zs, hcs, _, hl, hm, hz, hx, hcell, hwz⟩
  · simp at hcs
    subst hcs
    exact ⟨[], .inl ⟨rfl, rfl⟩, Byts.nil, by simp⟩
  · simp at hcs
    subst hcs
    unfold maxLen at hm
    have hlz : len ≤ zs.length := by rw [hz]; split <;> omega
    have hbz : Byts zs := fun c hc => wf_u8 (hwz c hc)
    have hb : len ≤ 140737488351232 := by
      have h1 := hw ((zs.take len).length + (zs.drop len).length) (by
        rw [hx]
        simp only [DataW.weights, Try.underlying38]
        simp [lits, Try.bytesOf5])
      rw [List.length_take, reach_is] at h1
      omega
    by_cases h0 : len = 0
    · subst h0
      exact ⟨[], .inr (.inl ⟨a, cap, rfl, rfl⟩), Byts.nil, by simp⟩
    · have hs : a.spot = none := by
        have := hcell 0 (by omega)
        rw [show a.add 0 = a from rfl] at this
        exact World.cell?_spot this
      obtain ⟨b, off, sp⟩ := a
      obtain rfl : sp = none := hs
      have hlen : (zs.take len).length = len := by rw [List.length_take]; omega
      refine ⟨zs.take len, .inr (.inr ⟨b, off, cap, by rw [hlen], by omega, fun i hi => ?_⟩), hbz.take len, by omega⟩
      rw [hlen] at hi
      have := hcell i (by omega)
      rw [add_none'] at this
      rw [this]
      simp [List.getD, hi]
theorem trod_struct3 {H : Type} {enc : TypeId × Value → H} {P : Program} {w : World} {base : Nat} {spare : Nat → Bool} {held : Bool} {t : TypeId} {f0 f1 f2 : Field} {fuel : Nat} {cs : List Value} {x : DataW H × List MemPlace} (ht : P.underlying t = some (.struct #[f0, f1, f2])) (h : DataW.trod enc P w base spare held fuel t cs = some x) :
    ∃ y0 y1 y2 n, x.1 = .agg [y0.1, y1.1, y2.1] ∧ cs.length = P.cellsOf t ∧ DataW.trod enc P w base spare held n f0.type ((cs.drop f0.offset).take (P.cellsOf f0.type)) = some y0 ∧
      DataW.trod enc P w base spare held n f1.type ((cs.drop f1.offset).take (P.cellsOf f1.type)) = some y1 ∧ DataW.trod enc P w base spare held n f2.type ((cs.drop f2.offset).take (P.cellsOf f2.type)) = some y2 := by
  obtain ⟨xs, n, _, rfl, hl, hlen, hf⟩ := DataW.trod_struct ht h
  match xs, hlen with
  | [y0, y1, y2], _ => exact ⟨y0, y1, y2, n, by simp, hl, by simpa using hf 0 f0 rfl, by simpa using hf 1 f1 rfl, by simpa using hf 2 f2 rfl⟩
theorem take_one {l : List Value} {i : Nat} {v : Value} (h : (l.drop i).take 1 = [v]) : l[i]? = some v := by
  have h2 : ((l.drop i).take 1)[0]? = some v := by rw [h]; rfl
  rw [List.getElem?_take, if_pos (by omega), List.getElem?_drop] at h2
  simpa using h2
theorem hash_of_trod {H : Type} {enc : TypeId × Value → H} {W : World} {sp : Nat → Bool} {held : Bool} {n base : Nat} {l : List Value} {x : DataW H × List MemPlace} (hf : DataW.trod enc Try.prog W base sp held n 25 l = some x) :
    ∃ c : Nat → Int, l = (bytesA 32 c).toList ∧ ∀ i, i < 32 → 0 ≤ c i ∧ c i < 256 := by
  obtain ⟨xs, m, _, _, hl, hx, hel⟩ := DataW.trod_array Try.underlying25 hf
  rw [Try.cellsOf25] at hl
  rw [Try.cellsOf5] at hel
  have each : ∀ i, i < 32 → ∃ z : Int, l[i]? = some (.int .u8 z) ∧ 0 ≤ z ∧ z < 256 := by
    intro i hi
    have h1 := hel i hi
    rw [List.getElem?_eq_getElem (by omega), Nat.mul_one] at h1
    obtain ⟨z, hz, _, hw⟩ := DataW.trod_int Try.underlying5 h1
    have hb := wf_u8 hw
    exact ⟨z, take_one hz, by omega, by omega⟩
  obtain ⟨c, hc⟩ := Go.Deep.choose_lt each
  refine ⟨c, ?_, fun i hi => (hc i hi).2⟩
  apply List.ext_getElem?
  intro i
  by_cases hi : i < 32
  · rw [(hc i hi).1, Array.getElem?_toList, bytesA_get _ _ _ hi]
  · rw [List.getElem?_eq_none (by omega), List.getElem?_eq_none (by rw [Array.length_toList, bytesA_size]; omega)]
theorem hrow_of_trod {H : Type} {enc : TypeId × Value → H} {W : World} {sp : Nat → Bool} {held : Bool} {n base : Nat} {v : Value} {x : DataW H × List MemPlace} (hf : DataW.trod enc Try.prog W base sp held n 67 [v] = some x) :
    ∃ L : List Hs, HRow W v L ∧ (L = [] ∨ ∃ (D : Nat → DataW H) (rest : List (DataW H)), x.1 = .slice ((List.range L.length).map D) rest) := by
  rcases open_slice Try.underlying67 hf with ⟨hcs, _⟩ | ⟨a, len, cap, m, n, D, Pl, hcs, _, hl, hm, hz, hx, hcell⟩
  · simp at hcs
    subst hcs
    exact ⟨[], .inl ⟨none, 0, rfl, rfl, fun _ => rfl⟩, .inl rfl⟩
  · simp at hcs
    subst hcs
    have hlz : len ≤ m := by rw [hz]; split <;> omega
    by_cases h0 : len = 0
    · subst h0
      exact ⟨[], .inl ⟨some a, cap, rfl, rfl, fun h => by cases h⟩, .inl rfl⟩
    · have each0 : ∀ i, i < len → ∃ c : Nat → Int, (∀ j, j < 32 → 0 ≤ c j ∧ c j < 256) ∧ ∀ j, j < 32 → W.cell? ((a.add (i * 32)).add j) = some (.int .u8 (c j)) := by
        intro i hi
        obtain ⟨cs', h1, h2⟩ := hcell i (by omega)
        rw [Try.cellsOf25] at h1
        obtain ⟨_, hlen, hce⟩ := World.cells?_some h1
        obtain ⟨c, hcs, hc⟩ := hash_of_trod h2
        refine ⟨c, hc, fun j hj => ?_⟩
        rw [hce j hj, hcs, Array.getElem?_toList, bytesA_get 32 c j hj]
      have hs : a.spot = none := by
        obtain ⟨c, _, h3⟩ := each0 0 (by omega)
        have h4 := h3 0 (by omega)
        rw [Nat.zero_mul, show (a.add 0).add 0 = a from rfl] at h4
        exact World.cell?_spot h4
      obtain ⟨b, off, sp⟩ := a
      obtain rfl : sp = none := hs
      have each : ∀ i, i < len → ∃ y : Hs, W.rangeAt b (off + i * 32) (encH y) := by
        intro i hi
        obtain ⟨c, hc, h3⟩ := each0 i hi
        refine ⟨Hs.mk' c hc, fun j v hv => ?_⟩
        have hj : j < 32 := by have := (List.getElem?_eq_some_iff.1 hv).1; rwa [encH_len] at this
        rw [encH_get _ _ hj, Hs.mk'_f _ _ _ hj] at hv
        have h4 := h3 j hj
        rw [Addr.add_mid, Addr.add_mid] at h4
        rw [h4]; exact hv
      obtain ⟨y, hy⟩ := Go.Deep.choose_lt each
      refine ⟨(List.range len).map y, .inr ⟨b, off, cap, by simp, by simpa using hl, rangeAt_of_elems fun i hi => ?_⟩, .inr ⟨D, (List.range (m - len)).map fun j => D (len + j), ?_⟩⟩
      · have hi' : i < len := by simpa using hi
        simpa using hy i hi'
      · rw [hx]; simp
theorem bulk_one {H : Type} (d : DataW H) : 1 ≤ Rows.uptoBulk d := by
  unfold Rows.uptoBulk
  split <;> omega
theorem bulk_all {H : Type} : ∀ l : List (DataW H), l.length ≤ Rows.uptoBulkAll l
  | [] => Nat.zero_le _
  | d :: r => by
    have h1 := bulk_all r
    have h2 := bulk_one d
    simp only [Rows.uptoBulkAll, List.length_cons]
    omega
theorem bulk_mem {H : Type} {d : DataW H} : ∀ {l : List (DataW H)}, d ∈ l → Rows.uptoBulk d ≤ Rows.uptoBulkAll l
  | [], h => by simp at h
  | e :: r, h => by
    simp only [Rows.uptoBulkAll]
    rcases List.mem_cons.1 h with rfl | h
    · omega
    · have := bulk_mem h; omega
theorem row_lt {w : World} {v : Value} {l : List Int} (h : RowAt w v l) (h0 : l ≠ []) : ∀ k, v.ownBlock = some k → k < w.heap.size := by
  intro k hk
  rcases h with ⟨_, rfl⟩ | ⟨_, _, _, rfl⟩ | ⟨q, off, cap, rfl, h1, h2⟩
  · exact absurd rfl h0
  · exact absurd rfl h0
  · have := cell_lt (h2 0 (List.length_pos_iff.2 h0))
    simp [Value.ownBlock] at hk
    omega
theorem rowb_of_trod {H : Type} {enc : TypeId × Value → H} {W : World} {sp : Nat → Bool} {held : Bool} {n base : Nat} {v : Value} {x : DataW H × List MemPlace} (hf : DataW.trod enc Try.prog W base sp held n 38 [v] = some x) :
    ∃ l : List Int, RowAt W v l ∧ Byts l ∧ l.length ≤ Rows.uptoBulk x.1 := by
  rcases open_ints Try.underlying38 Try.underlying5 Try.cellsOf5 hf with ⟨hcs, _⟩ | ⟨a, len, cap, zs, hcs, _, hl, hm, hz, hx, hcell, hwz⟩
  · simp at hcs
    subst hcs
    exact ⟨[], .inl ⟨rfl, rfl⟩, Byts.nil, by simp⟩
  · simp at hcs
    subst hcs
    have hlz : len ≤ zs.length := by rw [hz]; split <;> omega
    have hbz : Byts zs := fun c hc => wf_u8 (hwz c hc)
    have hb : len ≤ Rows.uptoBulk x.1 := by
      rw [hx]
      simp only [Rows.uptoBulk]
      have h1 := bulk_all (lits (H := H) .u8 (zs.take len))
      have h2 : (lits (H := H) .u8 (zs.take len)).length = len := by simp [lits]; omega
      omega
    by_cases h0 : len = 0
    · subst h0
      exact ⟨[], .inr (.inl ⟨a, cap, rfl, rfl⟩), Byts.nil, by simp⟩
    · have hs : a.spot = none := by
        have := hcell 0 (by omega)
        rw [show a.add 0 = a from rfl] at this
        exact World.cell?_spot this
      obtain ⟨b, off, sp⟩ := a
      obtain rfl : sp = none := hs
      refine ⟨zs.take len, .inr (.inr ⟨b, off, cap, by rw [List.length_take]; congr 1; omega, by rw [List.length_take]; omega, fun i hi => ?_⟩), hbz.take len, by rw [List.length_take]; omega⟩
      rw [List.length_take] at hi
      have h1 := hcell i (by omega)
      rw [add_none'] at h1
      rw [h1]
      congr 2
      rw [List.getD_eq_getElem?_getD, List.getD_eq_getElem?_getD, List.getElem?_take, if_pos (by omega)]
set_option maxRecDepth 8000 in
theorem cell_of_trod {H : Type} {enc : TypeId × Value → H} {W : World} {sp : Nat → Bool} {held : Bool} {n base : Nat} {cs : List Value} {x : DataW H × List MemPlace} (hf : DataW.trod enc Try.prog W base sp held n 40 cs = some x) :
    ∃ c : CV, cs = cvL c ∧ RowAt W c.v c.l ∧ Byts c.l ∧ (-9223372036854775808 ≤ c.k ∧ c.k ≤ 9223372036854775807) ∧ c.s.size + c.l.length ≤ Rows.uptoBulk x.1 := by
  obtain ⟨y0, y1, y2, k, hx, hl, h0, h1, h2⟩ := trod_struct3 Try.underlying40 hf
  rw [Try.cellsOf40] at hl
  match cs, hl with
  | [a, b, c], _ =>
    simp only [Try.cellsOf3, Try.cellsOf9, Try.cellsOf38, List.drop_zero, List.take_succ_cons, List.take_zero, List.drop_succ_cons] at h0 h1 h2
    obtain ⟨n0, e0, w0⟩ := DataW.trod_int Try.underlying3 h0
    obtain ⟨s, e1, ex, _⟩ := DataW.trod_string Try.underlying9 h1
    obtain ⟨l, r1, r2, r3⟩ := rowb_of_trod h2
    simp at e0 e1
    refine ⟨⟨n0, s, c, l⟩, by rw [e0, e1]; rfl, r1, r2, wf_i64 w0.2, ?_⟩
    show s.size + l.length ≤ _
    have e2 : y1.1 = .lit (.string s.data.toList) := by rw [ex]
    rw [hx]
    simp only [Rows.uptoBulk, Rows.uptoBulkAll, e2]
    have : s.data.toList.length = s.size := by simp
    omega
set_option maxRecDepth 8000 in
theorem cells_of_trod {H : Type} {enc : TypeId × Value → H} {W : World} {sp : Nat → Bool} {held : Bool} {n base : Nat} {v : Value} {x : DataW H × List MemPlace} (hf : DataW.trod enc Try.prog W base sp held n 23 [v] = some x) :
    ∃ L : List CV, CsV W.heap.size W v L ∧ L.length ≤ Rows.uptoBulk x.1 ∧ ∀ c ∈ L, Byts c.l ∧ (-9223372036854775808 ≤ c.k ∧ c.k ≤ 9223372036854775807) ∧ c.s.size + c.l.length ≤ Rows.uptoBulk x.1 := by
  rcases open_slice Try.underlying23 hf with ⟨hcs, _⟩ | ⟨a, len, cap, m, n, D, Pl, hcs, _, hl, hm, hz, hx, hcell⟩
  · simp at hcs
    subst hcs
    exact ⟨[], .inl ⟨none, 0, rfl, rfl⟩, by simp, fun c hc => by simp at hc⟩
  · simp at hcs
    subst hcs
    have hlz : len ≤ m := by rw [hz]; split <;> omega
    by_cases h0 : len = 0
    · subst h0
      exact ⟨[], .inl ⟨some a, cap, rfl, rfl⟩, by simp, fun c hc => by simp at hc⟩
    · have each : ∀ i, i < len → ∃ c : CV, (∀ j u, (cvL c)[j]? = some u → W.cell? ((a.add (i * 3)).add j) = some u) ∧ RowAt W c.v c.l ∧ Byts c.l ∧ (-9223372036854775808 ≤ c.k ∧ c.k ≤ 9223372036854775807) ∧ c.s.size + c.l.length ≤ Rows.uptoBulk (D i) := by
        intro i hi
        obtain ⟨cs', h1, h2⟩ := hcell i (by omega)
        rw [Try.cellsOf40] at h1
        obtain ⟨_, hlen, hce⟩ := World.cells?_some h1
        obtain ⟨c, e, r1, r2, r3, r4⟩ := cell_of_trod h2
        refine ⟨c, fun j u hu => ?_, r1, r2, r3, r4⟩
        rw [← e] at hu
        have hj := (List.getElem?_eq_some_iff.1 hu).1
        rw [hce j (by omega)]; exact hu
      haveI : Inhabited CV := ⟨⟨0, ByteArray.empty, .nilFunc, []⟩⟩
      obtain ⟨f, hfc⟩ := Go.Deep.choose_lt each
      have hs : a.spot = none := by
        have := (hfc 0 (by omega)).1 0 (.int .i64 (f 0).k) rfl
        rw [Nat.zero_mul, show (a.add 0).add 0 = a from rfl] at this
        exact World.cell?_spot this
      obtain ⟨b, off, sp⟩ := a
      obtain rfl : sp = none := hs
      have hb0 : b < W.heap.size := by
        have := (hfc 0 (by omega)).1 0 (.int .i64 (f 0).k) rfl
        rw [Addr.add_mid, Addr.add_mid] at this
        exact cell_lt this
      have hbk : ∀ i, i < len → Rows.uptoBulk (D i) ≤ Rows.uptoBulk x.1 := fun i hi => by
        rw [hx]
        simp only [Rows.uptoBulk]
        have := bulk_mem (d := D i) (l := (List.range len).map D) (List.mem_map.2 ⟨i, List.mem_range.2 hi, rfl⟩)
        omega
      refine ⟨(List.range len).map f, .inr ⟨b, off, cap, by simp, by simpa using hl, hb0, fun i c hc => ?_, fun c hc => ?_⟩, ?_, fun c hc => ?_⟩
      · have hi : i < len := by have := (List.getElem?_eq_some_iff.1 hc).1; simpa using this
        have e : f i = c := by simpa [hi] using hc
        subst e
        intro j u hu
        have h1 := (hfc i hi).1 j u hu
        rw [Addr.add_mid, Addr.add_mid] at h1
        exact h1
      · obtain ⟨i, hi, rfl⟩ := List.mem_map.1 hc
        have h1 := hfc i (List.mem_range.1 hi)
        exact ⟨h1.2.1, fun h => row_lt h1.2.1 h⟩
      · rw [hx]
        simp only [Rows.uptoBulk]
        have := bulk_all ((List.range len).map D)
        simp only [List.length_map, List.length_range] at this ⊢
        omega
      · obtain ⟨i, hi, rfl⟩ := List.mem_map.1 hc
        have hi := List.mem_range.1 hi
        have h1 := hfc i hi
        have h2 := hbk i hi
        exact ⟨h1.2.2.1, h1.2.2.2.1, by have := h1.2.2.2.2; omega⟩

end Go.Proofs.Ytjklmkeedhgncaa
