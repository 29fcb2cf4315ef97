import Derived.Test.YtbkboebinhafhaaOpR
import Derived.Test.YtbkboebinhafhaaHdC
namespace Go.Proofs.Ytbkboebinhafhaa
open Go.RowKit
set_option linter.unusedSimpArgs false

set_option maxRecDepth 8000 in
set_option maxHeartbeats 1000000 in
theorem twice_any (v : Value) (l : List Int) (w : World) (hR : RowAt w v l) (hBy : Byts l) (hl : l.length ≤ 140737488351232) :
    Calls Try.prog 7 #[v] w fun e w' => e = .returned (.bool true) ∧ Below w.heap.size w w' := by
  obtain ⟨ba, bc, rfl⟩ := row_form hR
  have HR := Keep.mk hR
  have HBy := Keep.mk hBy
  have HLl := Keep.mk hl
  have hw1 : IntKind.i64.wrap ((l.length : Int) + 1) = (l.length : Int) + 1 := by rw [IntKind.wrap_i64]; omega
  have hl' : (l.length : Int) ≤ 9223372036854775807 := by omega
  clear hR hBy hl
  go_enter Try.func7, Try.ntmps7
  refine wp_seq_k fun K1 hK1 => ?_
  refine wp_region_list (WL.out ?_)
  refine WL.val (by kernel_rfl) (.bool false) (by go_simp) ?_
  simp only [Act.put, List.setIfInBounds_toArray, List.set_cons_zero, List.set_cons_succ]
  refine WL.nil ?_
  refine hK1 _ _ ?_
  refine wp_seq_k fun K2 hK2 => ?_
  refine wp_region_list (WL.out ?_)
  refine WL.val (by kernel_rfl) (.slice ba l.length bc) (by go_simp) ?_
  simp only [Act.put, List.setIfInBounds_toArray, List.set_cons_zero, List.set_cons_succ]
  refine WL.callF (by kernel_rfl) 22 _ _ rfl Try.in22 #[.slice ba l.length bc] (by simp [Act.eval]) ?_
  refine (newIn_any _ l w HR.out).mono ?_
  rintro e w1 ⟨rfl, hw1⟩
  refine ⟨_, rfl, ?_⟩
  obtain ⟨p, hp⟩ : ∃ p, Keep (p = w.heap.size) := ⟨_, ⟨rfl⟩⟩
  obtain ⟨s, hs⟩ : ∃ s, Keep (s = strOfNums l) := ⟨_, ⟨rfl⟩⟩
  have HI1 : Keep (InAt w1 p s 0 none) := ⟨by rw [hw1, hp.out, hs.out]; exact inAt_new w _⟩
  have HB1 : Keep (Below w.heap.size w w1) := ⟨by rw [hw1]; exact below_new w _⟩
  have HSz : Keep (s.size = l.length) := ⟨by rw [hs.out]; exact str_size HBy.out⟩
  rw [← hp.out]
  clear hw1
  simp only [Act.put, List.setIfInBounds_toArray, List.set_cons_zero, List.set_cons_succ]
  refine WL.val (by kernel_rfl) (.pointer (some ⟨p, 0, none⟩)) (by go_simp) ?_
  simp only [Act.put, List.setIfInBounds_toArray, List.set_cons_zero, List.set_cons_succ]
  refine WL.nil ?_
  refine hK2 _ _ ?_
  refine wp_seq_k fun K3 hK3 => ?_
  refine wp_seq_k fun K4 hK4 => ?_
  refine wp_region_list (WL.out ?_)
  refine WL.val (by kernel_rfl) (.pointer (some ⟨p, 0, none⟩)) (by go_simp) ?_
  simp only [Act.put, List.setIfInBounds_toArray, List.set_cons_zero, List.set_cons_succ]
  refine WL.val (by kernel_rfl) (.bool false) (by go_simp) ?_
  simp only [Act.put, List.setIfInBounds_toArray, List.set_cons_zero, List.set_cons_succ]
  refine WL.nil ?_
  refine hK4 _ _ ?_
  refine wp_cond_false rfl ?_
  refine wp_skip ?_
  refine hK3 _ _ ?_
  refine wp_seq_k fun K5 hK5 => ?_
  refine wp_region_list (WL.out ?_)
  refine WL.val (by kernel_rfl) (.pointer (some ⟨p, 0, none⟩)) (by go_simp) ?_
  simp only [Act.put, List.setIfInBounds_toArray, List.set_cons_zero, List.set_cons_succ]
  refine WL.val (by kernel_rfl) (.slice ba l.length bc) (by go_simp) ?_
  simp only [Act.put, List.setIfInBounds_toArray, List.set_cons_zero, List.set_cons_succ]
  refine WL.val (by kernel_rfl) (.int .i64 (l.length : Int)) (by go_simp) ?_
  simp only [Act.put, List.setIfInBounds_toArray, List.set_cons_zero, List.set_cons_succ]
  refine WL.val (by kernel_rfl) (.int .i64 ((l.length : Int) + 1)) (by go_simp) ?_
  simp only [Act.put, List.setIfInBounds_toArray, List.set_cons_zero, List.set_cons_succ]
  refine WL.callF (by kernel_rfl) 23 _ _ rfl Try.in23 #[ptr p, .int .i64 ((l.length : Int) + 1)] (by simp [Act.eval]) ?_
  refine (iraw_good p s 0 ((l.length : Int) + 1) w1 HI1.out (by have := HSz.out; have := HLl.out; omega) (by omega) (by have := HLl.out; omega) _ rfl _ rfl _ rfl).mono ?_
  rintro e w2 ⟨bad, er, res, rfl, h1, h2, h3, h4⟩
  have hW : nextW ((lst s).drop 0) ((l.length : Int) + 1) = 20 := by
    unfold nextW
    rw [if_neg (by omega), if_pos (by rw [List.drop_zero, lst_len]; have := HSz.out; omega)]
  rw [hW] at h3 h4
  rcases h4 with ⟨e0, _⟩ | ⟨_, rfl⟩
  · exact absurd e0 (by decide)
  rcases h3 with ⟨e0, _⟩ | ⟨_, q, hq, rfl, rfl, hbad⟩
  · exact absurd e0 (by decide)
  refine ⟨_, rfl, ?_⟩
  have HI2 := Keep.mk h1
  have HB2 : Keep (Below w.heap.size w w2) := ⟨⟨h2.os.trans HB1.out.os, h2.tape.trans HB1.out.tape, h2.output.trans HB1.out.output, Nat.le_trans HB1.out.size h2.size, fun j hj => by rw [h2.block j (Nat.lt_of_lt_of_le hj HB1.out.size) (fun e => by have := hp.out; omega)]; exact HB1.out.block j hj⟩⟩
  unfold err
  clear h1 h2 hW hbad hq
  simp only [Act.put, List.setIfInBounds_toArray, List.set_cons_zero, List.set_cons_succ]
  refine WL.val (by kernel_rfl) (.tuple #[.slice none 0 0, .iface 88 (ptr q)]) (by go_simp) ?_
  simp only [Act.put, List.setIfInBounds_toArray, List.set_cons_zero, List.set_cons_succ]
  refine WL.val (by kernel_rfl) (.slice none 0 0) (by go_simp) ?_
  simp only [Act.put, List.setIfInBounds_toArray, List.set_cons_zero, List.set_cons_succ]
  refine WL.val (by kernel_rfl) (.iface 88 (ptr q)) (by go_simp) ?_
  simp only [Act.put, List.setIfInBounds_toArray, List.set_cons_zero, List.set_cons_succ]
  refine WL.val (by kernel_rfl) (.slice none 0 0) (by go_simp) ?_
  simp only [Act.put, List.setIfInBounds_toArray, List.set_cons_zero, List.set_cons_succ]
  refine WL.val (by kernel_rfl) (.iface 88 (ptr q)) (by go_simp) ?_
  simp only [Act.put, List.setIfInBounds_toArray, List.set_cons_zero, List.set_cons_succ]
  refine WL.nil ?_
  refine hK5 _ _ ?_
  refine wp_seq_k fun K6 hK6 => ?_
  refine wp_region_list (WL.out ?_)
  refine WL.val (by kernel_rfl) (.pointer (some ⟨p, 0, none⟩)) (by go_simp) ?_
  simp only [Act.put, List.setIfInBounds_toArray, List.set_cons_zero, List.set_cons_succ]
  refine WL.callF (by kernel_rfl) 25 _ _ rfl Try.in25 #[ptr p] (by simp [Act.eval]) ?_
  refine (get_bad p q s _ w2 HI2.out).mono ?_
  rintro e w3 ⟨rfl, h1⟩
  refine ⟨_, rfl, ?_⟩
  have HB3 := Keep.mk (HB2.out.trans (h1.mono HB2.out.size))
  have hep := eqPtr q
  unfold err
  clear h1
  simp only [Act.put, List.setIfInBounds_toArray, List.set_cons_zero, List.set_cons_succ]
  refine WL.val (by kernel_rfl) (.tuple #[.slice none 0 0, .iface 88 (ptr q)]) (by go_simp) ?_
  simp only [Act.put, List.setIfInBounds_toArray, List.set_cons_zero, List.set_cons_succ]
  refine WL.val (by kernel_rfl) (.slice none 0 0) (by go_simp) ?_
  simp only [Act.put, List.setIfInBounds_toArray, List.set_cons_zero, List.set_cons_succ]
  refine WL.val (by kernel_rfl) (.iface 88 (ptr q)) (by go_simp) ?_
  simp only [Act.put, List.setIfInBounds_toArray, List.set_cons_zero, List.set_cons_succ]
  refine WL.val (by kernel_rfl) (.slice none 0 0) (by go_simp) ?_
  simp only [Act.put, List.setIfInBounds_toArray, List.set_cons_zero, List.set_cons_succ]
  refine WL.val (by kernel_rfl) (.iface 88 (ptr q)) (by go_simp) ?_
  simp only [Act.put, List.setIfInBounds_toArray, List.set_cons_zero, List.set_cons_succ]
  refine WL.nil ?_
  refine hK6 _ _ ?_
  refine wp_seq_k fun K7 hK7 => ?_
  refine wp_region_list (WL.out ?_)
  refine WL.val (by kernel_rfl) (.iface 88 (ptr q)) (by go_simp) ?_
  simp only [Act.put, List.setIfInBounds_toArray, List.set_cons_zero, List.set_cons_succ]
  refine WL.val (by kernel_rfl) (.bool true) (by go_simp) ?_
  simp only [Act.put, List.setIfInBounds_toArray, List.set_cons_zero, List.set_cons_succ]
  refine WL.val (by kernel_rfl) (.bool true) (by go_simp) ?_
  simp only [Act.put, List.setIfInBounds_toArray, List.set_cons_zero, List.set_cons_succ]
  refine WL.val (by kernel_rfl) (.iface 88 (ptr q)) (by go_simp) ?_
  simp only [Act.put, List.setIfInBounds_toArray, List.set_cons_zero, List.set_cons_succ]
  refine WL.val (by kernel_rfl) (.iface 88 (ptr q)) (by go_simp) ?_
  simp only [Act.put, List.setIfInBounds_toArray, List.set_cons_zero, List.set_cons_succ]
  refine WL.val (by kernel_rfl) (.bool true) (by go_simp) ?_
  simp only [Act.put, List.setIfInBounds_toArray, List.set_cons_zero, List.set_cons_succ]
  refine WL.val (by kernel_rfl) (.bool true) (by go_simp) ?_
  simp only [Act.put, List.setIfInBounds_toArray, List.set_cons_zero, List.set_cons_succ]
  refine WL.val (by kernel_rfl) (.bool true) (by go_simp) ?_
  simp only [Act.put, List.setIfInBounds_toArray, List.set_cons_zero, List.set_cons_succ]
  refine WL.val (by kernel_rfl) (.slice none 0 0) (by go_simp) ?_
  simp only [Act.put, List.setIfInBounds_toArray, List.set_cons_zero, List.set_cons_succ]
  refine WL.val (by kernel_rfl) (.int .i64 0) (by go_simp) ?_
  simp only [Act.put, List.setIfInBounds_toArray, List.set_cons_zero, List.set_cons_succ]
  refine WL.val (by kernel_rfl) (.bool true) (by go_simp) ?_
  simp only [Act.put, List.setIfInBounds_toArray, List.set_cons_zero, List.set_cons_succ]
  refine WL.val (by kernel_rfl) (.bool true) (by go_simp) ?_
  simp only [Act.put, List.setIfInBounds_toArray, List.set_cons_zero, List.set_cons_succ]
  refine WL.val (by kernel_rfl) (.bool true) (by go_simp) ?_
  simp only [Act.put, List.setIfInBounds_toArray, List.set_cons_zero, List.set_cons_succ]
  refine WL.callF (by kernel_rfl) 9 _ _ rfl Try.in9 #[] (by simp) ?_
  refine (fixed_any w3).mono ?_
  rintro e w4 ⟨rfl, h1⟩
  refine ⟨_, rfl, ?_⟩
  have HB4 := Keep.mk (HB3.out.trans (h1.mono HB3.out.size))
  clear h1
  simp only [Act.put, List.setIfInBounds_toArray, List.set_cons_zero, List.set_cons_succ]
  refine WL.val (by kernel_rfl) (.bool true) (by go_simp) ?_
  simp only [Act.put, List.setIfInBounds_toArray, List.set_cons_zero, List.set_cons_succ]
  refine WL.val (by kernel_rfl) (.bool true) (by go_simp) ?_
  simp only [Act.put, List.setIfInBounds_toArray, List.set_cons_zero, List.set_cons_succ]
  refine WL.nil ?_
  refine hK7 _ _ ?_
  refine wp_ret ?_
  go_ret
  exact ⟨rfl, HB4.out⟩
end Go.Proofs.Ytbkboebinhafhaa
