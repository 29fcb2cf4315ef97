import Derived.Test.YtanmbbckkfkhpaaInE
namespace Go.Proofs.Ytanmbbckkfkhpaa
open Go.RowKit

def ev (why at_ : Int) : Array Value := #[.int .i64 why, .int .i64 at_]
theorem Try.new56 (w : World) : (Instr.alloc 56 true (.tuple #[])).run Try.prog w = .ok (.pointer (some ⟨w.heap.size, 0, none⟩)) (w.alloc (.cells #[.int .i64 0, .int .i64 0] 56)) := by kernel_rfl
theorem Try.size56 : (Try.prog.info? 56).map (·.size) = some 2 := by kernel_rfl

set_option maxHeartbeats 1000000 in
theorem told_nil (w : World) : Calls Try.prog 27 #[.nilIface] w fun e w' => e = .returned (.tuple #[.agg #[.int .i64 0, .int .i64 0], .bool true]) ∧ Below w.heap.size w w' := by
  go_enter Try.func27, Try.ntmps27
  go_wp2
  exact bodyPost_ret (v := .tuple #[.agg #[.int .i64 0, .int .i64 0], .bool true]) (results_cell_row2 Try.results27 _ _ w.heap.size 56 _ (0, 0) _ _ rfl rfl (Blk.new w 56 _) Try.underlying56 rfl Try.size56) rfl ⟨rfl, below_new _ _⟩
theorem assert22 (v : Value) (W : World) : (Instr.typeAssert (.iface 22 v) 27 22 true).run Try.prog W = .ok (.tuple #[v, .bool true]) W := by kernel_rfl
set_option maxHeartbeats 1000000 in
theorem told_err (q : Nat) (why : Int) (a : Nat) (w : World) (hq : BadAt w q why a) (hw : why ≠ 0) : Calls Try.prog 27 #[err q] w fun e w' => e = .returned (.tuple #[.agg #[.int .i64 why, .int .i64 (a : Int)], .bool true]) ∧ Below w.heap.size w w' := by
  have hb := hq.alloc (.cells #[.int .i64 0, .int .i64 0] 56)
  have hy1 : (why == 0) = false := by simpa using hw
  have HQ := Keep.mk hb
  have HN := Keep.mk (Blk.new w 56 #[.int .i64 0, .int .i64 0])
  have HB := Keep.mk (below_new w (.cells #[.int .i64 0, .int .i64 0] 56))
  clear hq hb hw
  unfold err
  go_enter Try.func27, Try.ntmps27
  go_wp2_with (first | (refine wpList_new rfl 56 rfl _ Try.new56 ?_; refine Hid.out ?_))
  refine hid_in ?_
  generalize w.alloc (.cells #[.int .i64 0, .int .i64 0] 56) = w1 at *
  have c0 : w1.cell? ⟨q, 0, none⟩ = some (.int .i64 why) := by rw [Blk.cell HQ.out]; rfl
  have c1 : w1.cell? ⟨q, 1, none⟩ = some (.int .i64 (a : Int)) := by rw [Blk.cell HQ.out]; rfl
  have ha := assert22 (ptr q)
  have d0 : w1.cell? ⟨w.heap.size, 0, none⟩ = some (.int .i64 0) := by rw [HN.out.cell]; rfl
  have d1 : w1.cell? ⟨w.heap.size, 1, none⟩ = some (.int .i64 0) := by rw [HN.out.cell]; rfl
  have f0 := HN.out.frozen 0
  have f1 := HN.out.frozen 1
  go_wp2_with fail
  go_region
  go_wp2
  exact bodyPost_ret (v := .tuple #[.agg #[.int .i64 why, .int .i64 (a : Int)], .bool true]) (results_cell_row2 Try.results27 _ _ w.heap.size 56 _ (0, 0) _ _ rfl rfl ((HN.out.set 0 (.int .i64 why)).set 1 (.int .i64 (a : Int))).drew Try.underlying56 rfl Try.size56) rfl ⟨rfl, ((HB.out.setCell (Nat.le_refl _) _).setCell (Nat.le_refl _) _).drew⟩

/-- The facts of a fixed row. -/
theorem num300 : numL 300 = [172, 2] := by decide
theorem num1 : numL (zig (-1)) = [1] := by decide
theorem bfab : bform (lst { data := #[97, 98] }) = [2, 97, 98] := by decide
theorem fst300 : fstM [172, 2, 128] 300 = (300, 2, 0) := by decide
theorem fst9 : fstM [128] 9 = (0, 0, 20) := by decide
theorem row3 (w : World) (a b c : Int) : RowAt (w.alloc (.cells #[.int .u8 a, .int .u8 b, .int .u8 c] 5)) (.slice (some ⟨w.heap.size, 0, none⟩) 3 3) [a, b, c] := by
  refine .inr (.inr ⟨w.heap.size, 0, 3, rfl, by simp, fun i hi => ?_⟩)
  rw [Nat.zero_add, (Blk.new w 5 #[.int .u8 a, .int .u8 b, .int .u8 c]).cell]
  match i, hi with
  | 0, _ => rfl
  | 1, _ => rfl
  | 2, _ => rfl

set_option maxRecDepth 2000 in
set_option maxHeartbeats 1000000 in
theorem awake_any (w : World) : Calls Try.prog 9 #[] w fun e w' => e = .returned (.bool true) ∧ Below w.heap.size w w' := by
  go_enter Try.func9, Try.ntmps9
  go_wp2_with fail
  refine (newOut_any w).mono ?_
  rintro e w1 ⟨rfl, hw1⟩
  have hO1 : OutAt w1 w.heap.size (.slice none 0 0) [] := by rw [hw1]; exact outAt_new w
  have hG1 : Below w.heap.size w w1 := by rw [hw1]; exact below_new _ _
  have HO1 := Keep.mk hO1
  have HG1 := Keep.mk hG1
  clear hw1 hO1 hG1
  go_wp2_with fail
  refine (newIn_any _ [172, 2, 128] _ (row3 w1 172 2 128)).mono ?_
  rintro e w2 ⟨rfl, hw2⟩
  obtain ⟨r, hr⟩ : ∃ r, Keep (r = (w1.alloc (.cells #[.int .u8 172, .int .u8 2, .int .u8 128] 5)).heap.size) := ⟨_, ⟨rfl⟩⟩
  obtain ⟨s, hs⟩ : ∃ s, Keep (s = strOfNums [172, 2, 128]) := ⟨_, ⟨rfl⟩⟩
  have HL : Keep (lst s = [172, 2, 128]) := ⟨by rw [hs.out]; decide⟩
  have HZ : Keep (s.size ≤ 140737488355328) := ⟨by rw [← lst_len, HL.out]; decide⟩
  have hI2 : InAt w2 r s 0 none := by rw [hw2, hr.out, hs.out]; exact inAt_new _ _
  have hg2 : Grown w1 w2 (fun _ => False) := by rw [hw2]; exact (Grown.alloc w1 _ _).trans (Grown.alloc _ _ _)
  have hO2 := HO1.out.grown hg2 fun _ _ h => h
  have hG2 : Below w.heap.size w w2 := HG1.out.trans (hg2.to_below (fun _ _ h => h) HG1.out.size)
  have hrw : Keep (w.heap.size ≤ r) := ⟨by rw [hr.out]; have := HG1.out.size; simp; omega⟩
  rw [← hr.out]
  have HO2 := Keep.mk hO2
  have HI2 := Keep.mk hI2
  have HG2 := Keep.mk hG2
  clear hw2 hI2 hg2 hO2 hG2 hr HO1 HG1 hs
  -- a call of the Out leaves the In, and the other way round
  have keepI : Keep (∀ {wa wb : World} {v : Value} {l : List Int} {k : Nat} {bad : Option Nat}, OutAt wa w.heap.size v l → InAt wa r s k bad → Grown wa wb (OF w.heap.size v) → InAt wb r s k bad) := ⟨fun ho hi hg => ⟨hg.blk hi.blk (by
    rintro (e | e)
    · exact blk_ne hi.blk ho.blk (by decide) e
    · exact absurd (hi.blk.typ.one (ho.own.typ e)) (by decide)), hi.le⟩⟩
  have keepO : Keep (∀ {wa wb : World} {v : Value} {l : List Int} {k : Nat} {bad : Option Nat}, OutAt wa w.heap.size v l → InAt wa r s k bad → Grown wa wb (fun k => k = r) → OutAt wb w.heap.size v l) := ⟨fun ho hi hg => ho.grown hg (by
    rintro k (e | e) e2
    · subst e2; exact blk_ne hi.blk ho.blk (by decide) e
    · subst e2; exact absurd (hi.blk.typ.one (ho.own.typ e)) (by decide))⟩
  have bel : Keep (∀ {wa wb : World} {S : Nat → Prop}, Below w.heap.size w wa → Grown wa wb S → (∀ k, k < w.heap.size → ¬ S k) → Below w.heap.size w wb) := ⟨fun hb hg hs => hb.trans (hg.to_below hs hb.size)⟩
  have ofb : Keep (∀ {v : Value}, Moved w (.slice none 0 0) v → ∀ k, k < w.heap.size → ¬ OF w.heap.size v k) := ⟨fun hm k hk hf => by
    rcases hf with hf | hf
    · omega
    · have := hm.old hk hf; simp [Value.ownBlock] at this⟩
  go_wp2_with fail
  refine (onum_any w.heap.size (.slice none 0 0) [] 300 w2 HO2.out (by decide) (by decide)).mono ?_
  rintro e w3 ⟨rfl, v3, hO3, hm3, hg3⟩
  rw [num300, List.nil_append] at hO3
  have HI3 := Keep.mk (keepI.out HO2.out HI2.out hg3)
  have HG3 := Keep.mk (bel.out HG2.out hg3 (ofb.out (Moved.refl _ _)))
  have HM3 := Keep.mk ((Moved.refl w (.slice none 0 0)).trans HG2.out.size hm3)
  have HO3 := Keep.mk hO3
  clear hO3 hm3 hg3 HO2 HI2 HG2
  go_wp2_with fail
  refine (osigned_any w.heap.size v3 [172, 2] (-1) w3 HO3.out (by decide) (by decide) (by decide)).mono ?_
  rintro e w4 ⟨rfl, v4, hO4, hm4, hg4⟩
  rw [num1] at hO4
  have HI4 := Keep.mk (keepI.out HO3.out HI3.out hg4)
  have HG4 := Keep.mk (bel.out HG3.out hg4 (ofb.out HM3.out))
  have HM4 := Keep.mk (HM3.out.trans HG3.out.size hm4)
  have HO4 := Keep.mk hO4
  clear hO4 hm4 hg4 HO3 HI3 HG3 HM3
  go_wp2_with fail
  refine (otext_any w.heap.size v4 ([172, 2] ++ [1]) { data := #[97, 98] } w4 HO4.out (by decide)).mono ?_
  rintro e w5 ⟨rfl, v5, hO5, hm5, hg5⟩
  rw [bfab] at hO5
  have HI5 := Keep.mk (keepI.out HO4.out HI4.out hg5)
  have HG5 := Keep.mk (bel.out HG4.out hg5 (ofb.out HM4.out))
  have HO5 := Keep.mk hO5
  clear hO5 hm5 hg5 HO4 HI4 HG4 HM4
  go_wp2_with fail
  have hc := inum_good r s 0 300 w5 HI5.out HZ.out
  rw [HL.out, List.drop_zero, show ((300 : Nat) : Int) = 300 from rfl, fst300] at hc
  refine hc.mono ?_
  rintro e w6 ⟨bad6, er6, rfl, hI6, hg6, he6⟩
  rcases he6 with ⟨_, rfl, rfl⟩ | ⟨h, _⟩
  case inr => exact absurd rfl h
  have HI6 : Keep (InAt w6 r s 2 none) := ⟨hI6⟩
  have HO6 := Keep.mk (keepO.out HO5.out HI5.out hg6)
  have HG6 := Keep.mk (bel.out HG5.out hg6 (fun k hk e => by have := hrw.out; omega))
  clear hc hI6 hg6 HO5 HI5 HG5
  go_wp2_with fail
  have hc := inum_good r s 2 9 w6 HI6.out HZ.out
  rw [HL.out, show ([172, 2, 128] : List Int).drop 2 = [128] from rfl, show ((9 : Nat) : Int) = 9 from rfl, fst9] at hc
  refine hc.mono ?_
  rintro e w7 ⟨bad7, er7, rfl, hI7, hg7, he7⟩
  rcases he7 with ⟨h, _⟩ | ⟨_, q, hq, rfl, rfl, hbad⟩
  case inl => exact absurd h (by decide)
  have HB7 : Keep (BadAt w7 q 20 2) := ⟨hbad⟩
  have HO7 := Keep.mk (keepO.out HO6.out HI6.out hg7)
  have HG7 := Keep.mk (bel.out HG6.out hg7 (fun k hk e => by have := hrw.out; omega))
  clear hc hI7 hg7 hbad HO6 HI6 HG6
  unfold err
  go_wp2_with fail
  refine (told_err q 20 2 w7 HB7.out (by decide)).mono ?_
  rintro e w8 ⟨rfl, hb8⟩
  have HO8 := Keep.mk (HO7.out.grown (Grown.below (S := fun _ => False) hb8) fun _ _ h => h)
  have HG8 := Keep.mk (HG7.out.trans (hb8.mono HG7.out.size))
  clear hb8 HO7 HG7 HB7
  go_wp2_with (first | (refine wpList_new rfl 56 rfl _ Try.new56 ?_; refine Hid.out ?_))
  refine hid_in ?_
  have HN := Keep.mk (Blk.new w8 56 #[.int .i64 0, .int .i64 0])
  have HO9 := Keep.mk (HO8.out.box (.cells #[.int .i64 0, .int .i64 0] 56))
  have HG9 := Keep.mk (HG8.out.trans ((below_new w8 (.cells #[.int .i64 0, .int .i64 0] 56)).mono HG8.out.size))
  have HS8 := Keep.mk HG8.out.size
  generalize w8.alloc (.cells #[.int .i64 0, .int .i64 0] 56) = w9 at *
  have d0 : w9.cell? ⟨w8.heap.size, 0, none⟩ = some (.int .i64 0) := by rw [HN.out.cell]; rfl
  have d1 : w9.cell? ⟨w8.heap.size, 1, none⟩ = some (.int .i64 0) := by rw [HN.out.cell]; rfl
  have f0 := HN.out.frozen 0
  have f1 := HN.out.frozen 1
  go_wp2_with fail
  obtain ⟨w10, hw10⟩ : ∃ w10, Keep (w10 = (w9.setCell ⟨w8.heap.size, 0, none⟩ (.int .i64 20)).setCell ⟨w8.heap.size, 1, none⟩ (.int .i64 2)) := ⟨_, ⟨rfl⟩⟩
  rw [← hw10.out]
  have hN10 : Blk w10 w8.heap.size 56 #[.int .i64 20, .int .i64 2] := by rw [hw10.out]; exact (HN.out.set 0 _).set 1 _
  have hg10 : Grown w9 w10 (fun k => k = w8.heap.size) := by rw [hw10.out]; exact (Grown.setCell w9 _ _ _ (S := fun k => k = w8.heap.size) fun _ => rfl).trans (Grown.setCell _ _ _ _ (S := fun k => k = w8.heap.size) fun _ => rfl)
  have hO10 := HO9.out.grown hg10 (by
    rintro k (e | e) e2
    · rw [e] at e2; exact blk_ne HN.out HO9.out.blk (by decide) e2.symm
    · rw [e2] at e; exact absurd (HN.out.typ.one (HO9.out.own.typ e)) (by decide))
  have hG10 : Below w.heap.size w w10 := HG9.out.trans (hg10.to_below (fun k hk e => by have := HS8.out; omega) HG9.out.size)
  have HO10 := Keep.mk hO10
  have HG10 := Keep.mk hG10
  have HN10 := Keep.mk hN10
  clear hO10 hG10 hN10 hg10 HO9 HG9 HN hw10 d0 d1 f0 f1
  refine (odone_any w.heap.size v5 ([172, 2] ++ [1] ++ [2, 97, 98]) w10 HO10.out (by decide)).mono ?_
  rintro e w11 ⟨rfl, hw11⟩
  have hcv := conv_row (.slice (some ⟨w10.heap.size, 0, none⟩) ([172, 2] ++ [1] ++ [2, 97, 98] : List Int).length ([172, 2] ++ [1] ++ [2, 97, 98] : List Int).length) ([172, 2] ++ [1] ++ [2, 97, 98]) w11 (by rw [hw11]; exact (own_done w10 _ (by decide)).row)
  rw [show strOfNums ([172, 2] ++ [1] ++ [2, 97, 98]) = { data := #[172, 2, 1, 2, 97, 98] } from rfl] at hcv
  have hN11 : Blk w11 w8.heap.size 56 #[.int .i64 20, .int .i64 2] := by rw [hw11]; exact HN10.out.alloc _
  have d0 : w11.cell? ⟨w8.heap.size, 0, none⟩ = some (.int .i64 20) := by rw [hN11.cell]; rfl
  have d1 : w11.cell? ⟨w8.heap.size, 1, none⟩ = some (.int .i64 2) := by rw [hN11.cell]; rfl
  have HG11 : Keep (Below w.heap.size w w11) := ⟨by rw [hw11]; exact HG10.out.trans ((below_new w10 _).mono HG10.out.size)⟩
  clear hw11 hN11
  simp only [List.cons_append, List.nil_append, List.length_cons, List.length_nil, Nat.reduceAdd] at hcv ⊢
  go_wp2
  go_ret
  exact ⟨rfl, HG11.out⟩
end Go.Proofs.Ytanmbbckkfkhpaa
