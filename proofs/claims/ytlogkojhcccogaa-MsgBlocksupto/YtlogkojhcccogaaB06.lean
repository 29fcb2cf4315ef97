import Derived.Test.YtlogkojhcccogaaB05
import Derived.Deep.RegionHeld3
import Derived.Lib.EndianBits
namespace Go.Proofs.Ytlogkojhcccogaa
open Go.RowKit
set_option linter.unusedSimpArgs false
set_option linter.unusedVariables false

def pfn (i : Nat) : Nat := if i = 0 then 75 else if i = 1 then 80 else if i = 2 then 85 else if i = 3 then 90 else 93
theorem pfn_in (i : Nat) (w : World) (vs : Array Value) : (callFunc (pfn i) vs).run Try.prog w = .ok (.enter (pfn i) vs) w := by
  unfold pfn
  repeat' split
  all_goals kernel_rfl
theorem fldA_p (i : Nat) : (fldA i)[1]? = some (.func (.func (pfn i)) #[] #[]) := by
  unfold fldA pfn
  repeat' split
  all_goals rfl
theorem put0_any (B p : Nat) (v : Value) (L : List Int) (w0 w : World) (hw0 : B ≤ w0.heap.size) (hs0 : w0.heap.size ≤ B) (hb : Below B w0 w) (hO : OutAt w p v L) (hp : B ≤ p) (hf : Fr B v) (M : MsgV) (c : MC) (hA : MsAt w0 M c) (hok : MsOk M) (hl : (L ++ putF 0 M).length ≤ 140737488355328) :
    Calls Try.prog 75 #[ptr p, .agg (msA c)] w (PPost B p v w0 w (L ++ putF 0 M)) := by
  have HS0 : Keep (PS B p v w0 w L v w) := ⟨PS.start hO hf hb⟩
  have HO := Keep.mk hO
  have Hw0 := Keep.mk hw0
  have Hs0 := Keep.mk hs0
  have Hb := Keep.mk hb
  have Hp := Keep.mk hp
  have HF := Keep.mk hf
  have HA := Keep.mk hA
  have Hok := Keep.mk hok
  have HL := Keep.mk hl
  obtain ⟨⟨ha, hn, hk, e1⟩, ⟨ba, bn, bk, e2⟩, ⟨wa, wn, wk, e3⟩, ⟨xa, xn, xk, e4⟩⟩ := hA.sl
  clear hO hw0 hs0 hb hp hf hl hA hok
  go_enter Try.func75, Try.ntmps75
  refine wp_seq_k fun K1 hK1 => ?_
  refine wp_region_list (WL.out ?_)
  refine WL.box (by kernel_rfl) 28 (.tmp 1) rfl _ rfl ?_
  have HX := Keep.mk (Blk.new w 28 (msA c))
  have HP1 := Keep.mk (HS0.out.alloc Hw0.out (.cells (msA c) 28))
  generalize w.alloc (.cells (msA c) 28) = w1 at *
  generalize w.heap.size = g at *
  have c0 := HX.out.c 1 (ms_1 c)
  simp only [Act.put, List.setIfInBounds_toArray, List.set_cons_zero, List.set_cons_succ]
  refine WL.nil ?_
  refine hK1 _ _ ?_
  refine wp_region_list (WL.out ?_)
  refine WL.val (by kernel_rfl) (.pointer (some ⟨p, 0, none⟩)) (by go_simp) ?_
  simp only [Act.put, List.setIfInBounds_toArray, List.set_cons_zero, List.set_cons_succ]
  refine WL.val (by kernel_rfl) (.pointer (some ⟨g, 1, none⟩)) (by go_simp) ?_
  simp only [Act.put, List.setIfInBounds_toArray, List.set_cons_zero, List.set_cons_succ]
  refine WL.val (by kernel_rfl) (c.h) (by go_simp) ?_
  simp only [Act.put, List.setIfInBounds_toArray, List.set_cons_zero, List.set_cons_succ]
  refine WL.callF (by kernel_rfl) 76 _ _ rfl Try.in76 #[ptr p, c.h] (by simp [Act.eval]) ?_
  refine (putHashes_any B p v L w0 w1 Hw0.out Hs0.out HP1.out.b HP1.out.o Hp.out HF.out c.h M.hd HA.out.hd Hok.out.hd HL.out).mono ?_
  intro e w2 hp2
  obtain ⟨rfl, v2, hP2⟩ := PPost.up HP1.out hp2
  refine ⟨_, rfl, ?_⟩
  simp only [Act.put, List.setIfInBounds_toArray, List.set_cons_zero, List.set_cons_succ]
  refine WL.nil ?_
  go_end0
  exact ⟨rfl, v2, by first | exact hP2 | (rw [HA.out.s] at hP2; exact hP2)⟩
theorem put1_any (B p : Nat) (v : Value) (L : List Int) (w0 w : World) (hw0 : B ≤ w0.heap.size) (hs0 : w0.heap.size ≤ B) (hb : Below B w0 w) (hO : OutAt w p v L) (hp : B ≤ p) (hf : Fr B v) (M : MsgV) (c : MC) (hA : MsAt w0 M c) (hok : MsOk M) (hl : (L ++ putF 1 M).length ≤ 140737488355328) :
    Calls Try.prog 80 #[ptr p, .agg (msA c)] w (PPost B p v w0 w (L ++ putF 1 M)) := by
  have HS0 : Keep (PS B p v w0 w L v w) := ⟨PS.start hO hf hb⟩
  have HO := Keep.mk hO
  have Hw0 := Keep.mk hw0
  have Hs0 := Keep.mk hs0
  have Hb := Keep.mk hb
  have Hp := Keep.mk hp
  have HF := Keep.mk hf
  have HA := Keep.mk hA
  have Hok := Keep.mk hok
  have HL := Keep.mk hl
  obtain ⟨⟨ha, hn, hk, e1⟩, ⟨ba, bn, bk, e2⟩, ⟨wa, wn, wk, e3⟩, ⟨xa, xn, xk, e4⟩⟩ := hA.sl
  clear hO hw0 hs0 hb hp hf hl hA hok
  go_enter Try.func80, Try.ntmps80
  refine wp_seq_k fun K1 hK1 => ?_
  refine wp_region_list (WL.out ?_)
  refine WL.box (by kernel_rfl) 28 (.tmp 1) rfl _ rfl ?_
  have HX := Keep.mk (Blk.new w 28 (msA c))
  have HP1 := Keep.mk (HS0.out.alloc Hw0.out (.cells (msA c) 28))
  generalize w.alloc (.cells (msA c) 28) = w1 at *
  generalize w.heap.size = g at *
  have c0 := HX.out.c 2 (ms_2 c)
  simp only [Act.put, List.setIfInBounds_toArray, List.set_cons_zero, List.set_cons_succ]
  refine WL.nil ?_
  refine hK1 _ _ ?_
  refine wp_region_list (WL.out ?_)
  refine WL.val (by kernel_rfl) (.pointer (some ⟨p, 0, none⟩)) (by go_simp) ?_
  simp only [Act.put, List.setIfInBounds_toArray, List.set_cons_zero, List.set_cons_succ]
  refine WL.val (by kernel_rfl) (.pointer (some ⟨g, 2, none⟩)) (by go_simp) ?_
  simp only [Act.put, List.setIfInBounds_toArray, List.set_cons_zero, List.set_cons_succ]
  refine WL.val (by kernel_rfl) (.int .u64 c.s) (by go_simp) ?_
  simp only [Act.put, List.setIfInBounds_toArray, List.set_cons_zero, List.set_cons_succ]
  refine WL.callF (by kernel_rfl) 81 _ _ rfl Try.in81 #[ptr p, .int .u64 c.s] (by simp [Act.eval]) ?_
  refine (putSalt_any B p v L w0 w1 Hw0.out Hs0.out HP1.out.b HP1.out.o Hp.out HF.out c.s (by rw [HA.out.s]; exact Hok.out.s) (by rw [HA.out.s]; exact HL.out)).mono ?_
  intro e w2 hp2
  obtain ⟨rfl, v2, hP2⟩ := PPost.up HP1.out hp2
  refine ⟨_, rfl, ?_⟩
  simp only [Act.put, List.setIfInBounds_toArray, List.set_cons_zero, List.set_cons_succ]
  refine WL.nil ?_
  go_end0
  exact ⟨rfl, v2, by first | exact hP2 | (rw [HA.out.s] at hP2; exact hP2)⟩
theorem put2_any (B p : Nat) (v : Value) (L : List Int) (w0 w : World) (hw0 : B ≤ w0.heap.size) (hs0 : w0.heap.size ≤ B) (hb : Below B w0 w) (hO : OutAt w p v L) (hp : B ≤ p) (hf : Fr B v) (M : MsgV) (c : MC) (hA : MsAt w0 M c) (hok : MsOk M) (hz : 0 < M.bl.length) (hl : (L ++ putF 2 M).length ≤ 140737488355328) :
    Calls Try.prog 85 #[ptr p, .agg (msA c)] w (PPost B p v w0 w (L ++ putF 2 M)) := by
  have HS0 : Keep (PS B p v w0 w L v w) := ⟨PS.start hO hf hb⟩
  have HO := Keep.mk hO
  have Hw0 := Keep.mk hw0
  have Hs0 := Keep.mk hs0
  have Hb := Keep.mk hb
  have Hp := Keep.mk hp
  have HF := Keep.mk hf
  have HA := Keep.mk hA
  have Hok := Keep.mk hok
  have HL := Keep.mk hl
  have Hz := Keep.mk hz
  obtain ⟨⟨ha, hn, hk, e1⟩, ⟨ba, bn, bk, e2⟩, ⟨wa, wn, wk, e3⟩, ⟨xa, xn, xk, e4⟩⟩ := hA.sl
  clear hO hw0 hs0 hb hp hf hl hA hok hz
  go_enter Try.func85, Try.ntmps85
  refine wp_seq_k fun K1 hK1 => ?_
  refine wp_region_list (WL.out ?_)
  refine WL.box (by kernel_rfl) 28 (.tmp 1) rfl _ rfl ?_
  have HX := Keep.mk (Blk.new w 28 (msA c))
  have HP1 := Keep.mk (HS0.out.alloc Hw0.out (.cells (msA c) 28))
  generalize w.alloc (.cells (msA c) 28) = w1 at *
  generalize w.heap.size = g at *
  have c0 := HX.out.c 3 (ms_3 c)
  simp only [Act.put, List.setIfInBounds_toArray, List.set_cons_zero, List.set_cons_succ]
  refine WL.nil ?_
  refine hK1 _ _ ?_
  refine wp_region_list (WL.out ?_)
  refine WL.val (by kernel_rfl) (.pointer (some ⟨p, 0, none⟩)) (by go_simp) ?_
  simp only [Act.put, List.setIfInBounds_toArray, List.set_cons_zero, List.set_cons_succ]
  refine WL.val (by kernel_rfl) (.pointer (some ⟨g, 3, none⟩)) (by go_simp) ?_
  simp only [Act.put, List.setIfInBounds_toArray, List.set_cons_zero, List.set_cons_succ]
  refine WL.val (by kernel_rfl) (c.b) (by go_simp) ?_
  simp only [Act.put, List.setIfInBounds_toArray, List.set_cons_zero, List.set_cons_succ]
  refine WL.callF (by kernel_rfl) 86 _ _ rfl Try.in86 #[ptr p, c.b] (by simp [Act.eval]) ?_
  refine ((obytes_any p v c.b L M.bl w1 HP1.out.o (HA.out.bl.below (HP1.out.b.mono Hs0.out)) (fun k hk ho => by have h1 := row_lt HA.out.bl Hz.out hk; have h2 := Hs0.out; have h3 := Hp.out; rcases ho with rfl | ho; omega; have := HF.out k ho; omega) (by have := HL.out; rw [List.length_append] at this; exact this)).mono fun e w' h => (PS.start HP1.out.o HF.out HP1.out.b).call h Hw0.out Hp.out).mono ?_
  intro e w2 hp2
  obtain ⟨rfl, v2, hP2⟩ := PPost.up HP1.out hp2
  refine ⟨_, rfl, ?_⟩
  simp only [Act.put, List.setIfInBounds_toArray, List.set_cons_zero, List.set_cons_succ]
  refine WL.nil ?_
  go_end0
  exact ⟨rfl, v2, by first | exact hP2 | (rw [HA.out.s] at hP2; exact hP2)⟩
theorem put3_any (B p : Nat) (v : Value) (L : List Int) (w0 w : World) (hw0 : B ≤ w0.heap.size) (hs0 : w0.heap.size ≤ B) (hb : Below B w0 w) (hO : OutAt w p v L) (hp : B ≤ p) (hf : Fr B v) (M : MsgV) (c : MC) (hA : MsAt w0 M c) (hok : MsOk M) (hl : (L ++ putF 3 M).length ≤ 140737488355328) :
    Calls Try.prog 90 #[ptr p, .agg (msA c)] w (PPost B p v w0 w (L ++ putF 3 M)) := by
  have HS0 : Keep (PS B p v w0 w L v w) := ⟨PS.start hO hf hb⟩
  have HO := Keep.mk hO
  have Hw0 := Keep.mk hw0
  have Hs0 := Keep.mk hs0
  have Hb := Keep.mk hb
  have Hp := Keep.mk hp
  have HF := Keep.mk hf
  have HA := Keep.mk hA
  have Hok := Keep.mk hok
  have HL := Keep.mk hl
  obtain ⟨⟨ha, hn, hk, e1⟩, ⟨ba, bn, bk, e2⟩, ⟨wa, wn, wk, e3⟩, ⟨xa, xn, xk, e4⟩⟩ := hA.sl
  clear hO hw0 hs0 hb hp hf hl hA hok
  go_enter Try.func90, Try.ntmps90
  refine wp_seq_k fun K1 hK1 => ?_
  refine wp_region_list (WL.out ?_)
  refine WL.box (by kernel_rfl) 28 (.tmp 1) rfl _ rfl ?_
  have HX := Keep.mk (Blk.new w 28 (msA c))
  have HP1 := Keep.mk (HS0.out.alloc Hw0.out (.cells (msA c) 28))
  generalize w.alloc (.cells (msA c) 28) = w1 at *
  generalize w.heap.size = g at *
  have c0 := HX.out.c 4 (ms_4 c)
  simp only [Act.put, List.setIfInBounds_toArray, List.set_cons_zero, List.set_cons_succ]
  refine WL.nil ?_
  refine hK1 _ _ ?_
  refine wp_region_list (WL.out ?_)
  refine WL.val (by kernel_rfl) (.pointer (some ⟨p, 0, none⟩)) (by go_simp) ?_
  simp only [Act.put, List.setIfInBounds_toArray, List.set_cons_zero, List.set_cons_succ]
  refine WL.val (by kernel_rfl) (.pointer (some ⟨g, 4, none⟩)) (by go_simp) ?_
  simp only [Act.put, List.setIfInBounds_toArray, List.set_cons_zero, List.set_cons_succ]
  refine WL.val (by kernel_rfl) (c.w) (by go_simp) ?_
  simp only [Act.put, List.setIfInBounds_toArray, List.set_cons_zero, List.set_cons_succ]
  refine WL.callF (by kernel_rfl) 76 _ _ rfl Try.in76 #[ptr p, c.w] (by simp [Act.eval]) ?_
  refine (putHashes_any B p v L w0 w1 Hw0.out Hs0.out HP1.out.b HP1.out.o Hp.out HF.out c.w M.wt HA.out.wt Hok.out.wt HL.out).mono ?_
  intro e w2 hp2
  obtain ⟨rfl, v2, hP2⟩ := PPost.up HP1.out hp2
  refine ⟨_, rfl, ?_⟩
  simp only [Act.put, List.setIfInBounds_toArray, List.set_cons_zero, List.set_cons_succ]
  refine WL.nil ?_
  go_end0
  exact ⟨rfl, v2, by first | exact hP2 | (rw [HA.out.s] at hP2; exact hP2)⟩
theorem put4_any (B p : Nat) (v : Value) (L : List Int) (w0 w : World) (hw0 : B ≤ w0.heap.size) (hs0 : w0.heap.size ≤ B) (hb : Below B w0 w) (hO : OutAt w p v L) (hp : B ≤ p) (hf : Fr B v) (M : MsgV) (c : MC) (hA : MsAt w0 M c) (hok : MsOk M) (hz : ∀ i, i < M.bk.length → 0 < (M.bk.getD i []).length) (hl : (L ++ putF 4 M).length ≤ 140737488355328) :
    Calls Try.prog 93 #[ptr p, .agg (msA c)] w (PPost B p v w0 w (L ++ putF 4 M)) := by
  have HS0 : Keep (PS B p v w0 w L v w) := ⟨PS.start hO hf hb⟩
  have HO := Keep.mk hO
  have Hw0 := Keep.mk hw0
  have Hs0 := Keep.mk hs0
  have Hb := Keep.mk hb
  have Hp := Keep.mk hp
  have HF := Keep.mk hf
  have HA := Keep.mk hA
  have Hok := Keep.mk hok
  have HL := Keep.mk hl
  have Hz := Keep.mk hz
  obtain ⟨⟨ha, hn, hk, e1⟩, ⟨ba, bn, bk, e2⟩, ⟨wa, wn, wk, e3⟩, ⟨xa, xn, xk, e4⟩⟩ := hA.sl
  clear hO hw0 hs0 hb hp hf hl hA hok hz
  go_enter Try.func93, Try.ntmps93
  refine wp_seq_k fun K1 hK1 => ?_
  refine wp_region_list (WL.out ?_)
  refine WL.box (by kernel_rfl) 28 (.tmp 1) rfl _ rfl ?_
  have HX := Keep.mk (Blk.new w 28 (msA c))
  have HP1 := Keep.mk (HS0.out.alloc Hw0.out (.cells (msA c) 28))
  generalize w.alloc (.cells (msA c) 28) = w1 at *
  generalize w.heap.size = g at *
  have c0 := HX.out.c 5 (ms_5 c)
  simp only [Act.put, List.setIfInBounds_toArray, List.set_cons_zero, List.set_cons_succ]
  refine WL.nil ?_
  refine hK1 _ _ ?_
  refine wp_region_list (WL.out ?_)
  refine WL.val (by kernel_rfl) (.pointer (some ⟨p, 0, none⟩)) (by go_simp) ?_
  simp only [Act.put, List.setIfInBounds_toArray, List.set_cons_zero, List.set_cons_succ]
  refine WL.val (by kernel_rfl) (.pointer (some ⟨g, 5, none⟩)) (by go_simp) ?_
  simp only [Act.put, List.setIfInBounds_toArray, List.set_cons_zero, List.set_cons_succ]
  refine WL.val (by kernel_rfl) (c.x) (by go_simp) ?_
  simp only [Act.put, List.setIfInBounds_toArray, List.set_cons_zero, List.set_cons_succ]
  refine WL.callF (by kernel_rfl) 94 _ _ rfl Try.in94 #[ptr p, c.x] (by simp [Act.eval]) ?_
  refine (putBlocks_any B p v L w0 w1 Hw0.out Hs0.out HP1.out.b HP1.out.o Hp.out HF.out c.x M.bk HA.out.bk Hz.out Hok.out.bk HL.out).mono ?_
  intro e w2 hp2
  obtain ⟨rfl, v2, hP2⟩ := PPost.up HP1.out hp2
  refine ⟨_, rfl, ?_⟩
  simp only [Act.put, List.setIfInBounds_toArray, List.set_cons_zero, List.set_cons_succ]
  refine WL.nil ?_
  go_end0
  exact ⟨rfl, v2, by first | exact hP2 | (rw [HA.out.s] at hP2; exact hP2)⟩
structure PutOk (M : MsgV) (i : Nat) : Prop where
  bl : i = 2 → 0 < M.bl.length
  bk : i = 4 → ∀ j, j < M.bk.length → 0 < (M.bk.getD j []).length
theorem put_any (i : Nat) (hi : i < 5) (B p : Nat) (v : Value) (L : List Int) (w0 w : World) (hw0 : B ≤ w0.heap.size) (hs0 : w0.heap.size ≤ B) (hb : Below B w0 w) (hO : OutAt w p v L) (hp : B ≤ p) (hf : Fr B v) (M : MsgV) (c : MC) (hA : MsAt w0 M c) (hok : MsOk M) (hz : PutOk M i) (hl : (L ++ putF i M).length ≤ 140737488355328) :
    Calls Try.prog (pfn i) #[ptr p, .agg (msA c)] w (PPost B p v w0 w (L ++ putF i M)) := by
  match i, hi with
  | 0, _ => exact put0_any B p v L w0 w hw0 hs0 hb hO hp hf M c hA hok hl
  | 1, _ => exact put1_any B p v L w0 w hw0 hs0 hb hO hp hf M c hA hok hl
  | 2, _ => exact put2_any B p v L w0 w hw0 hs0 hb hO hp hf M c hA hok (hz.bl rfl) hl
  | 3, _ => exact put3_any B p v L w0 w hw0 hs0 hb hO hp hf M c hA hok hl
  | 4, _ => exact put4_any B p v L w0 w hw0 hs0 hb hO hp hf M c hA hok (hz.bk rfl) hl
theorem chk_facts {M : MsgV} (h : chkM M = 0) : ¬ hasI M.k = [] ∧ moreB M = false ∧ M.hd.length ≤ 4096 ∧ M.wt.length ≤ 4096 ∧ M.bk.length ≤ 256 ∧ ¬ (M.k = 3 ∧ M.bk.length = 0) ∧ Sh.risesB M.hd = true ∧ Sh.risesB M.wt = true ∧ ¬ (M.k = 1 ∧ isP (M.bl.length : Int) = false) ∧ okR M.bk = true ∧ ¬ fit M.bk < M.bk.length := by
  unfold chkM at h
  repeat' split at h
  all_goals first | (exact absurd h (by decide)) | skip
  refine ⟨by assumption, by simp_all, by omega, by omega, by omega, by assumption, by simp_all, by simp_all, by assumption, by simp_all, by assumption⟩
theorem hsL_len (l : List Hs) : (hsL l).length ≤ 10 + l.length * 32 := by
  unfold hsL
  have h1 := numL_len l.length
  have h2 : (l.flatMap hB).length = l.length * 32 := by
    induction l with
    | nil => rfl
    | cons x l ih => rw [List.flatMap_cons, List.length_append, hB_len, ih (numL_len _), List.length_cons]; omega
  rw [List.length_append, h2]; omega
theorem bkL_len (l : List (List Int)) (h : okR l = true) : (bkL l).length ≤ 10 + l.length * 1048586 := by
  unfold bkL
  have h1 := numL_len l.length
  have h2 : (l.flatMap bform).length ≤ l.length * 1048586 := by
    clear h1
    induction l with
    | nil => simp
    | cons x l ih =>
      simp only [okR, List.all_cons, Bool.and_eq_true, decide_eq_true_eq] at h
      have h3 := numL_len x.length
      have h4 := ih (by simpa [okR] using h.2)
      rw [List.flatMap_cons, List.length_append, bform, List.length_append, List.length_cons]
      omega
  rw [List.length_append]; omega
theorem enc_small {M : MsgV} (h : chkM M = 0) : (encM M).length ≤ 300000000 := by
  obtain ⟨h1, h2, h3, h4, h5, h6, h7, h8, h9, h10, h11⟩ := chk_facts h
  have a1 := hsL_len M.hd
  have a2 := hsL_len M.wt
  have a3 := bkL_len M.bk h10
  unfold encM
  rcases hasI_cases h1 with e | e | e
  · have a4 : M.bl.length ≤ 8192 := by
      have : isP (M.bl.length : Int) = true := by
        rcases Bool.eq_false_or_eq_true (isP (M.bl.length : Int)) with hh | hh
        · exact hh
        · exact absurd ⟨e, hh⟩ h9
      have := isP_rng this
      omega
    have a5 := numL_len M.bl.length
    rw [e]
    simp [hasI, putF, bform, salt_len]
    omega
  · rw [e]
    simp [hasI, putF]
    omega
  · rw [e]
    simp [hasI, putF]
    omega
theorem put_ok {M : MsgV} (h : chkM M = 0) (i : Nat) (hi : i ∈ hasI M.k) : PutOk M i := by
  obtain ⟨h1, h2, h3, h4, h5, h6, h7, h8, h9, h10, h11⟩ := chk_facts h
  refine ⟨fun e => ?_, fun _ j hj => ((okR_iff _).1 h10 j hj).1⟩
  subst e
  rcases hasI_cases h1 with e | e | e
  · have : isP (M.bl.length : Int) = true := by
      rcases Bool.eq_false_or_eq_true (isP (M.bl.length : Int)) with hh | hh
      · exact hh
      · exact absurd ⟨e, hh⟩ h9
    have := isP_rng this
    omega
  · rw [e] at hi; simp [hasI] at hi
  · rw [e] at hi; simp [hasI] at hi
def FreshB (w w' : World) (v : Value) (l : List Int) : Prop := ∃ g, v = .slice (some ⟨g, 0, none⟩) l.length l.length ∧ w.heap.size ≤ g ∧ Blk w' g 5 (bv l).toArray
def EncPost (M : MsgV) (w : World) (e : Ending) (w' : World) : Prop := ∃ v, e = .returned (.tuple #[v, .int .i64 (chkM M)]) ∧ ((chkM M = 0 ∧ FreshB w w' v (encM M)) ∨ (chkM M ≠ 0 ∧ v = .slice none 0 0)) ∧ Below w.heap.size w w'
set_option maxRecDepth 8000 in
set_option maxHeartbeats 4000000 in
theorem encode_any (M : MsgV) (c : MC) (w : World) (hA : MsAt w M c) (hok : MsOk M) : Calls Try.prog 11 #[.agg (msA c)] w (EncPost M w) := by
  have Ek := Keep.mk hA.k
  have HA := Keep.mk hA
  have Hok := Keep.mk hok
  have hni : ((hasI M.k).length : Int) ≤ 9223372036854775807 := by have := hasI_len M.k; omega
  clear hA hok
  go_enter Try.func11, Try.ntmps11
  refine wp_seq_k fun K1 hK1 => ?_
  refine wp_region_list (WL.out ?_)
  refine WL.box (by kernel_rfl) 28 (.tmp 0) rfl _ rfl ?_
  have HM := Keep.mk (Blk.new w 28 (msA c))
  have B1 := Keep.mk (below_new w (.cells (msA c) 28))
  have HA1 := Keep.mk (HA.out.below (below_new w (.cells (msA c) 28)))
  generalize w.alloc (.cells (msA c) 28) = w1 at *
  obtain ⟨g, hg⟩ : ∃ g, g = w.heap.size := ⟨_, rfl⟩
  rw [← hg] at HM B1 ⊢
  have HgE := Keep.mk hg
  clear hg
  simp only [Act.put, List.setIfInBounds_toArray, List.set_cons_zero, List.set_cons_succ]
  refine WL.val (by kernel_rfl) (.slice none 0 0) (by go_simp) ?_
  simp only [Act.put, List.setIfInBounds_toArray, List.set_cons_zero, List.set_cons_succ]
  refine WL.val (by kernel_rfl) (.int .i64 0) (by go_simp) ?_
  simp only [Act.put, List.setIfInBounds_toArray, List.set_cons_zero, List.set_cons_succ]
  refine WL.nil ?_
  refine hK1 _ _ ?_
  refine wp_seq_k fun K2 hK2 => ?_
  refine wp_seq_k fun K3 hK3 => ?_
  refine wp_region_list (WL.out ?_)
  refine WL.row (by kernel_rfl) 28 (.tmp 1) rfl g rfl 28 (msA c) _ HM.out Try.underlying28 rfl (Try.size28B _) ?_
  simp only [Act.put, List.setIfInBounds_toArray, List.set_cons_zero, List.set_cons_succ]
  refine WL.callF (by kernel_rfl) 10 _ _ rfl Try.in10 #[.agg (msA c)] (by simp [Act.eval]) ?_
  refine (check_any M c w1 HA1.out Hok.out).mono ?_
  rintro e w2 ⟨rfl, hb2⟩
  refine ⟨_, rfl, ?_⟩
  have HM2 := Keep.mk (HM.out.below hb2 HM.out.lt)
  have HA2 := Keep.mk (HA1.out.below hb2)
  have B2 : Keep (Below g w w2) := ⟨B1.out.trans (hb2.mono (by rw [HgE.out]; exact B1.out.size))⟩
  clear hb2
  simp only [Act.put, List.setIfInBounds_toArray, List.set_cons_zero, List.set_cons_succ]
  refine WL.val (by kernel_rfl) (.int .i64 (chkM M)) (by go_simp) ?_
  simp only [Act.put, List.setIfInBounds_toArray, List.set_cons_zero, List.set_cons_succ]
  refine WL.nil ?_
  refine hK3 _ _ ?_
  refine wp_seq_k fun K4 hK4 => ?_
  refine wp_region_list (WL.out ?_)
  refine WL.val (by kernel_rfl) (.int .i64 (chkM M)) (by go_simp) ?_
  simp only [Act.put, List.setIfInBounds_toArray, List.set_cons_zero, List.set_cons_succ]
  by_cases h2_1 : chkM M = 0
  · skip
    refine WL.val (by kernel_rfl) (.bool false) (by go_simp) ?_
    simp only [Act.put, List.setIfInBounds_toArray, List.set_cons_zero, List.set_cons_succ]
    refine WL.nil ?_
    refine hK4 _ _ ?_
    refine wp_cond_false rfl ?_
    refine wp_skip ?_
    refine hK2 _ _ ?_
    refine wp_seq_k fun K5 hK5 => ?_
    have Hch := Keep.mk h2_1
    obtain ⟨h1, _, _, _, _, _, _, _, _, _, _⟩ := chk_facts h2_1
    have Hk := Keep.mk h1
    clear h1
    refine wp_region_list (WL.out ?_)
    refine WL.callF (by kernel_rfl) 26 _ _ rfl Try.in26 #[] (by simp [Act.eval]) ?_
    refine (newOut_any w2).mono ?_
    rintro e w3 ⟨rfl, hw3⟩
    refine ⟨_, rfl, ?_⟩
    have HO3 : Keep (OutAt w3 w2.heap.size (.slice none 0 0) []) := ⟨by rw [hw3]; exact ⟨Blk.new w2 104 _, own_nil _⟩⟩
    have B3 : Keep (Below w2.heap.size w2 w3) := ⟨by rw [hw3]; exact below_new w2 _⟩
    clear hw3
    obtain ⟨p, hp⟩ : ∃ p, p = w2.heap.size := ⟨_, rfl⟩
    rw [← hp] at HO3 B3 ⊢
    have HpE := Keep.mk hp
    clear hp
    have HM3 : Keep (Blk w3 g 28 (msA c)) := ⟨HM2.out.below B3.out (by rw [HpE.out]; exact HM2.out.lt)⟩
    have d0 := HM3.out.c 0 (ms_0 c)
    rw [Ek.out] at d0
    have hw8 : IntKind.u8.wrap M.k = M.k := by rw [IntKind.wrap_u8]; rcases hasI_cases Hk.out with e | e | e <;> rw [e] <;> rfl
    simp only [Act.put, List.setIfInBounds_toArray, List.set_cons_zero, List.set_cons_succ]
    refine WL.val (by kernel_rfl) (.pointer (some ⟨p, 0, none⟩)) (by go_simp) ?_
    simp only [Act.put, List.setIfInBounds_toArray, List.set_cons_zero, List.set_cons_succ]
    refine WL.nil ?_
    refine hK5 _ _ ?_
    refine wp_seq_k fun K6 hK6 => ?_
    refine wp_region_list (WL.out ?_)
    refine WL.val (by kernel_rfl) (.pointer (some ⟨p, 0, none⟩)) (by go_simp) ?_
    simp only [Act.put, List.setIfInBounds_toArray, List.set_cons_zero, List.set_cons_succ]
    refine WL.val (by kernel_rfl) (.pointer (some ⟨g, 0, none⟩)) (by go_simp) ?_
    simp only [Act.put, List.setIfInBounds_toArray, List.set_cons_zero, List.set_cons_succ]
    refine WL.val (by kernel_rfl) (.int .i64 M.k) (by go_simp) ?_
    simp only [Act.put, List.setIfInBounds_toArray, List.set_cons_zero, List.set_cons_succ]
    refine WL.val (by kernel_rfl) (.int .u8 M.k) (by go_simp) ?_
    simp only [Act.put, List.setIfInBounds_toArray, List.set_cons_zero, List.set_cons_succ]
    refine WL.callF (by kernel_rfl) 27 _ _ rfl Try.in27 #[ptr p, .int .u8 M.k] (by simp [Act.eval]) ?_
    refine (obyte_any p (.slice none 0 0) [] M.k w3 HO3.out (by simp)).mono ?_
    intro e w4 hp4
    obtain ⟨rfl, v4, hP4⟩ := (PS.start (B := p) (w0 := w2) HO3.out (fun k hk => by simp [Value.ownBlock] at hk) B3.out).call hp4 (by rw [HpE.out]; exact Nat.le_refl _) (Nat.le_refl _)
    refine ⟨_, rfl, ?_⟩
    have HO4 := Keep.mk hP4.o
    have HF4 := Keep.mk hP4.f
    have B4 := Keep.mk hP4.b
    clear hp4 hP4
    have HM4 : Keep (Blk w4 g 28 (msA c)) := ⟨HM2.out.below B4.out (by rw [HpE.out]; exact HM2.out.lt)⟩
    have e0 := HM4.out.c 0 (ms_0 c)
    rw [Ek.out] at e0
    simp only [Act.put, List.setIfInBounds_toArray, List.set_cons_zero, List.set_cons_succ]
    refine WL.nil ?_
    refine hK6 _ _ ?_
    refine wp_seq_k fun K7 hK7 => ?_
    refine wp_seq_k fun K8 hK8 => ?_
    refine wp_region_held_drew (S := fun wx => wx.cell? ⟨g, 0, none⟩ = some (.int .i64 M.k)) (by kernel_rfl) (e0) (fun hHeld => ?_)
    refine wpAnyH_take (i := 1) (oi := ⟨some 20, Op.fieldAddr 28 (Operand.tmp 1) 0, 0, _, _, none⟩) (v := .pointer (some ⟨g, 0, none⟩)) rfl (by kernel_rfl) (by kernel_rfl) (by kernel_rfl) (fun _ _ _ h => h) (Or.inl ⟨by rfl, fun w hS => by go_simp⟩) hHeld ?_
    simp only [Act.put, List.setIfInBounds_toArray, List.set_cons_zero, List.set_cons_succ]
    refine wpAnyH_take (i := 2) (oi := ⟨some 21, Op.load 3 (Operand.tmp 20), 3, _, _, none⟩) (v := .int .i64 M.k) rfl (by kernel_rfl) (by kernel_rfl) (by kernel_rfl) (fun _ _ _ h => h) (Or.inl ⟨by rfl, fun w hS => by go_simp⟩) hHeld ?_
    simp only [Act.put, List.setIfInBounds_toArray, List.set_cons_zero, List.set_cons_succ]
    refine wpAnyH_take (i := 5) (oi := ⟨some 24, Op.move (Operand.const (Value.int IntKind.i64 0)), 3, _, _, none⟩) (v := .int .i64 0) rfl (by kernel_rfl) (by kernel_rfl) (by kernel_rfl) (fun _ _ _ h => h) (Or.inl ⟨by rfl, fun w hS => by go_simp⟩) hHeld ?_
    simp only [Act.put, List.setIfInBounds_toArray, List.set_cons_zero, List.set_cons_succ]
    refine wpAnyH_ready (rs := [0]) (by kernel_rfl) (by simp) ?_
    refine AllReadyH.cons (o := ⟨some 19, Op.call { callee := Callee.value (Operand.func 20), args := #[], argTypes := #[] }, 59, _, _, none⟩) rfl (fun K hK => ?_) AllReadyH.nil
    rw [if_pos (by rfl)]
    refine wp_callF 20 _ _ rfl Try.in20 #[] (by simp [Act.eval]) (fun v w' => ∃ m, v = .map (some m) ∧ TabAt w' m ∧ Below w4.drew.heap.size w4.drew w') ((tab_any w4.drew).mono fun e w' h => by obtain ⟨m, h1, h2, h3, h4⟩ := h; exact ⟨_, h1, m, rfl, h2, h4⟩) ?_
    rintro v w5 ⟨m, rfl, hT2, hb2⟩
    have B5w : Keep (Below w4.heap.size w4 w5) := ⟨(Below.refl _ _).drew.trans hb2⟩
    have HM5 := Keep.mk (HM4.out.below B5w.out HM4.out.lt)
    have HO5 : Keep (OutAt w5 p v4 [M.k]) := ⟨HO4.out.grown (Grown.below (S := fun _ => False) B5w.out) fun _ _ h => h⟩
    have B5 : Keep (Below p w2 w5) := ⟨B4.out.trans (B5w.out.mono (by rw [HpE.out]; exact B4.out.size))⟩
    have f0 := HM5.out.c 0 (ms_0 c)
    rw [Ek.out] at f0
    obtain ⟨vF, hvF, hlk⟩ := hT2.look2 M.k
    have hlk2 := (hlk w5 (Below.refl _ _)).1
    obtain ⟨gf, hgf, HFb⟩ := hvF.some Hk.out
    subst hgf
    have HF5 := Keep.mk HFb
    have Hgf : Keep (gf ≠ g ∧ gf ≠ p ∧ v4.ownBlock ≠ some gf) := ⟨blk_ne HFb HM5.out (by decide), blk_ne HFb HO5.out.blk (by decide), HO5.out.own.ne HFb (by decide)⟩
    clear HFb
    clear hvF hlk hb2 hT2
    refine hK.out _ _ f0 fun hHeld5 => ?_
    clear hK
    simp only [Act.put, List.setIfInBounds_toArray, List.set_cons_zero, List.set_cons_succ]
    refine wpAnyH_weaken (S' := fun wx => wx.cell? ⟨g, 0, none⟩ = some (.int .i64 M.k) ∧ (Instr.lookup 59 (.map (some m)) (.int .i64 M.k) false).run Try.prog wx = .ok (.slice (some ⟨gf, 0, none⟩) (hasI M.k).length (hasI M.k).length) wx) (fun _ h => h.1) _ _ _ _ ?_
    have hH6 := And.intro hHeld5 hlk2
    refine wpAnyH_take (i := 3) (oi := ⟨some 22, Op.lookup 59 (Operand.tmp 19) (Operand.tmp 21) false, 57, _, _, none⟩) (v := .slice (some ⟨gf, 0, none⟩) (hasI M.k).length (hasI M.k).length) rfl (by kernel_rfl) (by kernel_rfl) (by kernel_rfl) (fun _ _ _ h => h) (Or.inl ⟨by rfl, fun w hS => by have h := hS.2; go_simp⟩) hH6 ?_
    simp only [Act.put, List.setIfInBounds_toArray, List.set_cons_zero, List.set_cons_succ]
    refine wpAnyH_take (i := 4) (oi := ⟨some 23, Op.call { callee := Callee.builtin Builtin.len, args := #[Operand.tmp 22], argTypes := #[57] }, 3, _, _, none⟩) (v := .int .i64 ((hasI M.k).length : Int)) rfl (by kernel_rfl) (by kernel_rfl) (by kernel_rfl) (fun _ _ _ h => h) (Or.inl ⟨by rfl, fun w hS => by go_simp⟩) hH6 ?_
    simp only [Act.put, List.setIfInBounds_toArray, List.set_cons_zero, List.set_cons_succ]
    refine wpAnyH_done (by kernel_rfl) ?_ _
    refine hK8 _ _ ?_
    refine wp_block ?_
    refine wp_loop (fun ac wr => ∃ (t : Nat) (u7 u25 u26 u27 u28 u29 u30 u31 u32 u33 : Value), ac = { tmps := #[.agg (msA c), .pointer (some ⟨g, 0, none⟩), .slice none 0 0, .int .i64 0, .int .i64 (chkM M), .pointer (some ⟨p, 0, none⟩), undef, u7, .agg (msA c), .int .i64 (chkM M), .int .i64 (chkM M), .bool false, undef, .pointer (some ⟨p, 0, none⟩), .pointer (some ⟨p, 0, none⟩), .pointer (some ⟨g, 0, none⟩), .int .i64 M.k, .int .u8 M.k, .tuple #[], .map (some m), .pointer (some ⟨g, 0, none⟩), .int .i64 M.k, .slice (some ⟨gf, 0, none⟩) (hasI M.k).length (hasI M.k).length, .int .i64 ((hasI M.k).length : Int), .int .i64 (t : Int), u25, u26, u27, u28, u29, u30, u31, u32, u33, undef, undef], defers := [] } ∧ t ≤ (hasI M.k).length ∧ ∃ vr, Keep (OutAt wr p vr ([M.k] ++ ((hasI M.k).take t).flatMap fun i => putF i M)) ∧ Keep (Fr p vr) ∧ Keep (Below p w2 wr) ∧ Keep (Blk wr g 28 (msA c)) ∧ Keep (Blk wr gf 71 (flatF (hasI M.k)))) (fun a _ => (hasI M.k).length - (intOf (a.tmps.getD 24 undef)).toNat) ⟨0, undef, undef, undef, undef, undef, undef, undef, undef, undef, undef, rfl, by omega, v4, ⟨by simpa using HO5.out⟩, HF4, B5, HM5, HF5⟩ ?_
    rintro ac wr ⟨t, u7, u25, u26, u27, u28, u29, u30, u31, u32, u33, rfl, ht, vr, HOr, HVr, Br, HMr, HFr⟩
    by_cases hlt : t < (hasI M.k).length
    · have hlt' : (t : Int) < ((hasI M.k).length : Int) := by omega
      have hwt : IntKind.i64.wrap ((t : Int) + 1) = (t : Int) + 1 := by rw [IntKind.wrap_i64]; have := hasI_len M.k; omega
      obtain ⟨i, hi⟩ : ∃ i, (hasI M.k)[t]? = some i := ⟨_, List.getElem?_eq_getElem hlt⟩
      have Hi := Keep.mk hi
      have Him : Keep (i ∈ hasI M.k) := ⟨List.mem_of_getElem? hi⟩
      clear hi
      refine wp_seq_k fun K9 hK9 => ?_
      refine wp_region_list (WL.out ?_)
      refine WL.val (by kernel_rfl) (.bool true) (by go_simp) ?_
      simp only [Act.put, List.setIfInBounds_toArray, List.set_cons_zero, List.set_cons_succ]
      refine WL.nil ?_
      refine hK9 _ _ ?_
      refine wp_seq_k fun K10 hK10 => ?_
      refine wp_cond_true rfl ?_
      refine wp_skip ?_
      refine hK10 _ _ ?_
      refine wp_seq_k fun K11 hK11 => ?_
      refine wp_block ?_
      refine wp_seq_k fun K12 hK12 => ?_
      refine wp_region_list (WL.out ?_)
      refine WL.val (by kernel_rfl) (.pointer (some ⟨gf, t * 3, none⟩)) (by go_simp) ?_
      simp only [Act.put, List.setIfInBounds_toArray, List.set_cons_zero, List.set_cons_succ]
      refine WL.mid (by kernel_rfl) 71 (.tmp 26) rfl gf (t * 3) rfl (fldA i).toList _ (fld_range HFr.out t i Hi.out) Try.underlying71 rfl (Try.size71L i) ?_
      rw [Array.toArray_toList]
      simp only [Act.put, List.setIfInBounds_toArray, List.set_cons_zero, List.set_cons_succ]
      refine WL.new (by kernel_rfl) 71 rfl _ Try.new71 ?_
      have HNn := Keep.mk (Blk.new wr 71 noF)
      have HMn := Keep.mk (HMr.out.alloc (.cells noF 71))
      have HFn := Keep.mk (HFr.out.alloc (.cells noF 71))
      have HOn := Keep.mk (HOr.out.box (.cells noF 71))
      have Bn : Keep (Below p w2 (wr.alloc (.cells noF 71))) := ⟨Br.out.trans ((below_new wr _).mono (by rw [HpE.out]; exact Br.out.size))⟩
      have Hne : Keep (wr.heap.size ≠ g ∧ wr.heap.size ≠ gf ∧ p ≤ wr.heap.size ∧ wr.heap.size ≠ p ∧ vr.ownBlock ≠ some wr.heap.size) := ⟨by have := HMr.out.lt; omega, by have := HFr.out.lt; omega, by have := HOr.out.blk.lt; omega, by have := HOr.out.blk.lt; omega, fun e => by have := HOr.out.own.lt _ e; omega⟩
      generalize wr.alloc (.cells noF 71) = wn at *
      generalize wr.heap.size = gn at *
      simp only [Act.put, List.setIfInBounds_toArray, List.set_cons_zero, List.set_cons_succ]
      refine WL.storeR (by kernel_rfl) 71 (.tmp 7) (.tmp 27) rfl gn (fldA i) rfl rfl 71 noF HNn.out (Try.size71B i) (noF_sizes i) (fldA_one i) ?_
      have HN2 := Keep.mk (HNn.out.setRow (fldA i))
      have HMs := Keep.mk (HMn.out.setRow_ne (b' := gn) (fun e => Hne.out.1 e.symm) (fldA i))
      have HFs := Keep.mk (HFn.out.setRow_ne (b' := gn) (fun e => Hne.out.2.1 e.symm) (fldA i))
      have HOs : Keep (OutAt (wn.setRow gn (fldA i)) p vr ([M.k] ++ ((hasI M.k).take t).flatMap fun i => putF i M)) := ⟨HOn.out.grown (Grown.setRow wn gn _ (S := fun k => k = gn) fun _ => rfl) fun k hk e => by rcases hk with hk | hk; exact Hne.out.2.2.2.1 (e.symm.trans hk); rw [e] at hk; exact Hne.out.2.2.2.2 hk⟩
      have Bs : Keep (Below p w2 (wn.setRow gn (fldA i))) := ⟨below_setRow Bn.out Hne.out.2.2.1 _⟩
      generalize wn.setRow gn (fldA i) = ws at *
      have c1 := HN2.out.c 1 (fldA_p i)
      simp only [Act.put]
      refine WL.nil ?_
      refine hK12 _ _ ?_
      refine wp_region_list (WL.out ?_)
      refine WL.val (by kernel_rfl) (.pointer (some ⟨gn, 1, none⟩)) (by go_simp) ?_
      simp only [Act.put, List.setIfInBounds_toArray, List.set_cons_zero, List.set_cons_succ]
      refine WL.val (by kernel_rfl) (.func (.func (pfn i)) #[] #[]) (by go_simp) ?_
      simp only [Act.put, List.setIfInBounds_toArray, List.set_cons_zero, List.set_cons_succ]
      refine WL.val (by kernel_rfl) (.pointer (some ⟨p, 0, none⟩)) (by go_simp) ?_
      simp only [Act.put, List.setIfInBounds_toArray, List.set_cons_zero, List.set_cons_succ]
      refine WL.row (by kernel_rfl) 28 (.tmp 1) rfl g rfl 28 (msA c) _ HMs.out Try.underlying28 rfl (Try.size28B _) ?_
      simp only [Act.put, List.setIfInBounds_toArray, List.set_cons_zero, List.set_cons_succ]
      refine WL.callV (by kernel_rfl) (pfn i) (.tmp 29) _ _ rfl rfl (pfn_in i) #[ptr p, .agg (msA c)] (by simp [Act.eval]) ?_
      refine (put_any i (hasI_lt _ _ Him.out) p p vr _ w2 ws (by rw [HpE.out]; exact Nat.le_refl _) (by rw [HpE.out]; exact Nat.le_refl _) Bs.out HOs.out (Nat.le_refl _) HVr.out M c HA2.out Hok.out (put_ok Hch.out i Him.out) (by have h1 := enc_small Hch.out; have h2 := fm_le (fun i => putF i M) (hasI M.k) (t + 1); rw [fm_step (fun i => putF i M) (hasI M.k) t i Hi.out] at h2; rw [encM, List.length_append] at h1; rw [List.append_assoc, List.length_append]; omega)).mono ?_
      intro e w9 hp9
      obtain ⟨rfl, v9, hP9⟩ := hp9
      have hO9 := hP9.o
      have hF9 := hP9.f
      have hB9 := hP9.b
      refine ⟨_, rfl, ?_⟩
      have HO9 : Keep (OutAt w9 p v9 ([M.k] ++ ((hasI M.k).take (t + 1)).flatMap fun i => putF i M)) := ⟨by rw [fm_step (fun i => putF i M) (hasI M.k) t i Hi.out, ← List.append_assoc]; exact hO9⟩
      have HV9 := Keep.mk hF9
      have B9 := Keep.mk hB9
      have HM9 : Keep (Blk w9 g 28 (msA c)) := ⟨HM2.out.below hB9 (by rw [HpE.out]; exact HM2.out.lt)⟩
      have HF9 : Keep (Blk w9 gf 71 (flatF (hasI M.k))) := ⟨hP9.g.blk HFs.out (fun ho => by rcases ho with ho | ho; exact (blk_ne HFs.out HOs.out.blk (by decide)) ho; exact HOs.out.own.ne HFs.out (by decide) ho)⟩
      clear hO9 hF9 hB9 hP9
      simp only [Act.put, List.setIfInBounds_toArray, List.set_cons_zero, List.set_cons_succ]
      refine WL.nil ?_
      refine hK11 _ _ ?_
      refine wp_region_list (WL.out ?_)
      refine WL.val (by kernel_rfl) (.int .i64 ((t : Int) + 1)) (by go_simp) ?_
      simp only [Act.put, List.setIfInBounds_toArray, List.set_cons_zero, List.set_cons_succ]
      refine WL.val (by kernel_rfl) (.int .i64 ((t : Int) + 1)) (by go_simp) ?_
      simp only [Act.put, List.setIfInBounds_toArray, List.set_cons_zero, List.set_cons_succ]
      refine WL.nil ?_
      refine ⟨⟨t + 1, .pointer (some ⟨gn, 0, none⟩), .bool true, .pointer (some ⟨gf, t * 3, none⟩), .agg (fldA i), .pointer (some ⟨gn, 1, none⟩), .func (.func (pfn i)) #[] #[], .pointer (some ⟨p, 0, none⟩), .agg (msA c), .tuple #[], .int .i64 ((t : Int) + 1), rfl, by omega, v9, HO9, HV9, B9, HM9, HF9⟩, by simp [intOf]; omega⟩
    · obtain rfl : t = (hasI M.k).length := by omega
      rw [List.take_length] at HOr
      refine wp_seq_k fun K13 hK13 => ?_
      refine wp_region_list (WL.out ?_)
      refine WL.val (by kernel_rfl) (.bool false) (by go_simp) ?_
      simp only [Act.put, List.setIfInBounds_toArray, List.set_cons_zero, List.set_cons_succ]
      refine WL.nil ?_
      refine hK13 _ _ ?_
      refine wp_seq_k fun K14 hK14 => ?_
      refine wp_cond_false rfl ?_
      refine wp_exit ?_
      refine hK7 _ _ ?_
      refine wp_seq_k fun K15 hK15 => ?_
      refine wp_region_list (WL.out ?_)
      refine WL.val (by kernel_rfl) (.pointer (some ⟨p, 0, none⟩)) (by go_simp) ?_
      simp only [Act.put, List.setIfInBounds_toArray, List.set_cons_zero, List.set_cons_succ]
      refine WL.callF (by kernel_rfl) 28 _ _ rfl Try.in28 #[ptr p] (by simp [Act.eval]) ?_
      refine (odone_any p vr (encM M) wr HOr.out (by have := enc_small Hch.out; omega)).mono ?_
      rintro e w7 ⟨rfl, hw7⟩
      refine ⟨_, rfl, ?_⟩
      have H7 : Keep (FreshB w w7 (.slice (some ⟨wr.heap.size, 0, none⟩) (encM M).length (encM M).length) (encM M)) := ⟨_, rfl, Nat.le_trans B2.out.size Br.out.size, by rw [hw7]; exact Blk.new wr 5 _⟩
      have B7 : Keep (Below w.heap.size w w7) := ⟨by rw [hw7, ← HgE.out]; exact B2.out.trans ((Br.out.trans ((below_new wr _).mono (by rw [HpE.out]; exact Br.out.size))).mono (by rw [HpE.out, HgE.out]; exact B2.out.size))⟩
      clear hw7
      simp only [Act.put, List.setIfInBounds_toArray, List.set_cons_zero, List.set_cons_succ]
      refine WL.val (by kernel_rfl) (.slice (some ⟨wr.heap.size, 0, none⟩) (encM M).length (encM M).length) (by go_simp) ?_
      simp only [Act.put, List.setIfInBounds_toArray, List.set_cons_zero, List.set_cons_succ]
      refine WL.val (by kernel_rfl) (.int .i64 0) (by go_simp) ?_
      simp only [Act.put, List.setIfInBounds_toArray, List.set_cons_zero, List.set_cons_succ]
      refine WL.nil ?_
      refine hK15 _ _ ?_
      refine wp_ret ?_
      go_ret2
      exact ⟨.slice (some ⟨wr.heap.size, 0, none⟩) (encM M).length (encM M).length, by rw [Hch.out]; rfl, .inl ⟨Hch.out, H7.out⟩, B7.out⟩
  · skip
    refine WL.val (by kernel_rfl) (.bool true) (by go_simp) ?_
    simp only [Act.put, List.setIfInBounds_toArray, List.set_cons_zero, List.set_cons_succ]
    refine WL.nil ?_
    refine hK4 _ _ ?_
    refine wp_cond_true rfl ?_
    refine wp_seq_k fun K16 hK16 => ?_
    refine wp_region_list (WL.out ?_)
    refine WL.val (by kernel_rfl) (.int .i64 (chkM M)) (by go_simp) ?_
    simp only [Act.put, List.setIfInBounds_toArray, List.set_cons_zero, List.set_cons_succ]
    refine WL.val (by kernel_rfl) (.slice none 0 0) (by go_simp) ?_
    simp only [Act.put, List.setIfInBounds_toArray, List.set_cons_zero, List.set_cons_succ]
    refine WL.val (by kernel_rfl) (.int .i64 (chkM M)) (by go_simp) ?_
    simp only [Act.put, List.setIfInBounds_toArray, List.set_cons_zero, List.set_cons_succ]
    refine WL.nil ?_
    refine hK16 _ _ ?_
    refine wp_ret ?_
    go_ret2
    exact ⟨_, rfl, .inr ⟨h2_1, rfl⟩, by rw [← HgE.out]; exact B2.out⟩
def Gives (p : Nat) (R : Int × Nat) (w : World) (e : Ending) (w' : World) : Prop := R.1 ≠ 0 ∧ ∃ q, w.heap.size ≤ q ∧ e = .panicked [wr q] ∧ BadAt w' q R.1 R.2 ∧ Grown w w' fun k => k = p
def Rds (p : Nat) (s : ByteArray) (R : Int × Nat) (Z : Value → World → Prop) (w : World) (e : Ending) (w' : World) : Prop :=
  (R.1 = 0 ∧ ∃ v, e = .returned v ∧ Z v w' ∧ InAt w' p s R.2 none ∧ Grown w w' fun k => k = p) ∨ Gives p R w e w'
theorem Gives.of {p : Nat} {R : Int × Nat} {w w1 w' : World} {e : Ending} (hg : Grown w w1 fun k => k = p) (h : Gives p R w1 e w') : Gives p R w e w' :=
  ⟨h.1, by obtain ⟨q, h1, h2, h3, h4⟩ := h.2; exact ⟨q, Nat.le_trans hg.size h1, h2, h3, hg.trans h4⟩⟩
theorem fst_rng (D : List Int) (hD : Byts D) (mm : Int) (hmm : 0 ≤ mm) : 0 ≤ (fstM D mm).1 ∧ (fstM D mm).1 ≤ mm := by
  by_cases h : (fstM D mm).2.2 = 0
  · exact fstM_le D mm hD h
  · have := (fstM_shape D mm).1 h
    omega
def hsR (L : List Int) (most : Int) (a : Nat) : Int × Nat × List Hs :=
  if (fstM (L.drop a) most).2.2 ≠ 0 then ((fstM (L.drop a) most).2.2, a + (fstM (L.drop a) most).2.1.toNat, []) else getH L (fstM (L.drop a) most).1.toNat [] (a + (fstM (L.drop a) most).2.1.toNat)
def leP (D : List Int) : Nat → Int
  | 0 => 0
  | t + 1 => leP D t + D.getD t 0 * 256 ^ t
def saR (L : List Int) (a : Nat) : Int × Nat × Int := if nextW (L.drop a) 8 ≠ 0 then (nextW (L.drop a) 8, a + nextN (L.drop a) 8, 0) else (0, a + 8, leP (L.drop a) 8)
def dgR (L : List Int) (a : Nat) : Int × Nat × List Int := if (byt (L.drop a) 8192).1 ≠ 0 then ((byt (L.drop a) 8192).1, a + (byt (L.drop a) 8192).2.1, []) else if isP ((byt (L.drop a) 8192).2.2.length : Int) = false then (60, a, []) else (0, a + (byt (L.drop a) 8192).2.1, (byt (L.drop a) 8192).2.2)
def bk1 (L : List Int) (a : Nat) : Int × Nat × List Int := if (byt (L.drop a) 1048576).1 ≠ 0 then ((byt (L.drop a) 1048576).1, a + (byt (L.drop a) 1048576).2.1, []) else if (byt (L.drop a) 1048576).2.2.length = 0 then (4, a, []) else (0, a + (byt (L.drop a) 1048576).2.1, (byt (L.drop a) 1048576).2.2)
def bkG (L : List Int) : Nat → List (List Int) → Nat → Int × Nat × List (List Int)
  | 0, P, a => (0, a, P)
  | n + 1, P, a => if (bk1 L a).1 ≠ 0 then ((bk1 L a).1, (bk1 L a).2.1, []) else bkG L n (P ++ [(bk1 L a).2.2]) (bk1 L a).2.1
def bkR (L : List Int) (a : Nat) : Int × Nat × List (List Int) :=
  if (fstM (L.drop a) 256).2.2 ≠ 0 then ((fstM (L.drop a) 256).2.2, a + (fstM (L.drop a) 256).2.1.toNat, []) else if (fstM (L.drop a) 256).1 = 0 then (1, a, []) else bkG L (fstM (L.drop a) 256).1.toNat [] (a + (fstM (L.drop a) 256).2.1.toNat)
theorem Try.in78 (w : World) (vs : Array Value) : (callFunc 78 vs).run Try.prog w = .ok (.enter 78 vs) w := by kernel_rfl
theorem Try.in83 (w : World) (vs : Array Value) : (callFunc 83 vs).run Try.prog w = .ok (.enter 83 vs) w := by kernel_rfl
theorem Try.in88 (w : World) (vs : Array Value) : (callFunc 88 vs).run Try.prog w = .ok (.enter 88 vs) w := by kernel_rfl
theorem Try.in112 (w : World) (vs : Array Value) : (callFunc 112 vs).run Try.prog w = .ok (.enter 112 vs) w := by kernel_rfl
theorem Try.in96 (w : World) (vs : Array Value) : (callFunc 96 vs).run Try.prog w = .ok (.enter 96 vs) w := by kernel_rfl
theorem row_cell {w : World} {a : Option Addr} {n c : Nat} {l : List Int} (h : RowAt w (.slice a n c) l) (t : Nat) (ht : t < l.length) : ∃ b o, a = some ⟨b, o, none⟩ ∧ w.cell? ⟨b, o + t, none⟩ = some (.int .u8 (l.getD t 0)) := by
  rcases h with ⟨h1, rfl⟩ | ⟨a', c', h1, rfl⟩ | ⟨b, off, cap, h1, _, h2⟩
  · simp at ht
  · simp at ht
  · injection h1 with h1 _ _
    exact ⟨b, off, h1, h2 t ht⟩
theorem leP_rng (D : List Int) (hD : Byts D) : ∀ t, 0 ≤ leP D t ∧ leP D t < 256 ^ t
  | 0 => by simp [leP]
  | t + 1 => by
    have h1 := leP_rng D hD t
    have h2 := hD.getD t
    have hp : (0 : Int) < 256 ^ t := Int.pow_pos (by decide)
    rw [leP, Int.pow_succ]
    have h3 : D.getD t 0 * 256 ^ t ≤ 255 * 256 ^ t := Int.mul_le_mul_of_nonneg_right (by omega) (Int.le_of_lt hp)
    have h4 : 0 ≤ D.getD t 0 * 256 ^ t := Int.mul_nonneg h2.1 (Int.le_of_lt hp)
    omega
theorem pow_8 (t : Nat) : (2 : Int) ^ (8 * t) = 256 ^ t := by rw [Int.pow_mul]; rfl
theorem mul_top (x : Int) (t : Nat) (hx : 0 ≤ x ∧ x < 256) (ht : t < 8) : 0 ≤ x * 256 ^ t ∧ x * 256 ^ t < 18446744073709551616 := by
  have hp : (0 : Int) < 256 ^ t := Int.pow_pos (by decide)
  have h3 : x * 256 ^ t ≤ 255 * 256 ^ t := Int.mul_le_mul_of_nonneg_right (by omega) (Int.le_of_lt hp)
  have h5 : (256 : Int) ^ t ≤ 72057594037927936 := by
    rcases (by omega : t = 0 ∨ t = 1 ∨ t = 2 ∨ t = 3 ∨ t = 4 ∨ t = 5 ∨ t = 6 ∨ t = 7) with rfl | rfl | rfl | rfl | rfl | rfl | rfl | rfl <;> decide
  exact ⟨Int.mul_nonneg hx.1 (Int.le_of_lt hp), by omega⟩
theorem sh_val (x : Int) (t : Nat) (hx : 0 ≤ x ∧ x < 256) (ht : t < 8) : IntKind.u64.wrap (x * 2 ^ (8 * (t : Int)).toNat) = x * 256 ^ t := by
  rw [show (8 * (t : Int)).toNat = 8 * t by omega, pow_8, IntKind.wrap_u64]
  have := mul_top x t hx ht
  omega
theorem or_val (x y : Int) (t : Nat) (hx : 0 ≤ x ∧ x < 256) (hy : 0 ≤ y ∧ y < 256 ^ t) (ht : t < 8) : bits .or .u64 y (x * 256 ^ t) = y + x * 256 ^ t := by
  have h1 := mul_top x t hx ht
  have h5 : (256 : Int) ^ t ≤ 72057594037927936 := by
    rcases (by omega : t = 0 ∨ t = 1 ∨ t = 2 ∨ t = 3 ∨ t = 4 ∨ t = 5 ∨ t = 6 ∨ t = 7) with rfl | rfl | rfl | rfl | rfl | rfl | rfl | rfl <;> decide
  have h6 : (2 : Int) ^ 64 = 18446744073709551616 := by decide
  have h7 : y < 2 ^ 64 := by omega
  have h8 : x * 256 ^ t < 2 ^ 64 := by omega
  have h9 : y < 2 ^ (8 * t) := by rw [pow_8]; exact hy.2
  have h10 : x * 256 ^ t % 2 ^ (8 * t) = 0 := by rw [pow_8]; exact Int.mul_emod_left _ _
  exact bits_join_low .u64 64 (by decide) wraps_u64 (8 * t) y (x * 256 ^ t) hy.1 h9 h7 h1.1 h10 h8
set_option maxRecDepth 8000 in
set_option maxHeartbeats 2000000 in
theorem getSalt_any (p : Nat) (s : ByteArray) (a : Nat) (w : World) (hI : InAt w p s a none) (hb : s.size ≤ 140737488355328) :
    Calls Try.prog 83 #[ptr p] w (Rds p s ((saR (lst s) a).1, (saR (lst s) a).2.1) (fun v _ => v = .int .u64 (saR (lst s) a).2.2) w) := by
  obtain ⟨D, hD⟩ : ∃ D, D = (lst s).drop a := ⟨_, rfl⟩
  obtain ⟨W, hW⟩ : ∃ W, W = nextW D 8 := ⟨_, rfl⟩
  obtain ⟨N, hN⟩ : ∃ N, N = nextN D 8 := ⟨_, rfl⟩
  have HC := Keep.mk (iraw_good p s a 8 w hI hb (by decide) (by decide) D hD W hW N hN)
  have HBy : Keep (Byts D) := ⟨by rw [hD]; exact (lst_byts s).drop a⟩
  obtain ⟨R, hR⟩ : ∃ R, R = saR (lst s) a := ⟨_, rfl⟩
  have HR1 : Keep (¬ W = 0 → R = (W, a + N, 0)) := ⟨fun h => by rw [hR]; unfold saR; rw [← hD, ← hW, ← hN, if_pos h]⟩
  have HR2 : Keep (W = 0 → R = (0, a + 8, leP D 8)) := ⟨fun h => by rw [hR]; unfold saR; rw [← hD, ← hW, if_neg (by simp [h])]⟩
  have HN1 : Keep (W = 0 → N = 8) := ⟨fun h => by rw [hN, (nextN_0 D 8 (by rw [← hW]; exact h)).1]; rfl⟩
  have HN2 : Keep (W = 0 → 8 ≤ D.length) := ⟨fun h => (nextN_0 D 8 (by rw [← hW]; exact h)).2.2⟩
  rw [← hR]
  clear hI hb hD hW hN hR
  go_enter Try.func83, Try.ntmps83
  refine wp_seq_k fun K1 hK1 => ?_
  refine wp_region_list (WL.out ?_)
  refine WL.val (by kernel_rfl) (.int .u64 0) (by go_simp) ?_
  simp only [Act.put, List.setIfInBounds_toArray, List.set_cons_zero, List.set_cons_succ]
  refine WL.nil ?_
  refine hK1 _ _ ?_
  refine wp_seq_k fun K2 hK2 => ?_
  refine wp_region_list (WL.out ?_)
  refine WL.val (by kernel_rfl) (.int .u64 0) (by go_simp) ?_
  simp only [Act.put, List.setIfInBounds_toArray, List.set_cons_zero, List.set_cons_succ]
  refine WL.nil ?_
  refine hK2 _ _ ?_
  refine wp_seq_k fun K3 hK3 => ?_
  refine wp_seq_k fun K4 hK4 => ?_
  refine wp_region_list (WL.out ?_)
  refine WL.val (by kernel_rfl) (.pointer (some ⟨p, 0, none⟩)) (by go_simp) ?_
  simp only [Act.put, List.setIfInBounds_toArray, List.set_cons_zero, List.set_cons_succ]
  refine WL.callF (by kernel_rfl) 109 _ _ rfl Try.in109 #[ptr p, .int .i64 8] (by simp [Act.eval]) ?_
  refine (HC.out).mono ?_
  rintro e w1 ⟨bad, er, res, rfl, h1, h2, h3, h4⟩
  refine ⟨_, rfl, ?_⟩
  have H1 := Keep.mk h1
  have H2 := Keep.mk h2
  have H3 := Keep.mk h3
  have H4 := Keep.mk h4
  clear h1 h2 h3 h4
  simp only [Act.put, List.setIfInBounds_toArray, List.set_cons_zero, List.set_cons_succ]
  by_cases hE : W = 0
  · rcases H3.out with ⟨e1, rfl, rfl⟩ | ⟨e1, _⟩
    rotate_left
    · exact absurd hE e1
    rcases H4.out with ⟨_, hO, k0, hk0, hk1, _⟩ | ⟨e1, _⟩
    rotate_left
    · exact absurd hE e1
    have hrow := hO.row
    rw [HN1.out hE] at hrow
    have hl8 : (D.take 8).length = 8 := by have := (HN2.out hE); rw [List.length_take]; omega
    obtain ⟨ra, rc, rfl⟩ := row_form hrow
    rw [hl8] at *
    have HRow := Keep.mk hrow
    clear hO hk0 hk1 hrow hl8
    refine WL.val (by kernel_rfl) (.slice ra 8 rc) (by go_simp) ?_
    simp only [Act.put, List.setIfInBounds_toArray, List.set_cons_zero, List.set_cons_succ]
    refine WL.val (by kernel_rfl) (.nilIface) (by go_simp) ?_
    simp only [Act.put, List.setIfInBounds_toArray, List.set_cons_zero, List.set_cons_succ]
    refine WL.callF (by kernel_rfl) 108 _ _ rfl Try.in108 #[.slice ra 8 rc, .nilIface] (by simp [Act.eval]) ?_
    refine (must108_ok (.slice ra 8 rc) w1).mono ?_
    rintro e w0 ⟨rfl, hw0⟩
    rw [hw0]
    clear hw0 w0
    refine ⟨_, rfl, ?_⟩
    simp only [Act.put, List.setIfInBounds_toArray, List.set_cons_zero, List.set_cons_succ]
    refine WL.val (by kernel_rfl) (.int .i64 8) (by go_simp) ?_
    simp only [Act.put, List.setIfInBounds_toArray, List.set_cons_zero, List.set_cons_succ]
    refine WL.val (by kernel_rfl) (.int .i64 0) (by go_simp) ?_
    simp only [Act.put, List.setIfInBounds_toArray, List.set_cons_zero, List.set_cons_succ]
    refine WL.nil ?_
    refine hK4 _ _ ?_
    refine wp_block ?_
    refine wp_loop (fun ac wr => ∃ (t : Nat) (u4 u5 u13 u14 u15 u16 u17 u18 u19 u20 u21 u22 u23 u24 : Value), ac = { tmps := #[.pointer (some ⟨p, 0, none⟩), undef, .int .u64 0, .int .u64 (leP D t), u4, u5, .pointer (some ⟨p, 0, none⟩), .tuple #[.slice ra 8 rc, .nilIface], .slice ra 8 rc, .nilIface, .slice ra 8 rc, .int .i64 8, .int .i64 (t : Int), u13, u14, u15, u16, u17, u18, u19, u20, u21, u22, u23, u24, undef], defers := [] } ∧ t ≤ 8 ∧ wr = w1) (fun a _ => 8 - (intOf (a.tmps.getD 12 undef)).toNat) ⟨0, undef, undef, undef, undef, undef, undef, undef, undef, undef, undef, undef, undef, undef, undef, rfl, by omega, rfl⟩ ?_
    rintro ac wr ⟨t, u4, u5, u13, u14, u15, u16, u17, u18, u19, u20, u21, u22, u23, u24, rfl, ht, rfl⟩
    by_cases hlt : t < 8
    · have hlt' : (t : Int) < 8 := by omega
      have hwt : IntKind.i64.wrap ((t : Int) + 1) = (t : Int) + 1 := by rw [IntKind.wrap_i64]; omega
      obtain ⟨b, o, hra, hcl⟩ := row_cell HRow.out t (by rw [List.length_take]; have := HN2.out hE; omega)
      subst hra
      obtain ⟨x, hx⟩ : ∃ x, x = D.getD t 0 := ⟨_, rfl⟩
      have hxe : (D.take 8).getD t 0 = x := by rw [hx, List.getD_eq_getElem?_getD, List.getElem?_take, if_pos hlt, ← List.getD_eq_getElem?_getD]
      rw [hxe] at hcl
      have hxr : 0 ≤ x ∧ x < 256 := by rw [hx]; exact HBy.out.getD t
      have Hx := Keep.mk hx
      clear hx hxe
      obtain ⟨y, hy⟩ : ∃ y, y = leP D t := ⟨_, rfl⟩
      rw [← hy]
      have hyr : 0 ≤ y ∧ y < 256 ^ t := by rw [hy]; exact leP_rng D HBy.out t
      have Hy := Keep.mk hy
      clear hy
      have hw8 : IntKind.u64.wrap x = x := by rw [IntKind.wrap_u64]; omega
      have hm8 : IntKind.i64.wrap (8 * (t : Int)) = 8 * (t : Int) := by rw [IntKind.wrap_i64]; omega
      have hsh : IntKind.u64.wrap (x * 2 ^ (8 * (t : Int)).toNat) = x * 256 ^ t := sh_val x t hxr hlt
      have hor : bits .or .u64 y (x * 256 ^ t) = y + x * 256 ^ t := or_val x y t hxr hyr hlt
      have hs0 : ¬ (8 * (t : Int) < 0) := by omega
      have hs1 : 8 * (t : Int) ≤ 64 := by omega
      have hs2 : 0 ≤ 8 * (t : Int) := by omega
      refine wp_seq_k fun K5 hK5 => ?_
      refine wp_region_list (WL.out ?_)
      refine WL.val (by kernel_rfl) (.bool true) (by go_simp) ?_
      simp only [Act.put, List.setIfInBounds_toArray, List.set_cons_zero, List.set_cons_succ]
      refine WL.nil ?_
      refine hK5 _ _ ?_
      refine wp_seq_k fun K6 hK6 => ?_
      refine wp_cond_true rfl ?_
      refine wp_skip ?_
      refine hK6 _ _ ?_
      refine wp_seq_k fun K7 hK7 => ?_
      refine wp_block ?_
      refine wp_seq_k fun K8 hK8 => ?_
      refine wp_region_list (WL.out ?_)
      refine WL.val (by kernel_rfl) (.int .i64 (t : Int)) (by go_simp) ?_
      simp only [Act.put, List.setIfInBounds_toArray, List.set_cons_zero, List.set_cons_succ]
      refine WL.val (by kernel_rfl) (.pointer (some ⟨b, o + t, none⟩)) (by go_simp) ?_
      simp only [Act.put, List.setIfInBounds_toArray, List.set_cons_zero, List.set_cons_succ]
      refine WL.val (by kernel_rfl) (.int .u8 x) (by go_simp) ?_
      simp only [Act.put, List.setIfInBounds_toArray, List.set_cons_zero, List.set_cons_succ]
      refine WL.val (by kernel_rfl) (.int .i64 (t : Int)) (by go_simp) ?_
      simp only [Act.put, List.setIfInBounds_toArray, List.set_cons_zero, List.set_cons_succ]
      refine WL.val (by kernel_rfl) (.int .u8 x) (by go_simp) ?_
      simp only [Act.put, List.setIfInBounds_toArray, List.set_cons_zero, List.set_cons_succ]
      refine WL.nil ?_
      refine hK8 _ _ ?_
      refine wp_region_list (WL.out ?_)
      refine WL.val (by kernel_rfl) (.int .u64 y) (by go_simp) ?_
      simp only [Act.put, List.setIfInBounds_toArray, List.set_cons_zero, List.set_cons_succ]
      refine WL.val (by kernel_rfl) (.int .u8 x) (by go_simp) ?_
      simp only [Act.put, List.setIfInBounds_toArray, List.set_cons_zero, List.set_cons_succ]
      refine WL.val (by kernel_rfl) (.int .u64 x) (by go_simp) ?_
      simp only [Act.put, List.setIfInBounds_toArray, List.set_cons_zero, List.set_cons_succ]
      refine WL.val (by kernel_rfl) (.int .i64 (t : Int)) (by go_simp) ?_
      simp only [Act.put, List.setIfInBounds_toArray, List.set_cons_zero, List.set_cons_succ]
      refine WL.val (by kernel_rfl) (.int .i64 (8 * (t : Int))) (by go_simp) ?_
      simp only [Act.put, List.setIfInBounds_toArray, List.set_cons_zero, List.set_cons_succ]
      refine WL.val (by kernel_rfl) (.int .u64 (x * 256 ^ t)) (by go_simp) ?_
      simp only [Act.put, List.setIfInBounds_toArray, List.set_cons_zero, List.set_cons_succ]
      refine WL.val (by kernel_rfl) (.int .u64 (y + x * 256 ^ t)) (by go_simp) ?_
      simp only [Act.put, List.setIfInBounds_toArray, List.set_cons_zero, List.set_cons_succ]
      refine WL.val (by kernel_rfl) (.int .u64 (y + x * 256 ^ t)) (by go_simp) ?_
      simp only [Act.put, List.setIfInBounds_toArray, List.set_cons_zero, List.set_cons_succ]
      refine WL.nil ?_
      refine hK7 _ _ ?_
      refine wp_region_list (WL.out ?_)
      refine WL.val (by kernel_rfl) (.int .i64 ((t : Int) + 1)) (by go_simp) ?_
      simp only [Act.put, List.setIfInBounds_toArray, List.set_cons_zero, List.set_cons_succ]
      refine WL.val (by kernel_rfl) (.int .i64 ((t : Int) + 1)) (by go_simp) ?_
      simp only [Act.put, List.setIfInBounds_toArray, List.set_cons_zero, List.set_cons_succ]
      refine WL.nil ?_
      refine ⟨⟨t + 1, .int .i64 (t : Int), .int .u8 x, .bool true, .int .i64 (t : Int), .pointer (some ⟨b, o + t, none⟩), .int .u8 x, .int .u64 y, .int .u8 x, .int .u64 x, .int .i64 (t : Int), .int .i64 (8 * (t : Int)), .int .u64 (x * 256 ^ t), .int .u64 (y + x * 256 ^ t), .int .i64 ((t : Int) + 1), by rw [leP, ← Hx.out, ← Hy.out]; rfl, by omega, rfl⟩, by simp [intOf]; omega⟩
    · obtain rfl : t = 8 := by omega
      refine wp_seq_k fun K9 hK9 => ?_
      refine wp_region_list (WL.out ?_)
      refine WL.val (by kernel_rfl) (.bool false) (by go_simp) ?_
      simp only [Act.put, List.setIfInBounds_toArray, List.set_cons_zero, List.set_cons_succ]
      refine WL.nil ?_
      refine hK9 _ _ ?_
      refine wp_seq_k fun K10 hK10 => ?_
      refine wp_cond_false rfl ?_
      refine wp_exit ?_
      refine hK3 _ _ ?_
      refine wp_seq_k fun K11 hK11 => ?_
      refine wp_region_list (WL.out ?_)
      refine WL.val (by kernel_rfl) (.int .u64 (leP D 8)) (by go_simp) ?_
      simp only [Act.put, List.setIfInBounds_toArray, List.set_cons_zero, List.set_cons_succ]
      refine WL.val (by kernel_rfl) (.int .u64 (leP D 8)) (by go_simp) ?_
      simp only [Act.put, List.setIfInBounds_toArray, List.set_cons_zero, List.set_cons_succ]
      refine WL.nil ?_
      refine hK11 _ _ ?_
      refine wp_ret ?_
      go_ret
      exact .inl ⟨by rw [HR2.out hE], _, rfl, by rw [HR2.out hE]; rfl, by rw [HR2.out hE]; have h := H1.out; rw [HN1.out hE] at h; exact h, H2.out⟩
  · rcases H3.out with ⟨e1, _, _⟩ | ⟨_, q, hq, rfl, rfl, hbad⟩
    · exact absurd e1 hE
    have Hbad := Keep.mk hbad
    clear hbad
    unfold err
    refine WL.val (by kernel_rfl) (res) (by go_simp) ?_
    simp only [Act.put, List.setIfInBounds_toArray, List.set_cons_zero, List.set_cons_succ]
    refine WL.val (by kernel_rfl) (.iface 116 (ptr q)) (by go_simp) ?_
    simp only [Act.put, List.setIfInBounds_toArray, List.set_cons_zero, List.set_cons_succ]
    refine WL.callP (by kernel_rfl) 108 _ _ rfl Try.in108 #[res, err q] (by simp [Act.eval, err]) ?_
    refine (must108_bad _ q w1).mono ?_
    rintro e w' ⟨rfl, rfl⟩
    refine .inr ⟨_, rfl, ?_⟩
    try simp only [Exit.inBlock, Exit.then]
    refine ⟨rfl, ?_⟩
    exact .inr ⟨by rw [HR1.out hE]; exact hE, q, hq, rfl, by rw [HR1.out hE]; exact Hbad.out, H2.out⟩
set_option maxRecDepth 8000 in
set_option maxHeartbeats 2000000 in
theorem getDigest_any (p : Nat) (s : ByteArray) (a : Nat) (w : World) (hI : InAt w p s a none) (hb : s.size ≤ 140737488355328) :
    Calls Try.prog 88 #[ptr p] w (Rds p s ((dgR (lst s) a).1, (dgR (lst s) a).2.1) (fun v w' => OwnT w' v (dgR (lst s) a).2.2 ∧ ∃ k, v.ownBlock = some k ∧ w.heap.size ≤ k) w) := by
  have HI := Keep.mk hI
  obtain ⟨D, hD⟩ : ∃ D, D = (lst s).drop a := ⟨_, rfl⟩
  obtain ⟨W, hW⟩ : ∃ W, W = (byt D (8192 : Int)).1 := ⟨_, rfl⟩
  obtain ⟨N, hN⟩ : ∃ N, N = (byt D (8192 : Int)).2.1 := ⟨_, rfl⟩
  obtain ⟨l, hl⟩ : ∃ l, l = (byt D (8192 : Int)).2.2 := ⟨_, rfl⟩
  have hDB : Byts D := by rw [hD]; exact (lst_byts s).drop a
  have HC : Keep (Calls Try.prog 111 #[ptr p, .int .i64 8192] w (RdPostB p s W (a + N) l w)) := ⟨ibytes_good p s a 8192 8192 (by decide) w hI hb (by decide) D hD W hW N hN l hl⟩
  have HLe : Keep (W = 0 → l.length ≤ 8192) := ⟨fun h => by have := (byt_back D 8192 hDB (by rw [← hW]; exact h)).1; rw [← hl] at this; omega⟩
  obtain ⟨R, hR⟩ : ∃ R, R = dgR (lst s) a := ⟨_, rfl⟩
  have HR1 : Keep (¬ W = 0 → R = (W, a + N, [])) := ⟨fun h => by rw [hR]; unfold dgR; rw [← hD, ← hW, ← hN, if_pos h]⟩
  have HR2 : Keep (W = 0 → isP (l.length : Int) = true → R = (0, a + N, l)) := ⟨fun h h2 => by rw [hR]; unfold dgR; rw [← hD, ← hW, if_neg (by simp [h]), ← hl, if_neg (by simp [h2]), ← hN]⟩
  have HR3 : Keep (W = 0 → isP (l.length : Int) = false → R = (60, a, [])) := ⟨fun h h2 => by rw [hR]; unfold dgR; rw [← hD, ← hW, if_neg (by simp [h]), ← hl, if_pos h2]⟩
  rw [← hR]
  clear hI hb hD hW hN hR hl hDB
  go_enter Try.func88, Try.ntmps88
  refine wp_seq_k fun K1 hK1 => ?_
  refine wp_region_list (WL.out ?_)
  refine WL.val (by kernel_rfl) (.slice none 0 0) (by go_simp) ?_
  simp only [Act.put, List.setIfInBounds_toArray, List.set_cons_zero, List.set_cons_succ]
  refine WL.nil ?_
  refine hK1 _ _ ?_
  refine wp_seq_k fun K2 hK2 => ?_
  refine wp_region_list (WL.out ?_)
  refine WL.val (by kernel_rfl) (.pointer (some ⟨p, 0, none⟩)) (by go_simp) ?_
  simp only [Act.put, List.setIfInBounds_toArray, List.set_cons_zero, List.set_cons_succ]
  refine WL.callF (by kernel_rfl) 63 _ _ rfl Try.in63 #[ptr p] (by simp [Act.eval]) ?_
  refine (iat_any p s a none w HI.out).mono ?_
  rintro e w0 ⟨rfl, hw0⟩
  rw [hw0]
  clear hw0 w0
  refine ⟨_, rfl, ?_⟩
  simp only [Act.put, List.setIfInBounds_toArray, List.set_cons_zero, List.set_cons_succ]
  refine WL.val (by kernel_rfl) (.int .i64 (a : Int)) (by go_simp) ?_
  simp only [Act.put, List.setIfInBounds_toArray, List.set_cons_zero, List.set_cons_succ]
  refine WL.nil ?_
  refine hK2 _ _ ?_
  refine wp_seq_k fun K3 hK3 => ?_
  refine wp_region_list (WL.out ?_)
  refine WL.val (by kernel_rfl) (.pointer (some ⟨p, 0, none⟩)) (by go_simp) ?_
  simp only [Act.put, List.setIfInBounds_toArray, List.set_cons_zero, List.set_cons_succ]
  refine WL.callF (by kernel_rfl) 111 _ _ rfl Try.in111 #[ptr p, .int .i64 8192] (by simp [Act.eval]) ?_
  refine (HC.out).mono ?_
  rintro e w1 ⟨bad, er, res, rfl, h1, h2, h3, h4⟩
  refine ⟨_, rfl, ?_⟩
  have H1 := Keep.mk h1
  have H2 := Keep.mk h2
  have H3 := Keep.mk h3
  have H4 := Keep.mk h4
  clear h1 h2 h3 h4
  simp only [Act.put, List.setIfInBounds_toArray, List.set_cons_zero, List.set_cons_succ]
  by_cases hE : W = 0
  · rcases H3.out with ⟨e1, rfl, rfl⟩ | ⟨e1, _⟩
    rotate_left
    · exact absurd hE e1
    rcases H4.out with ⟨_, hO, k0, hk0, hk1, _⟩ | ⟨e1, _⟩
    rotate_left
    · exact absurd hE e1
    obtain ⟨ra, rc, rfl⟩ := row_form hO.row
    have HOt := Keep.mk hO
    have Hk : Keep (∃ k, (Value.slice ra l.length rc).ownBlock = some k ∧ w.heap.size ≤ k) := ⟨k0, hk0, hk1⟩
    have hli : (l.length : Int) ≤ 9223372036854775807 := by have := HLe.out hE; omega
    clear hO hk0 hk1
    refine WL.val (by kernel_rfl) (.slice ra l.length rc) (by go_simp) ?_
    simp only [Act.put, List.setIfInBounds_toArray, List.set_cons_zero, List.set_cons_succ]
    refine WL.val (by kernel_rfl) (.nilIface) (by go_simp) ?_
    simp only [Act.put, List.setIfInBounds_toArray, List.set_cons_zero, List.set_cons_succ]
    refine WL.callF (by kernel_rfl) 108 _ _ rfl Try.in108 #[.slice ra l.length rc, .nilIface] (by simp [Act.eval]) ?_
    refine (must108_ok (.slice ra l.length rc) w1).mono ?_
    rintro e w0 ⟨rfl, hw0⟩
    rw [hw0]
    clear hw0 w0
    refine ⟨_, rfl, ?_⟩
    simp only [Act.put, List.setIfInBounds_toArray, List.set_cons_zero, List.set_cons_succ]
    refine WL.val (by kernel_rfl) (.slice ra l.length rc) (by go_simp) ?_
    simp only [Act.put, List.setIfInBounds_toArray, List.set_cons_zero, List.set_cons_succ]
    refine WL.nil ?_
    refine hK3 _ _ ?_
    refine wp_seq_k fun K4 hK4 => ?_
    refine wp_seq_k fun K5 hK5 => ?_
    rcases Bool.eq_false_or_eq_true (isP (l.length : Int)) with hP | hP
    · have HQ := Keep.mk (right_any (.slice ra l.length rc) l w1 HOt.out.row)
      rw [hP] at HQ
      refine wp_region_list (WL.out ?_)
      refine WL.val (by kernel_rfl) (.slice ra l.length rc) (by go_simp) ?_
      simp only [Act.put, List.setIfInBounds_toArray, List.set_cons_zero, List.set_cons_succ]
      refine WL.callF (by kernel_rfl) 23 _ _ rfl Try.in23 #[.slice ra l.length rc] (by simp [Act.eval]) ?_
      refine (HQ.out).mono ?_
      rintro e w0 ⟨rfl, hw0⟩
      rw [hw0]
      clear hw0 w0
      refine ⟨_, rfl, ?_⟩
      simp only [Act.put, List.setIfInBounds_toArray, List.set_cons_zero, List.set_cons_succ]
      refine WL.val (by kernel_rfl) (.bool false) (by go_simp) ?_
      simp only [Act.put, List.setIfInBounds_toArray, List.set_cons_zero, List.set_cons_succ]
      refine WL.nil ?_
      refine hK5 _ _ ?_
      refine wp_cond_false rfl ?_
      refine wp_skip ?_
      refine hK4 _ _ ?_
      refine wp_seq_k fun K6 hK6 => ?_
      refine wp_region_list (WL.out ?_)
      refine WL.val (by kernel_rfl) (.slice ra l.length rc) (by go_simp) ?_
      simp only [Act.put, List.setIfInBounds_toArray, List.set_cons_zero, List.set_cons_succ]
      refine WL.val (by kernel_rfl) (.slice ra l.length rc) (by go_simp) ?_
      simp only [Act.put, List.setIfInBounds_toArray, List.set_cons_zero, List.set_cons_succ]
      refine WL.nil ?_
      refine hK6 _ _ ?_
      refine wp_ret ?_
      go_ret
      exact .inl ⟨by rw [HR2.out hE hP], _, rfl, by rw [HR2.out hE hP]; exact ⟨HOt.out, Hk.out⟩, by rw [HR2.out hE hP]; exact H1.out, H2.out⟩
    · have HQ := Keep.mk (right_any (.slice ra l.length rc) l w1 HOt.out.row)
      rw [hP] at HQ
      refine wp_region_list (WL.out ?_)
      refine WL.val (by kernel_rfl) (.slice ra l.length rc) (by go_simp) ?_
      simp only [Act.put, List.setIfInBounds_toArray, List.set_cons_zero, List.set_cons_succ]
      refine WL.callF (by kernel_rfl) 23 _ _ rfl Try.in23 #[.slice ra l.length rc] (by simp [Act.eval]) ?_
      refine (HQ.out).mono ?_
      rintro e w0 ⟨rfl, hw0⟩
      rw [hw0]
      clear hw0 w0
      refine ⟨_, rfl, ?_⟩
      simp only [Act.put, List.setIfInBounds_toArray, List.set_cons_zero, List.set_cons_succ]
      refine WL.val (by kernel_rfl) (.bool true) (by go_simp) ?_
      simp only [Act.put, List.setIfInBounds_toArray, List.set_cons_zero, List.set_cons_succ]
      refine WL.nil ?_
      refine hK5 _ _ ?_
      refine wp_cond_true rfl ?_
      refine wp_region_list (WL.out ?_)
      refine WL.val (by kernel_rfl) (.int .i64 (a : Int)) (by go_simp) ?_
      simp only [Act.put, List.setIfInBounds_toArray, List.set_cons_zero, List.set_cons_succ]
      refine WL.callP (by kernel_rfl) 66 _ _ rfl Try.in66 #[.int .i64 60, .int .i64 (a : Int)] (by simp [Act.eval]) ?_
      refine (at_any 60 a w1).mono ?_
      rintro e wz ⟨rfl, hbz, hwz⟩
      refine .inr ⟨_, rfl, ?_⟩
      try simp only [Exit.inBlock, Exit.then]
      refine ⟨rfl, ?_⟩
      exact .inr ⟨by rw [HR3.out hE hP]; exact (by decide : (60 : Int) ≠ 0), w1.heap.size, H2.out.size, rfl, by rw [HR3.out hE hP]; exact hbz, H2.out.trans (Grown.below hwz)⟩
  · rcases H3.out with ⟨e1, _, _⟩ | ⟨_, q, hq, rfl, rfl, hbad⟩
    · exact absurd e1 hE
    have Hbad := Keep.mk hbad
    clear hbad
    unfold err
    refine WL.val (by kernel_rfl) (res) (by go_simp) ?_
    simp only [Act.put, List.setIfInBounds_toArray, List.set_cons_zero, List.set_cons_succ]
    refine WL.val (by kernel_rfl) (.iface 116 (ptr q)) (by go_simp) ?_
    simp only [Act.put, List.setIfInBounds_toArray, List.set_cons_zero, List.set_cons_succ]
    refine WL.callP (by kernel_rfl) 108 _ _ rfl Try.in108 #[res, err q] (by simp [Act.eval, err]) ?_
    refine (must108_bad _ q w1).mono ?_
    rintro e w' ⟨rfl, rfl⟩
    refine .inr ⟨_, rfl, ?_⟩
    try simp only [Exit.inBlock, Exit.then]
    refine ⟨rfl, ?_⟩
    exact .inr ⟨by rw [HR1.out hE]; exact hE, q, hq, rfl, by rw [HR1.out hE]; exact Hbad.out, H2.out⟩
set_option maxRecDepth 8000 in
set_option maxHeartbeats 2000000 in
theorem getBlock_any (p : Nat) (s : ByteArray) (a : Nat) (w : World) (hI : InAt w p s a none) (hb : s.size ≤ 140737488355328) :
    Calls Try.prog 112 #[ptr p] w (Rds p s ((bk1 (lst s) a).1, (bk1 (lst s) a).2.1) (fun v w' => OwnT w' v (bk1 (lst s) a).2.2 ∧ ∃ k, v.ownBlock = some k ∧ w.heap.size ≤ k) w) := by
  have HI := Keep.mk hI
  obtain ⟨D, hD⟩ : ∃ D, D = (lst s).drop a := ⟨_, rfl⟩
  obtain ⟨W, hW⟩ : ∃ W, W = (byt D (1048576 : Int)).1 := ⟨_, rfl⟩
  obtain ⟨N, hN⟩ : ∃ N, N = (byt D (1048576 : Int)).2.1 := ⟨_, rfl⟩
  obtain ⟨l, hl⟩ : ∃ l, l = (byt D (1048576 : Int)).2.2 := ⟨_, rfl⟩
  have hDB : Byts D := by rw [hD]; exact (lst_byts s).drop a
  have HC : Keep (Calls Try.prog 111 #[ptr p, .int .i64 1048576] w (RdPostB p s W (a + N) l w)) := ⟨ibytes_good p s a 1048576 1048576 (by decide) w hI hb (by decide) D hD W hW N hN l hl⟩
  have HLe : Keep (W = 0 → l.length ≤ 1048576) := ⟨fun h => by have := (byt_back D 1048576 hDB (by rw [← hW]; exact h)).1; rw [← hl] at this; omega⟩
  obtain ⟨R, hR⟩ : ∃ R, R = bk1 (lst s) a := ⟨_, rfl⟩
  have HR1 : Keep (¬ W = 0 → R = (W, a + N, [])) := ⟨fun h => by rw [hR]; unfold bk1; rw [← hD, ← hW, ← hN, if_pos h]⟩
  have HR2 : Keep (W = 0 → ¬ l.length = 0 → R = (0, a + N, l)) := ⟨fun h h2 => by rw [hR]; unfold bk1; rw [← hD, ← hW, if_neg (by simp [h]), ← hl, if_neg (by simp [h2]), ← hN]⟩
  have HR3 : Keep (W = 0 → l.length = 0 → R = (4, a, [])) := ⟨fun h h2 => by rw [hR]; unfold bk1; rw [← hD, ← hW, if_neg (by simp [h]), ← hl, if_pos h2]⟩
  rw [← hR]
  clear hI hb hD hW hN hR hl hDB
  go_enter Try.func112, Try.ntmps112
  refine wp_seq_k fun K1 hK1 => ?_
  refine wp_region_list (WL.out ?_)
  refine WL.val (by kernel_rfl) (.slice none 0 0) (by go_simp) ?_
  simp only [Act.put, List.setIfInBounds_toArray, List.set_cons_zero, List.set_cons_succ]
  refine WL.nil ?_
  refine hK1 _ _ ?_
  refine wp_seq_k fun K2 hK2 => ?_
  refine wp_region_list (WL.out ?_)
  refine WL.val (by kernel_rfl) (.pointer (some ⟨p, 0, none⟩)) (by go_simp) ?_
  simp only [Act.put, List.setIfInBounds_toArray, List.set_cons_zero, List.set_cons_succ]
  refine WL.callF (by kernel_rfl) 63 _ _ rfl Try.in63 #[ptr p] (by simp [Act.eval]) ?_
  refine (iat_any p s a none w HI.out).mono ?_
  rintro e w0 ⟨rfl, hw0⟩
  rw [hw0]
  clear hw0 w0
  refine ⟨_, rfl, ?_⟩
  simp only [Act.put, List.setIfInBounds_toArray, List.set_cons_zero, List.set_cons_succ]
  refine WL.val (by kernel_rfl) (.int .i64 (a : Int)) (by go_simp) ?_
  simp only [Act.put, List.setIfInBounds_toArray, List.set_cons_zero, List.set_cons_succ]
  refine WL.nil ?_
  refine hK2 _ _ ?_
  refine wp_seq_k fun K3 hK3 => ?_
  refine wp_region_list (WL.out ?_)
  refine WL.val (by kernel_rfl) (.pointer (some ⟨p, 0, none⟩)) (by go_simp) ?_
  simp only [Act.put, List.setIfInBounds_toArray, List.set_cons_zero, List.set_cons_succ]
  refine WL.callF (by kernel_rfl) 111 _ _ rfl Try.in111 #[ptr p, .int .i64 1048576] (by simp [Act.eval]) ?_
  refine (HC.out).mono ?_
  rintro e w1 ⟨bad, er, res, rfl, h1, h2, h3, h4⟩
  refine ⟨_, rfl, ?_⟩
  have H1 := Keep.mk h1
  have H2 := Keep.mk h2
  have H3 := Keep.mk h3
  have H4 := Keep.mk h4
  clear h1 h2 h3 h4
  simp only [Act.put, List.setIfInBounds_toArray, List.set_cons_zero, List.set_cons_succ]
  by_cases hE : W = 0
  · rcases H3.out with ⟨e1, rfl, rfl⟩ | ⟨e1, _⟩
    rotate_left
    · exact absurd hE e1
    rcases H4.out with ⟨_, hO, k0, hk0, hk1, _⟩ | ⟨e1, _⟩
    rotate_left
    · exact absurd hE e1
    obtain ⟨ra, rc, rfl⟩ := row_form hO.row
    have HOt := Keep.mk hO
    have Hk : Keep (∃ k, (Value.slice ra l.length rc).ownBlock = some k ∧ w.heap.size ≤ k) := ⟨k0, hk0, hk1⟩
    have hli : (l.length : Int) ≤ 9223372036854775807 := by have := HLe.out hE; omega
    clear hO hk0 hk1
    refine WL.val (by kernel_rfl) (.slice ra l.length rc) (by go_simp) ?_
    simp only [Act.put, List.setIfInBounds_toArray, List.set_cons_zero, List.set_cons_succ]
    refine WL.val (by kernel_rfl) (.nilIface) (by go_simp) ?_
    simp only [Act.put, List.setIfInBounds_toArray, List.set_cons_zero, List.set_cons_succ]
    refine WL.callF (by kernel_rfl) 108 _ _ rfl Try.in108 #[.slice ra l.length rc, .nilIface] (by simp [Act.eval]) ?_
    refine (must108_ok (.slice ra l.length rc) w1).mono ?_
    rintro e w0 ⟨rfl, hw0⟩
    rw [hw0]
    clear hw0 w0
    refine ⟨_, rfl, ?_⟩
    simp only [Act.put, List.setIfInBounds_toArray, List.set_cons_zero, List.set_cons_succ]
    refine WL.val (by kernel_rfl) (.slice ra l.length rc) (by go_simp) ?_
    simp only [Act.put, List.setIfInBounds_toArray, List.set_cons_zero, List.set_cons_succ]
    refine WL.nil ?_
    refine hK3 _ _ ?_
    refine wp_seq_k fun K4 hK4 => ?_
    refine wp_seq_k fun K5 hK5 => ?_
    refine wp_region_list (WL.out ?_)
    refine WL.val (by kernel_rfl) (.slice ra l.length rc) (by go_simp) ?_
    simp only [Act.put, List.setIfInBounds_toArray, List.set_cons_zero, List.set_cons_succ]
    refine WL.val (by kernel_rfl) (.int .i64 (l.length : Int)) (by go_simp) ?_
    simp only [Act.put, List.setIfInBounds_toArray, List.set_cons_zero, List.set_cons_succ]
    by_cases h3_2 : l.length = 0
    · have hP : l.length = 0 := h3_2
      have h3_2i : (l.length : Int) = 0 := by omega
      refine WL.val (by kernel_rfl) (.bool true) (by go_simp) ?_
      simp only [Act.put, List.setIfInBounds_toArray, List.set_cons_zero, List.set_cons_succ]
      refine WL.nil ?_
      refine hK5 _ _ ?_
      refine wp_cond_true rfl ?_
      refine wp_region_list (WL.out ?_)
      refine WL.val (by kernel_rfl) (.int .i64 (a : Int)) (by go_simp) ?_
      simp only [Act.put, List.setIfInBounds_toArray, List.set_cons_zero, List.set_cons_succ]
      refine WL.callP (by kernel_rfl) 66 _ _ rfl Try.in66 #[.int .i64 4, .int .i64 (a : Int)] (by simp [Act.eval]) ?_
      refine (at_any 4 a w1).mono ?_
      rintro e wz ⟨rfl, hbz, hwz⟩
      refine .inr ⟨_, rfl, ?_⟩
      try simp only [Exit.inBlock, Exit.then]
      refine ⟨rfl, ?_⟩
      exact .inr ⟨by rw [HR3.out hE hP]; exact (by decide : (4 : Int) ≠ 0), w1.heap.size, H2.out.size, rfl, by rw [HR3.out hE hP]; exact hbz, H2.out.trans (Grown.below hwz)⟩
    · have hP : ¬ l.length = 0 := h3_2
      have h3_2i : ¬ (l.length : Int) = 0 := by omega
      refine WL.val (by kernel_rfl) (.bool false) (by go_simp) ?_
      simp only [Act.put, List.setIfInBounds_toArray, List.set_cons_zero, List.set_cons_succ]
      refine WL.nil ?_
      refine hK5 _ _ ?_
      refine wp_cond_false rfl ?_
      refine wp_skip ?_
      refine hK4 _ _ ?_
      refine wp_seq_k fun K6 hK6 => ?_
      refine wp_region_list (WL.out ?_)
      refine WL.val (by kernel_rfl) (.slice ra l.length rc) (by go_simp) ?_
      simp only [Act.put, List.setIfInBounds_toArray, List.set_cons_zero, List.set_cons_succ]
      refine WL.val (by kernel_rfl) (.slice ra l.length rc) (by go_simp) ?_
      simp only [Act.put, List.setIfInBounds_toArray, List.set_cons_zero, List.set_cons_succ]
      refine WL.nil ?_
      refine hK6 _ _ ?_
      refine wp_ret ?_
      go_ret
      exact .inl ⟨by rw [HR2.out hE hP], _, rfl, by rw [HR2.out hE hP]; exact ⟨HOt.out, Hk.out⟩, by rw [HR2.out hE hP]; exact H1.out, H2.out⟩
  · rcases H3.out with ⟨e1, _, _⟩ | ⟨_, q, hq, rfl, rfl, hbad⟩
    · exact absurd e1 hE
    have Hbad := Keep.mk hbad
    clear hbad
    unfold err
    refine WL.val (by kernel_rfl) (res) (by go_simp) ?_
    simp only [Act.put, List.setIfInBounds_toArray, List.set_cons_zero, List.set_cons_succ]
    refine WL.val (by kernel_rfl) (.iface 116 (ptr q)) (by go_simp) ?_
    simp only [Act.put, List.setIfInBounds_toArray, List.set_cons_zero, List.set_cons_succ]
    refine WL.callP (by kernel_rfl) 108 _ _ rfl Try.in108 #[res, err q] (by simp [Act.eval, err]) ?_
    refine (must108_bad _ q w1).mono ?_
    rintro e w' ⟨rfl, rfl⟩
    refine .inr ⟨_, rfl, ?_⟩
    try simp only [Exit.inBlock, Exit.then]
    refine ⟨rfl, ?_⟩
    exact .inr ⟨by rw [HR1.out hE]; exact hE, q, hq, rfl, by rw [HR1.out hE]; exact Hbad.out, H2.out⟩
def OwnR (w : World) (v : Value) (vs : List Value) : Prop := w.ownsRow 0 25 1 v vs.length vs
theorem OwnR.form {w : World} {v : Value} {l : List Value} (h : OwnR w v l) : (v = .slice none 0 0 ∧ l = []) ∨ ∃ g cap cur, v = .slice (some ⟨g, 0, none⟩) l.length cap ∧ Blk w g 25 cur ∧ l.length ≤ cap ∧ cur.toList.take l.length = l := by
  rcases h.2 with ⟨rfl, h0⟩ | ⟨g, cap, cur, rfl, _, h3, h4, h5, h6, h7⟩
  · exact .inl ⟨rfl, List.eq_nil_of_length_eq_zero h0⟩
  · exact .inr ⟨g, cap, cur, rfl, h3, h4, by rw [Nat.mul_one] at h7; exact h7⟩
theorem OwnR.sl {w : World} {v : Value} {l : List Value} (h : OwnR w v l) : ∃ a c, v = .slice a l.length c := by
  rcases h.form with ⟨rfl, rfl⟩ | ⟨g, cap, cur, rfl, _⟩
  · exact ⟨_, _, rfl⟩
  · exact ⟨_, _, rfl⟩
theorem OwnR.lt {w : World} {v : Value} {l : List Value} (h : OwnR w v l) : ∀ k, v.ownBlock = some k → k < w.heap.size := fun k hk => (World.ownsRow.lt h k hk).2
theorem OwnR.grown {w w' : World} {v : Value} {l : List Value} {S : Nat → Prop} (h : OwnR w v l) (hg : Grown w w' S) (hs : ∀ k, v.ownBlock = some k → ¬ S k) : OwnR w' v l := by
  refine ⟨h.1, ?_⟩
  rcases h.2 with h1 | ⟨g, cap, cur, rfl, h2, h3, h4⟩
  · exact .inl h1
  · exact .inr ⟨g, cap, cur, rfl, h2, hg.blk h3 (hs g rfl), h4⟩
theorem OwnR.below {w w' : World} {v : Value} {l : List Value} (h : OwnR w v l) (hb : Below w.heap.size w w') : OwnR w' v l := h.grown (Grown.below (S := fun _ => False) hb) fun _ _ h => h
theorem OwnR.ne {w : World} {v : Value} {l : List Value} {p : Nat} {T : TypeId} {cs : Array Value} (h : OwnR w v l) (hp : Blk w p T cs) (hT : T ≠ 25) : v.ownBlock ≠ some p := by
  intro e
  rcases h.form with ⟨rfl, _⟩ | ⟨g, cap, cur, rfl, h3, _⟩
  · simp [Value.ownBlock] at e
  · simp [Value.ownBlock] at e
    subst e
    exact hT (blk_type hp h3)
theorem ownR_empty (w : World) : OwnR (w.alloc (.cells #[] 25)) (.slice (some ⟨w.heap.size, 0, none⟩) 0 0) [] :=
  ⟨rfl, .inr ⟨w.heap.size, 0, #[], rfl, Nat.zero_le _, Blk.new w 25 #[], Nat.le_refl _, by decide, rfl, rfl⟩⟩
theorem Try.infoR : (Try.prog.info? 25).map (fun i => (i.zero, i.size, i.bytes)) = some (some (.slice none 0 0), 1, 24) := by kernel_rfl
theorem run_appR (w : World) (ty : TypeId) (v : Value) (l : List Value) (hown : OwnR w v l) (g : Nat) (x : Value) (hx : x.oneCell' = true) (hg : Blk w g 25 #[x]) (hb : l.length ≤ 1000000000000) :
    ∃ v' w', (Builtin.append_ #[26, 26] ty #[v, .slice (some ⟨g, 0, none⟩) 1 1]).run Try.prog w = .ok v' w' ∧ OwnR w' v' (l ++ [x]) ∧ (Grown w w' fun k => v.ownBlock = some k) ∧ Moved w v v' := by
  obtain ⟨i, hi, hzz⟩ := Option.map_eq_some_iff.1 Try.infoR
  simp only [Prod.mk.injEq] at hzz
  obtain ⟨hz, hsz, hby⟩ := hzz
  obtain ⟨v', w', hr, h1, h2, _, h3⟩ := run_append_own_at (P := Try.prog) w 0 26 ty 25 i (.slice none 0 0) 1 24 Try.underlying26 hi hz hsz hby rfl (by omega) v l.length l hown ⟨g, 0, none⟩ 1 1 [x] rfl (fun j u hu => by
      rw [Addr.add_mid, Nat.zero_add, hg.cell]
      simpa using hu)
    (fun u hu => by simp at hu; rw [hu]; exact hx) (by unfold maxLen; omega) (by omega) (Nat.zero_le _)
  refine ⟨v', w', hr, ?_, Grown.of h2 fun k _ e => e, ?_⟩
  · unfold OwnR
    rw [List.length_append]
    exact h1
  · rcases h3 with h3 | h3
    · exact .inl h3
    · exact .inr ⟨_, h3, Nat.le_refl _⟩
theorem WL.appR {ops : Array Oper} {rest : List Oper} {o : Oper} {a : Act} {w : World} {Q : Exit → Act → World → Prop} (hw : Region.wanted o (yielded ops a.tmps) = true) (s x : Operand)
    (ho : o.op = .call { callee := .builtin .append, args := #[s, x], argTypes := #[26, 26] }) (v : Value) (l : List Value) (g : Nat) (y : Value) (hy : y.oneCell' = true)
    (hs : a.eval s = v) (hx : a.eval x = .slice (some ⟨g, 0, none⟩) 1 1) (hown : OwnR w v l) (hg : Blk w g 25 #[y]) (hb : l.length ≤ 1000000000000)
    (h : ∀ v' w', OwnR w' v' (l ++ [y]) → (Grown w w' fun k => v.ownBlock = some k) → Moved w v v' → WL Try.prog ops Q rest (a.put o.dst v') w') : WL Try.prog ops Q (o :: rest) a w :=
  ⟨wpList_wanted hw fun K hK => by
    obtain ⟨v', w', hr, h1, h2, h3⟩ := run_appR w o.type v l hown g y hy hg hb
    unfold Oper.wp execOp
    simp only [ho, resolve, invoke, builtin, Sem.run_bind, Sem.run_pure, Result.andThen_ok, List.map_toArray, List.map_cons, List.map_nil, hs, hx, hr]
    exact hK _ _ (h v' w' h1 h2 h3).out⟩
theorem bsR (pa : Option Addr) (n c : Nat) (w : World) : (Instr.buildSlice 26 1 #[(0, .slice pa n c)]).run Try.prog w = .ok (.slice (some ⟨w.heap.size, 0, none⟩) 1 1) (w.alloc (.cells #[.slice pa n c] 25)) := by kernel_rfl
theorem bsRE (w : World) : (Instr.buildSlice 26 0 #[]).run Try.prog w = .ok (.slice (some ⟨w.heap.size, 0, none⟩) 0 0) (w.alloc (.cells #[] 25)) := by kernel_rfl
def RowsOwn (b0 : Nat) (w : World) (v : Value) (ls : List (List Int)) : Prop :=
  ∃ vs : List Value, OwnR w v vs ∧ (∀ k, v.ownBlock = some k → b0 ≤ k) ∧ vs.length = ls.length ∧ ∀ i, i < ls.length → OwnT w (vs.getD i noS) (ls.getD i []) ∧ ∃ k, (vs.getD i noS).ownBlock = some k ∧ b0 ≤ k
theorem RowsOwn.rws {b0 : Nat} {w : World} {v : Value} {ls : List (List Int)} (h : RowsOwn b0 w v ls) : RwsAt w v ls := by
  obtain ⟨vs, h1, _, h2, h3⟩ := h
  refine ⟨fun i => vs.getD i noS, ?_, fun i hi => (h3 i hi).1.row⟩
  rcases h1.form with ⟨rfl, h4⟩ | ⟨g, cap, cur, rfl, h4, h5, h6⟩
  · exact .inl ⟨_, _, rfl, List.eq_nil_of_length_eq_zero (by rw [← h2, h4]; rfl)⟩
  · refine .inr ⟨g, 0, cap, by rw [h2], by omega, fun i hi => ?_⟩
    rw [h4.cell, Nat.zero_add]
    have : vs[i]? = some (vs.getD i noS) := by rw [List.getD_eq_getElem?_getD, List.getElem?_eq_getElem (by omega)]; rfl
    rw [← this, ← h6, List.getElem?_take, if_pos (by omega), Array.getElem?_toList]
theorem RowsOwn.grown {b0 : Nat} {w w' : World} {v : Value} {ls : List (List Int)} {S : Nat → Prop} (h : RowsOwn b0 w v ls) (hg : Grown w w' S) (hT : ∀ k, Typ w k 5 ∨ Typ w k 25 → ¬ S k) : RowsOwn b0 w' v ls := by
  obtain ⟨vs, h1, h2, h3, h4⟩ := h
  refine ⟨vs, h1.grown hg fun k hk => ?_, h2, h3, fun i hi => ⟨(h4 i hi).1.grown hg fun k hk => ?_, (h4 i hi).2⟩⟩
  · rcases h1.form with ⟨rfl, _⟩ | ⟨g, cap, cur, rfl, h6, _⟩
    · simp [Value.ownBlock] at hk
    · simp [Value.ownBlock] at hk
      subst hk
      exact hT _ (.inr h6.typ)
  · exact hT _ (.inl ((h4 i hi).1.typ hk))
theorem RowsOwn.below {b0 : Nat} {w w' : World} {v : Value} {ls : List (List Int)} (h : RowsOwn b0 w v ls) (hb : Below w.heap.size w w') : RowsOwn b0 w' v ls := h.grown (Grown.below (S := fun _ => False) hb) fun _ _ h => h
theorem RowsOwn.form {b0 : Nat} {w : World} {v : Value} {ls : List (List Int)} (h : RowsOwn b0 w v ls) : ∃ a c, v = .slice a ls.length c := h.rws.form
theorem RowsOwn.push {b0 : Nat} {w' : World} {v' vx : Value} {ls : List (List Int)} {x : List Int} {vs : List Value} (h1 : OwnR w' v' (vs ++ [vx])) (hn : ∀ k, v'.ownBlock = some k → b0 ≤ k) (h3 : vs.length = ls.length) (h4 : ∀ i, i < ls.length → OwnT w' (vs.getD i noS) (ls.getD i []) ∧ ∃ k, (vs.getD i noS).ownBlock = some k ∧ b0 ≤ k) (hx : OwnT w' vx x) (hk : ∃ k, vx.ownBlock = some k ∧ b0 ≤ k) : RowsOwn b0 w' v' (ls ++ [x]) := by
  refine ⟨vs ++ [vx], h1, hn, by simp [h3], fun i hi => ?_⟩
  rw [List.length_append, List.length_singleton] at hi
  by_cases h : i < ls.length
  · have e1 : (vs ++ [vx]).getD i noS = vs.getD i noS := by rw [List.getD_eq_getElem?_getD, List.getD_eq_getElem?_getD, List.getElem?_append_left (by omega)]
    have e2 : (ls ++ [x]).getD i [] = ls.getD i [] := by rw [List.getD_eq_getElem?_getD, List.getD_eq_getElem?_getD, List.getElem?_append_left h]
    rw [e1, e2]
    exact h4 i h
  · obtain rfl : i = ls.length := by omega
    have e1 : (vs ++ [vx]).getD ls.length noS = vx := by rw [← h3, List.getD_eq_getElem?_getD]; simp
    have e2 : (ls ++ [x]).getD ls.length [] = x := by rw [List.getD_eq_getElem?_getD]; simp
    rw [e1, e2]
    exact ⟨hx, hk⟩
theorem own_typ {w : World} {v : Value} {l : List Value} {k : Nat} (h : OwnR w v l) (e : v.ownBlock = some k) (ht : Typ w k 5) : False := by
  rcases h.form with ⟨rfl, _⟩ | ⟨g, cap, cur, rfl, h3, _⟩
  · simp [Value.ownBlock] at e
  · simp [Value.ownBlock] at e
    subst e
    exact absurd (h3.typ.one ht) (by decide)
set_option maxRecDepth 8000 in
set_option maxHeartbeats 4000000 in
theorem getBlocks_any (p : Nat) (s : ByteArray) (a : Nat) (w : World) (hI : InAt w p s a none) (hb : s.size ≤ 140737488355328) :
    Calls Try.prog 96 #[ptr p] w (Rds p s ((bkR (lst s) a).1, (bkR (lst s) a).2.1) (fun v w' => RowsOwn w.heap.size w' v (bkR (lst s) a).2.2) w) := by
  have HI := Keep.mk hI
  have Hb := Keep.mk hb
  have hrg := fst_rng ((lst s).drop a) ((lst_byts s).drop a) 256 (by decide)
  have hc0 : Calls Try.prog 105 #[ptr p, .int .u64 256] w (RdPost p s (fstM ((lst s).drop a) 256).2.2 (a + (fstM ((lst s).drop a) 256).2.1.toNat) (.int .u64 (fstM ((lst s).drop a) 256).1) w) := inum_good p s a 256 w hI hb
  obtain ⟨R, hR⟩ : ∃ R, R = bkR (lst s) a := ⟨_, rfl⟩
  rw [← hR]
  unfold bkR at hR
  generalize fstM ((lst s).drop a) 256 = M at *
  obtain ⟨c, n, W⟩ := M
  simp only at hR hc0 hrg ⊢
  obtain ⟨N, hN⟩ : ∃ N, N = n.toNat := ⟨_, rfl⟩
  rw [← hN] at hR hc0
  have HC := Keep.mk hc0
  have Hcr := Keep.mk hrg
  have HR1 : Keep (¬ W = 0 → R = (W, a + N, [])) := ⟨fun h => by rw [hR, if_pos h]⟩
  have HR2 : Keep (W = 0 → ¬ c = 0 → R = bkG (lst s) c.toNat [] (a + N)) := ⟨fun h1 h2 => by rw [hR, if_neg (by simp [h1]), if_neg h2]⟩
  have HR3 : Keep (W = 0 → c = 0 → R = (1, a, [])) := ⟨fun h1 h2 => by rw [hR, if_neg (by simp [h1]), if_pos h2]⟩
  clear hI hb hR hN hrg hc0
  go_enter Try.func96, Try.ntmps96
  refine wp_seq_k fun K1 hK1 => ?_
  refine wp_region_list (WL.out ?_)
  refine WL.val (by kernel_rfl) (.slice none 0 0) (by go_simp) ?_
  simp only [Act.put, List.setIfInBounds_toArray, List.set_cons_zero, List.set_cons_succ]
  refine WL.nil ?_
  refine hK1 _ _ ?_
  refine wp_seq_k fun K2 hK2 => ?_
  refine wp_region_list (WL.out ?_)
  refine WL.val (by kernel_rfl) (.pointer (some ⟨p, 0, none⟩)) (by go_simp) ?_
  simp only [Act.put, List.setIfInBounds_toArray, List.set_cons_zero, List.set_cons_succ]
  refine WL.callF (by kernel_rfl) 63 _ _ rfl Try.in63 #[ptr p] (by simp [Act.eval]) ?_
  refine (iat_any p s a none w HI.out).mono ?_
  rintro e w0 ⟨rfl, hw0⟩
  rw [hw0]
  clear hw0 w0
  refine ⟨_, rfl, ?_⟩
  simp only [Act.put, List.setIfInBounds_toArray, List.set_cons_zero, List.set_cons_succ]
  refine WL.val (by kernel_rfl) (.int .i64 (a : Int)) (by go_simp) ?_
  simp only [Act.put, List.setIfInBounds_toArray, List.set_cons_zero, List.set_cons_succ]
  refine WL.nil ?_
  refine hK2 _ _ ?_
  refine wp_seq_k fun K3 hK3 => ?_
  refine wp_region_list (WL.out ?_)
  refine WL.val (by kernel_rfl) (.pointer (some ⟨p, 0, none⟩)) (by go_simp) ?_
  simp only [Act.put, List.setIfInBounds_toArray, List.set_cons_zero, List.set_cons_succ]
  refine WL.callF (by kernel_rfl) 105 _ _ rfl Try.in105 #[ptr p, .int .u64 256] (by simp [Act.eval]) ?_
  refine (HC.out).mono ?_
  rintro e w1 ⟨bad, er, rfl, h1, h2, h3⟩
  refine ⟨_, rfl, ?_⟩
  have H1 := Keep.mk h1
  have H2 := Keep.mk h2
  have H3 := Keep.mk h3
  clear h1 h2 h3
  simp only [Act.put, List.setIfInBounds_toArray, List.set_cons_zero, List.set_cons_succ]
  by_cases hE : W = 0
  · rcases H3.out with ⟨e1, rfl, rfl⟩ | ⟨e1, _⟩
    rotate_left
    · exact absurd hE e1
    have HI1 := H1
    refine WL.val (by kernel_rfl) (.int .u64 c) (by go_simp) ?_
    simp only [Act.put, List.setIfInBounds_toArray, List.set_cons_zero, List.set_cons_succ]
    refine WL.val (by kernel_rfl) (.nilIface) (by go_simp) ?_
    simp only [Act.put, List.setIfInBounds_toArray, List.set_cons_zero, List.set_cons_succ]
    refine WL.callF (by kernel_rfl) 104 _ _ rfl Try.in104 #[.int .u64 c, .nilIface] (by simp [Act.eval]) ?_
    refine (must104_ok (.int .u64 c) w1).mono ?_
    rintro e w0 ⟨rfl, hw0⟩
    rw [hw0]
    clear hw0 w0
    refine ⟨_, rfl, ?_⟩
    simp only [Act.put, List.setIfInBounds_toArray, List.set_cons_zero, List.set_cons_succ]
    refine WL.val (by kernel_rfl) (.int .u64 c) (by go_simp) ?_
    simp only [Act.put, List.setIfInBounds_toArray, List.set_cons_zero, List.set_cons_succ]
    refine WL.nil ?_
    refine hK3 _ _ ?_
    refine wp_seq_k fun K4 hK4 => ?_
    refine wp_seq_k fun K5 hK5 => ?_
    refine wp_region_list (WL.out ?_)
    refine WL.val (by kernel_rfl) (.int .u64 c) (by go_simp) ?_
    simp only [Act.put, List.setIfInBounds_toArray, List.set_cons_zero, List.set_cons_succ]
    by_cases h3_1 : c = 0
    · skip
      refine WL.val (by kernel_rfl) (.bool true) (by go_simp) ?_
      simp only [Act.put, List.setIfInBounds_toArray, List.set_cons_zero, List.set_cons_succ]
      refine WL.nil ?_
      refine hK5 _ _ ?_
      refine wp_cond_true rfl ?_
      refine wp_region_list (WL.out ?_)
      refine WL.val (by kernel_rfl) (.int .i64 (a : Int)) (by go_simp) ?_
      simp only [Act.put, List.setIfInBounds_toArray, List.set_cons_zero, List.set_cons_succ]
      refine WL.callP (by kernel_rfl) 66 _ _ rfl Try.in66 #[.int .i64 1, .int .i64 (a : Int)] (by simp [Act.eval]) ?_
      refine (at_any 1 a w1).mono ?_
      rintro e wz ⟨rfl, hbz, hwz⟩
      refine .inr ⟨_, rfl, ?_⟩
      try simp only [Exit.inBlock, Exit.then]
      refine ⟨rfl, ?_⟩
      exact .inr ⟨by rw [HR3.out hE h3_1]; exact (by decide : (1 : Int) ≠ 0), w1.heap.size, H2.out.size, rfl, by rw [HR3.out hE h3_1]; exact hbz, H2.out.trans (Grown.below hwz)⟩
    · skip
      refine WL.val (by kernel_rfl) (.bool false) (by go_simp) ?_
      simp only [Act.put, List.setIfInBounds_toArray, List.set_cons_zero, List.set_cons_succ]
      refine WL.nil ?_
      refine hK5 _ _ ?_
      refine wp_cond_false rfl ?_
      refine wp_skip ?_
      refine hK4 _ _ ?_
      refine wp_seq_k fun K6 hK6 => ?_
      refine wp_region_list (WL.out ?_)
      refine WL.bs (by kernel_rfl) 26 0 _ rfl #[] (by simp) _ _ (bsRE w1) ?_
      have HO2 : Keep (RowsOwn w.heap.size (w1.alloc (.cells #[] 25)) (.slice (some ⟨w1.heap.size, 0, none⟩) 0 0) []) := ⟨[], ownR_empty w1, fun k hk => by simp [Value.ownBlock] at hk; have := H2.out.size; omega, rfl, fun i hi => by simp at hi⟩
      have B2 : Keep (Below w1.heap.size w1 (w1.alloc (.cells #[] 25))) := ⟨below_new w1 _⟩
      have HI2 : Keep (InAt (w1.alloc (.cells #[] 25)) p s (a + N) none) := ⟨HI1.out.box _⟩
      have HG2 : Keep (Grown w (w1.alloc (.cells #[] 25)) fun k => k = p) := ⟨H2.out.trans (Grown.below B2.out)⟩
      generalize w1.alloc (.cells #[] 25) = w2 at *
      generalize w1.heap.size = g1 at *
      obtain ⟨n, hn⟩ : ∃ n : Nat, c = (n : Int) := ⟨c.toNat, by have := Hcr.out; omega⟩
      subst hn
      have hn256 : n ≤ 256 := by have := Hcr.out; omega
      have HK0 := Keep.mk (HR2.out hE h3_1)
      rw [Int.toNat_natCast] at HK0
      simp only [Act.put, List.setIfInBounds_toArray, List.set_cons_zero, List.set_cons_succ]
      refine WL.val (by kernel_rfl) (.slice (some ⟨g1, 0, none⟩) 0 0) (by go_simp) ?_
      simp only [Act.put, List.setIfInBounds_toArray, List.set_cons_zero, List.set_cons_succ]
      refine WL.nil ?_
      refine hK6 _ _ ?_
      refine wp_seq_k fun K7 hK7 => ?_
      refine wp_seq_k fun K8 hK8 => ?_
      refine wp_region_list (WL.out ?_)
      refine WL.val (by kernel_rfl) (.int .u64 (n : Int)) (by go_simp) ?_
      simp only [Act.put, List.setIfInBounds_toArray, List.set_cons_zero, List.set_cons_succ]
      refine WL.val (by kernel_rfl) (.int .u64 0) (by go_simp) ?_
      simp only [Act.put, List.setIfInBounds_toArray, List.set_cons_zero, List.set_cons_succ]
      refine WL.nil ?_
      refine hK8 _ _ ?_
      refine wp_block ?_
      refine wp_loop (fun ac wr => ∃ (t : Nat) (u5 u20 u21 u22 u23 u24 u25 u26 : Value), ac = { tmps := #[.pointer (some ⟨p, 0, none⟩), undef, .slice none 0 0, .int .i64 (a : Int), .int .u64 (n : Int), u5, .pointer (some ⟨p, 0, none⟩), .int .i64 (a : Int), .pointer (some ⟨p, 0, none⟩), .tuple #[.int .u64 (n : Int), .nilIface], .int .u64 (n : Int), .nilIface, .int .u64 (n : Int), .int .u64 (n : Int), .bool false, undef, undef, .slice (some ⟨g1, 0, none⟩) 0 0, .int .u64 (n : Int), .int .u64 (t : Int), u20, u21, u22, u23, u24, u25, u26, undef], defers := [] } ∧ t ≤ n ∧ ∃ l at_, bkG (lst s) n [] (a + N) = bkG (lst s) (n - t) l at_ ∧ InAt wr p s at_ none ∧ RowsOwn w.heap.size wr u5 l ∧ (Grown w wr fun k => k = p) ∧ l.length = t) (fun a _ => n - (intOf (a.tmps.getD 19 undef)).toNat) ⟨0, .slice (some ⟨g1, 0, none⟩) 0 0, undef, undef, undef, undef, undef, undef, undef, rfl, by omega, [], a + N, rfl, HI2.out, HO2.out, HG2.out, rfl⟩ ?_
      rintro ac wr ⟨t, u5, u20, u21, u22, u23, u24, u25, u26, rfl, ht, l, at_, hC, hI, hO, hG, hLn⟩
      by_cases hlt : t < n
      · have hlt' : (t : Int) < (n : Int) := by omega
        have hwt : IntKind.u64.wrap ((t : Int) + 1) = (t : Int) + 1 := by rw [IntKind.wrap_u64]; omega
        obtain ⟨k1, hk1⟩ : ∃ k1, n - t = k1 + 1 := ⟨n - t - 1, by omega⟩
        rw [hk1, bkG] at hC
        have hk2 : k1 = n - (t + 1) := by omega
        rw [hk2] at hC
        obtain ⟨la, lc, rfl⟩ := hO.form
        have HGB := Keep.mk (getBlock_any p s at_ wr hI Hb.out)
        obtain ⟨B1, hB1⟩ : ∃ B1, B1 = bk1 (lst s) at_ := ⟨_, rfl⟩
        rw [← hB1] at HGB hC
        have JC := Keep.mk hC
        have JI := Keep.mk hI
        have JO := Keep.mk hO
        have JG := Keep.mk hG
        have JLn := Keep.mk hLn
        clear hC hI hO hG hk1 hk2 hB1
        refine wp_seq_k fun K9 hK9 => ?_
        refine wp_region_list (WL.out ?_)
        refine WL.val (by kernel_rfl) (.bool true) (by go_simp) ?_
        simp only [Act.put, List.setIfInBounds_toArray, List.set_cons_zero, List.set_cons_succ]
        refine WL.nil ?_
        refine hK9 _ _ ?_
        refine wp_seq_k fun K10 hK10 => ?_
        refine wp_cond_true rfl ?_
        refine wp_skip ?_
        refine hK10 _ _ ?_
        refine wp_seq_k fun K11 hK11 => ?_
        refine wp_block ?_
        refine wp_region_list (WL.out ?_)
        refine WL.val (by kernel_rfl) (.slice la l.length lc) (by go_simp) ?_
        simp only [Act.put, List.setIfInBounds_toArray, List.set_cons_zero, List.set_cons_succ]
        refine WL.val (by kernel_rfl) (.pointer (some ⟨p, 0, none⟩)) (by go_simp) ?_
        simp only [Act.put, List.setIfInBounds_toArray, List.set_cons_zero, List.set_cons_succ]
        refine WL.callP (by kernel_rfl) 112 _ _ rfl Try.in112 #[ptr p] (by simp [Act.eval]) ?_
        refine HGB.out.mono ?_
        rintro e w3 (⟨e1, vx, rfl, ⟨hx, hk⟩, h2, h3⟩ | hgv)
        rotate_left
        · have hne := hgv.1
          obtain ⟨q, hq, rfl, hbad, hgr⟩ := hgv.2
          refine .inr ⟨_, rfl, ?_⟩
          try simp only [Exit.inBlock, Exit.then]
          refine ⟨rfl, ?_⟩
          have hRR : R = (B1.1, B1.2.1, []) := by rw [HK0.out, JC.out, if_pos hne]
          refine .inr (Gives.of JG.out ⟨by rw [hRR]; exact hne, q, hq, rfl, by rw [hRR]; exact hbad, hgr⟩)
        refine .inl ⟨_, rfl, ?_⟩
        simp only at e1
        have JC3 := Keep.mk (JC.out.trans (if_neg (by simp [e1])))
        have HO3 := Keep.mk (JO.out.grown h3 (fun k hk => by rintro rfl; rcases hk with hk | hk; exact absurd (JI.out.blk.typ.one hk) (by decide); exact absurd (JI.out.blk.typ.one hk) (by decide)))
        obtain ⟨xa, xc, rfl⟩ := row_form hx.row
        have HX3 := Keep.mk hx
        have Hk3 : Keep (∃ k, (Value.slice xa B1.2.2.length xc).ownBlock = some k ∧ w.heap.size ≤ k) := ⟨by obtain ⟨k, h4, h5⟩ := hk; exact ⟨k, h4, Nat.le_trans JG.out.size h5⟩⟩
        have HI3 := Keep.mk h2
        have HG3 : Keep (Grown w w3 fun k => k = p) := ⟨JG.out.trans h3⟩
        clear hx hk h2 h3 e1 JC
        simp only [Act.put, List.setIfInBounds_toArray, List.set_cons_zero, List.set_cons_succ]
        refine WL.bs (by kernel_rfl) 26 1 _ rfl #[(0, .slice xa B1.2.2.length xc)] (by simp [Act.eval]) _ _ (bsR xa B1.2.2.length xc w3) ?_
        have HB4 := Keep.mk (Blk.new w3 25 #[.slice xa B1.2.2.length xc])
        have B4 := Keep.mk (below_new w3 (.cells #[.slice xa B1.2.2.length xc] 25))
        have HO4 := Keep.mk (HO3.out.below B4.out)
        have HX4 := Keep.mk (HX3.out.box (.cells #[.slice xa B1.2.2.length xc] 25))
        have HI4 := Keep.mk (HI3.out.box (.cells #[.slice xa B1.2.2.length xc] 25))
        have HG4 : Keep (Grown w (w3.alloc (.cells #[.slice xa B1.2.2.length xc] 25)) fun k => k = p) := ⟨HG3.out.trans (Grown.below B4.out)⟩
        generalize w3.alloc (.cells #[.slice xa B1.2.2.length xc] 25) = w4 at *
        generalize w3.heap.size = g3 at *
        obtain ⟨vs, o1, o2, o3, o4⟩ := HO4.out
        have O1 := Keep.mk o1
        have O2 := Keep.mk o2
        have O3 := Keep.mk o3
        have O4 := Keep.mk o4
        clear o1 o2 o3 o4
        simp only [Act.put, List.setIfInBounds_toArray, List.set_cons_zero, List.set_cons_succ]
        refine WL.appR (by kernel_rfl) (.tmp 21) (.tmp 24) rfl (.slice la l.length lc) vs g3 (.slice xa B1.2.2.length xc) rfl rfl rfl O1.out HB4.out (by have := O3.out; have := JLn.out; omega) ?_
        intro v5 w5 h1 h2 h3
        have HO5 : Keep (RowsOwn w.heap.size w5 v5 (l ++ [B1.2.2])) := ⟨RowsOwn.push h1 (fun k hk => by
          rcases h3 with e | ⟨j, e, hj⟩
          · rw [e] at hk; exact O2.out k hk
          · rw [e] at hk; injection hk with hk; have := HG4.out.size; omega) O3.out (fun i hi => ⟨(O4.out i hi).1.grown h2 (fun k hk e => own_typ O1.out e ((O4.out i hi).1.typ hk)), (O4.out i hi).2⟩) (HX4.out.grown h2 (fun k hk e => own_typ O1.out e (HX4.out.typ hk))) Hk3.out⟩
        have HG5 : Keep (Grown w w5 fun k => k = p) := ⟨HG4.out.next h2 (fun k hk e => absurd (O2.out k e) (by omega))⟩
        have HI5 : Keep (InAt w5 p s B1.2.1 none) := ⟨h2.blk HI4.out.blk (fun e => O1.out.ne HI4.out.blk (by decide) e), HI4.out.le⟩
        clear h1 h2 h3
        simp only [Act.put, List.setIfInBounds_toArray, List.set_cons_zero, List.set_cons_succ]
        refine WL.val (by kernel_rfl) (v5) (by go_simp) ?_
        simp only [Act.put, List.setIfInBounds_toArray, List.set_cons_zero, List.set_cons_succ]
        refine WL.nil ?_
        refine hK11 _ _ ?_
        refine wp_region_list (WL.out ?_)
        refine WL.val (by kernel_rfl) (.int .u64 ((t : Int) + 1)) (by go_simp) ?_
        simp only [Act.put, List.setIfInBounds_toArray, List.set_cons_zero, List.set_cons_succ]
        refine WL.val (by kernel_rfl) (.int .u64 ((t : Int) + 1)) (by go_simp) ?_
        simp only [Act.put, List.setIfInBounds_toArray, List.set_cons_zero, List.set_cons_succ]
        refine WL.nil ?_
        refine ⟨⟨t + 1, v5, .bool true, .slice la l.length lc, .pointer (some ⟨p, 0, none⟩), .slice xa B1.2.2.length xc, .slice (some ⟨g3, 0, none⟩) 1 1, v5, .int .u64 ((t : Int) + 1), rfl, by omega, l ++ [B1.2.2], B1.2.1, JC3.out, HI5.out, HO5.out, HG5.out, by rw [List.length_append]; simp [JLn.out]⟩, by simp [intOf]; omega⟩
      · have hte : Keep (t = n) := ⟨by omega⟩
        have htl' : ¬ (t : Int) < (n : Int) := by omega
        refine wp_seq_k fun K12 hK12 => ?_
        refine wp_region_list (WL.out ?_)
        refine WL.val (by kernel_rfl) (.bool false) (by go_simp) ?_
        simp only [Act.put, List.setIfInBounds_toArray, List.set_cons_zero, List.set_cons_succ]
        refine WL.nil ?_
        refine hK12 _ _ ?_
        refine wp_seq_k fun K13 hK13 => ?_
        refine wp_cond_false rfl ?_
        refine wp_exit ?_
        refine hK7 _ _ ?_
        refine wp_seq_k fun K14 hK14 => ?_
        refine wp_region_list (WL.out ?_)
        refine WL.val (by kernel_rfl) (u5) (by go_simp) ?_
        simp only [Act.put, List.setIfInBounds_toArray, List.set_cons_zero, List.set_cons_succ]
        refine WL.val (by kernel_rfl) (u5) (by go_simp) ?_
        simp only [Act.put, List.setIfInBounds_toArray, List.set_cons_zero, List.set_cons_succ]
        refine WL.nil ?_
        refine hK14 _ _ ?_
        refine wp_ret ?_
        go_ret
        rw [hte.out, Nat.sub_self, bkG] at hC
        rw [HK0.out, hC]
        exact .inl ⟨rfl, u5, rfl, hO, hI, hG⟩
  · rcases H3.out with ⟨e1, _, _⟩ | ⟨_, q, hq, rfl, rfl, hbad⟩
    · exact absurd e1 hE
    have Hbad := Keep.mk hbad
    clear hbad
    unfold err
    refine WL.val (by kernel_rfl) (.int .u64 c) (by go_simp) ?_
    simp only [Act.put, List.setIfInBounds_toArray, List.set_cons_zero, List.set_cons_succ]
    refine WL.val (by kernel_rfl) (.iface 116 (ptr q)) (by go_simp) ?_
    simp only [Act.put, List.setIfInBounds_toArray, List.set_cons_zero, List.set_cons_succ]
    refine WL.callP (by kernel_rfl) 104 _ _ rfl Try.in104 #[.int .u64 c, err q] (by simp [Act.eval, err]) ?_
    refine (must104_bad _ q w1).mono ?_
    rintro e w' ⟨rfl, rfl⟩
    refine .inr ⟨_, rfl, ?_⟩
    try simp only [Exit.inBlock, Exit.then]
    refine ⟨rfl, ?_⟩
    exact .inr ⟨by rw [HR1.out hE]; exact hE, q, hq, rfl, by rw [HR1.out hE]; exact Hbad.out, H2.out⟩
theorem Try.sizeHL (h : Hs) : (Try.prog.info? 101).map (·.size) = some (Sh.encH h).length := by rw [Sh.encH_len]; exact Try.size101
theorem enc_load (h : Hs) : (Sh.encH h).toArray = bytesA 32 h.f := Sh.encH_arr h
theorem OwnH.elem {w : World} {v : Value} {l : List Hs} (h : OwnH w v l) (i : Nat) (hi : i < l.length) : ∃ g cap, v = .slice (some ⟨g, 0, none⟩) l.length cap ∧ ∀ wx, (∀ cs, Blk w g 101 cs → Blk wx g 101 cs) → wx.rangeAt g (i * 32) (Sh.encH (l.getD i default)) := by
  rcases h.form with ⟨_, h0⟩ | ⟨g, cap, cur, rfl, h1, h2, h3⟩
  · rw [h0] at hi; exact absurd hi (Nat.not_lt_zero _)
  · refine ⟨g, cap, rfl, fun wx hx => ?_⟩
    have hr : wx.rangeAt g 0 (Sh.flatH l) := fun j u hu => by
      rw [Nat.zero_add, (hx _ h1).cell]
      rw [← h3, List.getElem?_take] at hu
      split at hu
      · rwa [Array.getElem?_toList] at hu
      · cases hu
    have := Sh.rangeAt_elem hr i hi
    rw [Nat.zero_add] at this
    rwa [show l.getD i default = l[i] by simp [List.getD_eq_getElem?_getD, hi]]
set_option maxRecDepth 8000 in
set_option maxHeartbeats 4000000 in
theorem getHashes_any (p : Nat) (s : ByteArray) (a most : Nat) (hm : most ≤ 4096) (w : World) (hI : InAt w p s a none) (hb : s.size ≤ 140737488355328) :
    Calls Try.prog 78 #[ptr p, .int .u64 (most : Int)] w (Rds p s ((hsR (lst s) most a).1, (hsR (lst s) most a).2.1) (fun v w' => OwnH w' v (hsR (lst s) most a).2.2 ∧ ∀ k, v.ownBlock = some k → w.heap.size ≤ k) w) := by
  have HI := Keep.mk hI
  have Hb := Keep.mk hb
  have Hm := Keep.mk hm
  have hrg := fst_rng ((lst s).drop a) ((lst_byts s).drop a) most (by omega)
  have hc0 : ∀ wx, InAt wx p s a none → Calls Try.prog 105 #[ptr p, .int .u64 (most : Int)] wx (RdPost p s (fstM ((lst s).drop a) most).2.2 (a + (fstM ((lst s).drop a) most).2.1.toNat) (.int .u64 (fstM ((lst s).drop a) most).1) wx) := fun wx h => inum_good p s a most wx h hb
  obtain ⟨R, hR⟩ : ∃ R, R = hsR (lst s) most a := ⟨_, rfl⟩
  rw [← hR]
  unfold hsR at hR
  generalize fstM ((lst s).drop a) most = M at *
  obtain ⟨c, n, W⟩ := M
  simp only at hR hc0 hrg ⊢
  obtain ⟨N, hN⟩ : ∃ N, N = n.toNat := ⟨_, rfl⟩
  rw [← hN] at hR hc0
  have HC := Keep.mk hc0
  have Hcr := Keep.mk hrg
  have HR1 : Keep (¬ W = 0 → R = (W, a + N, [])) := ⟨fun h => by rw [hR, if_pos h]⟩
  have HR2 : Keep (W = 0 → R = getH (lst s) c.toNat [] (a + N)) := ⟨fun h1 => by rw [hR, if_neg (by simp [h1])]⟩
  clear hI hb hR hN hrg hc0 hm
  go_enter Try.func78, Try.ntmps78
  refine wp_seq_k fun K1 hK1 => ?_
  refine wp_region_list (WL.out ?_)
  refine WL.val (by kernel_rfl) (.slice none 0 0) (by go_simp) ?_
  simp only [Act.put, List.setIfInBounds_toArray, List.set_cons_zero, List.set_cons_succ]
  refine WL.nil ?_
  refine hK1 _ _ ?_
  refine wp_seq_k fun K2 hK2 => ?_
  refine wp_region_list (WL.out ?_)
  refine WL.bs (by kernel_rfl) 23 0 _ rfl #[] (by simp) _ _ (bsHE w) ?_
  have HOa := Keep.mk (ownH_empty w)
  have Ba : Keep (Below w.heap.size w (w.alloc (.cells #[] 101))) := ⟨below_new w _⟩
  have HIa : Keep (InAt (w.alloc (.cells #[] 101)) p s a none) := ⟨HI.out.box _⟩
  generalize w.alloc (.cells #[] 101) = wa at *
  have HOna : Keep (∀ k, (Value.slice (some ⟨w.heap.size, 0, none⟩) 0 0).ownBlock = some k → w.heap.size ≤ k) := ⟨fun k hk => by simp [Value.ownBlock] at hk; omega⟩
  obtain ⟨gz, hgz⟩ : ∃ gz, gz = w.heap.size := ⟨_, rfl⟩
  have HCa := Keep.mk (HC.out wa HIa.out)
  simp only [Act.put, List.setIfInBounds_toArray, List.set_cons_zero, List.set_cons_succ]
  refine WL.val (by kernel_rfl) (.slice (some ⟨w.heap.size, 0, none⟩) 0 0) (by go_simp) ?_
  simp only [Act.put, List.setIfInBounds_toArray, List.set_cons_zero, List.set_cons_succ]
  refine WL.nil ?_
  refine hK2 _ _ ?_
  refine wp_seq_k fun K3 hK3 => ?_
  refine wp_seq_k fun K4 hK4 => ?_
  refine wp_region_list (WL.out ?_)
  refine WL.val (by kernel_rfl) (.pointer (some ⟨p, 0, none⟩)) (by go_simp) ?_
  simp only [Act.put, List.setIfInBounds_toArray, List.set_cons_zero, List.set_cons_succ]
  refine WL.val (by kernel_rfl) (.int .u64 (most : Int)) (by go_simp) ?_
  simp only [Act.put, List.setIfInBounds_toArray, List.set_cons_zero, List.set_cons_succ]
  refine WL.callF (by kernel_rfl) 105 _ _ rfl Try.in105 #[ptr p, .int .u64 (most : Int)] (by simp [Act.eval]) ?_
  refine (HCa.out).mono ?_
  rintro e w1 ⟨bad, er, rfl, h1, h2, h3⟩
  refine ⟨_, rfl, ?_⟩
  have H1 := Keep.mk h1
  have H2 : Keep (Grown w w1 fun k => k = p) := ⟨(Grown.below Ba.out).trans h2⟩
  have HO1 := Keep.mk (HOa.out.grown h2 (fun k hk e => HOa.out.ne HIa.out.blk (by decide) (e ▸ hk)))
  have H3 : Keep (ErrAs w w1 W (a + N) bad er) := ⟨by rcases h3 with h3 | ⟨h4, q, h5, h6⟩; exact .inl h3; exact .inr ⟨h4, q, Nat.le_trans Ba.out.size h5, h6⟩⟩
  clear h1 h2 h3
  simp only [Act.put, List.setIfInBounds_toArray, List.set_cons_zero, List.set_cons_succ]
  by_cases hE : W = 0
  · rcases H3.out with ⟨e1, rfl, rfl⟩ | ⟨e1, _⟩
    rotate_left
    · exact absurd hE e1
    have HR := Keep.mk (HR2.out hE)
    obtain ⟨n, hn⟩ : ∃ n : Nat, c = (n : Int) := ⟨c.toNat, by have := Hcr.out; omega⟩
    subst hn
    have Hn : Keep (n ≤ 4096) := ⟨by have := Hcr.out; have := Hm.out; omega⟩
    rw [Int.toNat_natCast] at HR
    refine WL.val (by kernel_rfl) (.int .u64 (n : Int)) (by go_simp) ?_
    simp only [Act.put, List.setIfInBounds_toArray, List.set_cons_zero, List.set_cons_succ]
    refine WL.val (by kernel_rfl) (.nilIface) (by go_simp) ?_
    simp only [Act.put, List.setIfInBounds_toArray, List.set_cons_zero, List.set_cons_succ]
    refine WL.callF (by kernel_rfl) 104 _ _ rfl Try.in104 #[.int .u64 (n : Int), .nilIface] (by simp [Act.eval]) ?_
    refine (must104_ok (.int .u64 (n : Int)) w1).mono ?_
    rintro e w0 ⟨rfl, hw0⟩
    rw [hw0]
    clear hw0 w0
    refine ⟨_, rfl, ?_⟩
    simp only [Act.put, List.setIfInBounds_toArray, List.set_cons_zero, List.set_cons_succ]
    refine WL.val (by kernel_rfl) (.int .u64 0) (by go_simp) ?_
    simp only [Act.put, List.setIfInBounds_toArray, List.set_cons_zero, List.set_cons_succ]
    refine WL.nil ?_
    refine hK4 _ _ ?_
    refine wp_block ?_
    refine wp_loop (fun ac wr => ∃ (t : Nat) (u5 u6 u7 u16 u17 u18 u19 u20 u21 u22 u23 u24 u25 u26 u27 u28 u29 u30 u31 u32 u33 u34 u35 u36 u37 u38 u39 u40 u41 u42 u43 u44 : Value), ac = { tmps := #[.pointer (some ⟨p, 0, none⟩), .int .u64 (most : Int), undef, undef, .slice none 0 0, u5, u6, u7, .slice (some ⟨w.heap.size, 0, none⟩) 0 0, .pointer (some ⟨p, 0, none⟩), .int .u64 (most : Int), .tuple #[.int .u64 (n : Int), .nilIface], .int .u64 (n : Int), .nilIface, .int .u64 (n : Int), .int .u64 (t : Int), u16, u17, u18, u19, u20, u21, u22, u23, u24, u25, u26, u27, u28, u29, u30, u31, u32, u33, u34, u35, u36, u37, u38, u39, u40, u41, u42, u43, u44, undef], defers := [] } ∧ t ≤ n ∧ ∃ l at_, getH (lst s) n [] (a + N) = getH (lst s) (n - t) l at_ ∧ InAt wr p s at_ none ∧ OwnH wr u5 l ∧ (∀ k, u5.ownBlock = some k → w.heap.size ≤ k) ∧ (Grown w wr fun k => k = p) ∧ l.length = t) (fun a _ => n - (intOf (a.tmps.getD 15 undef)).toNat) ⟨0, .slice (some ⟨w.heap.size, 0, none⟩) 0 0, undef, undef, undef, undef, undef, undef, undef, undef, undef, undef, undef, undef, undef, undef, undef, undef, undef, undef, undef, undef, undef, undef, undef, undef, undef, undef, undef, undef, undef, undef, undef, rfl, by omega, [], a + N, rfl, H1.out, HO1.out, HOna.out, H2.out, rfl⟩ ?_
    rintro ac wr ⟨t, u5, u6, u7, u16, u17, u18, u19, u20, u21, u22, u23, u24, u25, u26, u27, u28, u29, u30, u31, u32, u33, u34, u35, u36, u37, u38, u39, u40, u41, u42, u43, u44, rfl, ht, l, at_, hC, hI, hO, hOn, hG, hLn⟩
    by_cases htl : t < n
    · have htl' : (t : Int) < (n : Int) := by omega
      obtain ⟨k1, hk1⟩ : ∃ k1, n - t = k1 + 1 := ⟨n - t - 1, by omega⟩
      rw [hk1, getH] at hC
      have hk2 : k1 = n - (t + 1) := by omega
      rw [hk2] at hC
      have hwr1 : IntKind.u64.wrap ((t : Int) + 1) = (t : Int) + 1 := by rw [IntKind.wrap_u64]; have := Hn.out; omega
      obtain ⟨oa, oc, rfl⟩ := hO.sl
      obtain ⟨D, hD⟩ : ∃ D, D = (lst s).drop at_ := ⟨_, rfl⟩
      obtain ⟨W, hW⟩ : ∃ W, W = nextW D 32 := ⟨_, rfl⟩
      obtain ⟨N, hN⟩ : ∃ N, N = nextN D 32 := ⟨_, rfl⟩
      obtain ⟨hh, hhh⟩ : ∃ hh, hh = hs (D.take 32) := ⟨_, rfl⟩
      have HC0 := Keep.mk (ihash_good p s at_ wr hI Hb.out D hD W hW N hN)
      rw [← hD, ← hW, ← hN, ← hhh] at hC
      have heq : Keep (W = 0 → bytesA 32 (hrd D W) = bytesA 32 hh.f) := ⟨fun h => by rw [h, hhh]; exact hrd_hs D (by rw [← hW]; exact h) (by rw [hD]; exact (lst_byts s).drop at_)⟩
      have HN32 : Keep (W = 0 → N = 32) := ⟨fun h => by rw [hN, (nextN_0 D 32 (by rw [← hW]; exact h)).1]; rfl⟩
      have JC := Keep.mk hC
      have JI := Keep.mk hI
      have JO := Keep.mk hO
      have JOn := Keep.mk hOn
      have JG := Keep.mk hG
      have JLn := Keep.mk hLn
      clear hC hI hO hOn hG hLn hk1 hk2 hD hW hN hhh
      have hln : l.length ≤ 4096 := by have := JLn.out; have := Hn.out; omega
      refine wp_seq_k fun K5 hK5 => ?_
      refine wp_region_list (WL.out ?_)
      refine WL.val (by kernel_rfl) (.bool true) (by go_simp) ?_
      simp only [Act.put, List.setIfInBounds_toArray, List.set_cons_zero, List.set_cons_succ]
      refine WL.nil ?_
      refine hK5 _ _ ?_
      refine wp_seq_k fun K6 hK6 => ?_
      refine wp_cond_true rfl ?_
      refine wp_skip ?_
      refine hK6 _ _ ?_
      refine wp_seq_k fun K7 hK7 => ?_
      refine wp_block ?_
      refine wp_seq_k fun K8 hK8 => ?_
      refine wp_region_list (WL.out ?_)
      refine WL.val (by kernel_rfl) (.pointer (some ⟨p, 0, none⟩)) (by go_simp) ?_
      simp only [Act.put, List.setIfInBounds_toArray, List.set_cons_zero, List.set_cons_succ]
      refine WL.callF (by kernel_rfl) 63 _ _ rfl Try.in63 #[ptr p] (by simp [Act.eval]) ?_
      refine (iat_any p s at_ none wr JI.out).mono ?_
      rintro e w0 ⟨rfl, hw0⟩
      rw [hw0]
      clear hw0 w0
      refine ⟨_, rfl, ?_⟩
      simp only [Act.put, List.setIfInBounds_toArray, List.set_cons_zero, List.set_cons_succ]
      refine WL.val (by kernel_rfl) (.int .i64 (at_ : Int)) (by go_simp) ?_
      simp only [Act.put, List.setIfInBounds_toArray, List.set_cons_zero, List.set_cons_succ]
      refine WL.nil ?_
      refine hK8 _ _ ?_
      refine wp_seq_k fun K9 hK9 => ?_
      refine wp_region_list (WL.out ?_)
      refine WL.val (by kernel_rfl) (.pointer (some ⟨p, 0, none⟩)) (by go_simp) ?_
      simp only [Act.put, List.setIfInBounds_toArray, List.set_cons_zero, List.set_cons_succ]
      refine WL.callF (by kernel_rfl) 107 _ _ rfl Try.in107 #[ptr p] (by simp [Act.eval]) ?_
      refine (HC0.out).mono ?_
      rintro e w1 ⟨bad, er, rfl, h1, h2, h3⟩
      refine ⟨_, rfl, ?_⟩
      have H1 := Keep.mk h1
      have H2 := Keep.mk (JG.out.trans h2)
      have HO1 := Keep.mk (JO.out.grown h2 (fun k hk e => JO.out.ne JI.out.blk (by decide) (e ▸ hk)))
      have H3 := Keep.mk h3
      clear h1 h2 h3
      simp only [Act.put, List.setIfInBounds_toArray, List.set_cons_zero, List.set_cons_succ]
      by_cases hE : W = 0
      · rcases H3.out with ⟨e1, rfl, rfl⟩ | ⟨e1, _⟩
        rotate_left
        · exact absurd hE e1
        rw [heq.out hE]
        refine WL.val (by kernel_rfl) (.agg (bytesA 32 hh.f)) (by go_simp) ?_
        simp only [Act.put, List.setIfInBounds_toArray, List.set_cons_zero, List.set_cons_succ]
        refine WL.val (by kernel_rfl) (.nilIface) (by go_simp) ?_
        simp only [Act.put, List.setIfInBounds_toArray, List.set_cons_zero, List.set_cons_succ]
        refine WL.callF (by kernel_rfl) 106 _ _ rfl Try.in106 #[.agg (bytesA 32 hh.f), .nilIface] (by simp [Act.eval]) ?_
        refine (mustH_ok hh.f w1).mono ?_
        rintro e w2 ⟨rfl, hb2⟩
        refine ⟨_, rfl, ?_⟩
        have B2 := Keep.mk hb2
        clear hb2
        simp only [Act.put, List.setIfInBounds_toArray, List.set_cons_zero, List.set_cons_succ]
        refine WL.new (by kernel_rfl) 101 rfl _ Try.new101 ?_
        simp only [Act.put, List.setIfInBounds_toArray, List.set_cons_zero, List.set_cons_succ]
        refine WL.storeR (by kernel_rfl) 101 (.tmp 7) (.tmp 23) rfl w2.heap.size (bytesA 32 hh.f) rfl rfl 101 (bytesA 32 fun _ => 0) (Blk.new w2 101 _) (Try.size101B _) (bytesA_sizes _ _ _) (bytesA_one _ _) ?_
        have HX3 := Keep.mk ((Blk.new w2 101 (bytesA 32 fun _ => 0)).setRow (bytesA 32 hh.f))
        have B3 : Keep (Below w2.heap.size w2 ((w2.alloc (.cells (bytesA 32 fun _ => 0) 101)).setRow w2.heap.size (bytesA 32 hh.f))) := ⟨below_setRow (below_new w2 _) (Nat.le_refl _) _⟩
        generalize (w2.alloc (.cells (bytesA 32 fun _ => 0) 101)).setRow w2.heap.size (bytesA 32 hh.f) = w3 at *
        have B13 : Keep (Below w1.heap.size w1 w3) := ⟨B2.out.trans (B3.out.mono B2.out.size)⟩
        have HI3 : Keep (InAt w3 p s (at_ + N) none) := ⟨H1.out.blk.below B13.out H1.out.blk.lt, H1.out.le⟩
        have HO3 := Keep.mk (HO1.out.below B13.out)
        have HG3 : Keep (Grown w w3 fun k => k = p) := ⟨H2.out.trans (Grown.below B13.out)⟩
        have HI3b := Keep.mk HI3.out.blk
        generalize w2.heap.size = g2 at *
        simp only [Act.put]
        refine WL.nil ?_
        refine hK9 _ _ ?_
        refine wp_seq_k fun K10 hK10 => ?_
        refine wp_seq_k fun K11 hK11 => ?_
        have hD0 : Below w3.heap.size w3 w3.drew := (Below.refl _ _).drew
        by_cases ht0 : 0 < l.length
        · have ht0' : (0 : Int) < (l.length : Int) := by omega
          have hlt : l.length - 1 < l.length := by omega
          obtain ⟨gL, cL, hsl, hel⟩ := HO3.out.elem (l.length - 1) hlt
          injection hsl with hs1 hs2 hs3
          subst hs1 hs3
          obtain ⟨hp, hhp⟩ : ∃ hp, hp = l.getD (l.length - 1) default := ⟨_, rfl⟩
          rw [← hhp] at hel
          have Hcc : Keep (l.getD (l.length - 1) default = hp) := ⟨hhp.symm⟩
          have hsub : IntKind.i64.wrap ((l.length : Int) - 1) = ((l.length - 1 : Nat) : Int) := by rw [IntKind.wrap_i64]; omega
          have HS0 : Keep (∀ wx, Below w3.heap.size w3 wx → wx.rangeAt gL ((l.length - 1) * 32) (Sh.encH hp) ∧ wx.rangeAt g2 0 (bytesA 32 hh.f).toList) := ⟨fun wx hb => ⟨hel wx (fun cs h => h.below hb h.lt), blk_range (HX3.out.below hb HX3.out.lt)⟩⟩
          clear hel hhp
          by_cases hcf : 0 ≤ Sh.cf hp hh
          · have hbd : decide (0 < Sh.cf hh hp) = false := by rw [Sh.cf_swap hp hh]; simp; omega
            have JC2 := Keep.mk (JC.out.trans ((if_neg (by simp [hE])).trans (if_pos ⟨ht0, by rw [Hcc.out]; exact hcf⟩)))
            refine wp_region_held_drew (S := fun wx => wx.rangeAt gL ((l.length - 1) * 32) (Sh.encH hp) ∧ wx.rangeAt g2 0 (bytesA 32 hh.f).toList) (by kernel_rfl) (HS0.out _ hD0) (fun hHeld => ?_)
            refine wpAnyH_take (i := 0) (oi := ⟨some 24, Op.move (Operand.tmp 5), 23, _, _, none⟩) (v := .slice (some ⟨gL, 0, none⟩) l.length oc) rfl (by kernel_rfl) (by kernel_rfl) (by kernel_rfl) (fun _ _ _ h => h) (Or.inl ⟨by rfl, fun w hS => by go_simp⟩) hHeld ?_
            simp only [Act.put, List.setIfInBounds_toArray, List.set_cons_zero, List.set_cons_succ]
            refine wpAnyH_take (i := 1) (oi := ⟨some 25, Op.call { callee := Callee.builtin Builtin.len, args := #[Operand.tmp 24], argTypes := #[23] }, 3, _, _, none⟩) (v := .int .i64 (l.length : Int)) rfl (by kernel_rfl) (by kernel_rfl) (by kernel_rfl) (fun _ _ _ h => h) (Or.inl ⟨by rfl, fun w hS => by go_simp⟩) hHeld ?_
            simp only [Act.put, List.setIfInBounds_toArray, List.set_cons_zero, List.set_cons_succ]
            refine wpAnyH_take (i := 2) (oi := ⟨some 26, Op.binOp BinOp.gtr 3 (Operand.tmp 25) (Operand.const (Value.int IntKind.i64 0)) 3, 4, _, _, none⟩) (v := .bool true) rfl (by kernel_rfl) (by kernel_rfl) (by kernel_rfl) (fun _ _ _ h => h) (Or.inl ⟨by rfl, fun w hS => by go_simp⟩) hHeld ?_
            simp only [Act.put, List.setIfInBounds_toArray, List.set_cons_zero, List.set_cons_succ]
            refine wpAnyH_take (i := 3) (oi := ⟨some 27, Op.move (Operand.tmp 26), 4, _, _, none⟩) (v := .bool true) rfl (by kernel_rfl) (by kernel_rfl) (by kernel_rfl) (fun _ _ _ h => h) (Or.inl ⟨by rfl, fun w hS => by go_simp⟩) hHeld ?_
            simp only [Act.put, List.setIfInBounds_toArray, List.set_cons_zero, List.set_cons_succ]
            refine wpAnyH_take (i := 4) (oi := ⟨some 28, Op.load 101 (Operand.tmp 7), 101, _, _, some (3, true)⟩) (v := .agg (bytesA 32 hh.f).toList.toArray) rfl (by kernel_rfl) (by kernel_rfl) (by kernel_rfl) (fun _ _ _ h => h) (yieldsIf_load_mid (by rfl) 101 (Operand.tmp 7) rfl g2 0 rfl (bytesA 32 hh.f).toList _ (fun w hS => hS.2) Try.underlying101 rfl (by rw [Array.length_toList]; exact Try.size101B _)) hHeld ?_
            simp only [Act.put, List.setIfInBounds_toArray, List.set_cons_zero, List.set_cons_succ]
            refine wpAnyH_take (i := 5) (oi := ⟨some 29, Op.move (Operand.tmp 5), 23, _, _, some (3, true)⟩) (v := .slice (some ⟨gL, 0, none⟩) l.length oc) rfl (by kernel_rfl) (by kernel_rfl) (by kernel_rfl) (fun _ _ _ h => h) (Or.inl ⟨by rfl, fun w hS => by go_simp⟩) hHeld ?_
            simp only [Act.put, List.setIfInBounds_toArray, List.set_cons_zero, List.set_cons_succ]
            refine wpAnyH_take (i := 6) (oi := ⟨some 30, Op.move (Operand.tmp 5), 23, _, _, some (3, true)⟩) (v := .slice (some ⟨gL, 0, none⟩) l.length oc) rfl (by kernel_rfl) (by kernel_rfl) (by kernel_rfl) (fun _ _ _ h => h) (Or.inl ⟨by rfl, fun w hS => by go_simp⟩) hHeld ?_
            simp only [Act.put, List.setIfInBounds_toArray, List.set_cons_zero, List.set_cons_succ]
            refine wpAnyH_take (i := 7) (oi := ⟨some 31, Op.call { callee := Callee.builtin Builtin.len, args := #[Operand.tmp 30], argTypes := #[23] }, 3, _, _, some (3, true)⟩) (v := .int .i64 (l.length : Int)) rfl (by kernel_rfl) (by kernel_rfl) (by kernel_rfl) (fun _ _ _ h => h) (Or.inl ⟨by rfl, fun w hS => by go_simp⟩) hHeld ?_
            simp only [Act.put, List.setIfInBounds_toArray, List.set_cons_zero, List.set_cons_succ]
            refine wpAnyH_take (i := 8) (oi := ⟨some 32, Op.binOp BinOp.sub 3 (Operand.tmp 31) (Operand.const (Value.int IntKind.i64 1)) 3, 3, _, _, some (3, true)⟩) (v := .int .i64 ((l.length - 1 : Nat) : Int)) rfl (by kernel_rfl) (by kernel_rfl) (by kernel_rfl) (fun _ _ _ h => h) (Or.inl ⟨by rfl, fun w hS => by go_simp⟩) hHeld ?_
            simp only [Act.put, List.setIfInBounds_toArray, List.set_cons_zero, List.set_cons_succ]
            refine wpAnyH_take (i := 9) (oi := ⟨some 33, Op.indexAddr 23 (Operand.tmp 29) (Operand.tmp 32), 0, _, _, some (3, true)⟩) (v := .pointer (some ⟨gL, (l.length - 1) * 32, none⟩)) rfl (by kernel_rfl) (by kernel_rfl) (by kernel_rfl) (fun _ _ _ h => h) (Or.inl ⟨by rfl, fun w hS => by go_simp; try (intro h; omega)⟩) hHeld ?_
            simp only [Act.put, List.setIfInBounds_toArray, List.set_cons_zero, List.set_cons_succ]
            refine wpAnyH_take (i := 10) (oi := ⟨some 34, Op.load 101 (Operand.tmp 33), 101, _, _, some (3, true)⟩) (v := .agg (Sh.encH hp).toArray) rfl (by kernel_rfl) (by kernel_rfl) (by kernel_rfl) (fun _ _ _ h => h) (yieldsIf_load_mid (by rfl) 101 (Operand.tmp 33) rfl gL ((l.length - 1) * 32) rfl (Sh.encH hp) _ (fun w hS => hS.1) Try.underlying101 rfl (Try.sizeHL hp)) hHeld ?_
            simp only [Act.put, List.setIfInBounds_toArray, List.set_cons_zero, List.set_cons_succ]
            refine wpAnyH_ready (rs := [11]) (by kernel_rfl) (by simp) ?_
            refine AllReadyH.cons (o := ⟨some 35, Op.call { callee := Callee.value (Operand.func 56), args := #[Operand.tmp 28, Operand.tmp 34], argTypes := #[101, 101] }, 4, _, _, some (3, true)⟩) rfl (fun K hK => ?_) AllReadyH.nil
            rw [if_pos (by rfl)]
            refine wp_callF 56 _ _ rfl Try.in56 #[.agg (bytesA 32 hh.f), .agg (bytesA 32 hp.f)] (by simp [Act.eval, enc_load]) (fun vz wz => vz = .bool false ∧ Below w3.heap.size w3 wz) ?_ ?_
            · refine (behind_any hh hp w3.drew).mono ?_
              rintro e wz ⟨rfl, h⟩
              exact ⟨_, rfl, by rw [hbd], hD0.trans (h.mono hD0.size)⟩
            rintro vz w7 ⟨rfl, h7⟩
            have HB7 := Keep.mk h7
            clear h7
            refine hK.out _ _ (HS0.out _ HB7.out) fun hHeld2 => ?_
            clear hK
            simp only [Act.put, List.setIfInBounds_toArray, List.set_cons_zero, List.set_cons_succ]
            refine wpAnyH_take (i := 12) (oi := ⟨some 36, Op.unOp UnOp.not 4 (Operand.tmp 35), 4, _, _, some (3, true)⟩) (v := .bool true) rfl (by kernel_rfl) (by kernel_rfl) (by kernel_rfl) (fun _ _ _ h => h) (Or.inl ⟨by rfl, fun w hS => by go_simp⟩) hHeld2 ?_
            simp only [Act.put, List.setIfInBounds_toArray, List.set_cons_zero, List.set_cons_succ]
            refine wpAnyH_take (i := 13) (oi := ⟨some 37, Op.pick (Operand.tmp 27) (Operand.tmp 36) (Operand.const (Value.bool false)), 4, _, _, none⟩) (v := .bool true) rfl (by kernel_rfl) (by kernel_rfl) (by kernel_rfl) (fun _ _ _ h => h) (Or.inl ⟨by rfl, fun w hS => by go_simp⟩) hHeld2 ?_
            simp only [Act.put, List.setIfInBounds_toArray, List.set_cons_zero, List.set_cons_succ]
            refine wpAnyH_done (by kernel_rfl) ?_ _
            refine hK11 _ _ ?_
            refine wp_cond_true rfl ?_
            have HG7 : Keep (Grown w w7 fun k => k = p) := ⟨HG3.out.trans (Grown.below HB7.out)⟩
            refine wp_region_list (WL.out ?_)
            refine WL.val (by kernel_rfl) (.int .i64 (at_ : Int)) (by go_simp) ?_
            simp only [Act.put, List.setIfInBounds_toArray, List.set_cons_zero, List.set_cons_succ]
            refine WL.callP (by kernel_rfl) 66 _ _ rfl Try.in66 #[.int .i64 130, .int .i64 (at_ : Int)] (by simp [Act.eval]) ?_
            refine (at_any 130 at_ w7).mono ?_
            rintro e wz ⟨rfl, hbz, hwz⟩
            refine .inr ⟨_, rfl, ?_⟩
            try simp only [Exit.inBlock, Exit.then]
            refine ⟨rfl, ?_⟩
            exact .inr ⟨by rw [HR.out, JC2.out]; exact (by decide : (130 : Int) ≠ 0), w7.heap.size, HG7.out.size, rfl, by rw [HR.out, JC2.out]; exact hbz, HG7.out.trans (Grown.below hwz)⟩
          · have hbd : decide (0 < Sh.cf hh hp) = true := by rw [Sh.cf_swap hp hh]; simp; omega
            have JC2 := Keep.mk (JC.out.trans ((if_neg (by simp [hE])).trans (if_neg (fun h => hcf (by rw [← Hcc.out]; exact h.2)))))
            refine wp_region_held_drew (S := fun wx => wx.rangeAt gL ((l.length - 1) * 32) (Sh.encH hp) ∧ wx.rangeAt g2 0 (bytesA 32 hh.f).toList) (by kernel_rfl) (HS0.out _ hD0) (fun hHeld => ?_)
            refine wpAnyH_take (i := 0) (oi := ⟨some 24, Op.move (Operand.tmp 5), 23, _, _, none⟩) (v := .slice (some ⟨gL, 0, none⟩) l.length oc) rfl (by kernel_rfl) (by kernel_rfl) (by kernel_rfl) (fun _ _ _ h => h) (Or.inl ⟨by rfl, fun w hS => by go_simp⟩) hHeld ?_
            simp only [Act.put, List.setIfInBounds_toArray, List.set_cons_zero, List.set_cons_succ]
            refine wpAnyH_take (i := 1) (oi := ⟨some 25, Op.call { callee := Callee.builtin Builtin.len, args := #[Operand.tmp 24], argTypes := #[23] }, 3, _, _, none⟩) (v := .int .i64 (l.length : Int)) rfl (by kernel_rfl) (by kernel_rfl) (by kernel_rfl) (fun _ _ _ h => h) (Or.inl ⟨by rfl, fun w hS => by go_simp⟩) hHeld ?_
            simp only [Act.put, List.setIfInBounds_toArray, List.set_cons_zero, List.set_cons_succ]
            refine wpAnyH_take (i := 2) (oi := ⟨some 26, Op.binOp BinOp.gtr 3 (Operand.tmp 25) (Operand.const (Value.int IntKind.i64 0)) 3, 4, _, _, none⟩) (v := .bool true) rfl (by kernel_rfl) (by kernel_rfl) (by kernel_rfl) (fun _ _ _ h => h) (Or.inl ⟨by rfl, fun w hS => by go_simp⟩) hHeld ?_
            simp only [Act.put, List.setIfInBounds_toArray, List.set_cons_zero, List.set_cons_succ]
            refine wpAnyH_take (i := 3) (oi := ⟨some 27, Op.move (Operand.tmp 26), 4, _, _, none⟩) (v := .bool true) rfl (by kernel_rfl) (by kernel_rfl) (by kernel_rfl) (fun _ _ _ h => h) (Or.inl ⟨by rfl, fun w hS => by go_simp⟩) hHeld ?_
            simp only [Act.put, List.setIfInBounds_toArray, List.set_cons_zero, List.set_cons_succ]
            refine wpAnyH_take (i := 4) (oi := ⟨some 28, Op.load 101 (Operand.tmp 7), 101, _, _, some (3, true)⟩) (v := .agg (bytesA 32 hh.f).toList.toArray) rfl (by kernel_rfl) (by kernel_rfl) (by kernel_rfl) (fun _ _ _ h => h) (yieldsIf_load_mid (by rfl) 101 (Operand.tmp 7) rfl g2 0 rfl (bytesA 32 hh.f).toList _ (fun w hS => hS.2) Try.underlying101 rfl (by rw [Array.length_toList]; exact Try.size101B _)) hHeld ?_
            simp only [Act.put, List.setIfInBounds_toArray, List.set_cons_zero, List.set_cons_succ]
            refine wpAnyH_take (i := 5) (oi := ⟨some 29, Op.move (Operand.tmp 5), 23, _, _, some (3, true)⟩) (v := .slice (some ⟨gL, 0, none⟩) l.length oc) rfl (by kernel_rfl) (by kernel_rfl) (by kernel_rfl) (fun _ _ _ h => h) (Or.inl ⟨by rfl, fun w hS => by go_simp⟩) hHeld ?_
            simp only [Act.put, List.setIfInBounds_toArray, List.set_cons_zero, List.set_cons_succ]
            refine wpAnyH_take (i := 6) (oi := ⟨some 30, Op.move (Operand.tmp 5), 23, _, _, some (3, true)⟩) (v := .slice (some ⟨gL, 0, none⟩) l.length oc) rfl (by kernel_rfl) (by kernel_rfl) (by kernel_rfl) (fun _ _ _ h => h) (Or.inl ⟨by rfl, fun w hS => by go_simp⟩) hHeld ?_
            simp only [Act.put, List.setIfInBounds_toArray, List.set_cons_zero, List.set_cons_succ]
            refine wpAnyH_take (i := 7) (oi := ⟨some 31, Op.call { callee := Callee.builtin Builtin.len, args := #[Operand.tmp 30], argTypes := #[23] }, 3, _, _, some (3, true)⟩) (v := .int .i64 (l.length : Int)) rfl (by kernel_rfl) (by kernel_rfl) (by kernel_rfl) (fun _ _ _ h => h) (Or.inl ⟨by rfl, fun w hS => by go_simp⟩) hHeld ?_
            simp only [Act.put, List.setIfInBounds_toArray, List.set_cons_zero, List.set_cons_succ]
            refine wpAnyH_take (i := 8) (oi := ⟨some 32, Op.binOp BinOp.sub 3 (Operand.tmp 31) (Operand.const (Value.int IntKind.i64 1)) 3, 3, _, _, some (3, true)⟩) (v := .int .i64 ((l.length - 1 : Nat) : Int)) rfl (by kernel_rfl) (by kernel_rfl) (by kernel_rfl) (fun _ _ _ h => h) (Or.inl ⟨by rfl, fun w hS => by go_simp⟩) hHeld ?_
            simp only [Act.put, List.setIfInBounds_toArray, List.set_cons_zero, List.set_cons_succ]
            refine wpAnyH_take (i := 9) (oi := ⟨some 33, Op.indexAddr 23 (Operand.tmp 29) (Operand.tmp 32), 0, _, _, some (3, true)⟩) (v := .pointer (some ⟨gL, (l.length - 1) * 32, none⟩)) rfl (by kernel_rfl) (by kernel_rfl) (by kernel_rfl) (fun _ _ _ h => h) (Or.inl ⟨by rfl, fun w hS => by go_simp; try (intro h; omega)⟩) hHeld ?_
            simp only [Act.put, List.setIfInBounds_toArray, List.set_cons_zero, List.set_cons_succ]
            refine wpAnyH_take (i := 10) (oi := ⟨some 34, Op.load 101 (Operand.tmp 33), 101, _, _, some (3, true)⟩) (v := .agg (Sh.encH hp).toArray) rfl (by kernel_rfl) (by kernel_rfl) (by kernel_rfl) (fun _ _ _ h => h) (yieldsIf_load_mid (by rfl) 101 (Operand.tmp 33) rfl gL ((l.length - 1) * 32) rfl (Sh.encH hp) _ (fun w hS => hS.1) Try.underlying101 rfl (Try.sizeHL hp)) hHeld ?_
            simp only [Act.put, List.setIfInBounds_toArray, List.set_cons_zero, List.set_cons_succ]
            refine wpAnyH_ready (rs := [11]) (by kernel_rfl) (by simp) ?_
            refine AllReadyH.cons (o := ⟨some 35, Op.call { callee := Callee.value (Operand.func 56), args := #[Operand.tmp 28, Operand.tmp 34], argTypes := #[101, 101] }, 4, _, _, some (3, true)⟩) rfl (fun K hK => ?_) AllReadyH.nil
            rw [if_pos (by rfl)]
            refine wp_callF 56 _ _ rfl Try.in56 #[.agg (bytesA 32 hh.f), .agg (bytesA 32 hp.f)] (by simp [Act.eval, enc_load]) (fun vz wz => vz = .bool true ∧ Below w3.heap.size w3 wz) ?_ ?_
            · refine (behind_any hh hp w3.drew).mono ?_
              rintro e wz ⟨rfl, h⟩
              exact ⟨_, rfl, by rw [hbd], hD0.trans (h.mono hD0.size)⟩
            rintro vz w7 ⟨rfl, h7⟩
            have HB7 := Keep.mk h7
            clear h7
            refine hK.out _ _ (HS0.out _ HB7.out) fun hHeld2 => ?_
            clear hK
            simp only [Act.put, List.setIfInBounds_toArray, List.set_cons_zero, List.set_cons_succ]
            refine wpAnyH_take (i := 12) (oi := ⟨some 36, Op.unOp UnOp.not 4 (Operand.tmp 35), 4, _, _, some (3, true)⟩) (v := .bool false) rfl (by kernel_rfl) (by kernel_rfl) (by kernel_rfl) (fun _ _ _ h => h) (Or.inl ⟨by rfl, fun w hS => by go_simp⟩) hHeld2 ?_
            simp only [Act.put, List.setIfInBounds_toArray, List.set_cons_zero, List.set_cons_succ]
            refine wpAnyH_take (i := 13) (oi := ⟨some 37, Op.pick (Operand.tmp 27) (Operand.tmp 36) (Operand.const (Value.bool false)), 4, _, _, none⟩) (v := .bool false) rfl (by kernel_rfl) (by kernel_rfl) (by kernel_rfl) (fun _ _ _ h => h) (Or.inl ⟨by rfl, fun w hS => by go_simp⟩) hHeld2 ?_
            simp only [Act.put, List.setIfInBounds_toArray, List.set_cons_zero, List.set_cons_succ]
            refine wpAnyH_done (by kernel_rfl) ?_ _
            refine hK11 _ _ ?_
            refine wp_cond_false rfl ?_
            refine wp_skip ?_
            refine hK10 _ _ ?_
            refine wp_region_list (WL.out ?_)
            refine WL.val (by kernel_rfl) (.slice (some ⟨gL, 0, none⟩) l.length oc) (by go_simp) ?_
            simp only [Act.put, List.setIfInBounds_toArray, List.set_cons_zero, List.set_cons_succ]
            refine WL.row (by kernel_rfl) 101 (.tmp 7) rfl g2 rfl 101 (bytesA 32 hh.f) _ (HX3.out.below HB7.out HX3.out.lt) Try.underlying101 rfl (Try.size101B _) ?_
            simp only [Act.put, List.setIfInBounds_toArray, List.set_cons_zero, List.set_cons_succ]
            refine WL.bs (by kernel_rfl) 23 1 _ rfl #[(0, .agg (bytesA 32 hh.f))] (by simp [Act.eval]) _ _ (bsH hh w7) ?_
            have HB8 := Keep.mk (Blk.new w7 101 (bytesA 32 hh.f))
            have B8 : Keep (Below w3.heap.size w3 (w7.alloc (.cells (bytesA 32 hh.f) 101))) := ⟨HB7.out.trans ((below_new w7 _).mono HB7.out.size)⟩
            generalize w7.alloc (.cells (bytesA 32 hh.f) 101) = w8 at *
            simp only [Act.put, List.setIfInBounds_toArray, List.set_cons_zero, List.set_cons_succ]
            refine WL.appH (by kernel_rfl) (.tmp 40) (.tmp 42) rfl (.slice (some ⟨gL, 0, none⟩) l.length oc) l w7.heap.size hh rfl rfl (HO3.out.below B8.out) HB8.out (by omega) ?_
            intro v4 w4 h1 h2 h3
            have HO4 := Keep.mk h1
            have Hg4 : Keep (Grown w w4 fun k => k = p) := ⟨(HG3.out.trans (Grown.below B8.out)).next h2 (fun k hk e => absurd (JOn.out k e) (by omega))⟩
            have HI4 : Keep (InAt w4 p s (at_ + N) none) := ⟨h2.blk (HI3.out.blk.below B8.out HI3.out.blk.lt) (fun e => (HO3.out.below B8.out).ne (HI3.out.blk.below B8.out HI3.out.blk.lt) (by decide) e), HI3.out.le⟩
            have HOn4 : Keep (∀ k, v4.ownBlock = some k → w.heap.size ≤ k) := ⟨fun k hk => by
              rcases h3 with e | ⟨j, e, hj⟩
              · rw [e] at hk; exact JOn.out k hk
              · rw [e] at hk; injection hk with hk; have := HG3.out.size; have := B8.out.size; omega⟩
            clear h1 h2 h3
            simp only [Act.put, List.setIfInBounds_toArray, List.set_cons_zero, List.set_cons_succ]
            refine WL.val (by kernel_rfl) (v4) (by go_simp) ?_
            simp only [Act.put, List.setIfInBounds_toArray, List.set_cons_zero, List.set_cons_succ]
            refine WL.nil ?_
            refine hK7 _ _ ?_
            refine wp_region_list (WL.out ?_)
            refine WL.val (by kernel_rfl) (.int .u64 ((t : Int) + 1)) (by go_simp) ?_
            simp only [Act.put, List.setIfInBounds_toArray, List.set_cons_zero, List.set_cons_succ]
            refine WL.val (by kernel_rfl) (.int .u64 ((t : Int) + 1)) (by go_simp) ?_
            simp only [Act.put, List.setIfInBounds_toArray, List.set_cons_zero, List.set_cons_succ]
            refine WL.nil ?_
            rw [HN32.out hE] at HI4
            refine ⟨⟨t + 1, v4, .int .i64 (at_ : Int), .pointer (some ⟨g2, 0, none⟩), .bool true, .pointer (some ⟨p, 0, none⟩), .int .i64 (at_ : Int), .pointer (some ⟨p, 0, none⟩), .tuple #[.agg (bytesA 32 hh.f), .nilIface], .agg (bytesA 32 hh.f), .nilIface, .agg (bytesA 32 hh.f), .slice (some ⟨gL, 0, none⟩) l.length oc, .int .i64 (l.length : Int), .bool true, .bool true, .agg (bytesA 32 hh.f).toList.toArray, .slice (some ⟨gL, 0, none⟩) l.length oc, .slice (some ⟨gL, 0, none⟩) l.length oc, .int .i64 (l.length : Int), .int .i64 ((l.length - 1 : Nat) : Int), .pointer (some ⟨gL, (l.length - 1) * 32, none⟩), .agg (Sh.encH hp).toArray, .bool true, .bool false, .bool false, u38, u39, .slice (some ⟨gL, 0, none⟩) l.length oc, .agg (bytesA 32 hh.f), .slice (some ⟨w7.heap.size, 0, none⟩) 1 1, v4, .int .u64 ((t : Int) + 1), rfl, by omega, l ++ [hh], at_ + 32, JC2.out, HI4.out, HO4.out, HOn4.out, Hg4.out, by rw [List.length_append]; simp [JLn.out]⟩, ?_⟩
            simp only [intOf]; show n - ((t : Int) + 1).toNat < n - ((t : Int)).toNat; omega
        · have ht0' : ¬ (0 : Int) < (l.length : Int) := by omega
          have HB7 : Keep (Below w3.heap.size w3 w3.drew) := ⟨hD0⟩
          have JC2 := Keep.mk (JC.out.trans ((if_neg (by simp [hE])).trans (if_neg (fun h => ht0 h.1))))
          refine wp_region_held_drew (S := fun _ => True) (by kernel_rfl) (trivial) (fun hHeld => ?_)
          refine wpAnyH_take (i := 0) (oi := ⟨some 24, Op.move (Operand.tmp 5), 23, _, _, none⟩) (v := .slice oa l.length oc) rfl (by kernel_rfl) (by kernel_rfl) (by kernel_rfl) (fun _ _ _ h => h) (Or.inl ⟨by rfl, fun w hS => by go_simp⟩) hHeld ?_
          simp only [Act.put, List.setIfInBounds_toArray, List.set_cons_zero, List.set_cons_succ]
          refine wpAnyH_take (i := 1) (oi := ⟨some 25, Op.call { callee := Callee.builtin Builtin.len, args := #[Operand.tmp 24], argTypes := #[23] }, 3, _, _, none⟩) (v := .int .i64 (l.length : Int)) rfl (by kernel_rfl) (by kernel_rfl) (by kernel_rfl) (fun _ _ _ h => h) (Or.inl ⟨by rfl, fun w hS => by go_simp⟩) hHeld ?_
          simp only [Act.put, List.setIfInBounds_toArray, List.set_cons_zero, List.set_cons_succ]
          refine wpAnyH_take (i := 2) (oi := ⟨some 26, Op.binOp BinOp.gtr 3 (Operand.tmp 25) (Operand.const (Value.int IntKind.i64 0)) 3, 4, _, _, none⟩) (v := .bool false) rfl (by kernel_rfl) (by kernel_rfl) (by kernel_rfl) (fun _ _ _ h => h) (Or.inl ⟨by rfl, fun w hS => by go_simp⟩) hHeld ?_
          simp only [Act.put, List.setIfInBounds_toArray, List.set_cons_zero, List.set_cons_succ]
          refine wpAnyH_take (i := 3) (oi := ⟨some 27, Op.move (Operand.tmp 26), 4, _, _, none⟩) (v := .bool false) rfl (by kernel_rfl) (by kernel_rfl) (by kernel_rfl) (fun _ _ _ h => h) (Or.inl ⟨by rfl, fun w hS => by go_simp⟩) hHeld ?_
          simp only [Act.put, List.setIfInBounds_toArray, List.set_cons_zero, List.set_cons_succ]
          refine wpAnyH_take (i := 4) (oi := ⟨some 28, Op.load 101 (Operand.tmp 7), 101, _, _, some (3, true)⟩) (v := undef) rfl (by kernel_rfl) (by kernel_rfl) (by kernel_rfl) (fun _ _ _ h => h) (Or.inr ⟨by rfl, rfl⟩) hHeld ?_
          simp only [Act.put, List.setIfInBounds_toArray, List.set_cons_zero, List.set_cons_succ]
          refine wpAnyH_take (i := 5) (oi := ⟨some 29, Op.move (Operand.tmp 5), 23, _, _, some (3, true)⟩) (v := undef) rfl (by kernel_rfl) (by kernel_rfl) (by kernel_rfl) (fun _ _ _ h => h) (Or.inr ⟨by rfl, rfl⟩) hHeld ?_
          simp only [Act.put, List.setIfInBounds_toArray, List.set_cons_zero, List.set_cons_succ]
          refine wpAnyH_take (i := 6) (oi := ⟨some 30, Op.move (Operand.tmp 5), 23, _, _, some (3, true)⟩) (v := undef) rfl (by kernel_rfl) (by kernel_rfl) (by kernel_rfl) (fun _ _ _ h => h) (Or.inr ⟨by rfl, rfl⟩) hHeld ?_
          simp only [Act.put, List.setIfInBounds_toArray, List.set_cons_zero, List.set_cons_succ]
          refine wpAnyH_take (i := 7) (oi := ⟨some 31, Op.call { callee := Callee.builtin Builtin.len, args := #[Operand.tmp 30], argTypes := #[23] }, 3, _, _, some (3, true)⟩) (v := undef) rfl (by kernel_rfl) (by kernel_rfl) (by kernel_rfl) (fun _ _ _ h => h) (Or.inr ⟨by rfl, rfl⟩) hHeld ?_
          simp only [Act.put, List.setIfInBounds_toArray, List.set_cons_zero, List.set_cons_succ]
          refine wpAnyH_take (i := 8) (oi := ⟨some 32, Op.binOp BinOp.sub 3 (Operand.tmp 31) (Operand.const (Value.int IntKind.i64 1)) 3, 3, _, _, some (3, true)⟩) (v := undef) rfl (by kernel_rfl) (by kernel_rfl) (by kernel_rfl) (fun _ _ _ h => h) (Or.inr ⟨by rfl, rfl⟩) hHeld ?_
          simp only [Act.put, List.setIfInBounds_toArray, List.set_cons_zero, List.set_cons_succ]
          refine wpAnyH_take (i := 9) (oi := ⟨some 33, Op.indexAddr 23 (Operand.tmp 29) (Operand.tmp 32), 0, _, _, some (3, true)⟩) (v := undef) rfl (by kernel_rfl) (by kernel_rfl) (by kernel_rfl) (fun _ _ _ h => h) (Or.inr ⟨by rfl, rfl⟩) hHeld ?_
          simp only [Act.put, List.setIfInBounds_toArray, List.set_cons_zero, List.set_cons_succ]
          refine wpAnyH_take (i := 10) (oi := ⟨some 34, Op.load 101 (Operand.tmp 33), 101, _, _, some (3, true)⟩) (v := undef) rfl (by kernel_rfl) (by kernel_rfl) (by kernel_rfl) (fun _ _ _ h => h) (Or.inr ⟨by rfl, rfl⟩) hHeld ?_
          simp only [Act.put, List.setIfInBounds_toArray, List.set_cons_zero, List.set_cons_succ]
          refine wpAnyH_take (i := 11) (oi := ⟨some 35, Op.call { callee := Callee.value (Operand.func 56), args := #[Operand.tmp 28, Operand.tmp 34], argTypes := #[101, 101] }, 4, _, _, some (3, true)⟩) (v := undef) rfl (by kernel_rfl) (by kernel_rfl) (by kernel_rfl) (fun _ _ _ h => h) (Or.inr ⟨by rfl, rfl⟩) hHeld ?_
          simp only [Act.put, List.setIfInBounds_toArray, List.set_cons_zero, List.set_cons_succ]
          refine wpAnyH_take (i := 12) (oi := ⟨some 36, Op.unOp UnOp.not 4 (Operand.tmp 35), 4, _, _, some (3, true)⟩) (v := undef) rfl (by kernel_rfl) (by kernel_rfl) (by kernel_rfl) (fun _ _ _ h => h) (Or.inr ⟨by rfl, rfl⟩) hHeld ?_
          simp only [Act.put, List.setIfInBounds_toArray, List.set_cons_zero, List.set_cons_succ]
          refine wpAnyH_take (i := 13) (oi := ⟨some 37, Op.pick (Operand.tmp 27) (Operand.tmp 36) (Operand.const (Value.bool false)), 4, _, _, none⟩) (v := .bool false) rfl (by kernel_rfl) (by kernel_rfl) (by kernel_rfl) (fun _ _ _ h => h) (Or.inl ⟨by rfl, fun w hS => by go_simp⟩) hHeld ?_
          simp only [Act.put, List.setIfInBounds_toArray, List.set_cons_zero, List.set_cons_succ]
          refine wpAnyH_done (by kernel_rfl) ?_ _
          refine hK11 _ _ ?_
          refine wp_cond_false rfl ?_
          refine wp_skip ?_
          refine hK10 _ _ ?_
          refine wp_region_list (WL.out ?_)
          refine WL.val (by kernel_rfl) (.slice oa l.length oc) (by go_simp) ?_
          simp only [Act.put, List.setIfInBounds_toArray, List.set_cons_zero, List.set_cons_succ]
          refine WL.row (by kernel_rfl) 101 (.tmp 7) rfl g2 rfl 101 (bytesA 32 hh.f) _ (HX3.out.below HB7.out HX3.out.lt) Try.underlying101 rfl (Try.size101B _) ?_
          simp only [Act.put, List.setIfInBounds_toArray, List.set_cons_zero, List.set_cons_succ]
          refine WL.bs (by kernel_rfl) 23 1 _ rfl #[(0, .agg (bytesA 32 hh.f))] (by simp [Act.eval]) _ _ (bsH hh w3.drew) ?_
          have HB8 := Keep.mk (Blk.new w3.drew 101 (bytesA 32 hh.f))
          have B8 : Keep (Below w3.heap.size w3 (w3.drew.alloc (.cells (bytesA 32 hh.f) 101))) := ⟨HB7.out.trans ((below_new w3.drew _).mono HB7.out.size)⟩
          generalize w3.drew.alloc (.cells (bytesA 32 hh.f) 101) = w8 at *
          simp only [Act.put, List.setIfInBounds_toArray, List.set_cons_zero, List.set_cons_succ]
          refine WL.appH (by kernel_rfl) (.tmp 40) (.tmp 42) rfl (.slice oa l.length oc) l w3.drew.heap.size hh rfl rfl (HO3.out.below B8.out) HB8.out (by omega) ?_
          intro v4 w4 h1 h2 h3
          have HO4 := Keep.mk h1
          have Hg4 : Keep (Grown w w4 fun k => k = p) := ⟨(HG3.out.trans (Grown.below B8.out)).next h2 (fun k hk e => absurd (JOn.out k e) (by omega))⟩
          have HI4 : Keep (InAt w4 p s (at_ + N) none) := ⟨h2.blk (HI3.out.blk.below B8.out HI3.out.blk.lt) (fun e => (HO3.out.below B8.out).ne (HI3.out.blk.below B8.out HI3.out.blk.lt) (by decide) e), HI3.out.le⟩
          have HOn4 : Keep (∀ k, v4.ownBlock = some k → w.heap.size ≤ k) := ⟨fun k hk => by
            rcases h3 with e | ⟨j, e, hj⟩
            · rw [e] at hk; exact JOn.out k hk
            · rw [e] at hk; injection hk with hk; have := HG3.out.size; have := B8.out.size; omega⟩
          clear h1 h2 h3
          simp only [Act.put, List.setIfInBounds_toArray, List.set_cons_zero, List.set_cons_succ]
          refine WL.val (by kernel_rfl) (v4) (by go_simp) ?_
          simp only [Act.put, List.setIfInBounds_toArray, List.set_cons_zero, List.set_cons_succ]
          refine WL.nil ?_
          refine hK7 _ _ ?_
          refine wp_region_list (WL.out ?_)
          refine WL.val (by kernel_rfl) (.int .u64 ((t : Int) + 1)) (by go_simp) ?_
          simp only [Act.put, List.setIfInBounds_toArray, List.set_cons_zero, List.set_cons_succ]
          refine WL.val (by kernel_rfl) (.int .u64 ((t : Int) + 1)) (by go_simp) ?_
          simp only [Act.put, List.setIfInBounds_toArray, List.set_cons_zero, List.set_cons_succ]
          refine WL.nil ?_
          rw [HN32.out hE] at HI4
          refine ⟨⟨t + 1, v4, .int .i64 (at_ : Int), .pointer (some ⟨g2, 0, none⟩), .bool true, .pointer (some ⟨p, 0, none⟩), .int .i64 (at_ : Int), .pointer (some ⟨p, 0, none⟩), .tuple #[.agg (bytesA 32 hh.f), .nilIface], .agg (bytesA 32 hh.f), .nilIface, .agg (bytesA 32 hh.f), .slice oa l.length oc, .int .i64 (l.length : Int), .bool false, .bool false, undef, undef, undef, undef, undef, undef, undef, undef, undef, .bool false, u38, u39, .slice oa l.length oc, .agg (bytesA 32 hh.f), .slice (some ⟨w3.drew.heap.size, 0, none⟩) 1 1, v4, .int .u64 ((t : Int) + 1), rfl, by omega, l ++ [hh], at_ + 32, JC2.out, HI4.out, HO4.out, HOn4.out, Hg4.out, by rw [List.length_append]; simp [JLn.out]⟩, ?_⟩
          simp only [intOf]; show n - ((t : Int) + 1).toNat < n - ((t : Int)).toNat; omega
      · rcases H3.out with ⟨e1, _, _⟩ | ⟨_, q, hq, rfl, rfl, hbad⟩
        · exact absurd e1 hE
        have Hbad := Keep.mk hbad
        clear hbad
        unfold err
        refine WL.val (by kernel_rfl) (.agg (bytesA 32 (hrd D W))) (by go_simp) ?_
        simp only [Act.put, List.setIfInBounds_toArray, List.set_cons_zero, List.set_cons_succ]
        refine WL.val (by kernel_rfl) (.iface 116 (ptr q)) (by go_simp) ?_
        simp only [Act.put, List.setIfInBounds_toArray, List.set_cons_zero, List.set_cons_succ]
        refine WL.callP (by kernel_rfl) 106 _ _ rfl Try.in106 #[.agg (bytesA 32 (hrd D W)), err q] (by simp [Act.eval, err]) ?_
        refine (mustH_bad _ q w1).mono ?_
        rintro e w' ⟨rfl, hbz⟩
        refine .inr ⟨_, rfl, ?_⟩
        try simp only [Exit.inBlock, Exit.then]
        refine ⟨rfl, ?_⟩
        exact .inr ⟨by rw [HR.out, JC.out, if_pos hE]; exact hE, q, Nat.le_trans JG.out.size hq, rfl, by rw [HR.out, JC.out, if_pos hE]; exact Hbad.out.below hbz Hbad.out.lt, H2.out.trans (Grown.below hbz)⟩
    · have hte : Keep (t = n) := ⟨by omega⟩
      have htl' : ¬ (t : Int) < (n : Int) := by omega
      refine wp_seq_k fun K12 hK12 => ?_
      refine wp_region_list (WL.out ?_)
      refine WL.val (by kernel_rfl) (.bool false) (by go_simp) ?_
      simp only [Act.put, List.setIfInBounds_toArray, List.set_cons_zero, List.set_cons_succ]
      refine WL.nil ?_
      refine hK12 _ _ ?_
      refine wp_seq_k fun K13 hK13 => ?_
      refine wp_cond_false rfl ?_
      refine wp_exit ?_
      refine hK3 _ _ ?_
      refine wp_seq_k fun K14 hK14 => ?_
      refine wp_region_list (WL.out ?_)
      refine WL.val (by kernel_rfl) (u5) (by go_simp) ?_
      simp only [Act.put, List.setIfInBounds_toArray, List.set_cons_zero, List.set_cons_succ]
      refine WL.val (by kernel_rfl) (u5) (by go_simp) ?_
      simp only [Act.put, List.setIfInBounds_toArray, List.set_cons_zero, List.set_cons_succ]
      refine WL.nil ?_
      refine hK14 _ _ ?_
      refine wp_ret ?_
      go_ret
      rw [hte.out, Nat.sub_self, getH] at hC
      rw [HR.out, hC]
      exact .inl ⟨rfl, u5, rfl, ⟨hO, hOn⟩, hI, hG⟩
  · rcases H3.out with ⟨e1, _, _⟩ | ⟨_, q, hq, rfl, rfl, hbad⟩
    · exact absurd e1 hE
    have Hbad := Keep.mk hbad
    clear hbad
    unfold err
    refine WL.val (by kernel_rfl) (.int .u64 c) (by go_simp) ?_
    simp only [Act.put, List.setIfInBounds_toArray, List.set_cons_zero, List.set_cons_succ]
    refine WL.val (by kernel_rfl) (.iface 116 (ptr q)) (by go_simp) ?_
    simp only [Act.put, List.setIfInBounds_toArray, List.set_cons_zero, List.set_cons_succ]
    refine WL.callP (by kernel_rfl) 104 _ _ rfl Try.in104 #[.int .u64 c, err q] (by simp [Act.eval, err]) ?_
    refine (must104_bad _ q w1).mono ?_
    rintro e w' ⟨rfl, rfl⟩
    refine .inr ⟨_, rfl, ?_⟩
    try simp only [Exit.inBlock, Exit.then]
    refine ⟨rfl, ?_⟩
    exact .inr ⟨by rw [HR1.out hE]; exact hE, q, hq, rfl, by rw [HR1.out hE]; exact Hbad.out, H2.out⟩
def getF (L : List Int) (i : Nat) (M : MsgV) (a : Nat) : Int × Nat × MsgV :=
  if i = 0 then ((hsR L 4096 a).1, (hsR L 4096 a).2.1, { M with hd := (hsR L 4096 a).2.2 })
  else if i = 1 then ((saR L a).1, (saR L a).2.1, { M with sa := (saR L a).2.2 })
  else if i = 2 then ((dgR L a).1, (dgR L a).2.1, { M with bl := (dgR L a).2.2 })
  else if i = 3 then ((hsR L 4096 a).1, (hsR L 4096 a).2.1, { M with wt := (hsR L 4096 a).2.2 })
  else ((bkR L a).1, (bkR L a).2.1, { M with bk := (bkR L a).2.2 })
def getFs (L : List Int) : List Nat → MsgV → Nat → Int × Nat × MsgV
  | [], M, a => (0, a, M)
  | i :: is, M, a => if (getF L i M a).1 ≠ 0 then getF L i M a else getFs L is (getF L i M a).2.2 (getF L i M a).2.1
def decM (L : List Int) : Int × Nat × MsgV :=
  if nextW L 1 ≠ 0 then (nextW L 1, nextN L 1, zeroM) else if hasI (L.getD 0 0) = [] then (40, 0, zeroM)
  else if (getFs L (hasI (L.getD 0 0)) { zeroM with k := L.getD 0 0 } 1).1 ≠ 0 then getFs L (hasI (L.getD 0 0)) { zeroM with k := L.getD 0 0 } 1
  else if (getFs L (hasI (L.getD 0 0)) { zeroM with k := L.getD 0 0 } 1).2.1 < L.length then (23, (getFs L (hasI (L.getD 0 0)) { zeroM with k := L.getD 0 0 } 1).2.1, zeroM)
  else getFs L (hasI (L.getD 0 0)) { zeroM with k := L.getD 0 0 } 1
def FrH (b0 : Nat) (v : Value) : Prop := ∀ k, v.ownBlock = some k → b0 ≤ k
structure DecAt (b0 : Nat) (w : World) (M : MsgV) (c : MC) : Prop where
  k : c.k = M.k
  s : c.s = M.sa
  hd : OwnH w c.h M.hd
  hdf : FrH b0 c.h
  bl : OwnT w c.b M.bl
  blf : FrH b0 c.b
  wt : OwnH w c.w M.wt
  wtf : FrH b0 c.w
  bk : RowsOwn b0 w c.x M.bk
theorem OwnH.typ {w : World} {v : Value} {l : List Hs} (h : OwnH w v l) {k : Nat} (hk : v.ownBlock = some k) : Typ w k 101 := by
  rcases h.form with ⟨rfl, _⟩ | ⟨g, cap, cur, rfl, h3, _⟩
  · simp [Value.ownBlock] at hk
  · simp [Value.ownBlock] at hk
    subst hk
    exact h3.typ
theorem DecAt.grown {b0 : Nat} {w w' : World} {M : MsgV} {c : MC} {S : Nat → Prop} (h : DecAt b0 w M c) (hg : Grown w w' S) (hT : ∀ k, Typ w k 101 ∨ Typ w k 5 ∨ Typ w k 25 → ¬ S k) : DecAt b0 w' M c where
  k := h.k
  s := h.s
  hd := h.hd.grown hg fun k hk => hT k (.inl (h.hd.typ hk))
  hdf := h.hdf
  bl := h.bl.grown hg fun k hk => hT k (.inr (.inl (h.bl.typ hk)))
  blf := h.blf
  wt := h.wt.grown hg fun k hk => hT k (.inl (h.wt.typ hk))
  wtf := h.wtf
  bk := h.bk.grown hg fun k hk => hT k (.inr hk)
theorem DecAt.below {b0 : Nat} {w w' : World} {M : MsgV} {c : MC} (h : DecAt b0 w M c) (hb : Below w.heap.size w w') : DecAt b0 w' M c := h.grown (Grown.below (S := fun _ => False) hb) fun _ _ h => h
theorem DecAt.ms {b0 : Nat} {w : World} {M : MsgV} {c : MC} (h : DecAt b0 w M c) : MsAt w M c := ⟨h.k, h.s, h.hd.row, h.bl.row, h.wt.row, h.bk.rws⟩
theorem typ_ne {w : World} {p : Nat} {T : TypeId} {cs : Array Value} (hp : Blk w p T cs) {k : Nat} {A B C : TypeId} (h : Typ w k A ∨ Typ w k B ∨ Typ w k C) (h1 : T ≠ A) (h2 : T ≠ B) (h3 : T ≠ C) : k ≠ p := by
  rintro rfl
  rcases h with h | h | h
  · exact h1 (hp.typ.one h)
  · exact h2 (hp.typ.one h)
  · exact h3 (hp.typ.one h)
theorem RowsOwn.mono {b0 b1 : Nat} {w : World} {v : Value} {ls : List (List Int)} (h : RowsOwn b1 w v ls) (hb : b0 ≤ b1) : RowsOwn b0 w v ls := by
  obtain ⟨vs, h1, h2, h3, h4⟩ := h
  exact ⟨vs, h1, fun k hk => Nat.le_trans hb (h2 k hk), h3, fun i hi => ⟨(h4 i hi).1, by obtain ⟨k, h5, h6⟩ := (h4 i hi).2; exact ⟨k, h5, Nat.le_trans hb h6⟩⟩⟩
def gfn (i : Nat) : Nat := if i = 0 then 77 else if i = 1 then 82 else if i = 2 then 87 else if i = 3 then 91 else 95
theorem gfn_in (i : Nat) (w : World) (vs : Array Value) : (callFunc (gfn i) vs).run Try.prog w = .ok (.enter (gfn i) vs) w := by
  unfold gfn
  repeat' split
  all_goals kernel_rfl
theorem fldA_g (i : Nat) : (fldA i)[2]? = some (.func (.func (gfn i)) #[] #[]) := by
  unfold fldA gfn
  repeat' split
  all_goals rfl
def GetPost (p g b0 : Nat) (s : ByteArray) (R : Int × Nat × MsgV) (w : World) (e : Ending) (w' : World) : Prop :=
  (R.1 = 0 ∧ e = .returned (.tuple #[]) ∧ InAt w' p s R.2.1 none ∧ ∃ c', Blk w' g 28 (msA c') ∧ DecAt b0 w' R.2.2 c' ∧ Grown w w' fun k => k = p ∨ k = g) ∨ Gives p (R.1, R.2.1) w e w'
theorem Try.in35 (w : World) (vs : Array Value) : (callFunc 35 vs).run Try.prog w = .ok (.enter 35 vs) w := by kernel_rfl
theorem Try.in13 (w : World) (vs : Array Value) : (callFunc 13 vs).run Try.prog w = .ok (.enter 13 vs) w := by kernel_rfl
theorem Try.in34 (w : World) (vs : Array Value) : (callFunc 34 vs).run Try.prog w = .ok (.enter 34 vs) w := by kernel_rfl
theorem Try.in36 (w : World) (vs : Array Value) : (callFunc 36 vs).run Try.prog w = .ok (.enter 36 vs) w := by kernel_rfl
set_option maxRecDepth 8000 in
theorem get0_any (p g b0 : Nat) (s : ByteArray) (a : Nat) (M : MsgV) (c : MC) (w : World) (hI : InAt w p s a none) (hb : s.size ≤ 140737488355328) (hM : Blk w g 28 (msA c)) (hD : DecAt b0 w M c) (hb0 : b0 ≤ w.heap.size) :
    Calls Try.prog 77 #[ptr p, ptr g] w (GetPost p g b0 s (getF (lst s) 0 M a) w) := by
  have HI := Keep.mk hI
  have HM := Keep.mk hM
  have HD := Keep.mk hD
  have Hb0 := Keep.mk hb0
  have hcon := getHashes_any p s a 4096 (by decide) w hI hb
  rw [show ((4096 : Nat) : Int) = 4096 from rfl] at hcon
  rw [show getF (lst s) 0 M a = ((hsR (lst s) 4096 a).1, (hsR (lst s) 4096 a).2.1, { M with hd := (hsR (lst s) 4096 a).2.2 }) from rfl]
  obtain ⟨B, hB⟩ : ∃ B, B = hsR (lst s) 4096 a := ⟨_, rfl⟩
  rw [← hB] at hcon ⊢
  have HC := Keep.mk hcon
  clear hI hb hM hD hb0 hcon hB
  go_enter Try.func77, Try.ntmps77
  refine wp_region_list (WL.out ?_)
  refine WL.val (by kernel_rfl) (.pointer (some ⟨g, 0, none⟩)) (by go_simp) ?_
  simp only [Act.put, List.setIfInBounds_toArray, List.set_cons_zero, List.set_cons_succ]
  refine WL.val (by kernel_rfl) (.pointer (some ⟨p, 0, none⟩)) (by go_simp) ?_
  simp only [Act.put, List.setIfInBounds_toArray, List.set_cons_zero, List.set_cons_succ]
  refine WL.callP (by kernel_rfl) 78 _ _ rfl Try.in78 #[ptr p, .int .u64 4096] (by simp [Act.eval]) ?_
  refine HC.out.mono ?_
  rintro e w2 (⟨e1, v, rfl, ⟨hz1, hz2⟩, h2, h3⟩ | hgv)
  rotate_left
  · have hne := hgv.1
    obtain ⟨q, hq, rfl, hbad, hgr⟩ := hgv.2
    refine .inr ⟨_, rfl, ?_⟩
    try simp only [Exit.inBlock, Exit.then]
    exact ⟨rfl, .inr ⟨hne, q, hq, rfl, hbad, hgr⟩⟩
  refine .inl ⟨_, rfl, ?_⟩
  have HM2 := Keep.mk (h3.blk HM.out (blk_ne HM.out HI.out.blk (by decide)))
  have D2 := Keep.mk (HD.out.grown h3 (fun k hk => typ_ne HI.out.blk hk (by decide) (by decide) (by decide)))
  obtain ⟨za, zc, rfl⟩ := hz1.sl
  simp only [Act.put, List.setIfInBounds_toArray, List.set_cons_zero, List.set_cons_succ]
  refine WL.val (by kernel_rfl) (.pointer (some ⟨g, 0, none⟩)) (by go_simp) ?_
  simp only [Act.put, List.setIfInBounds_toArray, List.set_cons_zero, List.set_cons_succ]
  refine WL.val (by kernel_rfl) (.pointer (some ⟨g, 1, none⟩)) (by go_simp) ?_
  simp only [Act.put, List.setIfInBounds_toArray, List.set_cons_zero, List.set_cons_succ]
  obtain ⟨⟨ha, hn, hk, q1⟩, ⟨ba, bn, bk, q2⟩, ⟨wa, wn, wk, q3⟩, ⟨xa, xn, xk, q4⟩⟩ := HD.out.ms.sl
  have c0 := HM2.out.c 1 (ms_1 c)
  have f0 := HM2.out.frozen 1
  refine WL.cell (by kernel_rfl) (w2.setCell ⟨g, 1, none⟩ (.slice za B.2.2.length zc)) (by go_simp) ?_
  have HM3 := HM2.out.set 1 (.slice za B.2.2.length zc)
  have hg3 : Grown w2 (w2.setCell ⟨g, 1, none⟩ (.slice za B.2.2.length zc)) fun k => k = g := Grown.setCell w2 g 1 _ fun _ => rfl
  have D3 := D2.out.grown hg3 (fun k hk => typ_ne HM2.out hk (by decide) (by decide) (by decide))
  have HI3 : InAt (w2.setCell ⟨g, 1, none⟩ (.slice za B.2.2.length zc)) p s B.2.1 none := ⟨hg3.blk h2.blk (fun e => (blk_ne HM2.out h2.blk (by decide)) e.symm), h2.le⟩
  simp only [Act.put]
  refine WL.nil ?_
  go_end0
  exact .inl ⟨e1, rfl, HI3, { c with h := .slice za B.2.2.length zc }, HM3, { D3 with hd := hz1.grown hg3 (fun k hk e => (typ_ne (A := 101) (B := 5) (C := 25) HM2.out (.inl (hz1.typ hk)) (by decide) (by decide) (by decide)) e), hdf := fun k hk => Nat.le_trans Hb0.out (hz2 k hk) }, (h3.mono fun k _ e => .inl e).trans (hg3.mono fun k _ e => .inr e)⟩
set_option maxRecDepth 8000 in
theorem get1_any (p g b0 : Nat) (s : ByteArray) (a : Nat) (M : MsgV) (c : MC) (w : World) (hI : InAt w p s a none) (hb : s.size ≤ 140737488355328) (hM : Blk w g 28 (msA c)) (hD : DecAt b0 w M c) (hb0 : b0 ≤ w.heap.size) :
    Calls Try.prog 82 #[ptr p, ptr g] w (GetPost p g b0 s (getF (lst s) 1 M a) w) := by
  have HI := Keep.mk hI
  have HM := Keep.mk hM
  have HD := Keep.mk hD
  have Hb0 := Keep.mk hb0
  have hcon := getSalt_any p s a w hI hb
  skip
  rw [show getF (lst s) 1 M a = ((saR (lst s) a).1, (saR (lst s) a).2.1, { M with sa := (saR (lst s) a).2.2 }) from rfl]
  obtain ⟨B, hB⟩ : ∃ B, B = saR (lst s) a := ⟨_, rfl⟩
  rw [← hB] at hcon ⊢
  have HC := Keep.mk hcon
  clear hI hb hM hD hb0 hcon hB
  go_enter Try.func82, Try.ntmps82
  refine wp_region_list (WL.out ?_)
  refine WL.val (by kernel_rfl) (.pointer (some ⟨g, 0, none⟩)) (by go_simp) ?_
  simp only [Act.put, List.setIfInBounds_toArray, List.set_cons_zero, List.set_cons_succ]
  refine WL.val (by kernel_rfl) (.pointer (some ⟨p, 0, none⟩)) (by go_simp) ?_
  simp only [Act.put, List.setIfInBounds_toArray, List.set_cons_zero, List.set_cons_succ]
  refine WL.callP (by kernel_rfl) 83 _ _ rfl Try.in83 #[ptr p] (by simp [Act.eval]) ?_
  refine HC.out.mono ?_
  rintro e w2 (⟨e1, v, rfl, rfl, h2, h3⟩ | hgv)
  rotate_left
  · have hne := hgv.1
    obtain ⟨q, hq, rfl, hbad, hgr⟩ := hgv.2
    refine .inr ⟨_, rfl, ?_⟩
    try simp only [Exit.inBlock, Exit.then]
    exact ⟨rfl, .inr ⟨hne, q, hq, rfl, hbad, hgr⟩⟩
  refine .inl ⟨_, rfl, ?_⟩
  have HM2 := Keep.mk (h3.blk HM.out (blk_ne HM.out HI.out.blk (by decide)))
  have D2 := Keep.mk (HD.out.grown h3 (fun k hk => typ_ne HI.out.blk hk (by decide) (by decide) (by decide)))
  
  simp only [Act.put, List.setIfInBounds_toArray, List.set_cons_zero, List.set_cons_succ]
  refine WL.val (by kernel_rfl) (.pointer (some ⟨g, 0, none⟩)) (by go_simp) ?_
  simp only [Act.put, List.setIfInBounds_toArray, List.set_cons_zero, List.set_cons_succ]
  refine WL.val (by kernel_rfl) (.pointer (some ⟨g, 2, none⟩)) (by go_simp) ?_
  simp only [Act.put, List.setIfInBounds_toArray, List.set_cons_zero, List.set_cons_succ]
  obtain ⟨⟨ha, hn, hk, q1⟩, ⟨ba, bn, bk, q2⟩, ⟨wa, wn, wk, q3⟩, ⟨xa, xn, xk, q4⟩⟩ := HD.out.ms.sl
  have c0 := HM2.out.c 2 (ms_2 c)
  have f0 := HM2.out.frozen 2
  refine WL.cell (by kernel_rfl) (w2.setCell ⟨g, 2, none⟩ (.int .u64 B.2.2)) (by go_simp) ?_
  have HM3 := HM2.out.set 2 (.int .u64 B.2.2)
  have hg3 : Grown w2 (w2.setCell ⟨g, 2, none⟩ (.int .u64 B.2.2)) fun k => k = g := Grown.setCell w2 g 2 _ fun _ => rfl
  have D3 := D2.out.grown hg3 (fun k hk => typ_ne HM2.out hk (by decide) (by decide) (by decide))
  have HI3 : InAt (w2.setCell ⟨g, 2, none⟩ (.int .u64 B.2.2)) p s B.2.1 none := ⟨hg3.blk h2.blk (fun e => (blk_ne HM2.out h2.blk (by decide)) e.symm), h2.le⟩
  simp only [Act.put]
  refine WL.nil ?_
  go_end0
  exact .inl ⟨e1, rfl, HI3, { c with s := B.2.2 }, HM3, { D3 with s := rfl }, (h3.mono fun k _ e => .inl e).trans (hg3.mono fun k _ e => .inr e)⟩
set_option maxRecDepth 8000 in
theorem get2_any (p g b0 : Nat) (s : ByteArray) (a : Nat) (M : MsgV) (c : MC) (w : World) (hI : InAt w p s a none) (hb : s.size ≤ 140737488355328) (hM : Blk w g 28 (msA c)) (hD : DecAt b0 w M c) (hb0 : b0 ≤ w.heap.size) :
    Calls Try.prog 87 #[ptr p, ptr g] w (GetPost p g b0 s (getF (lst s) 2 M a) w) := by
  have HI := Keep.mk hI
  have HM := Keep.mk hM
  have HD := Keep.mk hD
  have Hb0 := Keep.mk hb0
  have hcon := getDigest_any p s a w hI hb
  skip
  rw [show getF (lst s) 2 M a = ((dgR (lst s) a).1, (dgR (lst s) a).2.1, { M with bl := (dgR (lst s) a).2.2 }) from rfl]
  obtain ⟨B, hB⟩ : ∃ B, B = dgR (lst s) a := ⟨_, rfl⟩
  rw [← hB] at hcon ⊢
  have HC := Keep.mk hcon
  clear hI hb hM hD hb0 hcon hB
  go_enter Try.func87, Try.ntmps87
  refine wp_region_list (WL.out ?_)
  refine WL.val (by kernel_rfl) (.pointer (some ⟨g, 0, none⟩)) (by go_simp) ?_
  simp only [Act.put, List.setIfInBounds_toArray, List.set_cons_zero, List.set_cons_succ]
  refine WL.val (by kernel_rfl) (.pointer (some ⟨p, 0, none⟩)) (by go_simp) ?_
  simp only [Act.put, List.setIfInBounds_toArray, List.set_cons_zero, List.set_cons_succ]
  refine WL.callP (by kernel_rfl) 88 _ _ rfl Try.in88 #[ptr p] (by simp [Act.eval]) ?_
  refine HC.out.mono ?_
  rintro e w2 (⟨e1, v, rfl, ⟨hz1, hz2⟩, h2, h3⟩ | hgv)
  rotate_left
  · have hne := hgv.1
    obtain ⟨q, hq, rfl, hbad, hgr⟩ := hgv.2
    refine .inr ⟨_, rfl, ?_⟩
    try simp only [Exit.inBlock, Exit.then]
    exact ⟨rfl, .inr ⟨hne, q, hq, rfl, hbad, hgr⟩⟩
  refine .inl ⟨_, rfl, ?_⟩
  have HM2 := Keep.mk (h3.blk HM.out (blk_ne HM.out HI.out.blk (by decide)))
  have D2 := Keep.mk (HD.out.grown h3 (fun k hk => typ_ne HI.out.blk hk (by decide) (by decide) (by decide)))
  obtain ⟨za, zn, zc, rfl⟩ := hz1.sl
  simp only [Act.put, List.setIfInBounds_toArray, List.set_cons_zero, List.set_cons_succ]
  refine WL.val (by kernel_rfl) (.pointer (some ⟨g, 0, none⟩)) (by go_simp) ?_
  simp only [Act.put, List.setIfInBounds_toArray, List.set_cons_zero, List.set_cons_succ]
  refine WL.val (by kernel_rfl) (.pointer (some ⟨g, 3, none⟩)) (by go_simp) ?_
  simp only [Act.put, List.setIfInBounds_toArray, List.set_cons_zero, List.set_cons_succ]
  obtain ⟨⟨ha, hn, hk, q1⟩, ⟨ba, bn, bk, q2⟩, ⟨wa, wn, wk, q3⟩, ⟨xa, xn, xk, q4⟩⟩ := HD.out.ms.sl
  have c0 := HM2.out.c 3 (ms_3 c)
  have f0 := HM2.out.frozen 3
  refine WL.cell (by kernel_rfl) (w2.setCell ⟨g, 3, none⟩ (.slice za zn zc)) (by go_simp) ?_
  have HM3 := HM2.out.set 3 (.slice za zn zc)
  have hg3 : Grown w2 (w2.setCell ⟨g, 3, none⟩ (.slice za zn zc)) fun k => k = g := Grown.setCell w2 g 3 _ fun _ => rfl
  have D3 := D2.out.grown hg3 (fun k hk => typ_ne HM2.out hk (by decide) (by decide) (by decide))
  have HI3 : InAt (w2.setCell ⟨g, 3, none⟩ (.slice za zn zc)) p s B.2.1 none := ⟨hg3.blk h2.blk (fun e => (blk_ne HM2.out h2.blk (by decide)) e.symm), h2.le⟩
  simp only [Act.put]
  refine WL.nil ?_
  go_end0
  exact .inl ⟨e1, rfl, HI3, { c with b := .slice za zn zc }, HM3, { D3 with bl := hz1.grown hg3 (fun k hk e => (typ_ne (A := 101) (B := 5) (C := 25) HM2.out (.inr (.inl (hz1.typ hk))) (by decide) (by decide) (by decide)) e), blf := fun k hk => by obtain ⟨j, h1, h2⟩ := hz2; rw [h1] at hk; injection hk with hk; have := Hb0.out; omega }, (h3.mono fun k _ e => .inl e).trans (hg3.mono fun k _ e => .inr e)⟩
set_option maxRecDepth 8000 in
theorem get3_any (p g b0 : Nat) (s : ByteArray) (a : Nat) (M : MsgV) (c : MC) (w : World) (hI : InAt w p s a none) (hb : s.size ≤ 140737488355328) (hM : Blk w g 28 (msA c)) (hD : DecAt b0 w M c) (hb0 : b0 ≤ w.heap.size) :
    Calls Try.prog 91 #[ptr p, ptr g] w (GetPost p g b0 s (getF (lst s) 3 M a) w) := by
  have HI := Keep.mk hI
  have HM := Keep.mk hM
  have HD := Keep.mk hD
  have Hb0 := Keep.mk hb0
  have hcon := getHashes_any p s a 4096 (by decide) w hI hb
  rw [show ((4096 : Nat) : Int) = 4096 from rfl] at hcon
  rw [show getF (lst s) 3 M a = ((hsR (lst s) 4096 a).1, (hsR (lst s) 4096 a).2.1, { M with wt := (hsR (lst s) 4096 a).2.2 }) from rfl]
  obtain ⟨B, hB⟩ : ∃ B, B = hsR (lst s) 4096 a := ⟨_, rfl⟩
  rw [← hB] at hcon ⊢
  have HC := Keep.mk hcon
  clear hI hb hM hD hb0 hcon hB
  go_enter Try.func91, Try.ntmps91
  refine wp_region_list (WL.out ?_)
  refine WL.val (by kernel_rfl) (.pointer (some ⟨g, 0, none⟩)) (by go_simp) ?_
  simp only [Act.put, List.setIfInBounds_toArray, List.set_cons_zero, List.set_cons_succ]
  refine WL.val (by kernel_rfl) (.pointer (some ⟨p, 0, none⟩)) (by go_simp) ?_
  simp only [Act.put, List.setIfInBounds_toArray, List.set_cons_zero, List.set_cons_succ]
  refine WL.callP (by kernel_rfl) 78 _ _ rfl Try.in78 #[ptr p, .int .u64 4096] (by simp [Act.eval]) ?_
  refine HC.out.mono ?_
  rintro e w2 (⟨e1, v, rfl, ⟨hz1, hz2⟩, h2, h3⟩ | hgv)
  rotate_left
  · have hne := hgv.1
    obtain ⟨q, hq, rfl, hbad, hgr⟩ := hgv.2
    refine .inr ⟨_, rfl, ?_⟩
    try simp only [Exit.inBlock, Exit.then]
    exact ⟨rfl, .inr ⟨hne, q, hq, rfl, hbad, hgr⟩⟩
  refine .inl ⟨_, rfl, ?_⟩
  have HM2 := Keep.mk (h3.blk HM.out (blk_ne HM.out HI.out.blk (by decide)))
  have D2 := Keep.mk (HD.out.grown h3 (fun k hk => typ_ne HI.out.blk hk (by decide) (by decide) (by decide)))
  obtain ⟨za, zc, rfl⟩ := hz1.sl
  simp only [Act.put, List.setIfInBounds_toArray, List.set_cons_zero, List.set_cons_succ]
  refine WL.val (by kernel_rfl) (.pointer (some ⟨g, 0, none⟩)) (by go_simp) ?_
  simp only [Act.put, List.setIfInBounds_toArray, List.set_cons_zero, List.set_cons_succ]
  refine WL.val (by kernel_rfl) (.pointer (some ⟨g, 4, none⟩)) (by go_simp) ?_
  simp only [Act.put, List.setIfInBounds_toArray, List.set_cons_zero, List.set_cons_succ]
  obtain ⟨⟨ha, hn, hk, q1⟩, ⟨ba, bn, bk, q2⟩, ⟨wa, wn, wk, q3⟩, ⟨xa, xn, xk, q4⟩⟩ := HD.out.ms.sl
  have c0 := HM2.out.c 4 (ms_4 c)
  have f0 := HM2.out.frozen 4
  refine WL.cell (by kernel_rfl) (w2.setCell ⟨g, 4, none⟩ (.slice za B.2.2.length zc)) (by go_simp) ?_
  have HM3 := HM2.out.set 4 (.slice za B.2.2.length zc)
  have hg3 : Grown w2 (w2.setCell ⟨g, 4, none⟩ (.slice za B.2.2.length zc)) fun k => k = g := Grown.setCell w2 g 4 _ fun _ => rfl
  have D3 := D2.out.grown hg3 (fun k hk => typ_ne HM2.out hk (by decide) (by decide) (by decide))
  have HI3 : InAt (w2.setCell ⟨g, 4, none⟩ (.slice za B.2.2.length zc)) p s B.2.1 none := ⟨hg3.blk h2.blk (fun e => (blk_ne HM2.out h2.blk (by decide)) e.symm), h2.le⟩
  simp only [Act.put]
  refine WL.nil ?_
  go_end0
  exact .inl ⟨e1, rfl, HI3, { c with w := .slice za B.2.2.length zc }, HM3, { D3 with wt := hz1.grown hg3 (fun k hk e => (typ_ne (A := 101) (B := 5) (C := 25) HM2.out (.inl (hz1.typ hk)) (by decide) (by decide) (by decide)) e), wtf := fun k hk => Nat.le_trans Hb0.out (hz2 k hk) }, (h3.mono fun k _ e => .inl e).trans (hg3.mono fun k _ e => .inr e)⟩
set_option maxRecDepth 8000 in
theorem get4_any (p g b0 : Nat) (s : ByteArray) (a : Nat) (M : MsgV) (c : MC) (w : World) (hI : InAt w p s a none) (hb : s.size ≤ 140737488355328) (hM : Blk w g 28 (msA c)) (hD : DecAt b0 w M c) (hb0 : b0 ≤ w.heap.size) :
    Calls Try.prog 95 #[ptr p, ptr g] w (GetPost p g b0 s (getF (lst s) 4 M a) w) := by
  have HI := Keep.mk hI
  have HM := Keep.mk hM
  have HD := Keep.mk hD
  have Hb0 := Keep.mk hb0
  have hcon := getBlocks_any p s a w hI hb
  skip
  rw [show getF (lst s) 4 M a = ((bkR (lst s) a).1, (bkR (lst s) a).2.1, { M with bk := (bkR (lst s) a).2.2 }) from rfl]
  obtain ⟨B, hB⟩ : ∃ B, B = bkR (lst s) a := ⟨_, rfl⟩
  rw [← hB] at hcon ⊢
  have HC := Keep.mk hcon
  clear hI hb hM hD hb0 hcon hB
  go_enter Try.func95, Try.ntmps95
  refine wp_region_list (WL.out ?_)
  refine WL.val (by kernel_rfl) (.pointer (some ⟨g, 0, none⟩)) (by go_simp) ?_
  simp only [Act.put, List.setIfInBounds_toArray, List.set_cons_zero, List.set_cons_succ]
  refine WL.val (by kernel_rfl) (.pointer (some ⟨p, 0, none⟩)) (by go_simp) ?_
  simp only [Act.put, List.setIfInBounds_toArray, List.set_cons_zero, List.set_cons_succ]
  refine WL.callP (by kernel_rfl) 96 _ _ rfl Try.in96 #[ptr p] (by simp [Act.eval]) ?_
  refine HC.out.mono ?_
  rintro e w2 (⟨e1, v, rfl, hz1, h2, h3⟩ | hgv)
  rotate_left
  · have hne := hgv.1
    obtain ⟨q, hq, rfl, hbad, hgr⟩ := hgv.2
    refine .inr ⟨_, rfl, ?_⟩
    try simp only [Exit.inBlock, Exit.then]
    exact ⟨rfl, .inr ⟨hne, q, hq, rfl, hbad, hgr⟩⟩
  refine .inl ⟨_, rfl, ?_⟩
  have HM2 := Keep.mk (h3.blk HM.out (blk_ne HM.out HI.out.blk (by decide)))
  have D2 := Keep.mk (HD.out.grown h3 (fun k hk => typ_ne HI.out.blk hk (by decide) (by decide) (by decide)))
  obtain ⟨za, zc, rfl⟩ := hz1.form
  simp only [Act.put, List.setIfInBounds_toArray, List.set_cons_zero, List.set_cons_succ]
  refine WL.val (by kernel_rfl) (.pointer (some ⟨g, 0, none⟩)) (by go_simp) ?_
  simp only [Act.put, List.setIfInBounds_toArray, List.set_cons_zero, List.set_cons_succ]
  refine WL.val (by kernel_rfl) (.pointer (some ⟨g, 5, none⟩)) (by go_simp) ?_
  simp only [Act.put, List.setIfInBounds_toArray, List.set_cons_zero, List.set_cons_succ]
  obtain ⟨⟨ha, hn, hk, q1⟩, ⟨ba, bn, bk, q2⟩, ⟨wa, wn, wk, q3⟩, ⟨xa, xn, xk, q4⟩⟩ := HD.out.ms.sl
  have c0 := HM2.out.c 5 (ms_5 c)
  have f0 := HM2.out.frozen 5
  refine WL.cell (by kernel_rfl) (w2.setCell ⟨g, 5, none⟩ (.slice za B.2.2.length zc)) (by go_simp) ?_
  have HM3 := HM2.out.set 5 (.slice za B.2.2.length zc)
  have hg3 : Grown w2 (w2.setCell ⟨g, 5, none⟩ (.slice za B.2.2.length zc)) fun k => k = g := Grown.setCell w2 g 5 _ fun _ => rfl
  have D3 := D2.out.grown hg3 (fun k hk => typ_ne HM2.out hk (by decide) (by decide) (by decide))
  have HI3 : InAt (w2.setCell ⟨g, 5, none⟩ (.slice za B.2.2.length zc)) p s B.2.1 none := ⟨hg3.blk h2.blk (fun e => (blk_ne HM2.out h2.blk (by decide)) e.symm), h2.le⟩
  simp only [Act.put]
  refine WL.nil ?_
  go_end0
  exact .inl ⟨e1, rfl, HI3, { c with x := .slice za B.2.2.length zc }, HM3, { D3 with bk := (hz1.mono Hb0.out).grown hg3 (fun k hk e => (typ_ne (A := 101) (B := 5) (C := 25) HM2.out (.inr hk) (by decide) (by decide) (by decide)) e) }, (h3.mono fun k _ e => .inl e).trans (hg3.mono fun k _ e => .inr e)⟩
theorem get_any (i : Nat) (hi : i < 5) (p g b0 : Nat) (s : ByteArray) (a : Nat) (M : MsgV) (c : MC) (w : World) (hI : InAt w p s a none) (hb : s.size ≤ 140737488355328) (hM : Blk w g 28 (msA c)) (hD : DecAt b0 w M c) (hb0 : b0 ≤ w.heap.size) :
    Calls Try.prog (gfn i) #[ptr p, ptr g] w (GetPost p g b0 s (getF (lst s) i M a) w) := by
  match i, hi with
  | 0, _ => exact get0_any p g b0 s a M c w hI hb hM hD hb0
  | 1, _ => exact get1_any p g b0 s a M c w hI hb hM hD hb0
  | 2, _ => exact get2_any p g b0 s a M c w hI hb hM hD hb0
  | 3, _ => exact get3_any p g b0 s a M c w hI hb hM hD hb0
  | 4, _ => exact get4_any p g b0 s a M c w hI hb hM hD hb0
section
variable {P : Program} {ops : Array Oper} {rest : List Oper} {o : Oper} {a : Act} {w : World} {Q : Exit → Act → World → Prop}
theorem WL.callPV (hw : Region.wanted o (yielded ops a.tmps) = true) (f : FuncId) (x : Operand) (args : Array Operand) (ts : Array TypeId) (ho : o.op = .call { callee := .value x, args := args, argTypes := ts }) (hx : a.eval x = .func (.func f) #[] #[])
    (hf : ∀ (w : World) (vs : Array Value), (callFunc f vs).run P w = .ok (.enter f vs) w) (vs : Array Value) (hvs : args.map a.eval = vs)
    (hc : Calls P f vs w fun e w' => (∃ v, e = .returned v ∧ WL P ops Q rest (a.put o.dst v) w') ∨ (∃ ch, e = .panicked ch ∧ Q (.panic ch) a w')) : WL P ops Q (o :: rest) a w :=
  ⟨wpList_wanted hw fun K hK => by
    unfold Oper.wp
    rw [run_callV a o f x args ts ho hx hf w, Oper.upon_enter, hvs]
    refine hc.mono ?_
    rintro e w' (⟨v, rfl, hr⟩ | ⟨ch, rfl, hr⟩)
    · exact hK _ _ hr.out
    · exact hr⟩
end
def ReadPost (p : Nat) (R : Int × Nat × MsgV) (w : World) (e : Ending) (w' : World) : Prop :=
  (R.1 = 0 ∧ ∃ c, e = .returned (.agg (msA c)) ∧ DecAt w.heap.size w' R.2.2 c ∧ Grown w w' fun k => k = p) ∨ Gives p (R.1, R.2.1) w e w'
set_option maxRecDepth 8000 in
set_option maxHeartbeats 4000000 in
theorem readMessage_any (p : Nat) (s : ByteArray) (w : World) (hI : InAt w p s 0 none) (hb : s.size ≤ 140737488355328) :
    Calls Try.prog 35 #[ptr p] w (ReadPost p (decM (lst s)) w) := by
  have HI := Keep.mk hI
  have Hb := Keep.mk hb
  obtain ⟨D, hD⟩ : ∃ D, D = (lst s).drop 0 := ⟨_, rfl⟩
  have hDL : D = lst s := by rw [hD, List.drop_zero]
  obtain ⟨W, hW⟩ : ∃ W, W = nextW D 1 := ⟨_, rfl⟩
  obtain ⟨N, hN⟩ : ∃ N, N = nextN D 1 := ⟨_, rfl⟩
  obtain ⟨c, hc⟩ : ∃ c, c = if W = 0 then D.getD 0 0 else 0 := ⟨_, rfl⟩
  have HCb : Keep (∀ wx, InAt wx p s 0 none → _) := ⟨fun wx h => ibyte_good p s 0 wx h hb D hD W hW N hN c hc⟩
  have HN1 : Keep (W = 0 → 0 + N = 1) := ⟨fun h => by rw [hN, (nextN_0 D 1 (by rw [← hW]; exact h)).1]; rfl⟩
  have Hcr : Keep (0 ≤ c ∧ c < 256) := ⟨by
    have : Byts D := by rw [hDL]; exact lst_byts s
    have := this.getD 0
    rw [hc]; split <;> omega⟩
  obtain ⟨R, hR⟩ : ∃ R, R = decM (lst s) := ⟨_, rfl⟩
  rw [← hR]
  unfold decM at hR
  rw [← hDL, ← hW, ← hN] at hR
  have hce : W = 0 → D.getD 0 0 = c := fun h => by rw [hc, if_pos h]
  have HR1 : Keep (¬ W = 0 → R = (W, N, zeroM)) := ⟨fun h => by rw [hR, if_pos h]⟩
  have HR2 : Keep (W = 0 → hasI c = [] → R = (40, 0, zeroM)) := ⟨fun h h2 => by rw [hR, if_neg (by simp [h]), hce h, if_pos h2]⟩
  have HR3a : Keep (W = 0 → ¬ hasI c = [] → R = if (getFs (lst s) (hasI c) { zeroM with k := c } 1).1 ≠ 0 then getFs (lst s) (hasI c) { zeroM with k := c } 1 else if (getFs (lst s) (hasI c) { zeroM with k := c } 1).2.1 < s.size then (23, (getFs (lst s) (hasI c) { zeroM with k := c } 1).2.1, zeroM) else getFs (lst s) (hasI c) { zeroM with k := c } 1) := ⟨fun h h2 => by rw [hR, if_neg (by simp [h]), hce h, if_neg h2, hDL, lst_len]⟩
  have HR4 : Keep (W = 0 → ∀ {M at_}, getFs (lst s) (hasI c) { zeroM with k := c } 1 = (0, at_, M) → at_ < s.size → ¬ hasI c = [] → R = (23, at_, zeroM)) := ⟨fun h M at_ h2 h3 h4 => by rw [HR3a.out h h4, h2, if_neg (by simp), if_pos h3]⟩
  have HR5 : Keep (W = 0 → ∀ {M at_}, getFs (lst s) (hasI c) { zeroM with k := c } 1 = (0, at_, M) → ¬ at_ < s.size → ¬ hasI c = [] → R = (0, at_, M)) := ⟨fun h M at_ h2 h3 h4 => by rw [HR3a.out h h4, h2, if_neg (by simp), if_neg h3]⟩
  clear hI hb hD hW hN hc hR hDL hce
  go_enter Try.func35, Try.ntmps35
  refine wp_seq_k fun K1 hK1 => ?_
  refine wp_region_list (WL.out ?_)
  refine WL.new (by kernel_rfl) 28 rfl _ Try.new28M ?_
  have HA1 := Keep.mk (Blk.new w 28 (msA zeroC))
  have HI1 := Keep.mk (HI.out.box (.cells (msA zeroC) 28))
  have G1 : Keep (Grown w (w.alloc (.cells (msA zeroC) 28)) fun k => k = p) := ⟨Grown.alloc w _ _⟩
  obtain ⟨g2, hg2⟩ : ∃ g2, g2 = w.heap.size := ⟨_, rfl⟩
  rw [← hg2] at HA1 ⊢
  have Hg2 := Keep.mk hg2
  clear hg2
  generalize w.alloc (.cells (msA zeroC) 28) = w1 at *
  have HC := Keep.mk (HCb.out w1 HI1.out)
  simp only [Act.put, List.setIfInBounds_toArray, List.set_cons_zero, List.set_cons_succ]
  refine WL.nil ?_
  refine hK1 _ _ ?_
  refine wp_seq_k fun K2 hK2 => ?_
  refine wp_region_list (WL.out ?_)
  refine WL.val (by kernel_rfl) (.pointer (some ⟨p, 0, none⟩)) (by go_simp) ?_
  simp only [Act.put, List.setIfInBounds_toArray, List.set_cons_zero, List.set_cons_succ]
  refine WL.callF (by kernel_rfl) 63 _ _ rfl Try.in63 #[ptr p] (by simp [Act.eval]) ?_
  refine (iat_any p s 0 none w1 HI1.out).mono ?_
  rintro e w0 ⟨rfl, hw0⟩
  rw [hw0]
  clear hw0 w0
  refine ⟨_, rfl, ?_⟩
  simp only [Act.put, List.setIfInBounds_toArray, List.set_cons_zero, List.set_cons_succ]
  refine WL.val (by kernel_rfl) (.int .i64 ((0 : Nat) : Int)) (by go_simp) ?_
  simp only [Act.put, List.setIfInBounds_toArray, List.set_cons_zero, List.set_cons_succ]
  refine WL.nil ?_
  refine hK2 _ _ ?_
  refine wp_seq_k fun K3 hK3 => ?_
  refine wp_region_list (WL.out ?_)
  refine WL.val (by kernel_rfl) (.pointer (some ⟨p, 0, none⟩)) (by go_simp) ?_
  simp only [Act.put, List.setIfInBounds_toArray, List.set_cons_zero, List.set_cons_succ]
  refine WL.callF (by kernel_rfl) 65 _ _ rfl Try.in65 #[ptr p] (by simp [Act.eval]) ?_
  refine (HC.out).mono ?_
  rintro e w2 ⟨bad, er, rfl, h1, h2, h3⟩
  refine ⟨_, rfl, ?_⟩
  have H1 := Keep.mk h1
  have H2 : Keep (Grown w w2 fun k => k = p) := ⟨G1.out.trans h2⟩
  have HA2 := Keep.mk (h2.blk HA1.out (blk_ne HA1.out HI1.out.blk (by decide)))
  have H3 : Keep (ErrAs w w2 W (0 + N) bad er) := ⟨by rcases h3 with h3 | ⟨h4, q, h5, h6⟩; exact .inl h3; exact .inr ⟨h4, q, Nat.le_trans G1.out.size h5, h6⟩⟩
  clear h1 h2 h3
  simp only [Act.put, List.setIfInBounds_toArray, List.set_cons_zero, List.set_cons_succ]
  by_cases hE : W = 0
  · rcases H3.out with ⟨e1, rfl, rfl⟩ | ⟨e1, _⟩
    rotate_left
    · exact absurd hE e1
    have hwc : IntKind.i64.wrap c = c := by rw [IntKind.wrap_i64]; have := Hcr.out; omega
    have hI2 := H1.out
    rw [HN1.out hE] at hI2
    have HI2 := Keep.mk hI2
    clear hI2
    refine WL.val (by kernel_rfl) (.int .u8 c) (by go_simp) ?_
    simp only [Act.put, List.setIfInBounds_toArray, List.set_cons_zero, List.set_cons_succ]
    refine WL.val (by kernel_rfl) (.nilIface) (by go_simp) ?_
    simp only [Act.put, List.setIfInBounds_toArray, List.set_cons_zero, List.set_cons_succ]
    refine WL.callF (by kernel_rfl) 64 _ _ rfl Try.in64 #[.int .u8 c, .nilIface] (by simp [Act.eval]) ?_
    refine (must64_ok (.int .u8 c) w2).mono ?_
    rintro e w0 ⟨rfl, hw0⟩
    rw [hw0]
    clear hw0 w0
    refine ⟨_, rfl, ?_⟩
    simp only [Act.put, List.setIfInBounds_toArray, List.set_cons_zero, List.set_cons_succ]
    refine WL.val (by kernel_rfl) (.int .i64 c) (by go_simp) ?_
    simp only [Act.put, List.setIfInBounds_toArray, List.set_cons_zero, List.set_cons_succ]
    refine WL.bld (by kernel_rfl) 28 _ rfl [(0, .int .i64 c)] (by simp [Act.eval]) _ (ms_built1 c) ?_
    simp only [Act.put, List.setIfInBounds_toArray, List.set_cons_zero, List.set_cons_succ]
    refine WL.new (by kernel_rfl) 28 rfl _ Try.new28M ?_
    have HM3 := Keep.mk (Blk.new w2 28 (msA zeroC))
    have HA3 := Keep.mk (HA2.out.alloc (.cells (msA zeroC) 28))
    have HI3 := Keep.mk (HI2.out.box (.cells (msA zeroC) 28))
    have G3 : Keep (Grown w (w2.alloc (.cells (msA zeroC) 28)) fun k => k = p) := ⟨H2.out.trans (Grown.alloc w2 _ _)⟩
    have Hgl : Keep (g2 < w2.heap.size ∧ w.heap.size ≤ w2.heap.size ∧ p < w2.heap.size) := ⟨HA2.out.lt, H2.out.size, HI2.out.blk.lt⟩
    generalize w2.alloc (.cells (msA zeroC) 28) = w3 at *
    generalize w2.heap.size = g at *
    simp only [Act.put, List.setIfInBounds_toArray, List.set_cons_zero, List.set_cons_succ]
    refine WL.storeR (by kernel_rfl) 28 (.tmp 4) (.tmp 18) rfl g (msA ⟨c, noS, 0, noS, noS, noS⟩) rfl rfl 28 (msA zeroC) HM3.out (Try.size28B _) rfl (SlC.one ⟨⟨_, _, _, rfl⟩, ⟨_, _, _, rfl⟩, ⟨_, _, _, rfl⟩, ⟨_, _, _, rfl⟩⟩) ?_
    have HM4 := Keep.mk (HM3.out.setRow (msA ⟨c, noS, 0, noS, noS, noS⟩))
    have HA4 := Keep.mk (HA3.out.setRow_ne (b' := g) (by have := Hgl.out; omega) (msA ⟨c, noS, 0, noS, noS, noS⟩))
    have HI4 : Keep (InAt (w3.setRow g (msA ⟨c, noS, 0, noS, noS, noS⟩)) p s 1 none) := ⟨HI3.out.blk.setRow_ne (by have := Hgl.out; omega) _, HI3.out.le⟩
    have G4 : Keep (Grown w (w3.setRow g (msA ⟨c, noS, 0, noS, noS, noS⟩)) fun k => k = p) := ⟨G3.out.next (Grown.setRow w3 g _ (S := fun k => k = g) fun _ => rfl) fun k hk e => by have := Hgl.out; omega⟩
    generalize w3.setRow g (msA ⟨c, noS, 0, noS, noS, noS⟩) = w4 at *
    have d0 := HM4.out.c 0 (ms_0 _)
    simp only [Act.put]
    refine WL.nil ?_
    refine hK3 _ _ ?_
    refine wp_seq_k fun K4 hK4 => ?_
    refine wp_region_held_drew (S := fun wx => wx.cell? ⟨g, 0, none⟩ = some (.int .i64 c)) (by kernel_rfl) (d0) (fun hHeld => ?_)
    refine wpAnyH_take (i := 1) (oi := ⟨some 21, Op.fieldAddr 28 (Operand.tmp 4) 0, 0, _, _, none⟩) (v := .pointer (some ⟨g, 0, none⟩)) rfl (by kernel_rfl) (by kernel_rfl) (by kernel_rfl) (fun _ _ _ h => h) (Or.inl ⟨by rfl, fun w hS => by go_simp⟩) hHeld ?_
    simp only [Act.put, List.setIfInBounds_toArray, List.set_cons_zero, List.set_cons_succ]
    refine wpAnyH_take (i := 2) (oi := ⟨some 22, Op.load 3 (Operand.tmp 21), 3, _, _, none⟩) (v := .int .i64 c) rfl (by kernel_rfl) (by kernel_rfl) (by kernel_rfl) (fun _ _ _ h => h) (Or.inl ⟨by rfl, fun w hS => by go_simp⟩) hHeld ?_
    simp only [Act.put, List.setIfInBounds_toArray, List.set_cons_zero, List.set_cons_succ]
    refine wpAnyH_ready (rs := [0]) (by kernel_rfl) (by simp) ?_
    refine AllReadyH.cons (o := ⟨some 20, Op.call { callee := Callee.value (Operand.func 20), args := #[], argTypes := #[] }, 59, _, _, none⟩) rfl (fun K hK => ?_) AllReadyH.nil
    rw [if_pos (by rfl)]
    refine wp_callF 20 _ _ rfl Try.in20 #[] (by simp [Act.eval]) (fun v w' => ∃ m, v = .map (some m) ∧ TabAt w' m ∧ Below w4.drew.heap.size w4.drew w') ((tab_any w4.drew).mono fun e w' h => by obtain ⟨m, h1, h2, h3, h4⟩ := h; exact ⟨_, h1, m, rfl, h2, h4⟩) ?_
    rintro v w5 ⟨m, rfl, hT2, hb2⟩
    have B5w : Keep (Below w4.heap.size w4 w5) := ⟨(Below.refl _ _).drew.trans hb2⟩
    have HM5 := Keep.mk (HM4.out.below B5w.out HM4.out.lt)
    have HA5 := Keep.mk (HA4.out.below B5w.out HA4.out.lt)
    have HI5 : Keep (InAt w5 p s 1 none) := ⟨HI4.out.blk.below B5w.out HI4.out.blk.lt, HI4.out.le⟩
    have G5 : Keep (Grown w w5 fun k => k = p) := ⟨G4.out.trans (Grown.below B5w.out)⟩
    have e0 := HM5.out.c 0 (ms_0 _)
    obtain ⟨vF, hvF, hlk⟩ := hT2.look2 c
    have HvF := Keep.mk hvF
    have hlk2 := (hlk w5 (Below.refl _ _)).2
    clear hvF hlk hb2 hT2
    refine hK.out _ _ e0 fun hHeld5 => ?_
    clear hK
    simp only [Act.put, List.setIfInBounds_toArray, List.set_cons_zero, List.set_cons_succ]
    refine wpAnyH_weaken (S' := fun wx => wx.cell? ⟨g, 0, none⟩ = some (.int .i64 c) ∧ (Instr.lookup 59 (.map (some m)) (.int .i64 c) true).run Try.prog wx = .ok (.tuple #[vF, .bool (!(hasI c).isEmpty)]) wx) (fun _ h => h.1) _ _ _ _ ?_
    have hH6 := And.intro hHeld5 hlk2
    refine wpAnyH_take (i := 3) (oi := ⟨some 23, Op.lookup 59 (Operand.tmp 20) (Operand.tmp 22) true, 58, _, _, none⟩) (v := .tuple #[vF, .bool (!(hasI c).isEmpty)]) rfl (by kernel_rfl) (by kernel_rfl) (by kernel_rfl) (fun _ _ _ h => h) (Or.inl ⟨by rfl, fun w hS => by have h := hS.2; go_simp⟩) hH6 ?_
    simp only [Act.put, List.setIfInBounds_toArray, List.set_cons_zero, List.set_cons_succ]
    refine wpAnyH_take (i := 4) (oi := ⟨some 19, Op.move (Operand.tmp 23), 58, _, _, none⟩) (v := .tuple #[vF, .bool (!(hasI c).isEmpty)]) rfl (by kernel_rfl) (by kernel_rfl) (by kernel_rfl) (fun _ _ _ h => h) (Or.inl ⟨by rfl, fun w hS => by go_simp⟩) hH6 ?_
    simp only [Act.put, List.setIfInBounds_toArray, List.set_cons_zero, List.set_cons_succ]
    refine wpAnyH_take (i := 5) (oi := ⟨some 24, Op.extract (Operand.tmp 19) 0, 57, _, _, none⟩) (v := vF) rfl (by kernel_rfl) (by kernel_rfl) (by kernel_rfl) (fun _ _ _ h => h) (Or.inl ⟨by rfl, fun w hS => by go_simp⟩) hH6 ?_
    simp only [Act.put, List.setIfInBounds_toArray, List.set_cons_zero, List.set_cons_succ]
    refine wpAnyH_take (i := 6) (oi := ⟨some 25, Op.extract (Operand.tmp 19) 1, 4, _, _, none⟩) (v := .bool (!(hasI c).isEmpty)) rfl (by kernel_rfl) (by kernel_rfl) (by kernel_rfl) (fun _ _ _ h => h) (Or.inl ⟨by rfl, fun w hS => by go_simp⟩) hH6 ?_
    simp only [Act.put, List.setIfInBounds_toArray, List.set_cons_zero, List.set_cons_succ]
    refine wpAnyH_take (i := 7) (oi := ⟨some 5, Op.assign (Operand.tmp 24), 57, _, _, none⟩) (v := vF) rfl (by kernel_rfl) (by kernel_rfl) (by kernel_rfl) (fun _ _ _ h => h) (Or.inl ⟨by rfl, fun w hS => by go_simp⟩) hH6 ?_
    simp only [Act.put, List.setIfInBounds_toArray, List.set_cons_zero, List.set_cons_succ]
    refine wpAnyH_take (i := 8) (oi := ⟨some 6, Op.assign (Operand.tmp 25), 4, _, _, none⟩) (v := .bool (!(hasI c).isEmpty)) rfl (by kernel_rfl) (by kernel_rfl) (by kernel_rfl) (fun _ _ _ h => h) (Or.inl ⟨by rfl, fun w hS => by go_simp⟩) hH6 ?_
    simp only [Act.put, List.setIfInBounds_toArray, List.set_cons_zero, List.set_cons_succ]
    refine wpAnyH_done (by kernel_rfl) ?_ _
    refine hK4 _ _ ?_
    refine wp_seq_k fun K5 hK5 => ?_
    refine wp_seq_k fun K6 hK6 => ?_
    by_cases hA : hasI c = []
    · rw [show (!(hasI c).isEmpty) = false by rw [hA]; rfl]
      refine wp_region_list (WL.out ?_)
      refine WL.val (by kernel_rfl) (.bool false) (by go_simp) ?_
      simp only [Act.put, List.setIfInBounds_toArray, List.set_cons_zero, List.set_cons_succ]
      refine WL.val (by kernel_rfl) (.bool true) (by go_simp) ?_
      simp only [Act.put, List.setIfInBounds_toArray, List.set_cons_zero, List.set_cons_succ]
      refine WL.nil ?_
      refine hK6 _ _ ?_
      refine wp_cond_true rfl ?_
      refine wp_region_list (WL.out ?_)
      refine WL.val (by kernel_rfl) (.int .i64 ((0 : Nat) : Int)) (by go_simp) ?_
      simp only [Act.put, List.setIfInBounds_toArray, List.set_cons_zero, List.set_cons_succ]
      refine WL.callP (by kernel_rfl) 66 _ _ rfl Try.in66 #[.int .i64 40, .int .i64 ((0 : Nat) : Int)] (by simp [Act.eval]) ?_
      refine (at_any 40 (0 : Nat) w5).mono ?_
      rintro e wz ⟨rfl, hbz, hwz⟩
      refine .inr ⟨_, rfl, ?_⟩
      try simp only [Exit.inBlock, Exit.then]
      refine ⟨rfl, ?_⟩
      exact .inr ⟨by rw [HR2.out hE hA]; exact (by decide : (40 : Int) ≠ 0), w5.heap.size, G5.out.size, rfl, by rw [HR2.out hE hA]; exact hbz, G5.out.trans (Grown.below hwz)⟩
    · rw [show (!(hasI c).isEmpty) = true by simpa using hA]
      obtain ⟨gf, hgf, HFb⟩ := HvF.out.some hA
      subst hgf
      have HF5 := Keep.mk HFb
      clear HFb
      have HR3 := Keep.mk (HR3a.out hE hA)
      have HD5 : Keep (DecAt w.heap.size w5 { zeroM with k := c } ⟨c, noS, 0, noS, noS, noS⟩) := ⟨⟨rfl, rfl, ⟨rfl, .inl ⟨rfl, rfl⟩⟩, fun k hk => by simp [noS, Value.ownBlock] at hk, .inl ⟨rfl, rfl⟩, fun k hk => by simp [noS, Value.ownBlock] at hk, ⟨rfl, .inl ⟨rfl, rfl⟩⟩, fun k hk => by simp [noS, Value.ownBlock] at hk, [], ⟨rfl, .inl ⟨rfl, rfl⟩⟩, fun k hk => by simp [noS, Value.ownBlock] at hk, rfl, fun i hi => by simp [zeroM] at hi⟩⟩
      have hIl := hasI_len c
      have hIi : ((hasI c).length : Int) ≤ 9223372036854775807 := by omega
      have HIm : Keep (∀ i ∈ hasI c, i < 5) := ⟨hasI_lt c⟩
      obtain ⟨is, his⟩ : ∃ is, is = hasI c := ⟨_, rfl⟩
      have HR4n : Keep (∀ {M at_}, getFs (lst s) is { zeroM with k := c } 1 = (0, at_, M) → at_ < s.size → R = (23, at_, zeroM)) := ⟨by rw [his]; exact fun h h2 => HR4.out hE h h2 hA⟩
      have HR5n : Keep (∀ {M at_}, getFs (lst s) is { zeroM with k := c } 1 = (0, at_, M) → ¬ at_ < s.size → R = (0, at_, M)) := ⟨by rw [his]; exact fun h h2 => HR5.out hE h h2 hA⟩
      rw [← his] at HF5 HR3 HIm hIl hIi ⊢
      clear his
      refine wp_region_list (WL.out ?_)
      refine WL.val (by kernel_rfl) (.bool true) (by go_simp) ?_
      simp only [Act.put, List.setIfInBounds_toArray, List.set_cons_zero, List.set_cons_succ]
      refine WL.val (by kernel_rfl) (.bool false) (by go_simp) ?_
      simp only [Act.put, List.setIfInBounds_toArray, List.set_cons_zero, List.set_cons_succ]
      refine WL.nil ?_
      refine hK6 _ _ ?_
      refine wp_cond_false rfl ?_
      refine wp_skip ?_
      refine hK5 _ _ ?_
      refine wp_seq_k fun K7 hK7 => ?_
      refine wp_seq_k fun K8 hK8 => ?_
      refine wp_region_list (WL.out ?_)
      refine WL.val (by kernel_rfl) (.slice (some ⟨gf, 0, none⟩) is.length is.length) (by go_simp) ?_
      simp only [Act.put, List.setIfInBounds_toArray, List.set_cons_zero, List.set_cons_succ]
      refine WL.val (by kernel_rfl) (.int .i64 (is.length : Int)) (by go_simp) ?_
      simp only [Act.put, List.setIfInBounds_toArray, List.set_cons_zero, List.set_cons_succ]
      refine WL.val (by kernel_rfl) (.int .i64 0) (by go_simp) ?_
      simp only [Act.put, List.setIfInBounds_toArray, List.set_cons_zero, List.set_cons_succ]
      refine WL.nil ?_
      refine hK8 _ _ ?_
      refine wp_block ?_
      refine wp_loop (fun ac wr => ∃ (t : Nat) (u8 u33 u34 u35 u36 u37 u38 u39 u40 : Value), ac = { tmps := #[.pointer (some ⟨p, 0, none⟩), undef, .pointer (some ⟨g2, 0, none⟩), .int .i64 ((0 : Nat) : Int), .pointer (some ⟨g, 0, none⟩), .slice (some ⟨gf, 0, none⟩) is.length is.length, .bool true, undef, u8, undef, .pointer (some ⟨p, 0, none⟩), .int .i64 ((0 : Nat) : Int), .pointer (some ⟨p, 0, none⟩), .tuple #[.int .u8 c, .nilIface], .int .u8 c, .nilIface, .int .u8 c, .int .i64 c, .agg (msA ⟨c, noS, 0, noS, noS, noS⟩), .tuple #[.slice (some ⟨gf, 0, none⟩) is.length is.length, .bool true], .map (some m), .pointer (some ⟨g, 0, none⟩), .int .i64 c, .tuple #[.slice (some ⟨gf, 0, none⟩) is.length is.length, .bool true], .slice (some ⟨gf, 0, none⟩) is.length is.length, .bool true, .bool true, .bool false, undef, undef, .slice (some ⟨gf, 0, none⟩) is.length is.length, .int .i64 (is.length : Int), .int .i64 (t : Int), u33, u34, u35, u36, u37, u38, u39, u40, undef, undef, undef, undef, undef, undef, undef], defers := [] } ∧ t ≤ is.length ∧ ∃ M at_ cc, getFs (lst s) is { zeroM with k := c } 1 = getFs (lst s) (is.drop t) M at_ ∧ InAt wr p s at_ none ∧ Blk wr g 28 (msA cc) ∧ DecAt w.heap.size wr M cc ∧ Blk wr g2 28 (msA zeroC) ∧ Blk wr gf 71 (flatF is) ∧ Grown w wr fun k => k = p) (fun a _ => is.length - (intOf (a.tmps.getD 32 undef)).toNat) ⟨0, undef, undef, undef, undef, undef, undef, undef, undef, undef, rfl, by omega, _, 1, _, by rw [List.drop_zero], HI5.out, HM5.out, HD5.out, HA5.out, HF5.out, G5.out⟩ ?_
      rintro ac wr ⟨t, u8, u33, u34, u35, u36, u37, u38, u39, u40, rfl, ht, M, at_, cc, hC, hI, hM, hD, hA, hF, hG⟩
      by_cases hlt : t < is.length
      · have hlt' : (t : Int) < (is.length : Int) := by omega
        have hwt : IntKind.i64.wrap ((t : Int) + 1) = (t : Int) + 1 := by rw [IntKind.wrap_i64]; omega
        obtain ⟨i, hi⟩ : ∃ i, is[t]? = some i := ⟨_, List.getElem?_eq_getElem hlt⟩
        have Hi := Keep.mk hi
        have Him : Keep (i < 5) := ⟨HIm.out i (List.mem_of_getElem? hi)⟩
        have hdr : is.drop t = i :: is.drop (t + 1) := by rw [List.drop_eq_getElem_cons hlt]; congr 1; rw [List.getElem?_eq_getElem hlt] at hi; exact Option.some.inj hi
        rw [hdr, getFs] at hC
        clear hi hdr
        have JC := Keep.mk hC
        have JI := Keep.mk hI
        have JM := Keep.mk hM
        have JD := Keep.mk hD
        have JA := Keep.mk hA
        have JF := Keep.mk hF
        have JG := Keep.mk hG
        clear hC hI hM hD hA hF hG
        refine wp_seq_k fun K9 hK9 => ?_
        refine wp_region_list (WL.out ?_)
        refine WL.val (by kernel_rfl) (.bool true) (by go_simp) ?_
        simp only [Act.put, List.setIfInBounds_toArray, List.set_cons_zero, List.set_cons_succ]
        refine WL.nil ?_
        refine hK9 _ _ ?_
        refine wp_seq_k fun K10 hK10 => ?_
        refine wp_cond_true rfl ?_
        refine wp_skip ?_
        refine hK10 _ _ ?_
        refine wp_seq_k fun K11 hK11 => ?_
        refine wp_block ?_
        refine wp_seq_k fun K12 hK12 => ?_
        refine wp_region_list (WL.out ?_)
        refine WL.val (by kernel_rfl) (.pointer (some ⟨gf, t * 3, none⟩)) (by go_simp) ?_
        simp only [Act.put, List.setIfInBounds_toArray, List.set_cons_zero, List.set_cons_succ]
        refine WL.mid (by kernel_rfl) 71 (.tmp 34) rfl gf (t * 3) rfl (fldA i).toList _ (fld_range JF.out t i Hi.out) Try.underlying71 rfl (Try.size71L i) ?_
        rw [Array.toArray_toList]
        simp only [Act.put, List.setIfInBounds_toArray, List.set_cons_zero, List.set_cons_succ]
        refine WL.new (by kernel_rfl) 71 rfl _ Try.new71 ?_
        have HNn := Keep.mk (Blk.new wr 71 noF)
        have HMn := Keep.mk (JM.out.alloc (.cells noF 71))
        have HFn := Keep.mk (JF.out.alloc (.cells noF 71))
        have HAn := Keep.mk (JA.out.alloc (.cells noF 71))
        have HIn := Keep.mk (JI.out.box (.cells noF 71))
        have HDn := Keep.mk (JD.out.below (below_new wr (.cells noF 71)))
        have Gn : Keep (Grown w (wr.alloc (.cells noF 71)) fun k => k = p) := ⟨JG.out.trans (Grown.alloc wr _ _)⟩
        have Hne : Keep (wr.heap.size ≠ g ∧ wr.heap.size ≠ gf ∧ wr.heap.size ≠ g2 ∧ wr.heap.size ≠ p ∧ w.heap.size ≤ wr.heap.size) := ⟨by have := JM.out.lt; have := JF.out.lt; have := JA.out.lt; have := JI.out.blk.lt; have := JG.out.size; omega⟩
        generalize wr.alloc (.cells noF 71) = wn at *
        generalize wr.heap.size = gn at *
        simp only [Act.put, List.setIfInBounds_toArray, List.set_cons_zero, List.set_cons_succ]
        refine WL.storeR (by kernel_rfl) 71 (.tmp 8) (.tmp 35) rfl gn (fldA i) rfl rfl 71 noF HNn.out (Try.size71B i) (noF_sizes i) (fldA_one i) ?_
        have HN2 := Keep.mk (HNn.out.setRow (fldA i))
        have HMs := Keep.mk (HMn.out.setRow_ne (b' := gn) (fun e => Hne.out.1 e.symm) (fldA i))
        have HFs := Keep.mk (HFn.out.setRow_ne (b' := gn) (fun e => Hne.out.2.1 e.symm) (fldA i))
        have HAs := Keep.mk (HAn.out.setRow_ne (b' := gn) (fun e => Hne.out.2.2.1 e.symm) (fldA i))
        have HIs : Keep (InAt (wn.setRow gn (fldA i)) p s at_ none) := ⟨HIn.out.blk.setRow_ne (fun e => Hne.out.2.2.2.1 e.symm) _, HIn.out.le⟩
        have gsr : Grown wn (wn.setRow gn (fldA i)) fun k => k = gn := Grown.setRow wn gn _ fun _ => rfl
        have HDs := Keep.mk (HDn.out.grown gsr (fun k hk => typ_ne HNn.out hk (by decide) (by decide) (by decide)))
        have Gs : Keep (Grown w (wn.setRow gn (fldA i)) fun k => k = p) := ⟨Gn.out.next gsr fun k hk e => by have := Hne.out.2.2.2.2; omega⟩
        clear gsr
        generalize wn.setRow gn (fldA i) = ws at *
        have c1 := HN2.out.c 2 (fldA_g i)
        simp only [Act.put]
        refine WL.nil ?_
        refine hK12 _ _ ?_
        refine wp_region_list (WL.out ?_)
        refine WL.val (by kernel_rfl) (.pointer (some ⟨gn, 2, none⟩)) (by go_simp) ?_
        simp only [Act.put, List.setIfInBounds_toArray, List.set_cons_zero, List.set_cons_succ]
        refine WL.val (by kernel_rfl) (.func (.func (gfn i)) #[] #[]) (by go_simp) ?_
        simp only [Act.put, List.setIfInBounds_toArray, List.set_cons_zero, List.set_cons_succ]
        refine WL.val (by kernel_rfl) (.pointer (some ⟨p, 0, none⟩)) (by go_simp) ?_
        simp only [Act.put, List.setIfInBounds_toArray, List.set_cons_zero, List.set_cons_succ]
        refine WL.callPV (by kernel_rfl) (gfn i) (.tmp 37) _ _ rfl rfl (gfn_in i) #[ptr p, ptr g] (by simp [Act.eval]) ?_
        refine (get_any i Him.out p g w.heap.size s at_ M cc ws HIs.out Hb.out HMs.out HDs.out Gs.out.size).mono ?_
        rintro e w9 (⟨e1, rfl, i1, c9, i2, i3, i4⟩ | hgv)
        rotate_left
        · have hne := hgv.1
          obtain ⟨q, hq, rfl, hbad, hgr⟩ := hgv.2
          refine .inr ⟨_, rfl, ?_⟩
          try simp only [Exit.inBlock, Exit.then]
          refine ⟨rfl, ?_⟩
          have hRR : R = getF (lst s) i M at_ := by rw [HR3.out, JC.out, if_pos hne, if_pos hne]
          refine .inr (Gives.of Gs.out ⟨by rw [hRR]; exact hne, q, hq, rfl, by rw [hRR]; exact hbad, hgr⟩)
        refine .inl ⟨_, rfl, ?_⟩
        have JC9 := Keep.mk (JC.out.trans (if_neg (by simp [e1])))
        have HI9 := Keep.mk i1
        have HM9 := Keep.mk i2
        have HD9 := Keep.mk i3
        have HA9 := Keep.mk (i4.blk HAs.out (fun e => by rcases e with e | e; exact (blk_ne HAs.out HIs.out.blk (by decide)) e; have := Hgl.out; omega))
        have HF9 := Keep.mk (i4.blk HFs.out (fun e => by rcases e with e | e; exact (blk_ne HFs.out HIs.out.blk (by decide)) e; exact (blk_ne HFs.out HMs.out (by decide)) e))
        have G9 : Keep (Grown w w9 fun k => k = p) := ⟨Gs.out.next i4 fun k hk e => by rcases e with e | e; exact e; have := Hgl.out; omega⟩
        clear i1 i2 i3 i4 e1 JC
        simp only [Act.put, List.setIfInBounds_toArray, List.set_cons_zero, List.set_cons_succ]
        refine WL.nil ?_
        refine hK11 _ _ ?_
        refine wp_region_list (WL.out ?_)
        refine WL.val (by kernel_rfl) (.int .i64 ((t : Int) + 1)) (by go_simp) ?_
        simp only [Act.put, List.setIfInBounds_toArray, List.set_cons_zero, List.set_cons_succ]
        refine WL.val (by kernel_rfl) (.int .i64 ((t : Int) + 1)) (by go_simp) ?_
        simp only [Act.put, List.setIfInBounds_toArray, List.set_cons_zero, List.set_cons_succ]
        refine WL.nil ?_
        refine ⟨⟨t + 1, .pointer (some ⟨gn, 0, none⟩), .bool true, .pointer (some ⟨gf, t * 3, none⟩), .agg (fldA i), .pointer (some ⟨gn, 2, none⟩), .func (.func (gfn i)) #[] #[], .pointer (some ⟨p, 0, none⟩), .tuple #[], .int .i64 ((t : Int) + 1), rfl, by omega, _, _, c9, JC9.out, HI9.out, HM9.out, HD9.out, HA9.out, HF9.out, G9.out⟩, by simp [intOf]; omega⟩
      · obtain rfl : t = is.length := by omega
        rw [List.drop_length, getFs] at hC
        have HIe := Keep.mk hI
        have HMe := Keep.mk hM
        have HDe := Keep.mk hD
        have HAe := Keep.mk hA
        have Ge := Keep.mk hG
        have HCe := Keep.mk hC
        have HE := Keep.mk (iend_good p s at_ wr hI Hb.out (if at_ < s.size then 23 else 0) rfl)
        clear hC hI hM hD hA hF hG
        refine wp_seq_k fun K13 hK13 => ?_
        refine wp_region_list (WL.out ?_)
        refine WL.val (by kernel_rfl) (.bool false) (by go_simp) ?_
        simp only [Act.put, List.setIfInBounds_toArray, List.set_cons_zero, List.set_cons_succ]
        refine WL.nil ?_
        refine hK13 _ _ ?_
        refine wp_seq_k fun K14 hK14 => ?_
        refine wp_cond_false rfl ?_
        refine wp_exit ?_
        refine hK7 _ _ ?_
        refine wp_seq_k fun K15 hK15 => ?_
        refine wp_seq_k fun K16 hK16 => ?_
        refine wp_region_list (WL.out ?_)
        refine WL.val (by kernel_rfl) (.pointer (some ⟨p, 0, none⟩)) (by go_simp) ?_
        simp only [Act.put, List.setIfInBounds_toArray, List.set_cons_zero, List.set_cons_succ]
        refine WL.callF (by kernel_rfl) 67 _ _ rfl Try.in67 #[ptr p] (by simp [Act.eval]) ?_
        refine (HE.out).mono ?_
        rintro e w6 ⟨bad, er, rfl, h1, h2, h3⟩
        refine ⟨_, rfl, ?_⟩
        have H6 := Keep.mk h3
        have HM6 := Keep.mk (h2.blk HMe.out (blk_ne HMe.out HIe.out.blk (by decide)))
        have HA6 := Keep.mk (h2.blk HAe.out (blk_ne HAe.out HIe.out.blk (by decide)))
        have HD6 := Keep.mk (HDe.out.grown h2 (fun k hk => typ_ne HIe.out.blk hk (by decide) (by decide) (by decide)))
        have G6 : Keep (Grown w w6 fun k => k = p) := ⟨Ge.out.trans h2⟩
        clear h1 h2 h3
        simp only [Act.put, List.setIfInBounds_toArray, List.set_cons_zero, List.set_cons_succ]
        refine WL.val (by kernel_rfl) (er) (by go_simp) ?_
        simp only [Act.put, List.setIfInBounds_toArray, List.set_cons_zero, List.set_cons_succ]
        refine WL.nil ?_
        refine hK16 _ _ ?_
        refine wp_seq_k fun K17 hK17 => ?_
        by_cases hL : at_ < s.size
        · have h6 := H6.out
          rw [if_pos hL] at h6
          rcases h6 with ⟨e1, _, _⟩ | ⟨_, q, hq, rfl, rfl, hbad⟩
          · exact absurd e1 (by decide)
          have Hbad := Keep.mk hbad
          clear hbad
          have HRq := Keep.mk (HR4n.out HCe.out hL)
          unfold err
          refine wp_region_list (WL.out ?_)
          refine WL.val (by kernel_rfl) (.iface 116 (ptr q)) (by go_simp) ?_
          simp only [Act.put, List.setIfInBounds_toArray, List.set_cons_zero, List.set_cons_succ]
          refine WL.val (by kernel_rfl) (.bool true) (by go_simp) ?_
          simp only [Act.put, List.setIfInBounds_toArray, List.set_cons_zero, List.set_cons_succ]
          refine WL.nil ?_
          refine hK17 _ _ ?_
          refine wp_cond_true rfl ?_
          refine wp_region_list (WL.out ?_)
          refine WL.val (by kernel_rfl) (.iface 116 (ptr q)) (by go_simp) ?_
          simp only [Act.put, List.setIfInBounds_toArray, List.set_cons_zero, List.set_cons_succ]
          refine WL.callP (by kernel_rfl) 68 _ _ rfl Try.in68 #[err q] (by simp [Act.eval, err]) ?_
          refine (with_any q w6).mono ?_
          rintro e w' ⟨rfl, rfl⟩
          refine .inr ⟨_, rfl, ?_⟩
          try simp only [Exit.inBlock, Exit.then]
          refine ⟨rfl, ?_⟩
          exact .inr ⟨by rw [HRq.out]; exact (by decide : (23 : Int) ≠ 0), q, Nat.le_trans Ge.out.size hq, rfl, by rw [HRq.out]; exact Hbad.out, G6.out⟩
        · have h6 := H6.out
          rw [if_neg hL] at h6
          rcases h6 with ⟨_, rfl, rfl⟩ | ⟨e1, _⟩
          rotate_left
          · exact absurd rfl e1
          have HRq := Keep.mk (HR5n.out HCe.out hL)
          refine wp_region_list (WL.out ?_)
          refine WL.val (by kernel_rfl) (.nilIface) (by go_simp) ?_
          simp only [Act.put, List.setIfInBounds_toArray, List.set_cons_zero, List.set_cons_succ]
          refine WL.val (by kernel_rfl) (.bool false) (by go_simp) ?_
          simp only [Act.put, List.setIfInBounds_toArray, List.set_cons_zero, List.set_cons_succ]
          refine WL.nil ?_
          refine hK17 _ _ ?_
          refine wp_cond_false rfl ?_
          refine wp_skip ?_
          refine hK15 _ _ ?_
          refine wp_seq_k fun K18 hK18 => ?_
          refine wp_region_list (WL.out ?_)
          refine WL.row (by kernel_rfl) 28 (.tmp 4) rfl g rfl 28 (msA cc) _ HM6.out Try.underlying28 rfl (Try.size28B _) ?_
          simp only [Act.put, List.setIfInBounds_toArray, List.set_cons_zero, List.set_cons_succ]
          refine WL.storeR (by kernel_rfl) 28 (.tmp 2) (.tmp 47) rfl g2 (msA cc) rfl rfl 28 (msA zeroC) HA6.out (Try.size28B _) rfl (SlC.one HD6.out.ms.sl) ?_
          have HA7 := Keep.mk (HA6.out.setRow (msA cc))
          have gs7 : Grown w6 (w6.setRow g2 (msA cc)) fun k => k = g2 := Grown.setRow w6 g2 _ fun _ => rfl
          have HD7 := Keep.mk (HD6.out.grown gs7 (fun k hk => typ_ne HA6.out hk (by decide) (by decide) (by decide)))
          have G7 : Keep (Grown w (w6.setRow g2 (msA cc)) fun k => k = p) := ⟨G6.out.next gs7 fun k hk e => by have := Hg2.out; omega⟩
          clear gs7
          generalize w6.setRow g2 (msA cc) = w7 at *
          simp only [Act.put]
          refine WL.nil ?_
          refine hK18 _ _ ?_
          refine wp_ret ?_
          refine bodyPost_ret (v := .agg (msA cc)) (results_cell1_row Try.results35 _ _ g2 28 _ (0, 0) _ rfl HA7.out Try.underlying28 rfl (Try.size28B _)) rfl ?_
          exact .inl ⟨by rw [HRq.out], cc, rfl, by rw [HRq.out]; exact HD7.out, G7.out⟩
  · rcases H3.out with ⟨e1, _, _⟩ | ⟨_, q, hq, rfl, rfl, hbad⟩
    · exact absurd e1 hE
    have Hbad := Keep.mk hbad
    clear hbad
    unfold err
    refine WL.val (by kernel_rfl) (.int .u8 c) (by go_simp) ?_
    simp only [Act.put, List.setIfInBounds_toArray, List.set_cons_zero, List.set_cons_succ]
    refine WL.val (by kernel_rfl) (.iface 116 (ptr q)) (by go_simp) ?_
    simp only [Act.put, List.setIfInBounds_toArray, List.set_cons_zero, List.set_cons_succ]
    refine WL.callP (by kernel_rfl) 64 _ _ rfl Try.in64 #[.int .u8 c, err q] (by simp [Act.eval, err]) ?_
    refine (must64_bad _ q w2).mono ?_
    rintro e w' ⟨rfl, rfl⟩
    refine .inr ⟨_, rfl, ?_⟩
    try simp only [Exit.inBlock, Exit.then]
    refine ⟨rfl, ?_⟩
    exact .inr ⟨by rw [HR1.out hE]; exact hE, q, hq, rfl, by rw [HR1.out hE]; have h := Hbad.out; rw [Nat.zero_add] at h; exact h, H2.out⟩
section
variable {P : Program} {ops : Array Oper} {rest : List Oper} {o : Oper} {a : Act} {w : World} {Q : Exit → Act → World → Prop}
theorem WL.defer (hw : Region.wanted o (yielded ops a.tmps) = true) (d : Deferred) (hrun : (execOp a.eval o).run P w = .ok (.defer d) w)
    (h : WL P ops Q rest ({ a with defers := d :: a.defers }.put o.dst undef) w) : WL P ops Q (o :: rest) a w :=
  ⟨wpList_wanted hw fun _ hK => by unfold Oper.wp; rw [hrun, Oper.upon_defer]; exact hK _ _ h.out⟩
end
theorem assertW (v : Value) (W : World) : (Instr.typeAssert (.iface 107 v) 20 107 true).run Try.prog W = .ok (.tuple #[v, .bool true]) W := by kernel_rfl
theorem Try.new107 (w : World) : (Instr.alloc 107 true (.tuple #[])).run Try.prog w = .ok (.pointer (some ⟨w.heap.size, 0, none⟩)) (w.alloc (.cells #[.nilIface] 107)) := by kernel_rfl
theorem Try.new37 (w : World) : (Instr.alloc 37 true (.tuple #[])).run Try.prog w = .ok (.pointer (some ⟨w.heap.size, 0, none⟩)) (w.alloc (.cells #[.nilIface] 37)) := by kernel_rfl
theorem Try.size107 : (Try.prog.info? 107).map (·.size) = some 1 := by kernel_rfl
theorem caught_any (q : Nat) (w : World) : Calls Try.prog 34 #[.iface 107 (.agg #[err q])] w fun e w' => e = .returned (err q) ∧ Below w.heap.size w w' := by
  have has := assertW (.agg #[err q])
  unfold err at has ⊢
  go_enter Try.func34, Try.ntmps34
  refine wp_seq_k fun K1 hK1 => ?_
  refine wp_region_list (WL.out ?_)
  refine WL.val (by kernel_rfl) (.nilIface) (by go_simp) ?_
  simp only [Act.put, List.setIfInBounds_toArray, List.set_cons_zero, List.set_cons_succ]
  refine WL.nil ?_
  refine hK1 _ _ ?_
  refine wp_seq_k fun K2 hK2 => ?_
  refine wp_seq_k fun K3 hK3 => ?_
  refine wp_region_list (WL.out ?_)
  refine WL.val (by kernel_rfl) (.iface 107 (.agg #[.iface 116 (ptr q)])) (by go_simp) ?_
  simp only [Act.put, List.setIfInBounds_toArray, List.set_cons_zero, List.set_cons_succ]
  refine WL.val (by kernel_rfl) (.tuple #[.agg #[.iface 116 (ptr q)], .bool true]) (by go_simp) ?_
  simp only [Act.put, List.setIfInBounds_toArray, List.set_cons_zero, List.set_cons_succ]
  refine WL.val (by kernel_rfl) (.tuple #[.agg #[.iface 116 (ptr q)], .bool true]) (by go_simp) ?_
  simp only [Act.put, List.setIfInBounds_toArray, List.set_cons_zero, List.set_cons_succ]
  refine WL.val (by kernel_rfl) (.agg #[.iface 116 (ptr q)]) (by go_simp) ?_
  simp only [Act.put, List.setIfInBounds_toArray, List.set_cons_zero, List.set_cons_succ]
  refine WL.val (by kernel_rfl) (.bool true) (by go_simp) ?_
  simp only [Act.put, List.setIfInBounds_toArray, List.set_cons_zero, List.set_cons_succ]
  refine WL.new (by kernel_rfl) 107 rfl _ Try.new107 ?_
  have HX1 := Keep.mk (Blk.new w 107 #[.nilIface])
  have B1 := Keep.mk (below_new w (.cells #[.nilIface] 107))
  generalize w.alloc (.cells #[.nilIface] 107) = w1 at *
  simp only [Act.put, List.setIfInBounds_toArray, List.set_cons_zero, List.set_cons_succ]
  refine WL.storeR (by kernel_rfl) 107 (.tmp 3) (.tmp 8) rfl w.heap.size #[.iface 116 (ptr q)] rfl rfl 107 #[.nilIface] HX1.out Try.size107 rfl (by simp [Value.oneCell', ptr]) ?_
  have HX2 := Keep.mk (HX1.out.setRow #[.iface 116 (ptr q)])
  have B2 := Keep.mk (below_setRow B1.out (Nat.le_refl _) #[.iface 116 (ptr q)])
  generalize w1.setRow w.heap.size #[.iface 116 (ptr q)] = w2 at *
  have c0 := HX2.out.c 0 rfl
  simp only [Act.put]
  refine WL.val (by kernel_rfl) (.bool true) (by go_simp) ?_
  simp only [Act.put, List.setIfInBounds_toArray, List.set_cons_zero, List.set_cons_succ]
  refine WL.nil ?_
  refine hK3 _ _ ?_
  refine wp_seq_k fun K4 hK4 => ?_
  refine wp_region_list (WL.out ?_)
  refine WL.val (by kernel_rfl) (.bool true) (by go_simp) ?_
  simp only [Act.put, List.setIfInBounds_toArray, List.set_cons_zero, List.set_cons_succ]
  refine WL.nil ?_
  refine hK4 _ _ ?_
  refine wp_cond_true rfl ?_
  refine wp_seq_k fun K5 hK5 => ?_
  refine wp_region_list (WL.out ?_)
  refine WL.val (by kernel_rfl) (.pointer (some ⟨w.heap.size, 0, none⟩)) (by go_simp) ?_
  simp only [Act.put, List.setIfInBounds_toArray, List.set_cons_zero, List.set_cons_succ]
  refine WL.val (by kernel_rfl) (.iface 116 (ptr q)) (by go_simp) ?_
  simp only [Act.put, List.setIfInBounds_toArray, List.set_cons_zero, List.set_cons_succ]
  refine WL.val (by kernel_rfl) (.iface 116 (ptr q)) (by go_simp) ?_
  simp only [Act.put, List.setIfInBounds_toArray, List.set_cons_zero, List.set_cons_succ]
  refine WL.nil ?_
  refine hK5 _ _ ?_
  refine wp_ret ?_
  go_ret
  exact ⟨rfl, B2.out⟩
theorem catch_panicking (g2 g3 q : Nat) (old : Array Value) (w : World) (h2 : Blk w g2 28 old) (ho : old.size = 6) (h3 : Blk w g3 37 #[.nilIface]) :
    CallsD Try.prog 33 #[ptr g2, ptr g3] (.panicking [wr q]) w fun e u' w' => e = .returned (.tuple #[]) ∧ u' = .panicking [{ v := .iface 107 (.agg #[err q]), recovered := true }] ∧ Blk w' g2 28 (msA zeroC) ∧ Blk w' g3 37 #[err q] ∧ Grown w w' fun k => k = g2 ∨ k = g3 := by
  have H2 := Keep.mk h2
  have H3 := Keep.mk h3
  have Ho := Keep.mk ho
  have Hne : Keep (g2 ≠ g3) := ⟨blk_ne h2 h3 (by decide)⟩
  clear h2 h3 ho
  refine callsD_of_wpS Try.func33 rfl fun c₀ cs hu => ?_
  apply wpS_seq
  apply wpS_region
  unfold wr at hu
  simp [wpOpsS, go_sem, recoverD, hu, Try.ntmps33, Exit.thenS]
  apply wpS_seq
  apply wpS_region
  simp [wpOpsS, go_sem, Exit.thenS]
  refine wpS_cond (t := true) (by simp [Act.eval, Array.replicate]) ?_
  simp only [if_true]
  refine wpS_of_wp ?_
  refine wp_region_list (WL.out ?_)
  simp only [Array.replicate_succ, Array.replicate_zero, List.push_toArray, List.append_toArray, List.nil_append, List.cons_append, List.setIfInBounds_toArray, List.set_cons_zero, List.set_cons_succ]
  refine WL.bld (by kernel_rfl) 28 _ rfl [] (by simp) _ ms_built0 ?_
  simp only [Act.put, List.setIfInBounds_toArray, List.set_cons_zero, List.set_cons_succ]
  refine WL.val (by kernel_rfl) (.iface 107 (.agg #[err q])) (by go_simp) ?_
  simp only [Act.put, List.setIfInBounds_toArray, List.set_cons_zero, List.set_cons_succ]
  refine WL.callF (by kernel_rfl) 34 _ _ rfl Try.in34 #[.iface 107 (.agg #[err q])] (by simp [Act.eval]) ?_
  refine (caught_any q w).mono ?_
  rintro e w1 ⟨rfl, hb1⟩
  refine ⟨_, rfl, ?_⟩
  have B1 := Keep.mk hb1
  have H21 := Keep.mk (H2.out.below hb1 H2.out.lt)
  have H31 := Keep.mk (H3.out.below hb1 H3.out.lt)
  clear hb1
  simp only [Act.put, List.setIfInBounds_toArray, List.set_cons_zero, List.set_cons_succ]
  refine WL.storeR (by kernel_rfl) 28 (.tmp 0) (.tmp 6) rfl g2 (msA zeroC) rfl rfl 28 old H21.out (Try.size28B _) (by rw [Ho.out]; rfl) SlC.zero.one ?_
  have H22 := Keep.mk (H21.out.setRow (msA zeroC))
  have H32 := Keep.mk (H31.out.setRow_ne (b' := g2) (fun e => Hne.out e.symm) (msA zeroC))
  have G2 : Keep (Grown w (w1.setRow g2 (msA zeroC)) fun k => k = g2 ∨ k = g3) := ⟨(Grown.below B1.out).trans (Grown.setRow w1 g2 _ fun _ => .inl rfl)⟩
  generalize w1.setRow g2 (msA zeroC) = w2 at *
  simp only [Act.put]
  have c0 := H32.out.c 0 rfl
  have f0 := H32.out.frozen 0
  refine WL.cell (by kernel_rfl) (w2.setCell ⟨g3, 0, none⟩ (err q)) (by unfold err; go_simp) ?_
  have H33 := Keep.mk (H32.out.set 0 (err q))
  have H23 := Keep.mk (H22.out.set_ne (b' := g3) (j := 0) Hne.out (err q))
  have G3 : Keep (Grown w (w2.setCell ⟨g3, 0, none⟩ (err q)) fun k => k = g2 ∨ k = g3) := ⟨G2.out.trans (Grown.setCell w2 g3 0 _ fun _ => .inr rfl)⟩
  generalize w2.setCell ⟨g3, 0, none⟩ (err q) = w3 at *
  simp only [Act.put]
  refine WL.nil ?_
  exact ⟨rfl, _, rfl, _, results_none rfl _ _ _, rfl, rfl, H23.out, H33.out, G3.out⟩
theorem catch_idle (g2 g3 : Nat) (w : World) :
    CallsD Try.prog 33 #[ptr g2, ptr g3] .returning w fun e u' w' => e = .returned (.tuple #[]) ∧ u' = .returning ∧ w' = w := by
  refine callsD_of_wpS Try.func33 rfl fun c₀ cs hu => ?_
  apply wpS_seq
  apply wpS_region
  simp [wpOpsS, go_sem, recoverD, hu, Try.ntmps33, Exit.thenS]
  apply wpS_seq
  apply wpS_region
  simp [wpOpsS, go_sem, Exit.thenS]
  refine wpS_cond (t := false) (by simp [Act.eval, Array.replicate]) ?_
  simp only [Bool.false_eq_true, if_false]
  refine wpS_of_wp (wp_skip ?_)
  cases c₀
  simp_all [bodyPostS, results, Try.results33]
theorem load_err (w : World) (g : Nat) (x : Value) (h : Blk w g 37 #[x]) : (loadVar 37 ⟨g, 0, none⟩).run Try.prog w = .ok x w := by
  have c0 := h.c 0 rfl
  go_simp
theorem results_cells (tmps : Array Value) (w : World) (g g' : Nat) (cs : Array Value) (x : Value)
    (hp : tmps.getD 2 undef = .pointer (some ⟨g, 0, none⟩)) (hq : tmps.getD 3 undef = .pointer (some ⟨g', 0, none⟩)) (hg : Blk w g 28 cs) (hg' : Blk w g' 37 #[x]) (hi : cs.size = 6) :
    (results Try.f13 tmps).run Try.prog w = .ok (.tuple #[.agg cs, x]) w := by
  have hr := run_loadVar_row (P := Try.prog) w g 28 28 cs (0, 0) _ hg Try.underlying28 rfl (by rw [hi]; exact Try.size28)
  have hx := load_err w g' x hg'
  simp only [results, Try.results13]
  simp only [Array.getD_eq_getD_getElem?] at hp hq
  simp [Result.andThen, asAddr, hp, hq, hr, hx]
theorem below_of_grown {w w3 w4 w5 : World} {p g g3 : Nat} (h1 : Below w.heap.size w w3) (h2 : Grown w3 w4 fun k => k = p) (h3 : Grown w4 w5 fun k => k = g ∨ k = g3) (hp : w.heap.size ≤ p) (hg : w.heap.size ≤ g ∧ w.heap.size ≤ g3) : Below w.heap.size w w5 :=
  ⟨h3.os.trans (h2.os.trans h1.os), h3.tape.trans (h2.tape.trans h1.tape), h3.output.trans (h2.output.trans h1.output), Nat.le_trans h1.size (Nat.le_trans h2.size h3.size), fun k hk =>
    (h3.block k (Nat.lt_of_lt_of_le hk (Nat.le_trans h1.size h2.size)) (fun e => by rcases e with rfl | rfl <;> omega)).trans ((h2.block k (Nat.lt_of_lt_of_le hk h1.size) (fun e => by omega)).trans (h1.block k hk))⟩
theorem DecAt.mono {b0 b1 : Nat} {w : World} {M : MsgV} {c : MC} (h : DecAt b1 w M c) (hb : b0 ≤ b1) : DecAt b0 w M c :=
  ⟨h.k, h.s, h.hd, fun k hk => Nat.le_trans hb (h.hdf k hk), h.bl, fun k hk => Nat.le_trans hb (h.blf k hk), h.wt, fun k hk => Nat.le_trans hb (h.wtf k hk), h.bk.mono hb⟩
def DecPost (l : List Int) (w : World) (e : Ending) (w' : World) : Prop :=
  Below w.heap.size w w' ∧ ((2097152 < l.length ∧ e = .returned (.tuple #[.agg (msA zeroC), .iface 29 (.int .i64 4)]))
  ∨ (l.length ≤ 2097152 ∧ (decM l).1 = 0 ∧ ∃ c, e = .returned (.tuple #[.agg (msA c), .nilIface]) ∧ DecAt w.heap.size w' (decM l).2.2 c)
  ∨ (l.length ≤ 2097152 ∧ (decM l).1 ≠ 0 ∧ ∃ q, w.heap.size ≤ q ∧ e = .returned (.tuple #[.agg (msA zeroC), err q]) ∧ BadAt w' q (decM l).1 (decM l).2.1))
set_option maxRecDepth 8000 in
set_option maxHeartbeats 4000000 in
theorem decode_wide (v : Value) (l : List Int) (w : World) (hr : RowAt w v l) (hB : Byts l) (hln : l.length ≤ 9000000000000000000) : Calls Try.prog 13 #[v] w (DecPost l w) := by
  obtain ⟨va, vc, rfl⟩ := row_form hr
  have HR := Keep.mk hr
  have hmf : ∀ (fn : Fn) (first cap : Array Value) (w : World), (Instr.makeFunc fn first cap).run Try.prog w = .ok (.func fn first cap) w := fun _ _ _ _ => rfl
  have Hlst : Keep (lst (strOfNums l) = l) := ⟨lst_nums hB⟩
  have HSz : Keep ((strOfNums l).size = l.length) := ⟨by rw [← lst_len, lst_nums hB]⟩
  clear hr hB
  go_enter_defers Try.func13, Try.ntmps13
  refine wp_seq_k fun K1 hK1 => ?_
  refine wp_region_list (WL.out ?_)
  refine WL.new (by kernel_rfl) 28 rfl _ Try.new28M ?_
  have HN1 := Keep.mk (Blk.new w 28 (msA zeroC))
  have B1 := Keep.mk (below_new w (.cells (msA zeroC) 28))
  generalize w.alloc (.cells (msA zeroC) 28) = w1 at *
  simp only [Act.put, List.setIfInBounds_toArray, List.set_cons_zero, List.set_cons_succ]
  refine WL.new (by kernel_rfl) 37 rfl _ Try.new37 ?_
  have HN2 := Keep.mk (HN1.out.alloc (.cells #[.nilIface] 37))
  have HE2 := Keep.mk (Blk.new w1 37 #[.nilIface])
  have B2 : Keep (Below w.heap.size w (w1.alloc (.cells #[.nilIface] 37))) := ⟨B1.out.trans ((below_new w1 _).mono B1.out.size)⟩
  have Hg : Keep (w.heap.size < w1.heap.size) := ⟨HN1.out.lt⟩
  generalize w1.alloc (.cells #[.nilIface] 37) = w2 at *
  generalize w1.heap.size = g3 at *
  simp only [Act.put, List.setIfInBounds_toArray, List.set_cons_zero, List.set_cons_succ]
  refine WL.nil ?_
  refine hK1 _ _ ?_
  refine wp_seq_k fun K2 hK2 => ?_
  refine wp_seq_k fun K3 hK3 => ?_
  refine wp_region_list (WL.out ?_)
  refine WL.val (by kernel_rfl) (.slice va l.length vc) (by go_simp) ?_
  simp only [Act.put, List.setIfInBounds_toArray, List.set_cons_zero, List.set_cons_succ]
  refine WL.val (by kernel_rfl) (.int .i64 (l.length : Int)) (by go_simp) ?_
  simp only [Act.put, List.setIfInBounds_toArray, List.set_cons_zero, List.set_cons_succ]
  by_cases h1_2 : 2097152 < l.length
  · have h1_2i : (2097152 : Int) < (l.length : Int) := by omega
    refine WL.val (by kernel_rfl) (.bool true) (by go_simp) ?_
    simp only [Act.put, List.setIfInBounds_toArray, List.set_cons_zero, List.set_cons_succ]
    refine WL.nil ?_
    refine hK3 _ _ ?_
    refine wp_cond_true rfl ?_
    refine wp_seq_k fun K4 hK4 => ?_
    refine wp_region_list (WL.out ?_)
    refine WL.bld (by kernel_rfl) 28 _ rfl [] (by simp) _ ms_built0 ?_
    simp only [Act.put, List.setIfInBounds_toArray, List.set_cons_zero, List.set_cons_succ]
    refine WL.val (by kernel_rfl) (.iface 29 (.int .i64 4)) (by go_simp) ?_
    simp only [Act.put, List.setIfInBounds_toArray, List.set_cons_zero, List.set_cons_succ]
    refine WL.storeR (by kernel_rfl) 28 (.tmp 2) (.tmp 7) rfl w.heap.size (msA zeroC) rfl rfl 28 (msA zeroC) HN2.out (Try.size28B _) rfl SlC.zero.one ?_
    have HN4 := Keep.mk (HN2.out.setRow (msA zeroC))
    have HE4 := Keep.mk (HE2.out.setRow_ne (b' := w.heap.size) (by have := Hg.out; omega) (msA zeroC))
    have B4 : Keep (Below w.heap.size w (w2.setRow w.heap.size (msA zeroC))) := ⟨below_setRow B2.out (Nat.le_refl _) _⟩
    generalize w2.setRow w.heap.size (msA zeroC) = w4 at *
    have c0 := HE4.out.c 0 rfl
    have f0 := HE4.out.frozen 0
    simp only [Act.put]
    refine WL.cell (by kernel_rfl) (w4.setCell ⟨g3, 0, none⟩ (.iface 29 (.int .i64 4))) (by go_simp) ?_
    have HE5 := Keep.mk (HE4.out.set 0 (.iface 29 (.int .i64 4)))
    have HN5 := Keep.mk (HN4.out.set_ne (b' := g3) (j := 0) (by have := Hg.out; omega) (.iface 29 (.int .i64 4)))
    have B5 : Keep (Below w.heap.size w (w4.setCell ⟨g3, 0, none⟩ (.iface 29 (.int .i64 4)))) := ⟨B4.out.setCell (by show w.heap.size ≤ g3; have := Hg.out; omega) _⟩
    generalize w4.setCell ⟨g3, 0, none⟩ (.iface 29 (.int .i64 4)) = w5 at *
    simp only [Act.put]
    refine WL.nil ?_
    refine hK4 _ _ ?_
    refine wp_ret ?_
    try simp only [Exit.inBlock, Exit.then]
    refine ⟨.tuple #[.agg (msA zeroC), .iface 29 (.int .i64 4)], results_cells _ _ w.heap.size g3 _ _ rfl rfl HN5.out HE5.out rfl, ?_⟩
    exact ⟨B5.out, .inl ⟨h1_2, rfl⟩⟩
  · have h1_2i : ¬ (2097152 : Int) < (l.length : Int) := by omega
    refine WL.val (by kernel_rfl) (.bool false) (by go_simp) ?_
    simp only [Act.put, List.setIfInBounds_toArray, List.set_cons_zero, List.set_cons_succ]
    refine WL.nil ?_
    refine hK3 _ _ ?_
    refine wp_cond_false rfl ?_
    refine wp_skip ?_
    refine hK2 _ _ ?_
    refine wp_seq_k fun K5 hK5 => ?_
    have HNl : Keep (¬ 2097152 < l.length) := ⟨h1_2⟩
    have HS : Keep ((strOfNums l).size ≤ 140737488355328) := ⟨by rw [HSz.out]; omega⟩
    refine wp_region_list (WL.out ?_)
    refine WL.val (by kernel_rfl) (.func (.func 33) #[] #[.pointer (some ⟨w.heap.size, 0, none⟩), .pointer (some ⟨g3, 0, none⟩)]) (by go_simp) ?_
    simp only [Act.put, List.setIfInBounds_toArray, List.set_cons_zero, List.set_cons_succ]
    refine WL.defer (by kernel_rfl) { target := .fn (.func 33) #[.pointer (some ⟨w.heap.size, 0, none⟩), .pointer (some ⟨g3, 0, none⟩)], args := #[] } (by go_simp) ?_
    simp only [Act.put]
    refine WL.nil ?_
    refine hK5 _ _ ?_
    refine wp_seq_k fun K6 hK6 => ?_
    refine wp_region_list (WL.out ?_)
    refine WL.val (by kernel_rfl) (.slice va l.length vc) (by go_simp) ?_
    simp only [Act.put, List.setIfInBounds_toArray, List.set_cons_zero, List.set_cons_succ]
    refine WL.callF (by kernel_rfl) 36 _ _ rfl Try.in36 #[.slice va l.length vc] (by simp [Act.eval]) ?_
    refine (newIn_any _ l w2 (HR.out.below B2.out)).mono ?_
    rintro e w4 ⟨rfl, hw4⟩
    refine ⟨_, rfl, ?_⟩
    rw [hw4]
    clear hw4 w4
    have HI3 : Keep (InAt (w2.alloc (.cells #[.string (strOfNums l), .int .i64 0, .pointer none] 118)) w2.heap.size (strOfNums l) 0 none) := ⟨Blk.new w2 118 _, Nat.zero_le _⟩
    have HN3 := Keep.mk (HN2.out.alloc (.cells #[.string (strOfNums l), .int .i64 0, .pointer none] 118))
    have HE3 := Keep.mk (HE2.out.alloc (.cells #[.string (strOfNums l), .int .i64 0, .pointer none] 118))
    have B3 : Keep (Below w.heap.size w (w2.alloc (.cells #[.string (strOfNums l), .int .i64 0, .pointer none] 118))) := ⟨B2.out.trans ((below_new w2 _).mono B2.out.size)⟩
    have Hp : Keep (g3 < w2.heap.size) := ⟨HE2.out.lt⟩
    generalize w2.alloc (.cells #[.string (strOfNums l), .int .i64 0, .pointer none] 118) = w3 at *
    generalize w2.heap.size = p at *
    simp only [Act.put, List.setIfInBounds_toArray, List.set_cons_zero, List.set_cons_succ]
    refine WL.callP (by kernel_rfl) 35 _ _ rfl Try.in35 #[ptr p] (by simp [Act.eval]) ?_
    refine (readMessage_any p (strOfNums l) w3 HI3.out HS.out).mono ?_
    rw [Hlst.out]
    rintro e w4 (⟨e1, c, rfl, h2, h8⟩ | hgv)
    rotate_left
    · have hne := hgv.1
      obtain ⟨q, hq, rfl, hbad, hgr⟩ := hgv.2
      refine .inr ⟨_, rfl, ?_⟩
      try simp only [Exit.inBlock, Exit.then]
      refine leaves_cons (f := 33) (args := #[ptr w.heap.size, ptr g3]) (by simp) (by simp [go_sem, ptr]) ?_
      refine (catch_panicking w.heap.size g3 q (msA zeroC) w4 (hgr.blk HN3.out (blk_ne HN3.out HI3.out.blk (by decide))) rfl (hgr.blk HE3.out (blk_ne HE3.out HI3.out.blk (by decide)))).mono ?_
      rintro e u' w5 ⟨rfl, rfl, i2, i3, i4⟩
      simp only [settle, List.dropWhile]
      refine ⟨.tuple #[.agg (msA zeroC), err q], results_cells _ _ w.heap.size g3 _ _ rfl rfl i2 i3 rfl, ?_⟩
      have hbl : Below w.heap.size w w5 := below_of_grown B3.out hgr i4 (by have := B3.out.size; have := Hp.out; have := Hg.out; omega) (by have := Hg.out; omega)
      refine ⟨hbl, .inr (.inr ⟨by have := HNl.out; omega, hne, q, Nat.le_trans B3.out.size hq, rfl, ?_⟩)⟩
      exact i4.blk hbad (fun e => by rcases e with rfl | rfl; exact (blk_ne hbad (hgr.blk HN3.out (blk_ne HN3.out HI3.out.blk (by decide))) (by decide)) rfl; exact (blk_ne hbad (hgr.blk HE3.out (blk_ne HE3.out HI3.out.blk (by decide))) (by decide)) rfl)
    refine .inl ⟨_, rfl, ?_⟩
    have HE1 := Keep.mk e1
    have HN4 := Keep.mk (h8.blk HN3.out (blk_ne HN3.out HI3.out.blk (by decide)))
    have HE4 := Keep.mk (h8.blk HE3.out (blk_ne HE3.out HI3.out.blk (by decide)))
    have HD4 := Keep.mk h2
    have HG4 := Keep.mk h8
    clear h2 h8 e1
    simp only [Act.put, List.setIfInBounds_toArray, List.set_cons_zero, List.set_cons_succ]
    refine WL.storeR (by kernel_rfl) 28 (.tmp 2) (.tmp 12) rfl w.heap.size (msA c) rfl rfl 28 (msA zeroC) HN4.out (Try.size28B _) rfl (SlC.one HD4.out.ms.sl) ?_
    have HN5 := Keep.mk (HN4.out.setRow (msA c))
    have HE5 := Keep.mk (HE4.out.setRow_ne (b' := w.heap.size) (by have := Hg.out; omega) (msA c))
    have Gs : Grown w4 (w4.setRow w.heap.size (msA c)) fun k => k = w.heap.size ∨ k = g3 := Grown.setRow w4 w.heap.size _ fun _ => .inl rfl
    have HD5 := Keep.mk (HD4.out.grown Gs (fun k hk e => by rcases e with rfl | rfl; exact (typ_ne HN4.out hk (by decide) (by decide) (by decide)) rfl; exact (typ_ne HE4.out hk (by decide) (by decide) (by decide)) rfl))
    have GG := Keep.mk Gs
    generalize w4.setRow w.heap.size (msA c) = w5 at *
    have c0 := HE5.out.c 0 rfl
    have f0 := HE5.out.frozen 0
    clear Gs
    simp only [Act.put]
    refine WL.cell (by kernel_rfl) (w5.setCell ⟨g3, 0, none⟩ .nilIface) (by go_simp) ?_
    have HE6 := Keep.mk (HE5.out.set 0 .nilIface)
    have HN6 := Keep.mk (HN5.out.set_ne (b' := g3) (j := 0) (by have := Hg.out; omega) .nilIface)
    have Gs : Grown w5 (w5.setCell ⟨g3, 0, none⟩ .nilIface) fun k => k = w.heap.size ∨ k = g3 := Grown.setCell w5 g3 0 _ fun _ => .inr rfl
    have HD6 := Keep.mk (HD5.out.grown Gs (fun k hk e => by rcases e with rfl | rfl; exact (typ_ne HN5.out hk (by decide) (by decide) (by decide)) rfl; exact (typ_ne HE5.out hk (by decide) (by decide) (by decide)) rfl))
    have GG2 := Keep.mk (GG.out.trans Gs)
    generalize w5.setCell ⟨g3, 0, none⟩ .nilIface = w6 at *
    simp only [Act.put]
    refine WL.nil ?_
    refine hK6 _ _ ?_
    refine wp_ret ?_
    try simp only [Exit.inBlock, Exit.then]
    refine leaves_cons (f := 33) (args := #[ptr w.heap.size, ptr g3]) (by simp) (by simp [go_sem, ptr]) ?_
    refine (catch_idle w.heap.size g3 _).mono ?_
    rintro e u' w7 ⟨rfl, rfl, rfl⟩
    simp only [settle]
    refine ⟨.tuple #[.agg (msA c), .nilIface], results_cells _ _ w.heap.size g3 _ _ rfl rfl HN6.out HE6.out rfl, ?_⟩
    have hbl : Below w.heap.size w w7 := below_of_grown B3.out HG4.out GG2.out (by have := B3.out.size; have := Hp.out; have := Hg.out; omega) (by have := Hg.out; omega)
    exact ⟨hbl, .inr (.inl ⟨by have := HNl.out; omega, HE1.out, c, rfl, HD6.out.mono B3.out.size⟩)⟩
theorem decode_any (v : Value) (l : List Int) (w : World) (hr : RowAt w v l) (hB : Byts l) (hln : l.length ≤ 140737488355328) : Calls Try.prog 13 #[v] w (DecPost l w) := decode_wide v l w hr hB (by omega)
def mA : MsgV := ⟨3, [], 0, [], [], [[1], [2, 3]]⟩
theorem mA_chk : chkM mA = 0 := by decide
theorem mA_enc : encM mA = [3, 2, 1, 1, 2, 2, 3] := by decide
theorem mA_str : strOfNums [3, 2, 1, 1, 2, 2, 3] = { data := #[3, 2, 1, 1, 2, 2, 3] } := by kernel_rfl
theorem mB_dec : decM [2, 0] = (0, 2, { zeroM with k := 2 }) := by kernel_rfl
theorem byB : Byts [2, 0] := fun c hc => by simp at hc; omega
theorem mA_built (a : Option Addr) (n c : Nat) : Try.prog.built 28 [(0, .int .i64 3), (5, .slice a n c)] = some (msA ⟨3, noS, 0, noS, noS, .slice a n c⟩) := by kernel_rfl
theorem bsA1 (w : World) : (Instr.buildSlice 25 1 #[(0, .int .u8 1)]).run Try.prog w = .ok (.slice (some ⟨w.heap.size, 0, none⟩) 1 1) (w.alloc (.cells (bv [1]).toArray 5)) := by kernel_rfl
theorem bsA2 (w : World) : (Instr.buildSlice 25 2 #[(0, .int .u8 2), (1, .int .u8 3)]).run Try.prog w = .ok (.slice (some ⟨w.heap.size, 0, none⟩) 2 2) (w.alloc (.cells (bv [2, 3]).toArray 5)) := by kernel_rfl
theorem bsA3 (w : World) : (Instr.buildSlice 25 2 #[(0, .int .u8 2), (1, .int .u8 0)]).run Try.prog w = .ok (.slice (some ⟨w.heap.size, 0, none⟩) 2 2) (w.alloc (.cells (bv [2, 0]).toArray 5)) := by kernel_rfl
theorem bsA4 (a b : Option Addr) (n m c d : Nat) (w : World) : (Instr.buildSlice 26 2 #[(0, .slice a n c), (1, .slice b m d)]).run Try.prog w = .ok (.slice (some ⟨w.heap.size, 0, none⟩) 2 2) (w.alloc (.cells #[.slice a n c, .slice b m d] 25)) := by kernel_rfl
theorem row_of {w : World} {g : Nat} {T : TypeId} {l : List Int} {n : Nat} (h : Blk w g T (bv l).toArray) (hn : n = l.length) : RowAt w (.slice (some ⟨g, 0, none⟩) n n) l := by
  subst hn
  refine .inr (.inr ⟨g, 0, l.length, rfl, Nat.le_refl _, fun i hi => ?_⟩)
  rw [Nat.zero_add, h.cell, List.getElem?_toArray]
  exact bv_get l i hi
theorem rws_two {w : World} {g : Nat} {va vb : Value} {la lb : List Int} (h : Blk w g 25 #[va, vb]) (ha : RowAt w va la) (hb : RowAt w vb lb) : RwsAt w (.slice (some ⟨g, 0, none⟩) 2 2) [la, lb] := by
  refine ⟨fun i => if i = 0 then va else vb, .inr ⟨g, 0, 2, rfl, Nat.le_refl _, fun i hi => ?_⟩, fun i hi => ?_⟩
  · have : i = 0 ∨ i = 1 := by simp at hi; omega
    rcases this with rfl | rfl
    · rw [h.cell]; rfl
    · rw [h.cell]; rfl
  · have : i = 0 ∨ i = 1 := by simp at hi; omega
    rcases this with rfl | rfl
    · exact ha
    · exact hb
theorem hrow_nil (w : World) : Sh.HRow w noS [] := OwnH.row (show OwnH w noS [] from ⟨rfl, .inl ⟨rfl, rfl⟩⟩)
theorem mA_ok : MsOk mA where
  k := by decide
  s := by decide
  hd := by decide
  bl := by decide
  wt := by decide
  bk := by decide
  blB := fun c hc => by simp [mA] at hc
  rows := fun i hi => by
    have : i = 0 ∨ i = 1 := by simp [mA] at hi; omega
    rcases this with rfl | rfl <;> decide
  bkB := fun r hr c hc => by
    simp [mA] at hr
    rcases hr with rfl | rfl <;> simp at hc <;> omega
theorem Try.in9 (w : World) (vs : Array Value) : (callFunc 9 vs).run Try.prog w = .ok (.enter 9 vs) w := by kernel_rfl
set_option maxRecDepth 8000 in
set_option maxHeartbeats 2000000 in
theorem fixed_any (w : World) : Calls Try.prog 9 #[] w fun e w' => e = .returned (.bool true) ∧ Below w.heap.size w w' := by
  go_enter Try.func9, Try.ntmps9
  refine wp_seq_k fun K1 hK1 => ?_
  refine wp_region_list (WL.out ?_)
  refine WL.val (by kernel_rfl) (.bool false) (by go_simp) ?_
  simp only [Act.put, List.setIfInBounds_toArray, List.set_cons_zero, List.set_cons_succ]
  refine WL.nil ?_
  refine hK1 _ _ ?_
  refine wp_seq_k fun K2 hK2 => ?_
  refine wp_region_list (WL.out ?_)
  refine WL.bs (by kernel_rfl) 25 1 _ rfl _ (by simp [Act.eval]) _ _ (bsA1 w) ?_
  have HRw1 := Keep.mk (row_of (Blk.new w 5 (bv [1]).toArray) (n := 1) rfl)
  have Bzw1 : Keep (Below w.heap.size w (w.alloc (.cells (bv [1]).toArray 5))) := ⟨below_new w _⟩
  generalize w.alloc (.cells (bv [1]).toArray 5) = w1 at *
  generalize w.heap.size = gw1 at HRw1 ⊢
  simp only [Act.put, List.setIfInBounds_toArray, List.set_cons_zero, List.set_cons_succ]
  refine WL.bs (by kernel_rfl) 25 2 _ rfl _ (by simp [Act.eval]) _ _ (bsA2 w1) ?_
  have HRw2 := Keep.mk (row_of (Blk.new w1 5 (bv [2, 3]).toArray) (n := 2) rfl)
  have Bzw2 : Keep (Below w1.heap.size w1 (w1.alloc (.cells (bv [2, 3]).toArray 5))) := ⟨below_new w1 _⟩
  generalize w1.alloc (.cells (bv [2, 3]).toArray 5) = w2 at *
  generalize w1.heap.size = gw2 at HRw2 ⊢
  simp only [Act.put, List.setIfInBounds_toArray, List.set_cons_zero, List.set_cons_succ]
  refine WL.bs (by kernel_rfl) 26 2 _ rfl _ (by simp [Act.eval]) _ _ (bsA4 (some ⟨gw1, 0, none⟩) (some ⟨gw2, 0, none⟩) 1 2 1 2 w2) ?_
  have HK3 := Keep.mk (Blk.new w2 25 #[.slice (some ⟨gw1, 0, none⟩) 1 1, .slice (some ⟨gw2, 0, none⟩) 2 2])
  have Bz3 : Keep (Below w2.heap.size w2 (w2.alloc (.cells #[.slice (some ⟨gw1, 0, none⟩) 1 1, .slice (some ⟨gw2, 0, none⟩) 2 2] 25))) := ⟨below_new w2 _⟩
  have B3 : Keep (Below w.heap.size w (w2.alloc (.cells #[.slice (some ⟨gw1, 0, none⟩) 1 1, .slice (some ⟨gw2, 0, none⟩) 2 2] 25))) := ⟨(Bzw1.out.trans ((Bzw2.out).mono Bzw1.out.size)).trans (Bz3.out.mono (Nat.le_trans Bzw1.out.size Bzw2.out.size))⟩
  have HW3 : Keep (RwsAt (w2.alloc (.cells #[.slice (some ⟨gw1, 0, none⟩) 1 1, .slice (some ⟨gw2, 0, none⟩) 2 2] 25)) (.slice (some ⟨w2.heap.size, 0, none⟩) 2 2) [[1], [2, 3]]) := ⟨rws_two HK3.out ((HRw1.out.below Bzw2.out).below Bz3.out) (HRw2.out.below Bz3.out)⟩
  generalize w2.alloc (.cells #[.slice (some ⟨gw1, 0, none⟩) 1 1, .slice (some ⟨gw2, 0, none⟩) 2 2] 25) = w3 at *
  generalize w2.heap.size = g3 at HW3 ⊢
  clear HK3 Bz3 HRw1 HRw2 Bzw1 Bzw2
  simp only [Act.put, List.setIfInBounds_toArray, List.set_cons_zero, List.set_cons_succ]
  refine WL.bld (by kernel_rfl) 28 _ rfl [(0, .int .i64 3), (5, .slice (some ⟨g3, 0, none⟩) 2 2)] (by simp [Act.eval]) _ (mA_built _ _ _) ?_
  simp only [Act.put, List.setIfInBounds_toArray, List.set_cons_zero, List.set_cons_succ]
  refine WL.callF (by kernel_rfl) 11 _ _ rfl Try.in11 #[.agg (msA ⟨3, noS, 0, noS, noS, .slice (some ⟨g3, 0, none⟩) 2 2⟩)] (by simp [Act.eval]) ?_
  refine (encode_any mA ⟨3, noS, 0, noS, noS, .slice (some ⟨g3, 0, none⟩) 2 2⟩ w3 ⟨rfl, rfl, hrow_nil _, .inl ⟨rfl, rfl⟩, hrow_nil _, HW3.out⟩ mA_ok).mono ?_
  rintro e w4 ⟨v, rfl, hv, hb4⟩
  refine ⟨_, rfl, ?_⟩
  rw [mA_chk, mA_enc] at hv
  obtain ⟨ga, hga, _, hbl⟩ : FreshB w3 w4 v [3, 2, 1, 1, 2, 2, 3] := by
    rcases hv with h | h
    · exact h.2
    · exact absurd rfl h.1
  subst hga
  rw [mA_chk]
  have HA4 := Keep.mk (row_of hbl (n := 7) rfl)
  have B4 : Keep (Below w.heap.size w w4) := ⟨B3.out.trans (hb4.mono B3.out.size)⟩
  clear hv hbl hb4 HW3
  simp only [Act.put, List.setIfInBounds_toArray, List.set_cons_zero, List.set_cons_succ]
  refine WL.val (by kernel_rfl) (.tuple #[.slice (some ⟨ga, 0, none⟩) 7 7, .int .i64 0]) (by go_simp) ?_
  simp only [Act.put, List.setIfInBounds_toArray, List.set_cons_zero, List.set_cons_succ]
  refine WL.val (by kernel_rfl) (.slice (some ⟨ga, 0, none⟩) 7 7) (by go_simp) ?_
  simp only [Act.put, List.setIfInBounds_toArray, List.set_cons_zero, List.set_cons_succ]
  refine WL.val (by kernel_rfl) (.int .i64 0) (by go_simp) ?_
  simp only [Act.put, List.setIfInBounds_toArray, List.set_cons_zero, List.set_cons_succ]
  refine WL.val (by kernel_rfl) (.slice (some ⟨ga, 0, none⟩) 7 7) (by go_simp) ?_
  simp only [Act.put, List.setIfInBounds_toArray, List.set_cons_zero, List.set_cons_succ]
  refine WL.val (by kernel_rfl) (.int .i64 0) (by go_simp) ?_
  simp only [Act.put, List.setIfInBounds_toArray, List.set_cons_zero, List.set_cons_succ]
  refine WL.nil ?_
  refine hK2 _ _ ?_
  refine wp_seq_k fun K3 hK3 => ?_
  refine wp_region_list (WL.out ?_)
  refine WL.bs (by kernel_rfl) 25 2 _ rfl _ (by simp [Act.eval]) _ _ (bsA3 w4) ?_
  have HRw5 := Keep.mk (row_of (Blk.new w4 5 (bv [2, 0]).toArray) (n := 2) rfl)
  have Bzw5 : Keep (Below w4.heap.size w4 (w4.alloc (.cells (bv [2, 0]).toArray 5))) := ⟨below_new w4 _⟩
  generalize w4.alloc (.cells (bv [2, 0]).toArray 5) = w5 at *
  generalize w4.heap.size = gw5 at HRw5 ⊢
  have HA5 := Keep.mk (HA4.out.below Bzw5.out)
  have B5 : Keep (Below w.heap.size w w5) := ⟨B4.out.trans (Bzw5.out.mono B4.out.size)⟩
  simp only [Act.put, List.setIfInBounds_toArray, List.set_cons_zero, List.set_cons_succ]
  refine WL.callF (by kernel_rfl) 13 _ _ rfl Try.in13 #[.slice (some ⟨gw5, 0, none⟩) 2 2] (by simp [Act.eval]) ?_
  refine (decode_any _ [2, 0] w5 HRw5.out byB (by decide)).mono ?_
  rintro e w6 ⟨hb6, h1⟩
  rw [mB_dec] at h1
  obtain ⟨c, rfl, hD⟩ : ∃ c, e = .returned (.tuple #[.agg (msA c), .nilIface]) ∧ DecAt w5.heap.size w6 { zeroM with k := 2 } c := by
    rcases h1 with h | h | h
    · exact absurd h.1 (by decide)
    · exact h.2.2
    · exact absurd rfl h.2.1
  refine ⟨_, rfl, ?_⟩
  have Hck : Keep (c.k = 2) := ⟨hD.k⟩
  have Hsl := Keep.mk hD.ms.sl
  have HA6 := Keep.mk (HA5.out.below hb6)
  have B6 : Keep (Below w.heap.size w w6) := ⟨B5.out.trans (hb6.mono B5.out.size)⟩
  clear h1 hD hb6
  simp only [Act.put, List.setIfInBounds_toArray, List.set_cons_zero, List.set_cons_succ]
  refine WL.val (by kernel_rfl) (.tuple #[.agg (msA c), .nilIface]) (by go_simp) ?_
  simp only [Act.put, List.setIfInBounds_toArray, List.set_cons_zero, List.set_cons_succ]
  refine WL.val (by kernel_rfl) (.agg (msA c)) (by go_simp) ?_
  simp only [Act.put, List.setIfInBounds_toArray, List.set_cons_zero, List.set_cons_succ]
  refine WL.val (by kernel_rfl) (.nilIface) (by go_simp) ?_
  simp only [Act.put, List.setIfInBounds_toArray, List.set_cons_zero, List.set_cons_succ]
  refine WL.new (by kernel_rfl) 28 rfl _ Try.new28M ?_
  have HM7 := Keep.mk (Blk.new w6 28 (msA zeroC))
  have HA7 := Keep.mk (HA6.out.below (below_new w6 (.cells (msA zeroC) 28)))
  have B7 : Keep (Below w.heap.size w (w6.alloc (.cells (msA zeroC) 28))) := ⟨B6.out.trans ((below_new w6 _).mono B6.out.size)⟩
  have Hg7 : Keep (w.heap.size ≤ w6.heap.size ∧ ga < w6.heap.size) := ⟨B6.out.size, row_lt HA6.out (by decide) rfl⟩
  generalize w6.alloc (.cells (msA zeroC) 28) = w7 at *
  generalize w6.heap.size = g7 at *
  simp only [Act.put, List.setIfInBounds_toArray, List.set_cons_zero, List.set_cons_succ]
  refine WL.storeR (by kernel_rfl) 28 (.tmp 3) (.tmp 16) rfl g7 (msA c) rfl rfl 28 (msA zeroC) HM7.out (Try.size28B _) rfl Hsl.out.one ?_
  have HM8 := Keep.mk (HM7.out.setRow (msA c))
  have HA8 := Keep.mk (HA7.out.grown (Grown.setRow w7 g7 (msA c) (S := fun k => k = g7) fun _ => rfl) (fun b hb hl e => by have h := Hg7.out; simp [Value.ownBlock] at hb; omega))
  have B8 : Keep (Below w.heap.size w (w7.setRow g7 (msA c))) := ⟨below_setRow B7.out Hg7.out.1 _⟩
  generalize w7.setRow g7 (msA c) = w8 at *
  have d0 := HM8.out.c 0 (ms_0 c)
  rw [Hck.out] at d0
  have hcv := conv_row _ _ w8 HA8.out
  rw [mA_str] at hcv
  simp only [Act.put]
  refine WL.val (by kernel_rfl) (.nilIface) (by go_simp) ?_
  simp only [Act.put, List.setIfInBounds_toArray, List.set_cons_zero, List.set_cons_succ]
  refine WL.nil ?_
  refine hK3 _ _ ?_
  refine wp_seq_k fun K4 hK4 => ?_
  refine wp_region_list (WL.out ?_)
  refine WL.val (by kernel_rfl) (.int .i64 0) (by go_simp) ?_
  simp only [Act.put, List.setIfInBounds_toArray, List.set_cons_zero, List.set_cons_succ]
  refine WL.val (by kernel_rfl) (.bool true) (by go_simp) ?_
  simp only [Act.put, List.setIfInBounds_toArray, List.set_cons_zero, List.set_cons_succ]
  refine WL.val (by kernel_rfl) (.bool true) (by go_simp) ?_
  simp only [Act.put, List.setIfInBounds_toArray, List.set_cons_zero, List.set_cons_succ]
  refine WL.val (by kernel_rfl) (.slice (some ⟨ga, 0, none⟩) 7 7) (by go_simp) ?_
  simp only [Act.put, List.setIfInBounds_toArray, List.set_cons_zero, List.set_cons_succ]
  refine WL.val (by kernel_rfl) (.string { data := #[3, 2, 1, 1, 2, 2, 3] }) (by go_simp) ?_
  simp only [Act.put, List.setIfInBounds_toArray, List.set_cons_zero, List.set_cons_succ]
  refine WL.val (by kernel_rfl) (.bool true) (by go_simp) ?_
  simp only [Act.put, List.setIfInBounds_toArray, List.set_cons_zero, List.set_cons_succ]
  refine WL.val (by kernel_rfl) (.bool true) (by go_simp) ?_
  simp only [Act.put, List.setIfInBounds_toArray, List.set_cons_zero, List.set_cons_succ]
  refine WL.val (by kernel_rfl) (.bool true) (by go_simp) ?_
  simp only [Act.put, List.setIfInBounds_toArray, List.set_cons_zero, List.set_cons_succ]
  refine WL.val (by kernel_rfl) (.nilIface) (by go_simp) ?_
  simp only [Act.put, List.setIfInBounds_toArray, List.set_cons_zero, List.set_cons_succ]
  refine WL.val (by kernel_rfl) (.bool true) (by go_simp) ?_
  simp only [Act.put, List.setIfInBounds_toArray, List.set_cons_zero, List.set_cons_succ]
  refine WL.val (by kernel_rfl) (.bool true) (by go_simp) ?_
  simp only [Act.put, List.setIfInBounds_toArray, List.set_cons_zero, List.set_cons_succ]
  refine WL.val (by kernel_rfl) (.bool true) (by go_simp) ?_
  simp only [Act.put, List.setIfInBounds_toArray, List.set_cons_zero, List.set_cons_succ]
  refine WL.val (by kernel_rfl) (.pointer (some ⟨g7, 0, none⟩)) (by go_simp) ?_
  simp only [Act.put, List.setIfInBounds_toArray, List.set_cons_zero, List.set_cons_succ]
  refine WL.val (by kernel_rfl) (.int .i64 2) (by go_simp) ?_
  simp only [Act.put, List.setIfInBounds_toArray, List.set_cons_zero, List.set_cons_succ]
  refine WL.val (by kernel_rfl) (.bool true) (by go_simp) ?_
  simp only [Act.put, List.setIfInBounds_toArray, List.set_cons_zero, List.set_cons_succ]
  refine WL.val (by kernel_rfl) (.bool true) (by go_simp) ?_
  simp only [Act.put, List.setIfInBounds_toArray, List.set_cons_zero, List.set_cons_succ]
  refine WL.val (by kernel_rfl) (.bool true) (by go_simp) ?_
  simp only [Act.put, List.setIfInBounds_toArray, List.set_cons_zero, List.set_cons_succ]
  refine WL.nil ?_
  refine hK4 _ _ ?_
  refine wp_ret ?_
  go_ret
  exact ⟨rfl, B8.out⟩


def setF (i : Nat) (Y M : MsgV) : MsgV := if i = 0 then { M with hd := Y.hd } else if i = 1 then { M with sa := Y.sa } else if i = 2 then { M with bl := Y.bl } else if i = 3 then { M with wt := Y.wt } else { M with bk := Y.bk }
theorem fit_le : ∀ (rs : List (List Int)) (i a : Nat), fitG rs i a ≤ i + rs.length
  | [], i, a => Nat.le_refl _
  | r :: rs, i, a => by
    rw [fitG, List.length_cons]
    split
    · omega
    · have := fit_le rs (i + 1) (a + (bform r).length)
      omega
theorem fit_ge : ∀ (rs : List (List Int)) (i a : Nat), i ≤ fitG rs i a
  | [], i, a => Nat.le_refl _
  | r :: rs, i, a => by
    rw [fitG]
    split
    · omega
    · have := fit_ge rs (i + 1) (a + (bform r).length)
      omega
theorem five {i : Nat} (h : i < 5) : i = 0 ∨ i = 1 ∨ i = 2 ∨ i = 3 ∨ i = 4 := by omega
theorem set_ne (i j : Nat) (Y Z M : MsgV) (hi : i < 5) (hj : j < 5) (h : j ≠ i) : setF j (setF i Y Z) M = setF j Z M := by
  rcases five hi with rfl | rfl | rfl | rfl | rfl <;> rcases five hj with rfl | rfl | rfl | rfl | rfl <;> first | rfl | exact absurd rfl h
end Go.Proofs.Ytlogkojhcccogaa
