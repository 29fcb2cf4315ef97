import Derived.Test.YtbkboebinhafhaaOpP
namespace Go.Proofs.Ytbkboebinhafhaa
open Go.RowKit
set_option linter.unusedSimpArgs false

def getFs (L : List Int) (ah : List OpV) : List Nat → OpV → Nat → Int × Nat × OpV
  | [], x, a => (0, a, x)
  | i :: is, x, a => if (getF L ah i x a).1 = 0 then getFs L ah is (getF L ah i x a).2.2 (getF L ah i x a).2.1 else getF L ah i x a
/-- An operation, read from byte a on, behind those ahead. -/
def getO (L : List Int) (ah : List OpV) (a : Nat) : Int × Nat × OpV :=
  if nextW (L.drop a) 1 ≠ 0 then (nextW (L.drop a) 1, a + nextN (L.drop a) 1, zeroOp)
  else if hasI ((L.drop a).getD 0 0) = [] then (40, a, zeroOp)
  else getFs L ah (hasI ((L.drop a).getD 0 0)) { zeroOp with kind := (L.drop a).getD 0 0 } (a + 1)
def OnePost (p : Nat) (s : ByteArray) (R : Int × Nat × OpV) (w : World) (e : Ending) (w' : World) : Prop :=
  ∃ x er, e = .returned (.tuple #[.agg (opA x), er]) ∧ (Grown w w' fun k => k = p) ∧
    ((R.1 = 0 ∧ x = R.2.2 ∧ er = .nilIface ∧ InAt w' p s R.2.1 none ∧ OpOk R.2.2) ∨ (R.1 ≠ 0 ∧ ∃ q, w.heap.size ≤ q ∧ er = err q ∧ BadAt w' q R.1 R.2.1))
theorem zero_ok : OpOk zeroOp := ⟨z32_len, z32_byts, by decide, by decide, by decide, by decide, by decide, by decide, by decide, by decide⟩
theorem zero_built (k : Int) : Try.prog.built 33 [(0, .int .i64 k)] = some (opA { zeroOp with kind := k }) := by kernel_rfl
theorem getFs_step (L : List Int) (ah : List OpV) (is : List Nat) (t : Nat) (ht : t < is.length) (x : OpV) (a : Nat) : getFs L ah (is.drop t) x a = if (getF L ah (is.getD t 0) x a).1 = 0 then getFs L ah (is.drop (t + 1)) (getF L ah (is.getD t 0) x a).2.2 (getF L ah (is.getD t 0) x a).2.1 else getF L ah (is.getD t 0) x a := by
  rw [List.drop_eq_getElem_cons ht, getFs]
  rw [show is.getD t 0 = is[t] by simp [List.getD_eq_getElem?_getD, ht]]
set_option maxRecDepth 8000 in
set_option maxHeartbeats 4000000 in
theorem getOne_any (p m : Nat) (s : ByteArray) (a : Nat) (vA : Value) (ah : List OpV) (w : World) (hI : InAt w p s a none) (hb : s.size ≤ 140737488355328) (hT : TabAt w m)
    (hA : ∀ wx, (Grown w wx fun k => k = p) → OpsAt wx vA ah) (hal : ah.length ≤ 1024) :
    Calls Try.prog 47 #[ptr p, .map (some m), vA] w (OnePost p s (getO (lst s) ah a) w) := by
  have HI := Keep.mk hI
  have HT := Keep.mk hT
  have Hb := Keep.mk hb
  have HA := Keep.mk hA
  have Hal := Keep.mk hal
  obtain ⟨R, hR⟩ : ∃ R, R = getO (lst s) ah a := ⟨_, rfl⟩
  rw [← hR]
  unfold getO at hR
  obtain ⟨D, hD⟩ : ∃ D, Keep (D = (lst s).drop a) := ⟨_, ⟨rfl⟩⟩
  obtain ⟨W, hW⟩ : ∃ W, Keep (W = nextW D 1) := ⟨_, ⟨rfl⟩⟩
  obtain ⟨N, hN⟩ : ∃ N, Keep (N = nextN D 1) := ⟨_, ⟨rfl⟩⟩
  obtain ⟨c, hc⟩ : ∃ c, Keep (c = if W = 0 then D.getD 0 0 else 0) := ⟨_, ⟨rfl⟩⟩
  rw [← hD.out, ← hW.out, ← hN.out] at hR
  have HcD : Keep (W = 0 → D.getD 0 0 = c) := ⟨fun h => by rw [hc.out, if_pos h]⟩
  have HR := Keep.mk hR
  clear hI hb hT hA hal hR
  go_enter Try.func47, Try.ntmps47
  refine wp_seq_k fun K1 hK1 => ?_
  refine wp_region_list (WL.out ?_)
  refine WL.new (by kernel_rfl) 33 rfl _ Try.new33 ?_
  have HZ0 := Keep.mk (Blk.new w 33 (opA zeroOp))
  have HG0 : Keep (Grown w (w.alloc (.cells (opA zeroOp) 33)) fun k => k = p) := ⟨Grown.alloc w _ _⟩
  have HI0 : Keep (InAt (w.alloc (.cells (opA zeroOp) 33)) p s a none) := ⟨HI.out.box _⟩
  have HT0 := Keep.mk (HT.out.below (below_new w (.cells (opA zeroOp) 33)))
  obtain ⟨gz, hgz⟩ : ∃ gz, Keep (gz = w.heap.size) := ⟨_, ⟨rfl⟩⟩
  have Hgz : Keep (w.heap.size ≤ gz) := ⟨Nat.le_of_eq hgz.out.symm⟩
  rw [← hgz.out] at HZ0 ⊢
  generalize w.alloc (.cells (opA zeroOp) 33) = w0 at *
  simp only [Act.put, List.setIfInBounds_toArray, List.set_cons_zero, List.set_cons_succ]
  refine WL.val (by kernel_rfl) (.nilIface) (by go_simp) ?_
  simp only [Act.put, List.setIfInBounds_toArray, List.set_cons_zero, List.set_cons_succ]
  refine WL.nil ?_
  refine hK1 _ _ ?_
  refine wp_seq_k fun K2 hK2 => ?_
  refine wp_region_list (WL.out ?_)
  refine WL.val (by kernel_rfl) (.pointer (some ⟨p, 0, none⟩)) (by go_simp) ?_
  simp only [Act.put, List.setIfInBounds_toArray, List.set_cons_zero, List.set_cons_succ]
  refine WL.callF (by kernel_rfl) 29 _ _ rfl Try.in29 #[ptr p] (by simp [Act.eval]) ?_
  refine (iat_any p s a none w0 HI0.out).mono ?_
  rintro e w0' ⟨rfl, hw0⟩
  rw [hw0]
  clear hw0 w0'
  refine ⟨_, rfl, ?_⟩
  simp only [Act.put, List.setIfInBounds_toArray, List.set_cons_zero, List.set_cons_succ]
  refine WL.val (by kernel_rfl) (.int .i64 (a : Int)) (by go_simp) ?_
  simp only [Act.put, List.setIfInBounds_toArray, List.set_cons_zero, List.set_cons_succ]
  refine WL.nil ?_
  refine hK2 _ _ ?_
  refine wp_seq_k fun K3 hK3 => ?_
  refine wp_region_list (WL.out ?_)
  refine WL.val (by kernel_rfl) (.pointer (some ⟨p, 0, none⟩)) (by go_simp) ?_
  simp only [Act.put, List.setIfInBounds_toArray, List.set_cons_zero, List.set_cons_succ]
  refine WL.callF (by kernel_rfl) 60 _ _ rfl Try.in60 #[ptr p] (by simp [Act.eval]) ?_
  refine (ibyte_good p s a w0 HI0.out Hb.out D hD.out W hW.out N hN.out c hc.out).mono ?_
  rintro e w1 ⟨bad, er, rfl, h1, h2, h3⟩
  refine ⟨_, rfl, ?_⟩
  have HZ1 := Keep.mk (h2.blk HZ0.out (blk_ne HZ0.out HI0.out.blk (by decide)))
  have HG1 : Keep (Grown w w1 fun k => k = p) := ⟨HG0.out.trans h2⟩
  have HT1 := Keep.mk (HT0.out.grown h2 (fun e => HT0.out.ne HI0.out.blk e) (fun g cs hg e => blk_ne hg HI0.out.blk (by decide) e))
  have H1 := Keep.mk h1
  have H3 := Keep.mk h3
  clear h1 h2 h3
  simp only [Act.put, List.setIfInBounds_toArray, List.set_cons_zero, List.set_cons_succ]
  refine WL.val (by kernel_rfl) (.tuple #[.int .u8 c, er]) (by go_simp) ?_
  simp only [Act.put, List.setIfInBounds_toArray, List.set_cons_zero, List.set_cons_succ]
  refine WL.val (by kernel_rfl) (.int .u8 c) (by go_simp) ?_
  simp only [Act.put, List.setIfInBounds_toArray, List.set_cons_zero, List.set_cons_succ]
  refine WL.val (by kernel_rfl) (er) (by go_simp) ?_
  simp only [Act.put, List.setIfInBounds_toArray, List.set_cons_zero, List.set_cons_succ]
  refine WL.val (by kernel_rfl) (.int .u8 c) (by go_simp) ?_
  simp only [Act.put, List.setIfInBounds_toArray, List.set_cons_zero, List.set_cons_succ]
  refine WL.val (by kernel_rfl) (er) (by go_simp) ?_
  simp only [Act.put, List.setIfInBounds_toArray, List.set_cons_zero, List.set_cons_succ]
  refine WL.nil ?_
  refine hK3 _ _ ?_
  refine wp_seq_k fun K4 hK4 => ?_
  refine wp_seq_k fun K5 hK5 => ?_
  by_cases hE : W = 0
  · rcases H3.out with ⟨e1, rfl, rfl⟩ | ⟨e1, _⟩
    rotate_left
    · exact absurd hE e1
    have hcr : 0 ≤ c ∧ c < 256 := by rw [hc.out, if_pos hE]; exact Byts.getD (by rw [hD.out]; exact (lst_byts s).drop a) 0
    have hwc : IntKind.i64.wrap c = c := by rw [IntKind.wrap_i64]; omega
    obtain ⟨xk, hxk⟩ : ∃ xk : OpV, Keep (xk = { zeroOp with kind := c }) := ⟨_, ⟨rfl⟩⟩
    have hcx : Keep (xk.kind = c) := ⟨by rw [hxk.out]⟩
    have Hcr := Keep.mk hcr
    clear hcr
    refine wp_region_list (WL.out ?_)
    refine WL.val (by kernel_rfl) (.nilIface) (by go_simp) ?_
    simp only [Act.put, List.setIfInBounds_toArray, List.set_cons_zero, List.set_cons_succ]
    refine WL.val (by kernel_rfl) (.bool false) (by go_simp) ?_
    simp only [Act.put, List.setIfInBounds_toArray, List.set_cons_zero, List.set_cons_succ]
    refine WL.nil ?_
    refine hK5 _ _ ?_
    refine wp_cond_false rfl ?_
    refine wp_skip ?_
    refine hK4 _ _ ?_
    refine wp_seq_k fun K6 hK6 => ?_
    refine wp_region_list (WL.out ?_)
    refine WL.val (by kernel_rfl) (.int .u8 c) (by go_simp) ?_
    simp only [Act.put, List.setIfInBounds_toArray, List.set_cons_zero, List.set_cons_succ]
    refine WL.val (by kernel_rfl) (.int .i64 c) (by go_simp) ?_
    simp only [Act.put, List.setIfInBounds_toArray, List.set_cons_zero, List.set_cons_succ]
    refine WL.bld (by kernel_rfl) 33 _ rfl [(0, .int .i64 c)] (by simp [Act.eval]) (opA { zeroOp with kind := c }) (zero_built c) ?_
    rw [← hxk.out]
    simp only [Act.put, List.setIfInBounds_toArray, List.set_cons_zero, List.set_cons_succ]
    refine WL.new (by kernel_rfl) 33 rfl _ Try.new33 ?_
    simp only [Act.put, List.setIfInBounds_toArray, List.set_cons_zero, List.set_cons_succ]
    refine WL.storeR (by kernel_rfl) 33 (.tmp 11) (.tmp 30) rfl w1.heap.size (opA xk) rfl rfl 33 (opA zeroOp) (Blk.new w1 33 _) (Try.size33B xk) (opA_sizes _ _) (opA_one xk) ?_
    have HX2 := Keep.mk ((Blk.new w1 33 (opA zeroOp)).setRow (opA xk))
    have B2 : Keep (Below w1.heap.size w1 ((w1.alloc (.cells (opA zeroOp) 33)).setRow w1.heap.size (opA xk))) := ⟨below_setRow (below_new w1 _) (Nat.le_refl _) _⟩
    obtain ⟨gx, hgx⟩ : ∃ gx, Keep (gx = w1.heap.size) := ⟨_, ⟨rfl⟩⟩
    have Hgx : Keep (w.heap.size ≤ gx) := ⟨by rw [hgx.out]; exact HG1.out.size⟩
    have Hzx : Keep (gz ≠ gx) := ⟨fun e => by have := HZ1.out.lt; rw [hgx.out] at e; omega⟩
    generalize (w1.alloc (.cells (opA zeroOp) 33)).setRow w1.heap.size (opA xk) = w2 at *
    rw [← hgx.out] at HX2 ⊢
    have HZ2 := Keep.mk (HZ1.out.below B2.out HZ1.out.lt)
    have HI2 : Keep (InAt w2 p s (a + N) none) := ⟨H1.out.blk.below B2.out H1.out.blk.lt, H1.out.le⟩
    have HG2 : Keep (Grown w w2 fun k => k = p) := ⟨HG1.out.trans (Grown.below B2.out)⟩
    have HT2 := Keep.mk (HT1.out.below B2.out)
    obtain ⟨vF, hvF, hlk⟩ := HT2.out.look2 c
    obtain ⟨fa, fc, rfl⟩ := hvF.form
    have HvF := Keep.mk hvF
    have hlk2 := (hlk w2 (Below.refl _ _)).2
    have k0 : w2.cell? ⟨gx, 0, none⟩ = some (.int .i64 c) := by have h := HX2.out.c 0 (opA_0 xk); rw [hcx.out] at h; exact h
    clear hvF hlk
    simp only [Act.put]
    refine WL.nil ?_
    refine hK6 _ _ ?_
    refine wp_seq_k fun K7 hK7 => ?_
    refine wp_region_list (WL.out ?_)
    refine WL.val (by kernel_rfl) (.map (some m)) (by go_simp) ?_
    simp only [Act.put, List.setIfInBounds_toArray, List.set_cons_zero, List.set_cons_succ]
    refine WL.val (by kernel_rfl) (.pointer (some ⟨gx, 0, none⟩)) (by go_simp) ?_
    simp only [Act.put, List.setIfInBounds_toArray, List.set_cons_zero, List.set_cons_succ]
    refine WL.val (by kernel_rfl) (.int .i64 c) (by go_simp) ?_
    simp only [Act.put, List.setIfInBounds_toArray, List.set_cons_zero, List.set_cons_succ]
    refine WL.val (by kernel_rfl) (.tuple #[.slice fa (hasI c).length fc, .bool (!(hasI c).isEmpty)]) (by go_simp) ?_
    simp only [Act.put, List.setIfInBounds_toArray, List.set_cons_zero, List.set_cons_succ]
    refine WL.val (by kernel_rfl) (.tuple #[.slice fa (hasI c).length fc, .bool (!(hasI c).isEmpty)]) (by go_simp) ?_
    simp only [Act.put, List.setIfInBounds_toArray, List.set_cons_zero, List.set_cons_succ]
    refine WL.val (by kernel_rfl) (.slice fa (hasI c).length fc) (by go_simp) ?_
    simp only [Act.put, List.setIfInBounds_toArray, List.set_cons_zero, List.set_cons_succ]
    refine WL.val (by kernel_rfl) (.bool (!(hasI c).isEmpty)) (by go_simp) ?_
    simp only [Act.put, List.setIfInBounds_toArray, List.set_cons_zero, List.set_cons_succ]
    refine WL.val (by kernel_rfl) (.slice fa (hasI c).length fc) (by go_simp) ?_
    simp only [Act.put, List.setIfInBounds_toArray, List.set_cons_zero, List.set_cons_succ]
    refine WL.val (by kernel_rfl) (.bool (!(hasI c).isEmpty)) (by go_simp) ?_
    simp only [Act.put, List.setIfInBounds_toArray, List.set_cons_zero, List.set_cons_succ]
    refine WL.nil ?_
    refine hK7 _ _ ?_
    refine wp_seq_k fun K8 hK8 => ?_
    refine wp_seq_k fun K9 hK9 => ?_
    refine wp_region_list (WL.out ?_)
    refine WL.val (by kernel_rfl) (.bool (!(hasI c).isEmpty)) (by go_simp) ?_
    simp only [Act.put, List.setIfInBounds_toArray, List.set_cons_zero, List.set_cons_succ]
    by_cases h7_1 : hasI c = []
    · have hem : (!(hasI c).isEmpty) = false := by rw [h7_1]; rfl
      refine WL.val (by kernel_rfl) (.bool true) (by go_simp) ?_
      simp only [Act.put, List.setIfInBounds_toArray, List.set_cons_zero, List.set_cons_succ]
      refine WL.nil ?_
      refine hK9 _ _ ?_
      refine wp_cond_true rfl ?_
      refine wp_seq_k fun K10 hK10 => ?_
      refine wp_region_list (WL.out ?_)
      refine WL.bld (by kernel_rfl) 33 _ rfl [] (by simp) (opA zeroOp) Try.built33 ?_
      simp only [Act.put, List.setIfInBounds_toArray, List.set_cons_zero, List.set_cons_succ]
      refine WL.val (by kernel_rfl) (.int .i64 (a : Int)) (by go_simp) ?_
      simp only [Act.put, List.setIfInBounds_toArray, List.set_cons_zero, List.set_cons_succ]
      refine WL.bld (by kernel_rfl) 104 _ rfl [(0, .int .i64 40), (1, .int .i64 (a : Int))] (by simp [Act.eval]) #[.int .i64 40, .int .i64 (a : Int)] (by kernel_rfl) ?_
      simp only [Act.put, List.setIfInBounds_toArray, List.set_cons_zero, List.set_cons_succ]
      refine WL.box (by kernel_rfl) 104 (.tmp 42) rfl #[.int .i64 40, .int .i64 (a : Int)] rfl ?_
      have HZ3 := Keep.mk (HZ2.out.alloc (.cells #[.int .i64 40, .int .i64 (a : Int)] 104))
      have HB3 := Keep.mk (Blk.new w2 104 #[.int .i64 40, .int .i64 (a : Int)])
      have HG3 : Keep (Grown w (w2.alloc (.cells #[.int .i64 40, .int .i64 (a : Int)] 104)) fun k => k = p) := ⟨HG2.out.trans (Grown.alloc w2 _ _)⟩
      generalize w2.alloc (.cells #[.int .i64 40, .int .i64 (a : Int)] 104) = w3 at *
      simp only [Act.put, List.setIfInBounds_toArray, List.set_cons_zero, List.set_cons_succ]
      refine WL.val (by kernel_rfl) (.iface 88 (.pointer (some ⟨w2.heap.size, 0, none⟩))) (by go_simp) ?_
      simp only [Act.put, List.setIfInBounds_toArray, List.set_cons_zero, List.set_cons_succ]
      refine WL.storeR (by kernel_rfl) 33 (.tmp 6) (.tmp 40) rfl gz (opA zeroOp) rfl rfl 33 (opA zeroOp) HZ3.out (Try.size33B _) rfl (opA_one _) ?_
      simp only [Act.put]
      refine WL.val (by kernel_rfl) (.iface 88 (.pointer (some ⟨w2.heap.size, 0, none⟩))) (by go_simp) ?_
      simp only [Act.put, List.setIfInBounds_toArray, List.set_cons_zero, List.set_cons_succ]
      refine WL.nil ?_
      refine hK10 _ _ ?_
      refine wp_ret ?_
      refine bodyPost_ret (v := .tuple #[.agg (opA zeroOp), .iface 88 (ptr w2.heap.size)]) (results_cell_row2 Try.results47 _ _ gz 33 _ (0, 0) _ _ rfl rfl (HZ3.out.setRow _) Try.underlying33 rfl (Try.size33B _)) rfl ?_
      refine ⟨zeroOp, err w2.heap.size, rfl, HG3.out.next (Grown.setRow w3 gz _ (S := fun k => k = gz) fun _ => rfl) (fun k hk e => by have := Hgz.out; omega), ?_⟩
      rw [HR.out, if_neg (by simp [hE]), HcD.out hE, if_pos h7_1]
      exact .inr ⟨(show (40 : Int) ≠ 0 by decide), w2.heap.size, HG2.out.size, rfl, HB3.out.setRow_ne (blk_ne HB3.out HZ3.out (by decide)) _⟩
    · have hem : (!(hasI c).isEmpty) = true := by simpa using h7_1
      refine WL.val (by kernel_rfl) (.bool false) (by go_simp) ?_
      simp only [Act.put, List.setIfInBounds_toArray, List.set_cons_zero, List.set_cons_succ]
      refine WL.nil ?_
      refine hK9 _ _ ?_
      refine wp_cond_false rfl ?_
      refine wp_skip ?_
      refine hK8 _ _ ?_
      refine wp_seq_k fun K11 hK11 => ?_
      refine wp_seq_k fun K12 hK12 => ?_
      refine wp_region_list (WL.out ?_)
      have hN1 : N = 1 := by rw [hN.out, (nextN_0 D 1 (by rw [← hW.out]; exact hE)).1]; rfl
      rw [hN1] at HI2
      have HRR : Keep (R = getFs (lst s) ah (hasI c) xk (a + 1)) := ⟨by rw [HR.out, if_neg (by simp [hE]), HcD.out hE, if_neg h7_1, ← hxk.out]⟩
      have Hi4 := Keep.mk (hasI_lt c)
      have Hn3 := Keep.mk (hasI_len c)
      have S3 : Keep (OpOk xk) := ⟨by rw [hxk.out]; exact { zero_ok with k1 := by show (-9223372036854775808 : Int) ≤ c; have := Hcr.out; omega, k2 := by show c ≤ (9223372036854775807 : Int); have := Hcr.out; omega }⟩
      clear HR h7_1 hem hlk2
      rename Keep (R = getFs _ _ _ _ _) => HR
      generalize hasI c = is at *
      have S1 := HI2
      have S2 := HX2
      have S4 := HvF
      have S5 := HG2
      have S6 := HZ2
      refine WL.val (by kernel_rfl) (.slice fa is.length fc) (by go_simp) ?_
      simp only [Act.put, List.setIfInBounds_toArray, List.set_cons_zero, List.set_cons_succ]
      refine WL.val (by kernel_rfl) (.int .i64 (is.length : Int)) (by go_simp) ?_
      simp only [Act.put, List.setIfInBounds_toArray, List.set_cons_zero, List.set_cons_succ]
      refine WL.val (by kernel_rfl) (.int .i64 0) (by go_simp) ?_
      simp only [Act.put, List.setIfInBounds_toArray, List.set_cons_zero, List.set_cons_succ]
      refine WL.nil ?_
      refine hK12 _ _ ?_
      refine wp_block ?_
      refine wp_loop (fun ac wr => ∃ (t : Nat) (u7 u15 u16 u48 u49 u50 u51 u52 u53 u54 u55 u56 u57 u58 u59 u60 : Value), ac = { tmps := #[.pointer (some ⟨p, 0, none⟩), .map (some m), vA, undef, undef, undef, .pointer (some ⟨gz, 0, none⟩), u7, .int .i64 (a : Int), .int .u8 c, .nilIface, .pointer (some ⟨gx, 0, none⟩), .slice fa is.length fc, .bool (!is.isEmpty), undef, u15, u16, .pointer (some ⟨p, 0, none⟩), .int .i64 (a : Int), .tuple #[.int .u8 c, .nilIface], .pointer (some ⟨p, 0, none⟩), .tuple #[.int .u8 c, .nilIface], .int .u8 c, .nilIface, .nilIface, .bool false, undef, undef, .int .u8 c, .int .i64 c, .agg (opA xk), .tuple #[.slice fa is.length fc, .bool (!is.isEmpty)], .map (some m), .pointer (some ⟨gx, 0, none⟩), .int .i64 c, .tuple #[.slice fa is.length fc, .bool (!is.isEmpty)], .slice fa is.length fc, .bool (!is.isEmpty), .bool (!is.isEmpty), .bool false, undef, undef, undef, undef, undef, .slice fa is.length fc, .int .i64 (is.length : Int), .int .i64 (t : Int), u48, u49, u50, u51, u52, u53, u54, u55, u56, u57, u58, u59, u60, undef], defers := [] } ∧ t ≤ is.length ∧ ∃ xt at_, getFs (lst s) ah is xk (a + 1) = getFs (lst s) ah (is.drop t) xt at_ ∧ InAt wr p s at_ none ∧ Blk wr gx 33 (opA xt) ∧ OpOk xt ∧ FieldsAt wr (.slice fa is.length fc) is ∧ (Grown w wr fun k => k = p) ∧ Blk wr gz 33 (opA zeroOp)) (fun a _ => is.length - (intOf (a.tmps.getD 47 undef)).toNat) ⟨0, .nilIface, undef, undef, undef, undef, undef, undef, undef, undef, undef, undef, undef, undef, undef, undef, undef, rfl, by omega, xk, a + 1, rfl, S1.out, S2.out, S3.out, S4.out, S5.out, S6.out⟩ ?_
      rintro ac wr ⟨t, u7, u15, u16, u48, u49, u50, u51, u52, u53, u54, u55, u56, u57, u58, u59, u60, rfl, ht, xt, at_, hC, hI, hX, hOk, hF, hG, hZ⟩
      by_cases htl : t < is.length
      · have htl' : (t : Int) < (is.length : Int) := by omega
        obtain ⟨gF, hfa, hr2⟩ := hF.at htl
        have hi4 : is.getD t 0 < 4 := Hi4.out _ (by simp [List.getD_eq_getElem?_getD, htl])
        have hst := getFs_step (lst s) ah is t htl xt at_
        generalize is.getD t 0 = i at *
        have hwr2 : IntKind.i64.wrap ((t : Int) + 1) = (t : Int) + 1 := by rw [IntKind.wrap_i64]; have := Hn3.out; omega
        have JC := Keep.mk hC
        have JI := Keep.mk hI
        have JX := Keep.mk hX
        have JOk := Keep.mk hOk
        have JF := Keep.mk hF
        have JG := Keep.mk hG
        have JZ := Keep.mk hZ
        have Jst := Keep.mk hst
        clear hC hI hX hOk hF hG hZ hst
        rcases (show i = 0 ∨ i = 1 ∨ i = 2 ∨ i = 3 by omega) with rfl | rfl | rfl | rfl
        · refine wp_seq_k fun K13 hK13 => ?_
          refine wp_region_list (WL.out ?_)
          refine WL.val (by kernel_rfl) (.bool true) (by go_simp) ?_
          simp only [Act.put, List.setIfInBounds_toArray, List.set_cons_zero, List.set_cons_succ]
          refine WL.nil ?_
          refine hK13 _ _ ?_
          refine wp_seq_k fun K14 hK14 => ?_
          refine wp_cond_true rfl ?_
          refine wp_skip ?_
          refine hK14 _ _ ?_
          refine wp_seq_k fun K15 hK15 => ?_
          refine wp_block ?_
          refine wp_seq_k fun K16 hK16 => ?_
          refine wp_region_list (WL.out ?_)
          refine WL.val (by kernel_rfl) (.pointer (some ⟨gF, 0 + t * 3, none⟩)) (by go_simp) ?_
          simp only [Act.put, List.setIfInBounds_toArray, List.set_cons_zero, List.set_cons_succ]
          refine WL.midA (by kernel_rfl) 82 (.tmp 49) rfl gF (0 + t * 3) rfl (fldA 0) _ hr2 Try.underlying82 rfl (Try.size82B 0) ?_
          simp only [Act.put, List.setIfInBounds_toArray, List.set_cons_zero, List.set_cons_succ]
          refine WL.new (by kernel_rfl) 82 rfl _ Try.new82 ?_
          simp only [Act.put, List.setIfInBounds_toArray, List.set_cons_zero, List.set_cons_succ]
          refine WL.storeR (by kernel_rfl) 82 (.tmp 15) (.tmp 50) rfl wr.heap.size (fldA 0) rfl rfl 82 noF (Blk.new wr 82 noF) (Try.size82B 0) (noF_sizes 0) (fldA_one 0) ?_
          have HN := Keep.mk ((Blk.new wr 82 noF).setRow (fldA 0))
          have HGq : Keep (Below wr.heap.size wr ((wr.alloc (.cells noF 82)).setRow wr.heap.size (fldA 0))) := ⟨below_setRow (below_new wr _) (Nat.le_refl _) _⟩
          generalize (wr.alloc (.cells noF 82)).setRow wr.heap.size (fldA 0) = wy at *
          have cf : wy.cell? ⟨wr.heap.size, 2, none⟩ = some (fnv 68) := HN.out.c 2 rfl
          unfold fnv at cf
          have HIy : Keep (InAt wy p s at_ none) := ⟨JI.out.blk.below HGq.out JI.out.blk.lt, JI.out.le⟩
          have HXy := Keep.mk (JX.out.below HGq.out JX.out.lt)
          have HGy : Keep (Grown w wy fun k => k = p) := ⟨JG.out.trans (Grown.below HGq.out)⟩
          simp only [Act.put]
          refine WL.nil ?_
          refine hK16 _ _ ?_
          refine wp_seq_k fun K17 hK17 => ?_
          refine wp_region_list (WL.out ?_)
          refine WL.val (by kernel_rfl) (.pointer (some ⟨wr.heap.size, 2, none⟩)) (by go_simp) ?_
          simp only [Act.put, List.setIfInBounds_toArray, List.set_cons_zero, List.set_cons_succ]
          refine WL.val (by kernel_rfl) (.func (.func 68) #[] #[]) (by go_simp) ?_
          simp only [Act.put, List.setIfInBounds_toArray, List.set_cons_zero, List.set_cons_succ]
          refine WL.val (by kernel_rfl) (.pointer (some ⟨p, 0, none⟩)) (by go_simp) ?_
          simp only [Act.put, List.setIfInBounds_toArray, List.set_cons_zero, List.set_cons_succ]
          refine WL.val (by kernel_rfl) (vA) (by go_simp) ?_
          simp only [Act.put, List.setIfInBounds_toArray, List.set_cons_zero, List.set_cons_succ]
          refine WL.callV (by kernel_rfl) 68 (.tmp 52) _ _ rfl rfl Try.in68 #[ptr p, ptr gx, vA] (by simp [Act.eval]) ?_
          refine (get0_any p gx s at_ xt vA ah wy HIy.out Hb.out HXy.out JOk.out).mono ?_
          rintro e w9 ⟨er, rfl, hg9, hc9⟩
          refine ⟨_, rfl, ?_⟩
          have HG9 : Keep (Grown w w9 fun k => k = p) := ⟨HGy.out.next hg9 fun k hk ho => ho.elim id fun e => by have := Hgx.out; omega⟩
          have Hgs : Keep (Grown wr w9 fun k => k = p ∨ k = gx) := ⟨(Grown.below HGq.out).trans hg9⟩
          have HZ9 := Keep.mk (Hgs.out.blk JZ.out (fun e => e.elim (fun e => blk_ne JZ.out JI.out.blk (by decide) e) (fun e => Hzx.out e)))
          have HC9 := Keep.mk hc9
          obtain ⟨G, hGG⟩ : ∃ G, Keep (G = getF (lst s) ah 0 xt at_) := ⟨_, ⟨rfl⟩⟩
          rw [← hGG.out] at HC9 Jst
          clear hg9 hc9 cf
          simp only [Act.put, List.setIfInBounds_toArray, List.set_cons_zero, List.set_cons_succ]
          refine WL.val (by kernel_rfl) (er) (by go_simp) ?_
          simp only [Act.put, List.setIfInBounds_toArray, List.set_cons_zero, List.set_cons_succ]
          refine WL.nil ?_
          refine hK17 _ _ ?_
          refine wp_seq_k fun K18 hK18 => ?_
          by_cases hE : G.1 = 0
          · rcases HC9.out with ⟨e1, rfl, e2, e3, e4⟩ | ⟨e1, _⟩
            rotate_left
            · exact absurd hE e1
            have K1 := Keep.mk e2
            have K2 := Keep.mk e3
            have K3 := Keep.mk e4
            clear e2 e3 e4
            refine wp_region_list (WL.out ?_)
            refine WL.val (by kernel_rfl) (.nilIface) (by go_simp) ?_
            simp only [Act.put, List.setIfInBounds_toArray, List.set_cons_zero, List.set_cons_succ]
            refine WL.val (by kernel_rfl) (.bool false) (by go_simp) ?_
            simp only [Act.put, List.setIfInBounds_toArray, List.set_cons_zero, List.set_cons_succ]
            refine WL.nil ?_
            refine hK18 _ _ ?_
            refine wp_cond_false rfl ?_
            refine wp_skip ?_
            refine hK15 _ _ ?_
            refine wp_region_list (WL.out ?_)
            refine WL.val (by kernel_rfl) (.int .i64 ((t : Int) + 1)) (by go_simp) ?_
            simp only [Act.put, List.setIfInBounds_toArray, List.set_cons_zero, List.set_cons_succ]
            refine WL.val (by kernel_rfl) (.int .i64 ((t : Int) + 1)) (by go_simp) ?_
            simp only [Act.put, List.setIfInBounds_toArray, List.set_cons_zero, List.set_cons_succ]
            refine WL.nil ?_
            rw [if_pos hE] at Jst
            refine ⟨⟨t + 1, u7, .pointer (some ⟨wr.heap.size, 0, none⟩), .nilIface, .bool true, .pointer (some ⟨gF, 0 + t * 3, none⟩), .agg (fldA 0), .pointer (some ⟨wr.heap.size, 2, none⟩), .func (.func 68) #[] #[], .pointer (some ⟨p, 0, none⟩), vA, .nilIface, .nilIface, .bool false, u58, u59, .int .i64 ((t : Int) + 1), rfl, by omega, G.2.2, G.2.1, JC.out.trans Jst.out, K1.out, K2.out, K3.out, JF.out.grown Hgs.out (fun g hg e => e.elim (fun e => blk_ne hg JI.out.blk (by decide) e) (fun e => blk_ne hg JX.out (by decide) e)), HG9.out, HZ9.out⟩, ?_⟩
            simp only [intOf]; show is.length - ((t : Int) + 1).toNat < is.length - ((t : Int)).toNat; omega
          · rcases HC9.out with ⟨e1, _⟩ | ⟨_, q, hq, rfl, hbad⟩
            · exact absurd e1 hE
            have Hbad := Keep.mk hbad
            have Hq := Keep.mk (Nat.le_trans (Nat.le_trans JG.out.size HGq.out.size) hq)
            clear hbad hq
            unfold err
            refine wp_region_list (WL.out ?_)
            refine WL.val (by kernel_rfl) (.iface 88 (ptr q)) (by go_simp) ?_
            simp only [Act.put, List.setIfInBounds_toArray, List.set_cons_zero, List.set_cons_succ]
            refine WL.val (by kernel_rfl) (.bool true) (by go_simp) ?_
            simp only [Act.put, List.setIfInBounds_toArray, List.set_cons_zero, List.set_cons_succ]
            refine WL.nil ?_
            refine hK18 _ _ ?_
            refine wp_cond_true rfl ?_
            refine wp_seq_k fun K19 hK19 => ?_
            refine wp_region_list (WL.out ?_)
            refine WL.bld (by kernel_rfl) 33 _ rfl [] (by simp) (opA zeroOp) Try.built33 ?_
            simp only [Act.put, List.setIfInBounds_toArray, List.set_cons_zero, List.set_cons_succ]
            refine WL.val (by kernel_rfl) (.iface 88 (ptr q)) (by go_simp) ?_
            simp only [Act.put, List.setIfInBounds_toArray, List.set_cons_zero, List.set_cons_succ]
            refine WL.storeR (by kernel_rfl) 33 (.tmp 6) (.tmp 58) rfl gz (opA zeroOp) rfl rfl 33 (opA zeroOp) HZ9.out (Try.size33B _) rfl (opA_one _) ?_
            simp only [Act.put]
            refine WL.val (by kernel_rfl) (.iface 88 (ptr q)) (by go_simp) ?_
            simp only [Act.put, List.setIfInBounds_toArray, List.set_cons_zero, List.set_cons_succ]
            refine WL.nil ?_
            refine hK19 _ _ ?_
            refine wp_ret ?_
            refine bodyPost_ret (v := .tuple #[.agg (opA zeroOp), .iface 88 (ptr q)]) (results_cell_row2 Try.results47 _ _ gz 33 _ (0, 0) _ _ rfl rfl (HZ9.out.setRow _) Try.underlying33 rfl (Try.size33B _)) rfl ?_
            refine ⟨zeroOp, err q, rfl, HG9.out.next (Grown.setRow w9 gz _ (S := fun k => k = gz) fun _ => rfl) (fun k hk e => by have := Hgz.out; omega), ?_⟩
            rw [HR.out, JC.out, Jst.out, if_neg hE]
            exact .inr ⟨hE, q, Hq.out, rfl, Hbad.out.setRow_ne (blk_ne Hbad.out HZ9.out (by decide)) _⟩
        · refine wp_seq_k fun K20 hK20 => ?_
          refine wp_region_list (WL.out ?_)
          refine WL.val (by kernel_rfl) (.bool true) (by go_simp) ?_
          simp only [Act.put, List.setIfInBounds_toArray, List.set_cons_zero, List.set_cons_succ]
          refine WL.nil ?_
          refine hK20 _ _ ?_
          refine wp_seq_k fun K21 hK21 => ?_
          refine wp_cond_true rfl ?_
          refine wp_skip ?_
          refine hK21 _ _ ?_
          refine wp_seq_k fun K22 hK22 => ?_
          refine wp_block ?_
          refine wp_seq_k fun K23 hK23 => ?_
          refine wp_region_list (WL.out ?_)
          refine WL.val (by kernel_rfl) (.pointer (some ⟨gF, 0 + t * 3, none⟩)) (by go_simp) ?_
          simp only [Act.put, List.setIfInBounds_toArray, List.set_cons_zero, List.set_cons_succ]
          refine WL.midA (by kernel_rfl) 82 (.tmp 49) rfl gF (0 + t * 3) rfl (fldA 1) _ hr2 Try.underlying82 rfl (Try.size82B 1) ?_
          simp only [Act.put, List.setIfInBounds_toArray, List.set_cons_zero, List.set_cons_succ]
          refine WL.new (by kernel_rfl) 82 rfl _ Try.new82 ?_
          simp only [Act.put, List.setIfInBounds_toArray, List.set_cons_zero, List.set_cons_succ]
          refine WL.storeR (by kernel_rfl) 82 (.tmp 15) (.tmp 50) rfl wr.heap.size (fldA 1) rfl rfl 82 noF (Blk.new wr 82 noF) (Try.size82B 1) (noF_sizes 1) (fldA_one 1) ?_
          have HN := Keep.mk ((Blk.new wr 82 noF).setRow (fldA 1))
          have HGq : Keep (Below wr.heap.size wr ((wr.alloc (.cells noF 82)).setRow wr.heap.size (fldA 1))) := ⟨below_setRow (below_new wr _) (Nat.le_refl _) _⟩
          generalize (wr.alloc (.cells noF 82)).setRow wr.heap.size (fldA 1) = wy at *
          have cf : wy.cell? ⟨wr.heap.size, 2, none⟩ = some (fnv 72) := HN.out.c 2 rfl
          unfold fnv at cf
          have HIy : Keep (InAt wy p s at_ none) := ⟨JI.out.blk.below HGq.out JI.out.blk.lt, JI.out.le⟩
          have HXy := Keep.mk (JX.out.below HGq.out JX.out.lt)
          have HGy : Keep (Grown w wy fun k => k = p) := ⟨JG.out.trans (Grown.below HGq.out)⟩
          simp only [Act.put]
          refine WL.nil ?_
          refine hK23 _ _ ?_
          refine wp_seq_k fun K24 hK24 => ?_
          refine wp_region_list (WL.out ?_)
          refine WL.val (by kernel_rfl) (.pointer (some ⟨wr.heap.size, 2, none⟩)) (by go_simp) ?_
          simp only [Act.put, List.setIfInBounds_toArray, List.set_cons_zero, List.set_cons_succ]
          refine WL.val (by kernel_rfl) (.func (.func 72) #[] #[]) (by go_simp) ?_
          simp only [Act.put, List.setIfInBounds_toArray, List.set_cons_zero, List.set_cons_succ]
          refine WL.val (by kernel_rfl) (.pointer (some ⟨p, 0, none⟩)) (by go_simp) ?_
          simp only [Act.put, List.setIfInBounds_toArray, List.set_cons_zero, List.set_cons_succ]
          refine WL.val (by kernel_rfl) (vA) (by go_simp) ?_
          simp only [Act.put, List.setIfInBounds_toArray, List.set_cons_zero, List.set_cons_succ]
          refine WL.callV (by kernel_rfl) 72 (.tmp 52) _ _ rfl rfl Try.in72 #[ptr p, ptr gx, vA] (by simp [Act.eval]) ?_
          refine (get1_any p gx s at_ xt vA ah wy HIy.out Hb.out HXy.out JOk.out).mono ?_
          rintro e w9 ⟨er, rfl, hg9, hc9⟩
          refine ⟨_, rfl, ?_⟩
          have HG9 : Keep (Grown w w9 fun k => k = p) := ⟨HGy.out.next hg9 fun k hk ho => ho.elim id fun e => by have := Hgx.out; omega⟩
          have Hgs : Keep (Grown wr w9 fun k => k = p ∨ k = gx) := ⟨(Grown.below HGq.out).trans hg9⟩
          have HZ9 := Keep.mk (Hgs.out.blk JZ.out (fun e => e.elim (fun e => blk_ne JZ.out JI.out.blk (by decide) e) (fun e => Hzx.out e)))
          have HC9 := Keep.mk hc9
          obtain ⟨G, hGG⟩ : ∃ G, Keep (G = getF (lst s) ah 1 xt at_) := ⟨_, ⟨rfl⟩⟩
          rw [← hGG.out] at HC9 Jst
          clear hg9 hc9 cf
          simp only [Act.put, List.setIfInBounds_toArray, List.set_cons_zero, List.set_cons_succ]
          refine WL.val (by kernel_rfl) (er) (by go_simp) ?_
          simp only [Act.put, List.setIfInBounds_toArray, List.set_cons_zero, List.set_cons_succ]
          refine WL.nil ?_
          refine hK24 _ _ ?_
          refine wp_seq_k fun K25 hK25 => ?_
          by_cases hE : G.1 = 0
          · rcases HC9.out with ⟨e1, rfl, e2, e3, e4⟩ | ⟨e1, _⟩
            rotate_left
            · exact absurd hE e1
            have K1 := Keep.mk e2
            have K2 := Keep.mk e3
            have K3 := Keep.mk e4
            clear e2 e3 e4
            refine wp_region_list (WL.out ?_)
            refine WL.val (by kernel_rfl) (.nilIface) (by go_simp) ?_
            simp only [Act.put, List.setIfInBounds_toArray, List.set_cons_zero, List.set_cons_succ]
            refine WL.val (by kernel_rfl) (.bool false) (by go_simp) ?_
            simp only [Act.put, List.setIfInBounds_toArray, List.set_cons_zero, List.set_cons_succ]
            refine WL.nil ?_
            refine hK25 _ _ ?_
            refine wp_cond_false rfl ?_
            refine wp_skip ?_
            refine hK22 _ _ ?_
            refine wp_region_list (WL.out ?_)
            refine WL.val (by kernel_rfl) (.int .i64 ((t : Int) + 1)) (by go_simp) ?_
            simp only [Act.put, List.setIfInBounds_toArray, List.set_cons_zero, List.set_cons_succ]
            refine WL.val (by kernel_rfl) (.int .i64 ((t : Int) + 1)) (by go_simp) ?_
            simp only [Act.put, List.setIfInBounds_toArray, List.set_cons_zero, List.set_cons_succ]
            refine WL.nil ?_
            rw [if_pos hE] at Jst
            refine ⟨⟨t + 1, u7, .pointer (some ⟨wr.heap.size, 0, none⟩), .nilIface, .bool true, .pointer (some ⟨gF, 0 + t * 3, none⟩), .agg (fldA 1), .pointer (some ⟨wr.heap.size, 2, none⟩), .func (.func 72) #[] #[], .pointer (some ⟨p, 0, none⟩), vA, .nilIface, .nilIface, .bool false, u58, u59, .int .i64 ((t : Int) + 1), rfl, by omega, G.2.2, G.2.1, JC.out.trans Jst.out, K1.out, K2.out, K3.out, JF.out.grown Hgs.out (fun g hg e => e.elim (fun e => blk_ne hg JI.out.blk (by decide) e) (fun e => blk_ne hg JX.out (by decide) e)), HG9.out, HZ9.out⟩, ?_⟩
            simp only [intOf]; show is.length - ((t : Int) + 1).toNat < is.length - ((t : Int)).toNat; omega
          · rcases HC9.out with ⟨e1, _⟩ | ⟨_, q, hq, rfl, hbad⟩
            · exact absurd e1 hE
            have Hbad := Keep.mk hbad
            have Hq := Keep.mk (Nat.le_trans (Nat.le_trans JG.out.size HGq.out.size) hq)
            clear hbad hq
            unfold err
            refine wp_region_list (WL.out ?_)
            refine WL.val (by kernel_rfl) (.iface 88 (ptr q)) (by go_simp) ?_
            simp only [Act.put, List.setIfInBounds_toArray, List.set_cons_zero, List.set_cons_succ]
            refine WL.val (by kernel_rfl) (.bool true) (by go_simp) ?_
            simp only [Act.put, List.setIfInBounds_toArray, List.set_cons_zero, List.set_cons_succ]
            refine WL.nil ?_
            refine hK25 _ _ ?_
            refine wp_cond_true rfl ?_
            refine wp_seq_k fun K26 hK26 => ?_
            refine wp_region_list (WL.out ?_)
            refine WL.bld (by kernel_rfl) 33 _ rfl [] (by simp) (opA zeroOp) Try.built33 ?_
            simp only [Act.put, List.setIfInBounds_toArray, List.set_cons_zero, List.set_cons_succ]
            refine WL.val (by kernel_rfl) (.iface 88 (ptr q)) (by go_simp) ?_
            simp only [Act.put, List.setIfInBounds_toArray, List.set_cons_zero, List.set_cons_succ]
            refine WL.storeR (by kernel_rfl) 33 (.tmp 6) (.tmp 58) rfl gz (opA zeroOp) rfl rfl 33 (opA zeroOp) HZ9.out (Try.size33B _) rfl (opA_one _) ?_
            simp only [Act.put]
            refine WL.val (by kernel_rfl) (.iface 88 (ptr q)) (by go_simp) ?_
            simp only [Act.put, List.setIfInBounds_toArray, List.set_cons_zero, List.set_cons_succ]
            refine WL.nil ?_
            refine hK26 _ _ ?_
            refine wp_ret ?_
            refine bodyPost_ret (v := .tuple #[.agg (opA zeroOp), .iface 88 (ptr q)]) (results_cell_row2 Try.results47 _ _ gz 33 _ (0, 0) _ _ rfl rfl (HZ9.out.setRow _) Try.underlying33 rfl (Try.size33B _)) rfl ?_
            refine ⟨zeroOp, err q, rfl, HG9.out.next (Grown.setRow w9 gz _ (S := fun k => k = gz) fun _ => rfl) (fun k hk e => by have := Hgz.out; omega), ?_⟩
            rw [HR.out, JC.out, Jst.out, if_neg hE]
            exact .inr ⟨hE, q, Hq.out, rfl, Hbad.out.setRow_ne (blk_ne Hbad.out HZ9.out (by decide)) _⟩
        · refine wp_seq_k fun K27 hK27 => ?_
          refine wp_region_list (WL.out ?_)
          refine WL.val (by kernel_rfl) (.bool true) (by go_simp) ?_
          simp only [Act.put, List.setIfInBounds_toArray, List.set_cons_zero, List.set_cons_succ]
          refine WL.nil ?_
          refine hK27 _ _ ?_
          refine wp_seq_k fun K28 hK28 => ?_
          refine wp_cond_true rfl ?_
          refine wp_skip ?_
          refine hK28 _ _ ?_
          refine wp_seq_k fun K29 hK29 => ?_
          refine wp_block ?_
          refine wp_seq_k fun K30 hK30 => ?_
          refine wp_region_list (WL.out ?_)
          refine WL.val (by kernel_rfl) (.pointer (some ⟨gF, 0 + t * 3, none⟩)) (by go_simp) ?_
          simp only [Act.put, List.setIfInBounds_toArray, List.set_cons_zero, List.set_cons_succ]
          refine WL.midA (by kernel_rfl) 82 (.tmp 49) rfl gF (0 + t * 3) rfl (fldA 2) _ hr2 Try.underlying82 rfl (Try.size82B 2) ?_
          simp only [Act.put, List.setIfInBounds_toArray, List.set_cons_zero, List.set_cons_succ]
          refine WL.new (by kernel_rfl) 82 rfl _ Try.new82 ?_
          simp only [Act.put, List.setIfInBounds_toArray, List.set_cons_zero, List.set_cons_succ]
          refine WL.storeR (by kernel_rfl) 82 (.tmp 15) (.tmp 50) rfl wr.heap.size (fldA 2) rfl rfl 82 noF (Blk.new wr 82 noF) (Try.size82B 2) (noF_sizes 2) (fldA_one 2) ?_
          have HN := Keep.mk ((Blk.new wr 82 noF).setRow (fldA 2))
          have HGq : Keep (Below wr.heap.size wr ((wr.alloc (.cells noF 82)).setRow wr.heap.size (fldA 2))) := ⟨below_setRow (below_new wr _) (Nat.le_refl _) _⟩
          generalize (wr.alloc (.cells noF 82)).setRow wr.heap.size (fldA 2) = wy at *
          have cf : wy.cell? ⟨wr.heap.size, 2, none⟩ = some (fnv 76) := HN.out.c 2 rfl
          unfold fnv at cf
          have HIy : Keep (InAt wy p s at_ none) := ⟨JI.out.blk.below HGq.out JI.out.blk.lt, JI.out.le⟩
          have HXy := Keep.mk (JX.out.below HGq.out JX.out.lt)
          have HGy : Keep (Grown w wy fun k => k = p) := ⟨JG.out.trans (Grown.below HGq.out)⟩
          simp only [Act.put]
          refine WL.nil ?_
          refine hK30 _ _ ?_
          refine wp_seq_k fun K31 hK31 => ?_
          refine wp_region_list (WL.out ?_)
          refine WL.val (by kernel_rfl) (.pointer (some ⟨wr.heap.size, 2, none⟩)) (by go_simp) ?_
          simp only [Act.put, List.setIfInBounds_toArray, List.set_cons_zero, List.set_cons_succ]
          refine WL.val (by kernel_rfl) (.func (.func 76) #[] #[]) (by go_simp) ?_
          simp only [Act.put, List.setIfInBounds_toArray, List.set_cons_zero, List.set_cons_succ]
          refine WL.val (by kernel_rfl) (.pointer (some ⟨p, 0, none⟩)) (by go_simp) ?_
          simp only [Act.put, List.setIfInBounds_toArray, List.set_cons_zero, List.set_cons_succ]
          refine WL.val (by kernel_rfl) (vA) (by go_simp) ?_
          simp only [Act.put, List.setIfInBounds_toArray, List.set_cons_zero, List.set_cons_succ]
          refine WL.callV (by kernel_rfl) 76 (.tmp 52) _ _ rfl rfl Try.in76 #[ptr p, ptr gx, vA] (by simp [Act.eval]) ?_
          refine (get2_any p gx s at_ xt vA ah wy HIy.out Hb.out HXy.out JOk.out).mono ?_
          rintro e w9 ⟨er, rfl, hg9, hc9⟩
          refine ⟨_, rfl, ?_⟩
          have HG9 : Keep (Grown w w9 fun k => k = p) := ⟨HGy.out.next hg9 fun k hk ho => ho.elim id fun e => by have := Hgx.out; omega⟩
          have Hgs : Keep (Grown wr w9 fun k => k = p ∨ k = gx) := ⟨(Grown.below HGq.out).trans hg9⟩
          have HZ9 := Keep.mk (Hgs.out.blk JZ.out (fun e => e.elim (fun e => blk_ne JZ.out JI.out.blk (by decide) e) (fun e => Hzx.out e)))
          have HC9 := Keep.mk hc9
          obtain ⟨G, hGG⟩ : ∃ G, Keep (G = getF (lst s) ah 2 xt at_) := ⟨_, ⟨rfl⟩⟩
          rw [← hGG.out] at HC9 Jst
          clear hg9 hc9 cf
          simp only [Act.put, List.setIfInBounds_toArray, List.set_cons_zero, List.set_cons_succ]
          refine WL.val (by kernel_rfl) (er) (by go_simp) ?_
          simp only [Act.put, List.setIfInBounds_toArray, List.set_cons_zero, List.set_cons_succ]
          refine WL.nil ?_
          refine hK31 _ _ ?_
          refine wp_seq_k fun K32 hK32 => ?_
          by_cases hE : G.1 = 0
          · rcases HC9.out with ⟨e1, rfl, e2, e3, e4⟩ | ⟨e1, _⟩
            rotate_left
            · exact absurd hE e1
            have K1 := Keep.mk e2
            have K2 := Keep.mk e3
            have K3 := Keep.mk e4
            clear e2 e3 e4
            refine wp_region_list (WL.out ?_)
            refine WL.val (by kernel_rfl) (.nilIface) (by go_simp) ?_
            simp only [Act.put, List.setIfInBounds_toArray, List.set_cons_zero, List.set_cons_succ]
            refine WL.val (by kernel_rfl) (.bool false) (by go_simp) ?_
            simp only [Act.put, List.setIfInBounds_toArray, List.set_cons_zero, List.set_cons_succ]
            refine WL.nil ?_
            refine hK32 _ _ ?_
            refine wp_cond_false rfl ?_
            refine wp_skip ?_
            refine hK29 _ _ ?_
            refine wp_region_list (WL.out ?_)
            refine WL.val (by kernel_rfl) (.int .i64 ((t : Int) + 1)) (by go_simp) ?_
            simp only [Act.put, List.setIfInBounds_toArray, List.set_cons_zero, List.set_cons_succ]
            refine WL.val (by kernel_rfl) (.int .i64 ((t : Int) + 1)) (by go_simp) ?_
            simp only [Act.put, List.setIfInBounds_toArray, List.set_cons_zero, List.set_cons_succ]
            refine WL.nil ?_
            rw [if_pos hE] at Jst
            refine ⟨⟨t + 1, u7, .pointer (some ⟨wr.heap.size, 0, none⟩), .nilIface, .bool true, .pointer (some ⟨gF, 0 + t * 3, none⟩), .agg (fldA 2), .pointer (some ⟨wr.heap.size, 2, none⟩), .func (.func 76) #[] #[], .pointer (some ⟨p, 0, none⟩), vA, .nilIface, .nilIface, .bool false, u58, u59, .int .i64 ((t : Int) + 1), rfl, by omega, G.2.2, G.2.1, JC.out.trans Jst.out, K1.out, K2.out, K3.out, JF.out.grown Hgs.out (fun g hg e => e.elim (fun e => blk_ne hg JI.out.blk (by decide) e) (fun e => blk_ne hg JX.out (by decide) e)), HG9.out, HZ9.out⟩, ?_⟩
            simp only [intOf]; show is.length - ((t : Int) + 1).toNat < is.length - ((t : Int)).toNat; omega
          · rcases HC9.out with ⟨e1, _⟩ | ⟨_, q, hq, rfl, hbad⟩
            · exact absurd e1 hE
            have Hbad := Keep.mk hbad
            have Hq := Keep.mk (Nat.le_trans (Nat.le_trans JG.out.size HGq.out.size) hq)
            clear hbad hq
            unfold err
            refine wp_region_list (WL.out ?_)
            refine WL.val (by kernel_rfl) (.iface 88 (ptr q)) (by go_simp) ?_
            simp only [Act.put, List.setIfInBounds_toArray, List.set_cons_zero, List.set_cons_succ]
            refine WL.val (by kernel_rfl) (.bool true) (by go_simp) ?_
            simp only [Act.put, List.setIfInBounds_toArray, List.set_cons_zero, List.set_cons_succ]
            refine WL.nil ?_
            refine hK32 _ _ ?_
            refine wp_cond_true rfl ?_
            refine wp_seq_k fun K33 hK33 => ?_
            refine wp_region_list (WL.out ?_)
            refine WL.bld (by kernel_rfl) 33 _ rfl [] (by simp) (opA zeroOp) Try.built33 ?_
            simp only [Act.put, List.setIfInBounds_toArray, List.set_cons_zero, List.set_cons_succ]
            refine WL.val (by kernel_rfl) (.iface 88 (ptr q)) (by go_simp) ?_
            simp only [Act.put, List.setIfInBounds_toArray, List.set_cons_zero, List.set_cons_succ]
            refine WL.storeR (by kernel_rfl) 33 (.tmp 6) (.tmp 58) rfl gz (opA zeroOp) rfl rfl 33 (opA zeroOp) HZ9.out (Try.size33B _) rfl (opA_one _) ?_
            simp only [Act.put]
            refine WL.val (by kernel_rfl) (.iface 88 (ptr q)) (by go_simp) ?_
            simp only [Act.put, List.setIfInBounds_toArray, List.set_cons_zero, List.set_cons_succ]
            refine WL.nil ?_
            refine hK33 _ _ ?_
            refine wp_ret ?_
            refine bodyPost_ret (v := .tuple #[.agg (opA zeroOp), .iface 88 (ptr q)]) (results_cell_row2 Try.results47 _ _ gz 33 _ (0, 0) _ _ rfl rfl (HZ9.out.setRow _) Try.underlying33 rfl (Try.size33B _)) rfl ?_
            refine ⟨zeroOp, err q, rfl, HG9.out.next (Grown.setRow w9 gz _ (S := fun k => k = gz) fun _ => rfl) (fun k hk e => by have := Hgz.out; omega), ?_⟩
            rw [HR.out, JC.out, Jst.out, if_neg hE]
            exact .inr ⟨hE, q, Hq.out, rfl, Hbad.out.setRow_ne (blk_ne Hbad.out HZ9.out (by decide)) _⟩
        · refine wp_seq_k fun K34 hK34 => ?_
          refine wp_region_list (WL.out ?_)
          refine WL.val (by kernel_rfl) (.bool true) (by go_simp) ?_
          simp only [Act.put, List.setIfInBounds_toArray, List.set_cons_zero, List.set_cons_succ]
          refine WL.nil ?_
          refine hK34 _ _ ?_
          refine wp_seq_k fun K35 hK35 => ?_
          refine wp_cond_true rfl ?_
          refine wp_skip ?_
          refine hK35 _ _ ?_
          refine wp_seq_k fun K36 hK36 => ?_
          refine wp_block ?_
          refine wp_seq_k fun K37 hK37 => ?_
          refine wp_region_list (WL.out ?_)
          refine WL.val (by kernel_rfl) (.pointer (some ⟨gF, 0 + t * 3, none⟩)) (by go_simp) ?_
          simp only [Act.put, List.setIfInBounds_toArray, List.set_cons_zero, List.set_cons_succ]
          refine WL.midA (by kernel_rfl) 82 (.tmp 49) rfl gF (0 + t * 3) rfl (fldA 3) _ hr2 Try.underlying82 rfl (Try.size82B 3) ?_
          simp only [Act.put, List.setIfInBounds_toArray, List.set_cons_zero, List.set_cons_succ]
          refine WL.new (by kernel_rfl) 82 rfl _ Try.new82 ?_
          simp only [Act.put, List.setIfInBounds_toArray, List.set_cons_zero, List.set_cons_succ]
          refine WL.storeR (by kernel_rfl) 82 (.tmp 15) (.tmp 50) rfl wr.heap.size (fldA 3) rfl rfl 82 noF (Blk.new wr 82 noF) (Try.size82B 3) (noF_sizes 3) (fldA_one 3) ?_
          have HN := Keep.mk ((Blk.new wr 82 noF).setRow (fldA 3))
          have HGq : Keep (Below wr.heap.size wr ((wr.alloc (.cells noF 82)).setRow wr.heap.size (fldA 3))) := ⟨below_setRow (below_new wr _) (Nat.le_refl _) _⟩
          generalize (wr.alloc (.cells noF 82)).setRow wr.heap.size (fldA 3) = wy at *
          have cf : wy.cell? ⟨wr.heap.size, 2, none⟩ = some (fnv 80) := HN.out.c 2 rfl
          unfold fnv at cf
          have HIy : Keep (InAt wy p s at_ none) := ⟨JI.out.blk.below HGq.out JI.out.blk.lt, JI.out.le⟩
          have HXy := Keep.mk (JX.out.below HGq.out JX.out.lt)
          have HGy : Keep (Grown w wy fun k => k = p) := ⟨JG.out.trans (Grown.below HGq.out)⟩
          simp only [Act.put]
          refine WL.nil ?_
          refine hK37 _ _ ?_
          refine wp_seq_k fun K38 hK38 => ?_
          refine wp_region_list (WL.out ?_)
          refine WL.val (by kernel_rfl) (.pointer (some ⟨wr.heap.size, 2, none⟩)) (by go_simp) ?_
          simp only [Act.put, List.setIfInBounds_toArray, List.set_cons_zero, List.set_cons_succ]
          refine WL.val (by kernel_rfl) (.func (.func 80) #[] #[]) (by go_simp) ?_
          simp only [Act.put, List.setIfInBounds_toArray, List.set_cons_zero, List.set_cons_succ]
          refine WL.val (by kernel_rfl) (.pointer (some ⟨p, 0, none⟩)) (by go_simp) ?_
          simp only [Act.put, List.setIfInBounds_toArray, List.set_cons_zero, List.set_cons_succ]
          refine WL.val (by kernel_rfl) (vA) (by go_simp) ?_
          simp only [Act.put, List.setIfInBounds_toArray, List.set_cons_zero, List.set_cons_succ]
          refine WL.callV (by kernel_rfl) 80 (.tmp 52) _ _ rfl rfl Try.in80 #[ptr p, ptr gx, vA] (by simp [Act.eval]) ?_
          refine (get3_any p gx s at_ xt vA ah wy HIy.out Hb.out HXy.out JOk.out (fun wx hx => HA.out wx (HGy.out.next hx fun k hk ho => ho.elim id fun e => by have := Hgx.out; omega)) Hal.out).mono ?_
          rintro e w9 ⟨er, rfl, hg9, hc9⟩
          refine ⟨_, rfl, ?_⟩
          have HG9 : Keep (Grown w w9 fun k => k = p) := ⟨HGy.out.next hg9 fun k hk ho => ho.elim id fun e => by have := Hgx.out; omega⟩
          have Hgs : Keep (Grown wr w9 fun k => k = p ∨ k = gx) := ⟨(Grown.below HGq.out).trans hg9⟩
          have HZ9 := Keep.mk (Hgs.out.blk JZ.out (fun e => e.elim (fun e => blk_ne JZ.out JI.out.blk (by decide) e) (fun e => Hzx.out e)))
          have HC9 := Keep.mk hc9
          obtain ⟨G, hGG⟩ : ∃ G, Keep (G = getF (lst s) ah 3 xt at_) := ⟨_, ⟨rfl⟩⟩
          rw [← hGG.out] at HC9 Jst
          clear hg9 hc9 cf
          simp only [Act.put, List.setIfInBounds_toArray, List.set_cons_zero, List.set_cons_succ]
          refine WL.val (by kernel_rfl) (er) (by go_simp) ?_
          simp only [Act.put, List.setIfInBounds_toArray, List.set_cons_zero, List.set_cons_succ]
          refine WL.nil ?_
          refine hK38 _ _ ?_
          refine wp_seq_k fun K39 hK39 => ?_
          by_cases hE : G.1 = 0
          · rcases HC9.out with ⟨e1, rfl, e2, e3, e4⟩ | ⟨e1, _⟩
            rotate_left
            · exact absurd hE e1
            have K1 := Keep.mk e2
            have K2 := Keep.mk e3
            have K3 := Keep.mk e4
            clear e2 e3 e4
            refine wp_region_list (WL.out ?_)
            refine WL.val (by kernel_rfl) (.nilIface) (by go_simp) ?_
            simp only [Act.put, List.setIfInBounds_toArray, List.set_cons_zero, List.set_cons_succ]
            refine WL.val (by kernel_rfl) (.bool false) (by go_simp) ?_
            simp only [Act.put, List.setIfInBounds_toArray, List.set_cons_zero, List.set_cons_succ]
            refine WL.nil ?_
            refine hK39 _ _ ?_
            refine wp_cond_false rfl ?_
            refine wp_skip ?_
            refine hK36 _ _ ?_
            refine wp_region_list (WL.out ?_)
            refine WL.val (by kernel_rfl) (.int .i64 ((t : Int) + 1)) (by go_simp) ?_
            simp only [Act.put, List.setIfInBounds_toArray, List.set_cons_zero, List.set_cons_succ]
            refine WL.val (by kernel_rfl) (.int .i64 ((t : Int) + 1)) (by go_simp) ?_
            simp only [Act.put, List.setIfInBounds_toArray, List.set_cons_zero, List.set_cons_succ]
            refine WL.nil ?_
            rw [if_pos hE] at Jst
            refine ⟨⟨t + 1, u7, .pointer (some ⟨wr.heap.size, 0, none⟩), .nilIface, .bool true, .pointer (some ⟨gF, 0 + t * 3, none⟩), .agg (fldA 3), .pointer (some ⟨wr.heap.size, 2, none⟩), .func (.func 80) #[] #[], .pointer (some ⟨p, 0, none⟩), vA, .nilIface, .nilIface, .bool false, u58, u59, .int .i64 ((t : Int) + 1), rfl, by omega, G.2.2, G.2.1, JC.out.trans Jst.out, K1.out, K2.out, K3.out, JF.out.grown Hgs.out (fun g hg e => e.elim (fun e => blk_ne hg JI.out.blk (by decide) e) (fun e => blk_ne hg JX.out (by decide) e)), HG9.out, HZ9.out⟩, ?_⟩
            simp only [intOf]; show is.length - ((t : Int) + 1).toNat < is.length - ((t : Int)).toNat; omega
          · rcases HC9.out with ⟨e1, _⟩ | ⟨_, q, hq, rfl, hbad⟩
            · exact absurd e1 hE
            have Hbad := Keep.mk hbad
            have Hq := Keep.mk (Nat.le_trans (Nat.le_trans JG.out.size HGq.out.size) hq)
            clear hbad hq
            unfold err
            refine wp_region_list (WL.out ?_)
            refine WL.val (by kernel_rfl) (.iface 88 (ptr q)) (by go_simp) ?_
            simp only [Act.put, List.setIfInBounds_toArray, List.set_cons_zero, List.set_cons_succ]
            refine WL.val (by kernel_rfl) (.bool true) (by go_simp) ?_
            simp only [Act.put, List.setIfInBounds_toArray, List.set_cons_zero, List.set_cons_succ]
            refine WL.nil ?_
            refine hK39 _ _ ?_
            refine wp_cond_true rfl ?_
            refine wp_seq_k fun K40 hK40 => ?_
            refine wp_region_list (WL.out ?_)
            refine WL.bld (by kernel_rfl) 33 _ rfl [] (by simp) (opA zeroOp) Try.built33 ?_
            simp only [Act.put, List.setIfInBounds_toArray, List.set_cons_zero, List.set_cons_succ]
            refine WL.val (by kernel_rfl) (.iface 88 (ptr q)) (by go_simp) ?_
            simp only [Act.put, List.setIfInBounds_toArray, List.set_cons_zero, List.set_cons_succ]
            refine WL.storeR (by kernel_rfl) 33 (.tmp 6) (.tmp 58) rfl gz (opA zeroOp) rfl rfl 33 (opA zeroOp) HZ9.out (Try.size33B _) rfl (opA_one _) ?_
            simp only [Act.put]
            refine WL.val (by kernel_rfl) (.iface 88 (ptr q)) (by go_simp) ?_
            simp only [Act.put, List.setIfInBounds_toArray, List.set_cons_zero, List.set_cons_succ]
            refine WL.nil ?_
            refine hK40 _ _ ?_
            refine wp_ret ?_
            refine bodyPost_ret (v := .tuple #[.agg (opA zeroOp), .iface 88 (ptr q)]) (results_cell_row2 Try.results47 _ _ gz 33 _ (0, 0) _ _ rfl rfl (HZ9.out.setRow _) Try.underlying33 rfl (Try.size33B _)) rfl ?_
            refine ⟨zeroOp, err q, rfl, HG9.out.next (Grown.setRow w9 gz _ (S := fun k => k = gz) fun _ => rfl) (fun k hk e => by have := Hgz.out; omega), ?_⟩
            rw [HR.out, JC.out, Jst.out, if_neg hE]
            exact .inr ⟨hE, q, Hq.out, rfl, Hbad.out.setRow_ne (blk_ne Hbad.out HZ9.out (by decide)) _⟩
      · have hte : Keep (t = is.length) := ⟨by omega⟩
        have htl' : ¬ (t : Int) < (is.length : Int) := by omega
        refine wp_seq_k fun K41 hK41 => ?_
        refine wp_region_list (WL.out ?_)
        refine WL.val (by kernel_rfl) (.bool false) (by go_simp) ?_
        simp only [Act.put, List.setIfInBounds_toArray, List.set_cons_zero, List.set_cons_succ]
        refine WL.nil ?_
        refine hK41 _ _ ?_
        refine wp_seq_k fun K42 hK42 => ?_
        refine wp_cond_false rfl ?_
        refine wp_exit ?_
        refine hK11 _ _ ?_
        refine wp_seq_k fun K43 hK43 => ?_
        refine wp_region_list (WL.out ?_)
        refine WL.row (by kernel_rfl) 33 (.tmp 11) rfl gx rfl 33 (opA xt) _ hX Try.underlying33 rfl (Try.size33B xt) ?_
        simp only [Act.put, List.setIfInBounds_toArray, List.set_cons_zero, List.set_cons_succ]
        refine WL.storeR (by kernel_rfl) 33 (.tmp 6) (.tmp 61) rfl gz (opA xt) rfl rfl 33 (opA zeroOp) hZ (Try.size33B _) (opA_sizes _ _) (opA_one _) ?_
        simp only [Act.put]
        refine WL.val (by kernel_rfl) (.nilIface) (by go_simp) ?_
        simp only [Act.put, List.setIfInBounds_toArray, List.set_cons_zero, List.set_cons_succ]
        refine WL.nil ?_
        refine hK43 _ _ ?_
        refine wp_ret ?_
        refine bodyPost_ret (v := .tuple #[.agg (opA xt), .nilIface]) (results_cell_row2 Try.results47 _ _ gz 33 _ (0, 0) _ _ rfl rfl (hZ.setRow _) Try.underlying33 rfl (Try.size33B _)) rfl ?_
        rw [hte.out, List.drop_length] at hC
        refine ⟨xt, .nilIface, rfl, hG.next (Grown.setRow wr gz _ (S := fun k => k = gz) fun _ => rfl) (fun k hk e => by have := Hgz.out; omega), ?_⟩
        rw [HR.out, hC]
        exact .inl ⟨rfl, rfl, rfl, ⟨hI.blk.setRow_ne (blk_ne hI.blk hZ (by decide)) _, hI.le⟩, hOk⟩
  · rcases H3.out with ⟨e1, _⟩ | ⟨_, q, hq, rfl, rfl, hbad⟩
    · exact absurd e1 hE
    have Hbad := Keep.mk hbad
    have Hq := Keep.mk (Nat.le_trans HG0.out.size hq)
    clear hbad hq
    unfold err
    refine wp_region_list (WL.out ?_)
    refine WL.val (by kernel_rfl) (.iface 88 (ptr q)) (by go_simp) ?_
    simp only [Act.put, List.setIfInBounds_toArray, List.set_cons_zero, List.set_cons_succ]
    refine WL.val (by kernel_rfl) (.bool true) (by go_simp) ?_
    simp only [Act.put, List.setIfInBounds_toArray, List.set_cons_zero, List.set_cons_succ]
    refine WL.nil ?_
    refine hK5 _ _ ?_
    refine wp_cond_true rfl ?_
    refine wp_seq_k fun K44 hK44 => ?_
    refine wp_region_list (WL.out ?_)
    refine WL.bld (by kernel_rfl) 33 _ rfl [] (by simp) (opA zeroOp) Try.built33 ?_
    simp only [Act.put, List.setIfInBounds_toArray, List.set_cons_zero, List.set_cons_succ]
    refine WL.val (by kernel_rfl) (.iface 88 (ptr q)) (by go_simp) ?_
    simp only [Act.put, List.setIfInBounds_toArray, List.set_cons_zero, List.set_cons_succ]
    refine WL.storeR (by kernel_rfl) 33 (.tmp 6) (.tmp 26) rfl gz (opA zeroOp) rfl rfl 33 (opA zeroOp) HZ1.out (Try.size33B _) rfl (opA_one _) ?_
    simp only [Act.put]
    refine WL.val (by kernel_rfl) (.iface 88 (ptr q)) (by go_simp) ?_
    simp only [Act.put, List.setIfInBounds_toArray, List.set_cons_zero, List.set_cons_succ]
    refine WL.nil ?_
    refine hK44 _ _ ?_
    refine wp_ret ?_
    refine bodyPost_ret (v := .tuple #[.agg (opA zeroOp), .iface 88 (ptr q)]) (results_cell_row2 Try.results47 _ _ gz 33 _ (0, 0) _ _ rfl rfl (HZ1.out.setRow _) Try.underlying33 rfl (Try.size33B _)) rfl ?_
    refine ⟨zeroOp, err q, rfl, HG1.out.next (Grown.setRow w1 gz _ (S := fun k => k = gz) fun _ => rfl) (fun k hk e => by have := Hgz.out; omega), ?_⟩
    rw [HR.out, if_pos hE]
    exact .inr ⟨hE, q, Hq.out, rfl, Hbad.out.setRow_ne (blk_ne Hbad.out HZ1.out (by decide)) _⟩

end Go.Proofs.Ytbkboebinhafhaa
