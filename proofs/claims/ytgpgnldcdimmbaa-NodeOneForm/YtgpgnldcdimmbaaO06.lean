import Derived.Test.YtgpgnldcdimmbaaO05
import Derived.Defers
import Derived.Recover
namespace Go.Proofs.Ytgpgnldcdimmbaa
open Go.RowKit
set_option linter.unusedSimpArgs false

def getFs (L : List Int) (ah : List OpV) : List Nat → OpV → Nat → Int × Nat × OpV
  | [], x, a => (0, a, x)
  | i :: is, x, a => if (getF L ah i x a).1 = 0 then getFs L ah is (getF L ah i x a).2.2 (getF L ah i x a).2.1 else getF L ah i x a
def getO (L : List Int) (ah : List OpV) (a : Nat) : Int × Nat × OpV :=
  if nextW (L.drop a) 1 ≠ 0 then (nextW (L.drop a) 1, a + nextN (L.drop a) 1, zeroOp)
  else if hasI ((L.drop a).getD 0 0) = [] then (40, a, zeroOp)
  else getFs L ah (hasI ((L.drop a).getD 0 0)) { zeroOp with kind := (L.drop a).getD 0 0 } (a + 1)
def OnePost (p : Nat) (s : ByteArray) (R : Int × Nat × OpV) (w : World) (e : Ending) (w' : World) : Prop :=
  ∃ x er, e = .returned (.tuple #[.agg (opA x), er]) ∧ (Grown w w' fun k => k = p) ∧
    ((R.1 = 0 ∧ x = R.2.2 ∧ er = .nilIface ∧ InAt w' p s R.2.1 none ∧ OpOk R.2.2) ∨ (R.1 ≠ 0 ∧ ∃ q, w.heap.size ≤ q ∧ er = err q ∧ BadAt w' q R.1 R.2.1))
theorem zero_ok : OpOk zeroOp := ⟨z32_len, z32_byts, by decide, by decide, by decide, by decide, by decide, by decide, by decide, by decide⟩
theorem zero_built (k : Int) : Try.prog.built 79 [(0, .int .i64 k)] = some (opA { zeroOp with kind := k }) := by kernel_rfl
theorem getFs_step (L : List Int) (ah : List OpV) (is : List Nat) (t : Nat) (ht : t < is.length) (x : OpV) (a : Nat) : getFs L ah (is.drop t) x a = if (getF L ah (is.getD t 0) x a).1 = 0 then getFs L ah (is.drop (t + 1)) (getF L ah (is.getD t 0) x a).2.2 (getF L ah (is.getD t 0) x a).2.1 else getF L ah (is.getD t 0) x a := by
  rw [List.drop_eq_getElem_cons ht, getFs]
  rw [show is.getD t 0 = is[t] by simp [List.getD_eq_getElem?_getD, ht]]
set_option maxRecDepth 8000 in
set_option maxHeartbeats 4000000 in
theorem getOne_any (p m : Nat) (s : ByteArray) (a : Nat) (vA : Value) (ah : List OpV) (w : World) (hI : InAt w p s a none) (hb : s.size ≤ 140737488355328) (hT : TabAt w m)
    (hA : ∀ wx, (Grown w wx fun k => k = p) → OpsAt wx vA ah) (hal : ah.length ≤ 1024) :
    Calls Try.prog 92 #[ptr p, .map (some m), vA] w (OnePost p s (getO (lst s) ah a) w) := by
  have HI := Keep.mk hI
  have HT := Keep.mk hT
  have Hb := Keep.mk hb
  have HA := Keep.mk hA
  have Hal := Keep.mk hal
  obtain ⟨R, hR⟩ : ∃ R, R = getO (lst s) ah a := ⟨_, rfl⟩
  rw [← hR]
  unfold getO at hR
  obtain ⟨D, hD⟩ : ∃ D, Keep (D = (lst s).drop a) := ⟨_, ⟨rfl⟩⟩
  obtain ⟨W, hW⟩ : ∃ W, Keep (W = nextW D 1) := ⟨_, ⟨rfl⟩⟩
  obtain ⟨N, hN⟩ : ∃ N, Keep (N = nextN D 1) := ⟨_, ⟨rfl⟩⟩
  obtain ⟨c, hc⟩ : ∃ c, Keep (c = if W = 0 then D.getD 0 0 else 0) := ⟨_, ⟨rfl⟩⟩
  rw [← hD.out, ← hW.out, ← hN.out] at hR
  have HcD : Keep (W = 0 → D.getD 0 0 = c) := ⟨fun h => by rw [hc.out, if_pos h]⟩
  have HR := Keep.mk hR
  clear hI hb hT hA hal hR
  go_enter Try.func92, Try.ntmps92
  refine wp_seq_k fun K1 hK1 => ?_
  refine wp_region_list (WL.out ?_)
  refine WL.new (by kernel_rfl) 79 rfl _ Try.new79 ?_
  have HZ0 := Keep.mk (Blk.new w 79 (opA zeroOp))
  have HG0 : Keep (Grown w (w.alloc (.cells (opA zeroOp) 79)) fun k => k = p) := ⟨Grown.alloc w _ _⟩
  have HI0 : Keep (InAt (w.alloc (.cells (opA zeroOp) 79)) p s a none) := ⟨HI.out.box _⟩
  have HT0 := Keep.mk (HT.out.below (below_new w (.cells (opA zeroOp) 79)))
  obtain ⟨gz, hgz⟩ : ∃ gz, Keep (gz = w.heap.size) := ⟨_, ⟨rfl⟩⟩
  have Hgz : Keep (w.heap.size ≤ gz) := ⟨Nat.le_of_eq hgz.out.symm⟩
  rw [← hgz.out] at HZ0 ⊢
  generalize w.alloc (.cells (opA zeroOp) 79) = w0 at *
  simp only [Act.put, List.setIfInBounds_toArray, List.set_cons_zero, List.set_cons_succ]
  refine WL.val (by kernel_rfl) (.nilIface) (by go_simp) ?_
  simp only [Act.put, List.setIfInBounds_toArray, List.set_cons_zero, List.set_cons_succ]
  refine WL.nil ?_
  refine hK1 _ _ ?_
  refine wp_seq_k fun K2 hK2 => ?_
  refine wp_region_list (WL.out ?_)
  refine WL.val (by kernel_rfl) (.pointer (some ⟨p, 0, none⟩)) (by go_simp) ?_
  simp only [Act.put, List.setIfInBounds_toArray, List.set_cons_zero, List.set_cons_succ]
  refine WL.callF (by kernel_rfl) 58 _ _ rfl Try.in58 #[ptr p] (by simp [Act.eval]) ?_
  refine (iat_any p s a none w0 HI0.out).mono ?_
  rintro e w0' ⟨rfl, hw0⟩
  rw [hw0]
  clear hw0 w0'
  refine ⟨_, rfl, ?_⟩
  simp only [Act.put, List.setIfInBounds_toArray, List.set_cons_zero, List.set_cons_succ]
  refine WL.val (by kernel_rfl) (.int .i64 (a : Int)) (by go_simp) ?_
  simp only [Act.put, List.setIfInBounds_toArray, List.set_cons_zero, List.set_cons_succ]
  refine WL.nil ?_
  refine hK2 _ _ ?_
  refine wp_seq_k fun K3 hK3 => ?_
  refine wp_region_list (WL.out ?_)
  refine WL.val (by kernel_rfl) (.pointer (some ⟨p, 0, none⟩)) (by go_simp) ?_
  simp only [Act.put, List.setIfInBounds_toArray, List.set_cons_zero, List.set_cons_succ]
  refine WL.callF (by kernel_rfl) 87 _ _ rfl Try.in87 #[ptr p] (by simp [Act.eval]) ?_
  refine (ibyte_good p s a w0 HI0.out Hb.out D hD.out W hW.out N hN.out c hc.out).mono ?_
  rintro e w1 ⟨bad, er, rfl, h1, h2, h3⟩
  refine ⟨_, rfl, ?_⟩
  have HZ1 := Keep.mk (h2.blk HZ0.out (blk_ne HZ0.out HI0.out.blk (by decide)))
  have HG1 : Keep (Grown w w1 fun k => k = p) := ⟨HG0.out.trans h2⟩
  have HT1 := Keep.mk (HT0.out.grown h2 (fun e => HT0.out.ne HI0.out.blk e) (fun g cs hg e => blk_ne hg HI0.out.blk (by decide) e))
  have H1 := Keep.mk h1
  have H3 := Keep.mk h3
  clear h1 h2 h3
  simp only [Act.put, List.setIfInBounds_toArray, List.set_cons_zero, List.set_cons_succ]
  refine WL.val (by kernel_rfl) (.tuple #[.int .u8 c, er]) (by go_simp) ?_
  simp only [Act.put, List.setIfInBounds_toArray, List.set_cons_zero, List.set_cons_succ]
  refine WL.val (by kernel_rfl) (.int .u8 c) (by go_simp) ?_
  simp only [Act.put, List.setIfInBounds_toArray, List.set_cons_zero, List.set_cons_succ]
  refine WL.val (by kernel_rfl) (er) (by go_simp) ?_
  simp only [Act.put, List.setIfInBounds_toArray, List.set_cons_zero, List.set_cons_succ]
  refine WL.val (by kernel_rfl) (.int .u8 c) (by go_simp) ?_
  simp only [Act.put, List.setIfInBounds_toArray, List.set_cons_zero, List.set_cons_succ]
  refine WL.val (by kernel_rfl) (er) (by go_simp) ?_
  simp only [Act.put, List.setIfInBounds_toArray, List.set_cons_zero, List.set_cons_succ]
  refine WL.nil ?_
  refine hK3 _ _ ?_
  refine wp_seq_k fun K4 hK4 => ?_
  refine wp_seq_k fun K5 hK5 => ?_
  by_cases hE : W = 0
  · rcases H3.out with ⟨e1, rfl, rfl⟩ | ⟨e1, _⟩
    rotate_left
    · exact absurd hE e1
    have hcr : 0 ≤ c ∧ c < 256 := by rw [hc.out, if_pos hE]; exact Byts.getD (by rw [hD.out]; exact (lst_byts s).drop a) 0
    have hwc : IntKind.i64.wrap c = c := by rw [IntKind.wrap_i64]; omega
    obtain ⟨xk, hxk⟩ : ∃ xk : OpV, Keep (xk = { zeroOp with kind := c }) := ⟨_, ⟨rfl⟩⟩
    have hcx : Keep (xk.kind = c) := ⟨by rw [hxk.out]⟩
    have Hcr := Keep.mk hcr
    clear hcr
    refine wp_region_list (WL.out ?_)
    refine WL.val (by kernel_rfl) (.nilIface) (by go_simp) ?_
    simp only [Act.put, List.setIfInBounds_toArray, List.set_cons_zero, List.set_cons_succ]
    refine WL.val (by kernel_rfl) (.bool false) (by go_simp) ?_
    simp only [Act.put, List.setIfInBounds_toArray, List.set_cons_zero, List.set_cons_succ]
    refine WL.nil ?_
    refine hK5 _ _ ?_
    refine wp_cond_false rfl ?_
    refine wp_skip ?_
    refine hK4 _ _ ?_
    refine wp_seq_k fun K6 hK6 => ?_
    refine wp_region_list (WL.out ?_)
    refine WL.val (by kernel_rfl) (.int .u8 c) (by go_simp) ?_
    simp only [Act.put, List.setIfInBounds_toArray, List.set_cons_zero, List.set_cons_succ]
    refine WL.val (by kernel_rfl) (.int .i64 c) (by go_simp) ?_
    simp only [Act.put, List.setIfInBounds_toArray, List.set_cons_zero, List.set_cons_succ]
    refine WL.bld (by kernel_rfl) 79 _ rfl [(0, .int .i64 c)] (by simp [Act.eval]) (opA { zeroOp with kind := c }) (zero_built c) ?_
    rw [← hxk.out]
    simp only [Act.put, List.setIfInBounds_toArray, List.set_cons_zero, List.set_cons_succ]
    refine WL.new (by kernel_rfl) 79 rfl _ Try.new79 ?_
    simp only [Act.put, List.setIfInBounds_toArray, List.set_cons_zero, List.set_cons_succ]
    refine WL.storeR (by kernel_rfl) 79 (.tmp 11) (.tmp 30) rfl w1.heap.size (opA xk) rfl rfl 79 (opA zeroOp) (Blk.new w1 79 _) (Try.size79B xk) (opA_sizes _ _) (opA_one xk) ?_
    have HX2 := Keep.mk ((Blk.new w1 79 (opA zeroOp)).setRow (opA xk))
    have B2 : Keep (Below w1.heap.size w1 ((w1.alloc (.cells (opA zeroOp) 79)).setRow w1.heap.size (opA xk))) := ⟨below_setRow (below_new w1 _) (Nat.le_refl _) _⟩
    obtain ⟨gx, hgx⟩ : ∃ gx, Keep (gx = w1.heap.size) := ⟨_, ⟨rfl⟩⟩
    have Hgx : Keep (w.heap.size ≤ gx) := ⟨by rw [hgx.out]; exact HG1.out.size⟩
    have Hzx : Keep (gz ≠ gx) := ⟨fun e => by have := HZ1.out.lt; rw [hgx.out] at e; omega⟩
    generalize (w1.alloc (.cells (opA zeroOp) 79)).setRow w1.heap.size (opA xk) = w2 at *
    rw [← hgx.out] at HX2 ⊢
    have HZ2 := Keep.mk (HZ1.out.below B2.out HZ1.out.lt)
    have HI2 : Keep (InAt w2 p s (a + N) none) := ⟨H1.out.blk.below B2.out H1.out.blk.lt, H1.out.le⟩
    have HG2 : Keep (Grown w w2 fun k => k = p) := ⟨HG1.out.trans (Grown.below B2.out)⟩
    have HT2 := Keep.mk (HT1.out.below B2.out)
    obtain ⟨vF, hvF, hlk⟩ := HT2.out.look2 c
    obtain ⟨fa, fc, rfl⟩ := hvF.form
    have HvF := Keep.mk hvF
    have hlk2 := (hlk w2 (Below.refl _ _)).2
    have k0 : w2.cell? ⟨gx, 0, none⟩ = some (.int .i64 c) := by have h := HX2.out.c 0 (opA_0 xk); rw [hcx.out] at h; exact h
    clear hvF hlk
    simp only [Act.put]
    refine WL.nil ?_
    refine hK6 _ _ ?_
    refine wp_seq_k fun K7 hK7 => ?_
    refine wp_region_list (WL.out ?_)
    refine WL.val (by kernel_rfl) (.map (some m)) (by go_simp) ?_
    simp only [Act.put, List.setIfInBounds_toArray, List.set_cons_zero, List.set_cons_succ]
    refine WL.val (by kernel_rfl) (.pointer (some ⟨gx, 0, none⟩)) (by go_simp) ?_
    simp only [Act.put, List.setIfInBounds_toArray, List.set_cons_zero, List.set_cons_succ]
    refine WL.val (by kernel_rfl) (.int .i64 c) (by go_simp) ?_
    simp only [Act.put, List.setIfInBounds_toArray, List.set_cons_zero, List.set_cons_succ]
    refine WL.val (by kernel_rfl) (.tuple #[.slice fa (hasI c).length fc, .bool (!(hasI c).isEmpty)]) (by go_simp) ?_
    simp only [Act.put, List.setIfInBounds_toArray, List.set_cons_zero, List.set_cons_succ]
    refine WL.val (by kernel_rfl) (.tuple #[.slice fa (hasI c).length fc, .bool (!(hasI c).isEmpty)]) (by go_simp) ?_
    simp only [Act.put, List.setIfInBounds_toArray, List.set_cons_zero, List.set_cons_succ]
    refine WL.val (by kernel_rfl) (.slice fa (hasI c).length fc) (by go_simp) ?_
    simp only [Act.put, List.setIfInBounds_toArray, List.set_cons_zero, List.set_cons_succ]
    refine WL.val (by kernel_rfl) (.bool (!(hasI c).isEmpty)) (by go_simp) ?_
    simp only [Act.put, List.setIfInBounds_toArray, List.set_cons_zero, List.set_cons_succ]
    refine WL.val (by kernel_rfl) (.slice fa (hasI c).length fc) (by go_simp) ?_
    simp only [Act.put, List.setIfInBounds_toArray, List.set_cons_zero, List.set_cons_succ]
    refine WL.val (by kernel_rfl) (.bool (!(hasI c).isEmpty)) (by go_simp) ?_
    simp only [Act.put, List.setIfInBounds_toArray, List.set_cons_zero, List.set_cons_succ]
    refine WL.nil ?_
    refine hK7 _ _ ?_
    refine wp_seq_k fun K8 hK8 => ?_
    refine wp_seq_k fun K9 hK9 => ?_
    refine wp_region_list (WL.out ?_)
    refine WL.val (by kernel_rfl) (.bool (!(hasI c).isEmpty)) (by go_simp) ?_
    simp only [Act.put, List.setIfInBounds_toArray, List.set_cons_zero, List.set_cons_succ]
    by_cases h7_1 : hasI c = []
    · have hem : (!(hasI c).isEmpty) = false := by rw [h7_1]; rfl
      refine WL.val (by kernel_rfl) (.bool true) (by go_simp) ?_
      simp only [Act.put, List.setIfInBounds_toArray, List.set_cons_zero, List.set_cons_succ]
      refine WL.nil ?_
      refine hK9 _ _ ?_
      refine wp_cond_true rfl ?_
      refine wp_seq_k fun K10 hK10 => ?_
      refine wp_region_list (WL.out ?_)
      refine WL.bld (by kernel_rfl) 79 _ rfl [] (by simp) (opA zeroOp) Try.built79 ?_
      simp only [Act.put, List.setIfInBounds_toArray, List.set_cons_zero, List.set_cons_succ]
      refine WL.val (by kernel_rfl) (.int .i64 (a : Int)) (by go_simp) ?_
      simp only [Act.put, List.setIfInBounds_toArray, List.set_cons_zero, List.set_cons_succ]
      refine WL.bld (by kernel_rfl) 70 _ rfl [(0, .int .i64 40), (1, .int .i64 (a : Int))] (by simp [Act.eval]) #[.int .i64 40, .int .i64 (a : Int)] (by kernel_rfl) ?_
      simp only [Act.put, List.setIfInBounds_toArray, List.set_cons_zero, List.set_cons_succ]
      refine WL.box (by kernel_rfl) 70 (.tmp 42) rfl #[.int .i64 40, .int .i64 (a : Int)] rfl ?_
      have HZ3 := Keep.mk (HZ2.out.alloc (.cells #[.int .i64 40, .int .i64 (a : Int)] 70))
      have HB3 := Keep.mk (Blk.new w2 70 #[.int .i64 40, .int .i64 (a : Int)])
      have HG3 : Keep (Grown w (w2.alloc (.cells #[.int .i64 40, .int .i64 (a : Int)] 70)) fun k => k = p) := ⟨HG2.out.trans (Grown.alloc w2 _ _)⟩
      generalize w2.alloc (.cells #[.int .i64 40, .int .i64 (a : Int)] 70) = w3 at *
      simp only [Act.put, List.setIfInBounds_toArray, List.set_cons_zero, List.set_cons_succ]
      refine WL.val (by kernel_rfl) (.iface 68 (.pointer (some ⟨w2.heap.size, 0, none⟩))) (by go_simp) ?_
      simp only [Act.put, List.setIfInBounds_toArray, List.set_cons_zero, List.set_cons_succ]
      refine WL.storeR (by kernel_rfl) 79 (.tmp 6) (.tmp 40) rfl gz (opA zeroOp) rfl rfl 79 (opA zeroOp) HZ3.out (Try.size79B _) rfl (opA_one _) ?_
      simp only [Act.put]
      refine WL.val (by kernel_rfl) (.iface 68 (.pointer (some ⟨w2.heap.size, 0, none⟩))) (by go_simp) ?_
      simp only [Act.put, List.setIfInBounds_toArray, List.set_cons_zero, List.set_cons_succ]
      refine WL.nil ?_
      refine hK10 _ _ ?_
      refine wp_ret ?_
      refine bodyPost_ret (v := .tuple #[.agg (opA zeroOp), .iface 68 (ptr w2.heap.size)]) (results_cell_row2 Try.results92 _ _ gz 79 _ (0, 0) _ _ rfl rfl (HZ3.out.setRow _) Try.underlying79 rfl (Try.size79B _)) rfl ?_
      refine ⟨zeroOp, err w2.heap.size, rfl, HG3.out.next (Grown.setRow w3 gz _ (S := fun k => k = gz) fun _ => rfl) (fun k hk e => by have := Hgz.out; omega), ?_⟩
      rw [HR.out, if_neg (by simp [hE]), HcD.out hE, if_pos h7_1]
      exact .inr ⟨(show (40 : Int) ≠ 0 by decide), w2.heap.size, HG2.out.size, rfl, HB3.out.setRow_ne (blk_ne HB3.out HZ3.out (by decide)) _⟩
    · have hem : (!(hasI c).isEmpty) = true := by simpa using h7_1
      refine WL.val (by kernel_rfl) (.bool false) (by go_simp) ?_
      simp only [Act.put, List.setIfInBounds_toArray, List.set_cons_zero, List.set_cons_succ]
      refine WL.nil ?_
      refine hK9 _ _ ?_
      refine wp_cond_false rfl ?_
      refine wp_skip ?_
      refine hK8 _ _ ?_
      refine wp_seq_k fun K11 hK11 => ?_
      refine wp_seq_k fun K12 hK12 => ?_
      refine wp_region_list (WL.out ?_)
      have hN1 : N = 1 := by rw [hN.out, (nextN_0 D 1 (by rw [← hW.out]; exact hE)).1]; rfl
      rw [hN1] at HI2
      have HRR : Keep (R = getFs (lst s) ah (hasI c) xk (a + 1)) := ⟨by rw [HR.out, if_neg (by simp [hE]), HcD.out hE, if_neg h7_1, ← hxk.out]⟩
      have Hi4 := Keep.mk (hasI_lt c)
      have Hn3 := Keep.mk (hasI_len c)
      have S3 : Keep (OpOk xk) := ⟨by rw [hxk.out]; exact { zero_ok with k1 := by show (-9223372036854775808 : Int) ≤ c; have := Hcr.out; omega, k2 := by show c ≤ (9223372036854775807 : Int); have := Hcr.out; omega }⟩
      clear HR h7_1 hem hlk2
      rename Keep (R = getFs _ _ _ _ _) => HR
      generalize hasI c = is at *
      have S1 := HI2
      have S2 := HX2
      have S4 := HvF
      have S5 := HG2
      have S6 := HZ2
      refine WL.val (by kernel_rfl) (.slice fa is.length fc) (by go_simp) ?_
      simp only [Act.put, List.setIfInBounds_toArray, List.set_cons_zero, List.set_cons_succ]
      refine WL.val (by kernel_rfl) (.int .i64 (is.length : Int)) (by go_simp) ?_
      simp only [Act.put, List.setIfInBounds_toArray, List.set_cons_zero, List.set_cons_succ]
      refine WL.val (by kernel_rfl) (.int .i64 0) (by go_simp) ?_
      simp only [Act.put, List.setIfInBounds_toArray, List.set_cons_zero, List.set_cons_succ]
      refine WL.nil ?_
      refine hK12 _ _ ?_
      refine wp_block ?_
      refine wp_loop (fun ac wr => ∃ (t : Nat) (u7 u15 u16 u48 u49 u50 u51 u52 u53 u54 u55 u56 u57 u58 u59 u60 : Value), ac = { tmps := #[.pointer (some ⟨p, 0, none⟩), .map (some m), vA, undef, undef, undef, .pointer (some ⟨gz, 0, none⟩), u7, .int .i64 (a : Int), .int .u8 c, .nilIface, .pointer (some ⟨gx, 0, none⟩), .slice fa is.length fc, .bool (!is.isEmpty), undef, u15, u16, .pointer (some ⟨p, 0, none⟩), .int .i64 (a : Int), .tuple #[.int .u8 c, .nilIface], .pointer (some ⟨p, 0, none⟩), .tuple #[.int .u8 c, .nilIface], .int .u8 c, .nilIface, .nilIface, .bool false, undef, undef, .int .u8 c, .int .i64 c, .agg (opA xk), .tuple #[.slice fa is.length fc, .bool (!is.isEmpty)], .map (some m), .pointer (some ⟨gx, 0, none⟩), .int .i64 c, .tuple #[.slice fa is.length fc, .bool (!is.isEmpty)], .slice fa is.length fc, .bool (!is.isEmpty), .bool (!is.isEmpty), .bool false, undef, undef, undef, undef, undef, .slice fa is.length fc, .int .i64 (is.length : Int), .int .i64 (t : Int), u48, u49, u50, u51, u52, u53, u54, u55, u56, u57, u58, u59, u60, undef], defers := [] } ∧ t ≤ is.length ∧ ∃ xt at_, getFs (lst s) ah is xk (a + 1) = getFs (lst s) ah (is.drop t) xt at_ ∧ InAt wr p s at_ none ∧ Blk wr gx 79 (opA xt) ∧ OpOk xt ∧ FieldsAt wr (.slice fa is.length fc) is ∧ (Grown w wr fun k => k = p) ∧ Blk wr gz 79 (opA zeroOp)) (fun a _ => is.length - (intOf (a.tmps.getD 47 undef)).toNat) ⟨0, .nilIface, undef, undef, undef, undef, undef, undef, undef, undef, undef, undef, undef, undef, undef, undef, undef, rfl, by omega, xk, a + 1, rfl, S1.out, S2.out, S3.out, S4.out, S5.out, S6.out⟩ ?_
      rintro ac wr ⟨t, u7, u15, u16, u48, u49, u50, u51, u52, u53, u54, u55, u56, u57, u58, u59, u60, rfl, ht, xt, at_, hC, hI, hX, hOk, hF, hG, hZ⟩
      by_cases htl : t < is.length
      · have htl' : (t : Int) < (is.length : Int) := by omega
        obtain ⟨gF, hfa, hr2⟩ := hF.at htl
        have hi4 : is.getD t 0 < 4 := Hi4.out _ (by simp [List.getD_eq_getElem?_getD, htl])
        have hst := getFs_step (lst s) ah is t htl xt at_
        generalize is.getD t 0 = i at *
        have hwr2 : IntKind.i64.wrap ((t : Int) + 1) = (t : Int) + 1 := by rw [IntKind.wrap_i64]; have := Hn3.out; omega
        have JC := Keep.mk hC
        have JI := Keep.mk hI
        have JX := Keep.mk hX
        have JOk := Keep.mk hOk
        have JF := Keep.mk hF
        have JG := Keep.mk hG
        have JZ := Keep.mk hZ
        have Jst := Keep.mk hst
        clear hC hI hX hOk hF hG hZ hst
        rcases (show i = 0 ∨ i = 1 ∨ i = 2 ∨ i = 3 by omega) with rfl | rfl | rfl | rfl
        · refine wp_seq_k fun K13 hK13 => ?_
          refine wp_region_list (WL.out ?_)
          refine WL.val (by kernel_rfl) (.bool true) (by go_simp) ?_
          simp only [Act.put, List.setIfInBounds_toArray, List.set_cons_zero, List.set_cons_succ]
          refine WL.nil ?_
          refine hK13 _ _ ?_
          refine wp_seq_k fun K14 hK14 => ?_
          refine wp_cond_true rfl ?_
          refine wp_skip ?_
          refine hK14 _ _ ?_
          refine wp_seq_k fun K15 hK15 => ?_
          refine wp_block ?_
          refine wp_seq_k fun K16 hK16 => ?_
          refine wp_region_list (WL.out ?_)
          refine WL.val (by kernel_rfl) (.pointer (some ⟨gF, 0 + t * 3, none⟩)) (by go_simp) ?_
          simp only [Act.put, List.setIfInBounds_toArray, List.set_cons_zero, List.set_cons_succ]
          refine WL.midA (by kernel_rfl) 129 (.tmp 49) rfl gF (0 + t * 3) rfl (fldA 0) _ hr2 Try.underlying129 rfl (Try.size129B 0) ?_
          simp only [Act.put, List.setIfInBounds_toArray, List.set_cons_zero, List.set_cons_succ]
          refine WL.new (by kernel_rfl) 129 rfl _ Try.new129 ?_
          simp only [Act.put, List.setIfInBounds_toArray, List.set_cons_zero, List.set_cons_succ]
          refine WL.storeR (by kernel_rfl) 129 (.tmp 15) (.tmp 50) rfl wr.heap.size (fldA 0) rfl rfl 129 noF (Blk.new wr 129 noF) (Try.size129B 0) (noF_sizes 0) (fldA_one 0) ?_
          have HN := Keep.mk ((Blk.new wr 129 noF).setRow (fldA 0))
          have HGq : Keep (Below wr.heap.size wr ((wr.alloc (.cells noF 129)).setRow wr.heap.size (fldA 0))) := ⟨below_setRow (below_new wr _) (Nat.le_refl _) _⟩
          generalize (wr.alloc (.cells noF 129)).setRow wr.heap.size (fldA 0) = wy at *
          have cf : wy.cell? ⟨wr.heap.size, 2, none⟩ = some (fnv 102) := HN.out.c 2 rfl
          unfold fnv at cf
          have HIy : Keep (InAt wy p s at_ none) := ⟨JI.out.blk.below HGq.out JI.out.blk.lt, JI.out.le⟩
          have HXy := Keep.mk (JX.out.below HGq.out JX.out.lt)
          have HGy : Keep (Grown w wy fun k => k = p) := ⟨JG.out.trans (Grown.below HGq.out)⟩
          simp only [Act.put]
          refine WL.nil ?_
          refine hK16 _ _ ?_
          refine wp_seq_k fun K17 hK17 => ?_
          refine wp_region_list (WL.out ?_)
          refine WL.val (by kernel_rfl) (.pointer (some ⟨wr.heap.size, 2, none⟩)) (by go_simp) ?_
          simp only [Act.put, List.setIfInBounds_toArray, List.set_cons_zero, List.set_cons_succ]
          refine WL.val (by kernel_rfl) (.func (.func 102) #[] #[]) (by go_simp) ?_
          simp only [Act.put, List.setIfInBounds_toArray, List.set_cons_zero, List.set_cons_succ]
          refine WL.val (by kernel_rfl) (.pointer (some ⟨p, 0, none⟩)) (by go_simp) ?_
          simp only [Act.put, List.setIfInBounds_toArray, List.set_cons_zero, List.set_cons_succ]
          refine WL.val (by kernel_rfl) (vA) (by go_simp) ?_
          simp only [Act.put, List.setIfInBounds_toArray, List.set_cons_zero, List.set_cons_succ]
          refine WL.callV (by kernel_rfl) 102 (.tmp 52) _ _ rfl rfl Try.in102 #[ptr p, ptr gx, vA] (by simp [Act.eval]) ?_
          refine (get0_any p gx s at_ xt vA ah wy HIy.out Hb.out HXy.out JOk.out).mono ?_
          rintro e w9 ⟨er, rfl, hg9, hc9⟩
          refine ⟨_, rfl, ?_⟩
          have HG9 : Keep (Grown w w9 fun k => k = p) := ⟨HGy.out.next hg9 fun k hk ho => ho.elim id fun e => by have := Hgx.out; omega⟩
          have Hgs : Keep (Grown wr w9 fun k => k = p ∨ k = gx) := ⟨(Grown.below HGq.out).trans hg9⟩
          have HZ9 := Keep.mk (Hgs.out.blk JZ.out (fun e => e.elim (fun e => blk_ne JZ.out JI.out.blk (by decide) e) (fun e => Hzx.out e)))
          have HC9 := Keep.mk hc9
          obtain ⟨G, hGG⟩ : ∃ G, Keep (G = getF (lst s) ah 0 xt at_) := ⟨_, ⟨rfl⟩⟩
          rw [← hGG.out] at HC9 Jst
          clear hg9 hc9 cf
          simp only [Act.put, List.setIfInBounds_toArray, List.set_cons_zero, List.set_cons_succ]
          refine WL.val (by kernel_rfl) (er) (by go_simp) ?_
          simp only [Act.put, List.setIfInBounds_toArray, List.set_cons_zero, List.set_cons_succ]
          refine WL.nil ?_
          refine hK17 _ _ ?_
          refine wp_seq_k fun K18 hK18 => ?_
          by_cases hE : G.1 = 0
          · rcases HC9.out with ⟨e1, rfl, e2, e3, e4⟩ | ⟨e1, _⟩
            rotate_left
            · exact absurd hE e1
            have K1 := Keep.mk e2
            have K2 := Keep.mk e3
            have K3 := Keep.mk e4
            clear e2 e3 e4
            refine wp_region_list (WL.out ?_)
            refine WL.val (by kernel_rfl) (.nilIface) (by go_simp) ?_
            simp only [Act.put, List.setIfInBounds_toArray, List.set_cons_zero, List.set_cons_succ]
            refine WL.val (by kernel_rfl) (.bool false) (by go_simp) ?_
            simp only [Act.put, List.setIfInBounds_toArray, List.set_cons_zero, List.set_cons_succ]
            refine WL.nil ?_
            refine hK18 _ _ ?_
            refine wp_cond_false rfl ?_
            refine wp_skip ?_
            refine hK15 _ _ ?_
            refine wp_region_list (WL.out ?_)
            refine WL.val (by kernel_rfl) (.int .i64 ((t : Int) + 1)) (by go_simp) ?_
            simp only [Act.put, List.setIfInBounds_toArray, List.set_cons_zero, List.set_cons_succ]
            refine WL.val (by kernel_rfl) (.int .i64 ((t : Int) + 1)) (by go_simp) ?_
            simp only [Act.put, List.setIfInBounds_toArray, List.set_cons_zero, List.set_cons_succ]
            refine WL.nil ?_
            rw [if_pos hE] at Jst
            refine ⟨⟨t + 1, u7, .pointer (some ⟨wr.heap.size, 0, none⟩), .nilIface, .bool true, .pointer (some ⟨gF, 0 + t * 3, none⟩), .agg (fldA 0), .pointer (some ⟨wr.heap.size, 2, none⟩), .func (.func 102) #[] #[], .pointer (some ⟨p, 0, none⟩), vA, .nilIface, .nilIface, .bool false, u58, u59, .int .i64 ((t : Int) + 1), rfl, by omega, G.2.2, G.2.1, JC.out.trans Jst.out, K1.out, K2.out, K3.out, JF.out.grown Hgs.out (fun g hg e => e.elim (fun e => blk_ne hg JI.out.blk (by decide) e) (fun e => blk_ne hg JX.out (by decide) e)), HG9.out, HZ9.out⟩, ?_⟩
            simp only [intOf]; show is.length - ((t : Int) + 1).toNat < is.length - ((t : Int)).toNat; omega
          · rcases HC9.out with ⟨e1, _⟩ | ⟨_, q, hq, rfl, hbad⟩
            · exact absurd e1 hE
            have Hbad := Keep.mk hbad
            have Hq := Keep.mk (Nat.le_trans (Nat.le_trans JG.out.size HGq.out.size) hq)
            clear hbad hq
            unfold err
            refine wp_region_list (WL.out ?_)
            refine WL.val (by kernel_rfl) (.iface 68 (ptr q)) (by go_simp) ?_
            simp only [Act.put, List.setIfInBounds_toArray, List.set_cons_zero, List.set_cons_succ]
            refine WL.val (by kernel_rfl) (.bool true) (by go_simp) ?_
            simp only [Act.put, List.setIfInBounds_toArray, List.set_cons_zero, List.set_cons_succ]
            refine WL.nil ?_
            refine hK18 _ _ ?_
            refine wp_cond_true rfl ?_
            refine wp_seq_k fun K19 hK19 => ?_
            refine wp_region_list (WL.out ?_)
            refine WL.bld (by kernel_rfl) 79 _ rfl [] (by simp) (opA zeroOp) Try.built79 ?_
            simp only [Act.put, List.setIfInBounds_toArray, List.set_cons_zero, List.set_cons_succ]
            refine WL.val (by kernel_rfl) (.iface 68 (ptr q)) (by go_simp) ?_
            simp only [Act.put, List.setIfInBounds_toArray, List.set_cons_zero, List.set_cons_succ]
            refine WL.storeR (by kernel_rfl) 79 (.tmp 6) (.tmp 58) rfl gz (opA zeroOp) rfl rfl 79 (opA zeroOp) HZ9.out (Try.size79B _) rfl (opA_one _) ?_
            simp only [Act.put]
            refine WL.val (by kernel_rfl) (.iface 68 (ptr q)) (by go_simp) ?_
            simp only [Act.put, List.setIfInBounds_toArray, List.set_cons_zero, List.set_cons_succ]
            refine WL.nil ?_
            refine hK19 _ _ ?_
            refine wp_ret ?_
            refine bodyPost_ret (v := .tuple #[.agg (opA zeroOp), .iface 68 (ptr q)]) (results_cell_row2 Try.results92 _ _ gz 79 _ (0, 0) _ _ rfl rfl (HZ9.out.setRow _) Try.underlying79 rfl (Try.size79B _)) rfl ?_
            refine ⟨zeroOp, err q, rfl, HG9.out.next (Grown.setRow w9 gz _ (S := fun k => k = gz) fun _ => rfl) (fun k hk e => by have := Hgz.out; omega), ?_⟩
            rw [HR.out, JC.out, Jst.out, if_neg hE]
            exact .inr ⟨hE, q, Hq.out, rfl, Hbad.out.setRow_ne (blk_ne Hbad.out HZ9.out (by decide)) _⟩
        · refine wp_seq_k fun K20 hK20 => ?_
          refine wp_region_list (WL.out ?_)
          refine WL.val (by kernel_rfl) (.bool true) (by go_simp) ?_
          simp only [Act.put, List.setIfInBounds_toArray, List.set_cons_zero, List.set_cons_succ]
          refine WL.nil ?_
          refine hK20 _ _ ?_
          refine wp_seq_k fun K21 hK21 => ?_
          refine wp_cond_true rfl ?_
          refine wp_skip ?_
          refine hK21 _ _ ?_
          refine wp_seq_k fun K22 hK22 => ?_
          refine wp_block ?_
          refine wp_seq_k fun K23 hK23 => ?_
          refine wp_region_list (WL.out ?_)
          refine WL.val (by kernel_rfl) (.pointer (some ⟨gF, 0 + t * 3, none⟩)) (by go_simp) ?_
          simp only [Act.put, List.setIfInBounds_toArray, List.set_cons_zero, List.set_cons_succ]
          refine WL.midA (by kernel_rfl) 129 (.tmp 49) rfl gF (0 + t * 3) rfl (fldA 1) _ hr2 Try.underlying129 rfl (Try.size129B 1) ?_
          simp only [Act.put, List.setIfInBounds_toArray, List.set_cons_zero, List.set_cons_succ]
          refine WL.new (by kernel_rfl) 129 rfl _ Try.new129 ?_
          simp only [Act.put, List.setIfInBounds_toArray, List.set_cons_zero, List.set_cons_succ]
          refine WL.storeR (by kernel_rfl) 129 (.tmp 15) (.tmp 50) rfl wr.heap.size (fldA 1) rfl rfl 129 noF (Blk.new wr 129 noF) (Try.size129B 1) (noF_sizes 1) (fldA_one 1) ?_
          have HN := Keep.mk ((Blk.new wr 129 noF).setRow (fldA 1))
          have HGq : Keep (Below wr.heap.size wr ((wr.alloc (.cells noF 129)).setRow wr.heap.size (fldA 1))) := ⟨below_setRow (below_new wr _) (Nat.le_refl _) _⟩
          generalize (wr.alloc (.cells noF 129)).setRow wr.heap.size (fldA 1) = wy at *
          have cf : wy.cell? ⟨wr.heap.size, 2, none⟩ = some (fnv 106) := HN.out.c 2 rfl
          unfold fnv at cf
          have HIy : Keep (InAt wy p s at_ none) := ⟨JI.out.blk.below HGq.out JI.out.blk.lt, JI.out.le⟩
          have HXy := Keep.mk (JX.out.below HGq.out JX.out.lt)
          have HGy : Keep (Grown w wy fun k => k = p) := ⟨JG.out.trans (Grown.below HGq.out)⟩
          simp only [Act.put]
          refine WL.nil ?_
          refine hK23 _ _ ?_
          refine wp_seq_k fun K24 hK24 => ?_
          refine wp_region_list (WL.out ?_)
          refine WL.val (by kernel_rfl) (.pointer (some ⟨wr.heap.size, 2, none⟩)) (by go_simp) ?_
          simp only [Act.put, List.setIfInBounds_toArray, List.set_cons_zero, List.set_cons_succ]
          refine WL.val (by kernel_rfl) (.func (.func 106) #[] #[]) (by go_simp) ?_
          simp only [Act.put, List.setIfInBounds_toArray, List.set_cons_zero, List.set_cons_succ]
          refine WL.val (by kernel_rfl) (.pointer (some ⟨p, 0, none⟩)) (by go_simp) ?_
          simp only [Act.put, List.setIfInBounds_toArray, List.set_cons_zero, List.set_cons_succ]
          refine WL.val (by kernel_rfl) (vA) (by go_simp) ?_
          simp only [Act.put, List.setIfInBounds_toArray, List.set_cons_zero, List.set_cons_succ]
          refine WL.callV (by kernel_rfl) 106 (.tmp 52) _ _ rfl rfl Try.in106 #[ptr p, ptr gx, vA] (by simp [Act.eval]) ?_
          refine (get1_any p gx s at_ xt vA ah wy HIy.out Hb.out HXy.out JOk.out).mono ?_
          rintro e w9 ⟨er, rfl, hg9, hc9⟩
          refine ⟨_, rfl, ?_⟩
          have HG9 : Keep (Grown w w9 fun k => k = p) := ⟨HGy.out.next hg9 fun k hk ho => ho.elim id fun e => by have := Hgx.out; omega⟩
          have Hgs : Keep (Grown wr w9 fun k => k = p ∨ k = gx) := ⟨(Grown.below HGq.out).trans hg9⟩
          have HZ9 := Keep.mk (Hgs.out.blk JZ.out (fun e => e.elim (fun e => blk_ne JZ.out JI.out.blk (by decide) e) (fun e => Hzx.out e)))
          have HC9 := Keep.mk hc9
          obtain ⟨G, hGG⟩ : ∃ G, Keep (G = getF (lst s) ah 1 xt at_) := ⟨_, ⟨rfl⟩⟩
          rw [← hGG.out] at HC9 Jst
          clear hg9 hc9 cf
          simp only [Act.put, List.setIfInBounds_toArray, List.set_cons_zero, List.set_cons_succ]
          refine WL.val (by kernel_rfl) (er) (by go_simp) ?_
          simp only [Act.put, List.setIfInBounds_toArray, List.set_cons_zero, List.set_cons_succ]
          refine WL.nil ?_
          refine hK24 _ _ ?_
          refine wp_seq_k fun K25 hK25 => ?_
          by_cases hE : G.1 = 0
          · rcases HC9.out with ⟨e1, rfl, e2, e3, e4⟩ | ⟨e1, _⟩
            rotate_left
            · exact absurd hE e1
            have K1 := Keep.mk e2
            have K2 := Keep.mk e3
            have K3 := Keep.mk e4
            clear e2 e3 e4
            refine wp_region_list (WL.out ?_)
            refine WL.val (by kernel_rfl) (.nilIface) (by go_simp) ?_
            simp only [Act.put, List.setIfInBounds_toArray, List.set_cons_zero, List.set_cons_succ]
            refine WL.val (by kernel_rfl) (.bool false) (by go_simp) ?_
            simp only [Act.put, List.setIfInBounds_toArray, List.set_cons_zero, List.set_cons_succ]
            refine WL.nil ?_
            refine hK25 _ _ ?_
            refine wp_cond_false rfl ?_
            refine wp_skip ?_
            refine hK22 _ _ ?_
            refine wp_region_list (WL.out ?_)
            refine WL.val (by kernel_rfl) (.int .i64 ((t : Int) + 1)) (by go_simp) ?_
            simp only [Act.put, List.setIfInBounds_toArray, List.set_cons_zero, List.set_cons_succ]
            refine WL.val (by kernel_rfl) (.int .i64 ((t : Int) + 1)) (by go_simp) ?_
            simp only [Act.put, List.setIfInBounds_toArray, List.set_cons_zero, List.set_cons_succ]
            refine WL.nil ?_
            rw [if_pos hE] at Jst
            refine ⟨⟨t + 1, u7, .pointer (some ⟨wr.heap.size, 0, none⟩), .nilIface, .bool true, .pointer (some ⟨gF, 0 + t * 3, none⟩), .agg (fldA 1), .pointer (some ⟨wr.heap.size, 2, none⟩), .func (.func 106) #[] #[], .pointer (some ⟨p, 0, none⟩), vA, .nilIface, .nilIface, .bool false, u58, u59, .int .i64 ((t : Int) + 1), rfl, by omega, G.2.2, G.2.1, JC.out.trans Jst.out, K1.out, K2.out, K3.out, JF.out.grown Hgs.out (fun g hg e => e.elim (fun e => blk_ne hg JI.out.blk (by decide) e) (fun e => blk_ne hg JX.out (by decide) e)), HG9.out, HZ9.out⟩, ?_⟩
            simp only [intOf]; show is.length - ((t : Int) + 1).toNat < is.length - ((t : Int)).toNat; omega
          · rcases HC9.out with ⟨e1, _⟩ | ⟨_, q, hq, rfl, hbad⟩
            · exact absurd e1 hE
            have Hbad := Keep.mk hbad
            have Hq := Keep.mk (Nat.le_trans (Nat.le_trans JG.out.size HGq.out.size) hq)
            clear hbad hq
            unfold err
            refine wp_region_list (WL.out ?_)
            refine WL.val (by kernel_rfl) (.iface 68 (ptr q)) (by go_simp) ?_
            simp only [Act.put, List.setIfInBounds_toArray, List.set_cons_zero, List.set_cons_succ]
            refine WL.val (by kernel_rfl) (.bool true) (by go_simp) ?_
            simp only [Act.put, List.setIfInBounds_toArray, List.set_cons_zero, List.set_cons_succ]
            refine WL.nil ?_
            refine hK25 _ _ ?_
            refine wp_cond_true rfl ?_
            refine wp_seq_k fun K26 hK26 => ?_
            refine wp_region_list (WL.out ?_)
            refine WL.bld (by kernel_rfl) 79 _ rfl [] (by simp) (opA zeroOp) Try.built79 ?_
            simp only [Act.put, List.setIfInBounds_toArray, List.set_cons_zero, List.set_cons_succ]
            refine WL.val (by kernel_rfl) (.iface 68 (ptr q)) (by go_simp) ?_
            simp only [Act.put, List.setIfInBounds_toArray, List.set_cons_zero, List.set_cons_succ]
            refine WL.storeR (by kernel_rfl) 79 (.tmp 6) (.tmp 58) rfl gz (opA zeroOp) rfl rfl 79 (opA zeroOp) HZ9.out (Try.size79B _) rfl (opA_one _) ?_
            simp only [Act.put]
            refine WL.val (by kernel_rfl) (.iface 68 (ptr q)) (by go_simp) ?_
            simp only [Act.put, List.setIfInBounds_toArray, List.set_cons_zero, List.set_cons_succ]
            refine WL.nil ?_
            refine hK26 _ _ ?_
            refine wp_ret ?_
            refine bodyPost_ret (v := .tuple #[.agg (opA zeroOp), .iface 68 (ptr q)]) (results_cell_row2 Try.results92 _ _ gz 79 _ (0, 0) _ _ rfl rfl (HZ9.out.setRow _) Try.underlying79 rfl (Try.size79B _)) rfl ?_
            refine ⟨zeroOp, err q, rfl, HG9.out.next (Grown.setRow w9 gz _ (S := fun k => k = gz) fun _ => rfl) (fun k hk e => by have := Hgz.out; omega), ?_⟩
            rw [HR.out, JC.out, Jst.out, if_neg hE]
            exact .inr ⟨hE, q, Hq.out, rfl, Hbad.out.setRow_ne (blk_ne Hbad.out HZ9.out (by decide)) _⟩
        · refine wp_seq_k fun K27 hK27 => ?_
          refine wp_region_list (WL.out ?_)
          refine WL.val (by kernel_rfl) (.bool true) (by go_simp) ?_
          simp only [Act.put, List.setIfInBounds_toArray, List.set_cons_zero, List.set_cons_succ]
          refine WL.nil ?_
          refine hK27 _ _ ?_
          refine wp_seq_k fun K28 hK28 => ?_
          refine wp_cond_true rfl ?_
          refine wp_skip ?_
          refine hK28 _ _ ?_
          refine wp_seq_k fun K29 hK29 => ?_
          refine wp_block ?_
          refine wp_seq_k fun K30 hK30 => ?_
          refine wp_region_list (WL.out ?_)
          refine WL.val (by kernel_rfl) (.pointer (some ⟨gF, 0 + t * 3, none⟩)) (by go_simp) ?_
          simp only [Act.put, List.setIfInBounds_toArray, List.set_cons_zero, List.set_cons_succ]
          refine WL.midA (by kernel_rfl) 129 (.tmp 49) rfl gF (0 + t * 3) rfl (fldA 2) _ hr2 Try.underlying129 rfl (Try.size129B 2) ?_
          simp only [Act.put, List.setIfInBounds_toArray, List.set_cons_zero, List.set_cons_succ]
          refine WL.new (by kernel_rfl) 129 rfl _ Try.new129 ?_
          simp only [Act.put, List.setIfInBounds_toArray, List.set_cons_zero, List.set_cons_succ]
          refine WL.storeR (by kernel_rfl) 129 (.tmp 15) (.tmp 50) rfl wr.heap.size (fldA 2) rfl rfl 129 noF (Blk.new wr 129 noF) (Try.size129B 2) (noF_sizes 2) (fldA_one 2) ?_
          have HN := Keep.mk ((Blk.new wr 129 noF).setRow (fldA 2))
          have HGq : Keep (Below wr.heap.size wr ((wr.alloc (.cells noF 129)).setRow wr.heap.size (fldA 2))) := ⟨below_setRow (below_new wr _) (Nat.le_refl _) _⟩
          generalize (wr.alloc (.cells noF 129)).setRow wr.heap.size (fldA 2) = wy at *
          have cf : wy.cell? ⟨wr.heap.size, 2, none⟩ = some (fnv 110) := HN.out.c 2 rfl
          unfold fnv at cf
          have HIy : Keep (InAt wy p s at_ none) := ⟨JI.out.blk.below HGq.out JI.out.blk.lt, JI.out.le⟩
          have HXy := Keep.mk (JX.out.below HGq.out JX.out.lt)
          have HGy : Keep (Grown w wy fun k => k = p) := ⟨JG.out.trans (Grown.below HGq.out)⟩
          simp only [Act.put]
          refine WL.nil ?_
          refine hK30 _ _ ?_
          refine wp_seq_k fun K31 hK31 => ?_
          refine wp_region_list (WL.out ?_)
          refine WL.val (by kernel_rfl) (.pointer (some ⟨wr.heap.size, 2, none⟩)) (by go_simp) ?_
          simp only [Act.put, List.setIfInBounds_toArray, List.set_cons_zero, List.set_cons_succ]
          refine WL.val (by kernel_rfl) (.func (.func 110) #[] #[]) (by go_simp) ?_
          simp only [Act.put, List.setIfInBounds_toArray, List.set_cons_zero, List.set_cons_succ]
          refine WL.val (by kernel_rfl) (.pointer (some ⟨p, 0, none⟩)) (by go_simp) ?_
          simp only [Act.put, List.setIfInBounds_toArray, List.set_cons_zero, List.set_cons_succ]
          refine WL.val (by kernel_rfl) (vA) (by go_simp) ?_
          simp only [Act.put, List.setIfInBounds_toArray, List.set_cons_zero, List.set_cons_succ]
          refine WL.callV (by kernel_rfl) 110 (.tmp 52) _ _ rfl rfl Try.in110 #[ptr p, ptr gx, vA] (by simp [Act.eval]) ?_
          refine (get2_any p gx s at_ xt vA ah wy HIy.out Hb.out HXy.out JOk.out).mono ?_
          rintro e w9 ⟨er, rfl, hg9, hc9⟩
          refine ⟨_, rfl, ?_⟩
          have HG9 : Keep (Grown w w9 fun k => k = p) := ⟨HGy.out.next hg9 fun k hk ho => ho.elim id fun e => by have := Hgx.out; omega⟩
          have Hgs : Keep (Grown wr w9 fun k => k = p ∨ k = gx) := ⟨(Grown.below HGq.out).trans hg9⟩
          have HZ9 := Keep.mk (Hgs.out.blk JZ.out (fun e => e.elim (fun e => blk_ne JZ.out JI.out.blk (by decide) e) (fun e => Hzx.out e)))
          have HC9 := Keep.mk hc9
          obtain ⟨G, hGG⟩ : ∃ G, Keep (G = getF (lst s) ah 2 xt at_) := ⟨_, ⟨rfl⟩⟩
          rw [← hGG.out] at HC9 Jst
          clear hg9 hc9 cf
          simp only [Act.put, List.setIfInBounds_toArray, List.set_cons_zero, List.set_cons_succ]
          refine WL.val (by kernel_rfl) (er) (by go_simp) ?_
          simp only [Act.put, List.setIfInBounds_toArray, List.set_cons_zero, List.set_cons_succ]
          refine WL.nil ?_
          refine hK31 _ _ ?_
          refine wp_seq_k fun K32 hK32 => ?_
          by_cases hE : G.1 = 0
          · rcases HC9.out with ⟨e1, rfl, e2, e3, e4⟩ | ⟨e1, _⟩
            rotate_left
            · exact absurd hE e1
            have K1 := Keep.mk e2
            have K2 := Keep.mk e3
            have K3 := Keep.mk e4
            clear e2 e3 e4
            refine wp_region_list (WL.out ?_)
            refine WL.val (by kernel_rfl) (.nilIface) (by go_simp) ?_
            simp only [Act.put, List.setIfInBounds_toArray, List.set_cons_zero, List.set_cons_succ]
            refine WL.val (by kernel_rfl) (.bool false) (by go_simp) ?_
            simp only [Act.put, List.setIfInBounds_toArray, List.set_cons_zero, List.set_cons_succ]
            refine WL.nil ?_
            refine hK32 _ _ ?_
            refine wp_cond_false rfl ?_
            refine wp_skip ?_
            refine hK29 _ _ ?_
            refine wp_region_list (WL.out ?_)
            refine WL.val (by kernel_rfl) (.int .i64 ((t : Int) + 1)) (by go_simp) ?_
            simp only [Act.put, List.setIfInBounds_toArray, List.set_cons_zero, List.set_cons_succ]
            refine WL.val (by kernel_rfl) (.int .i64 ((t : Int) + 1)) (by go_simp) ?_
            simp only [Act.put, List.setIfInBounds_toArray, List.set_cons_zero, List.set_cons_succ]
            refine WL.nil ?_
            rw [if_pos hE] at Jst
            refine ⟨⟨t + 1, u7, .pointer (some ⟨wr.heap.size, 0, none⟩), .nilIface, .bool true, .pointer (some ⟨gF, 0 + t * 3, none⟩), .agg (fldA 2), .pointer (some ⟨wr.heap.size, 2, none⟩), .func (.func 110) #[] #[], .pointer (some ⟨p, 0, none⟩), vA, .nilIface, .nilIface, .bool false, u58, u59, .int .i64 ((t : Int) + 1), rfl, by omega, G.2.2, G.2.1, JC.out.trans Jst.out, K1.out, K2.out, K3.out, JF.out.grown Hgs.out (fun g hg e => e.elim (fun e => blk_ne hg JI.out.blk (by decide) e) (fun e => blk_ne hg JX.out (by decide) e)), HG9.out, HZ9.out⟩, ?_⟩
            simp only [intOf]; show is.length - ((t : Int) + 1).toNat < is.length - ((t : Int)).toNat; omega
          · rcases HC9.out with ⟨e1, _⟩ | ⟨_, q, hq, rfl, hbad⟩
            · exact absurd e1 hE
            have Hbad := Keep.mk hbad
            have Hq := Keep.mk (Nat.le_trans (Nat.le_trans JG.out.size HGq.out.size) hq)
            clear hbad hq
            unfold err
            refine wp_region_list (WL.out ?_)
            refine WL.val (by kernel_rfl) (.iface 68 (ptr q)) (by go_simp) ?_
            simp only [Act.put, List.setIfInBounds_toArray, List.set_cons_zero, List.set_cons_succ]
            refine WL.val (by kernel_rfl) (.bool true) (by go_simp) ?_
            simp only [Act.put, List.setIfInBounds_toArray, List.set_cons_zero, List.set_cons_succ]
            refine WL.nil ?_
            refine hK32 _ _ ?_
            refine wp_cond_true rfl ?_
            refine wp_seq_k fun K33 hK33 => ?_
            refine wp_region_list (WL.out ?_)
            refine WL.bld (by kernel_rfl) 79 _ rfl [] (by simp) (opA zeroOp) Try.built79 ?_
            simp only [Act.put, List.setIfInBounds_toArray, List.set_cons_zero, List.set_cons_succ]
            refine WL.val (by kernel_rfl) (.iface 68 (ptr q)) (by go_simp) ?_
            simp only [Act.put, List.setIfInBounds_toArray, List.set_cons_zero, List.set_cons_succ]
            refine WL.storeR (by kernel_rfl) 79 (.tmp 6) (.tmp 58) rfl gz (opA zeroOp) rfl rfl 79 (opA zeroOp) HZ9.out (Try.size79B _) rfl (opA_one _) ?_
            simp only [Act.put]
            refine WL.val (by kernel_rfl) (.iface 68 (ptr q)) (by go_simp) ?_
            simp only [Act.put, List.setIfInBounds_toArray, List.set_cons_zero, List.set_cons_succ]
            refine WL.nil ?_
            refine hK33 _ _ ?_
            refine wp_ret ?_
            refine bodyPost_ret (v := .tuple #[.agg (opA zeroOp), .iface 68 (ptr q)]) (results_cell_row2 Try.results92 _ _ gz 79 _ (0, 0) _ _ rfl rfl (HZ9.out.setRow _) Try.underlying79 rfl (Try.size79B _)) rfl ?_
            refine ⟨zeroOp, err q, rfl, HG9.out.next (Grown.setRow w9 gz _ (S := fun k => k = gz) fun _ => rfl) (fun k hk e => by have := Hgz.out; omega), ?_⟩
            rw [HR.out, JC.out, Jst.out, if_neg hE]
            exact .inr ⟨hE, q, Hq.out, rfl, Hbad.out.setRow_ne (blk_ne Hbad.out HZ9.out (by decide)) _⟩
        · refine wp_seq_k fun K34 hK34 => ?_
          refine wp_region_list (WL.out ?_)
          refine WL.val (by kernel_rfl) (.bool true) (by go_simp) ?_
          simp only [Act.put, List.setIfInBounds_toArray, List.set_cons_zero, List.set_cons_succ]
          refine WL.nil ?_
          refine hK34 _ _ ?_
          refine wp_seq_k fun K35 hK35 => ?_
          refine wp_cond_true rfl ?_
          refine wp_skip ?_
          refine hK35 _ _ ?_
          refine wp_seq_k fun K36 hK36 => ?_
          refine wp_block ?_
          refine wp_seq_k fun K37 hK37 => ?_
          refine wp_region_list (WL.out ?_)
          refine WL.val (by kernel_rfl) (.pointer (some ⟨gF, 0 + t * 3, none⟩)) (by go_simp) ?_
          simp only [Act.put, List.setIfInBounds_toArray, List.set_cons_zero, List.set_cons_succ]
          refine WL.midA (by kernel_rfl) 129 (.tmp 49) rfl gF (0 + t * 3) rfl (fldA 3) _ hr2 Try.underlying129 rfl (Try.size129B 3) ?_
          simp only [Act.put, List.setIfInBounds_toArray, List.set_cons_zero, List.set_cons_succ]
          refine WL.new (by kernel_rfl) 129 rfl _ Try.new129 ?_
          simp only [Act.put, List.setIfInBounds_toArray, List.set_cons_zero, List.set_cons_succ]
          refine WL.storeR (by kernel_rfl) 129 (.tmp 15) (.tmp 50) rfl wr.heap.size (fldA 3) rfl rfl 129 noF (Blk.new wr 129 noF) (Try.size129B 3) (noF_sizes 3) (fldA_one 3) ?_
          have HN := Keep.mk ((Blk.new wr 129 noF).setRow (fldA 3))
          have HGq : Keep (Below wr.heap.size wr ((wr.alloc (.cells noF 129)).setRow wr.heap.size (fldA 3))) := ⟨below_setRow (below_new wr _) (Nat.le_refl _) _⟩
          generalize (wr.alloc (.cells noF 129)).setRow wr.heap.size (fldA 3) = wy at *
          have cf : wy.cell? ⟨wr.heap.size, 2, none⟩ = some (fnv 114) := HN.out.c 2 rfl
          unfold fnv at cf
          have HIy : Keep (InAt wy p s at_ none) := ⟨JI.out.blk.below HGq.out JI.out.blk.lt, JI.out.le⟩
          have HXy := Keep.mk (JX.out.below HGq.out JX.out.lt)
          have HGy : Keep (Grown w wy fun k => k = p) := ⟨JG.out.trans (Grown.below HGq.out)⟩
          simp only [Act.put]
          refine WL.nil ?_
          refine hK37 _ _ ?_
          refine wp_seq_k fun K38 hK38 => ?_
          refine wp_region_list (WL.out ?_)
          refine WL.val (by kernel_rfl) (.pointer (some ⟨wr.heap.size, 2, none⟩)) (by go_simp) ?_
          simp only [Act.put, List.setIfInBounds_toArray, List.set_cons_zero, List.set_cons_succ]
          refine WL.val (by kernel_rfl) (.func (.func 114) #[] #[]) (by go_simp) ?_
          simp only [Act.put, List.setIfInBounds_toArray, List.set_cons_zero, List.set_cons_succ]
          refine WL.val (by kernel_rfl) (.pointer (some ⟨p, 0, none⟩)) (by go_simp) ?_
          simp only [Act.put, List.setIfInBounds_toArray, List.set_cons_zero, List.set_cons_succ]
          refine WL.val (by kernel_rfl) (vA) (by go_simp) ?_
          simp only [Act.put, List.setIfInBounds_toArray, List.set_cons_zero, List.set_cons_succ]
          refine WL.callV (by kernel_rfl) 114 (.tmp 52) _ _ rfl rfl Try.in114 #[ptr p, ptr gx, vA] (by simp [Act.eval]) ?_
          refine (get3_any p gx s at_ xt vA ah wy HIy.out Hb.out HXy.out JOk.out (fun wx hx => HA.out wx (HGy.out.next hx fun k hk ho => ho.elim id fun e => by have := Hgx.out; omega)) Hal.out).mono ?_
          rintro e w9 ⟨er, rfl, hg9, hc9⟩
          refine ⟨_, rfl, ?_⟩
          have HG9 : Keep (Grown w w9 fun k => k = p) := ⟨HGy.out.next hg9 fun k hk ho => ho.elim id fun e => by have := Hgx.out; omega⟩
          have Hgs : Keep (Grown wr w9 fun k => k = p ∨ k = gx) := ⟨(Grown.below HGq.out).trans hg9⟩
          have HZ9 := Keep.mk (Hgs.out.blk JZ.out (fun e => e.elim (fun e => blk_ne JZ.out JI.out.blk (by decide) e) (fun e => Hzx.out e)))
          have HC9 := Keep.mk hc9
          obtain ⟨G, hGG⟩ : ∃ G, Keep (G = getF (lst s) ah 3 xt at_) := ⟨_, ⟨rfl⟩⟩
          rw [← hGG.out] at HC9 Jst
          clear hg9 hc9 cf
          simp only [Act.put, List.setIfInBounds_toArray, List.set_cons_zero, List.set_cons_succ]
          refine WL.val (by kernel_rfl) (er) (by go_simp) ?_
          simp only [Act.put, List.setIfInBounds_toArray, List.set_cons_zero, List.set_cons_succ]
          refine WL.nil ?_
          refine hK38 _ _ ?_
          refine wp_seq_k fun K39 hK39 => ?_
          by_cases hE : G.1 = 0
          · rcases HC9.out with ⟨e1, rfl, e2, e3, e4⟩ | ⟨e1, _⟩
            rotate_left
            · exact absurd hE e1
            have K1 := Keep.mk e2
            have K2 := Keep.mk e3
            have K3 := Keep.mk e4
            clear e2 e3 e4
            refine wp_region_list (WL.out ?_)
            refine WL.val (by kernel_rfl) (.nilIface) (by go_simp) ?_
            simp only [Act.put, List.setIfInBounds_toArray, List.set_cons_zero, List.set_cons_succ]
            refine WL.val (by kernel_rfl) (.bool false) (by go_simp) ?_
            simp only [Act.put, List.setIfInBounds_toArray, List.set_cons_zero, List.set_cons_succ]
            refine WL.nil ?_
            refine hK39 _ _ ?_
            refine wp_cond_false rfl ?_
            refine wp_skip ?_
            refine hK36 _ _ ?_
            refine wp_region_list (WL.out ?_)
            refine WL.val (by kernel_rfl) (.int .i64 ((t : Int) + 1)) (by go_simp) ?_
            simp only [Act.put, List.setIfInBounds_toArray, List.set_cons_zero, List.set_cons_succ]
            refine WL.val (by kernel_rfl) (.int .i64 ((t : Int) + 1)) (by go_simp) ?_
            simp only [Act.put, List.setIfInBounds_toArray, List.set_cons_zero, List.set_cons_succ]
            refine WL.nil ?_
            rw [if_pos hE] at Jst
            refine ⟨⟨t + 1, u7, .pointer (some ⟨wr.heap.size, 0, none⟩), .nilIface, .bool true, .pointer (some ⟨gF, 0 + t * 3, none⟩), .agg (fldA 3), .pointer (some ⟨wr.heap.size, 2, none⟩), .func (.func 114) #[] #[], .pointer (some ⟨p, 0, none⟩), vA, .nilIface, .nilIface, .bool false, u58, u59, .int .i64 ((t : Int) + 1), rfl, by omega, G.2.2, G.2.1, JC.out.trans Jst.out, K1.out, K2.out, K3.out, JF.out.grown Hgs.out (fun g hg e => e.elim (fun e => blk_ne hg JI.out.blk (by decide) e) (fun e => blk_ne hg JX.out (by decide) e)), HG9.out, HZ9.out⟩, ?_⟩
            simp only [intOf]; show is.length - ((t : Int) + 1).toNat < is.length - ((t : Int)).toNat; omega
          · rcases HC9.out with ⟨e1, _⟩ | ⟨_, q, hq, rfl, hbad⟩
            · exact absurd e1 hE
            have Hbad := Keep.mk hbad
            have Hq := Keep.mk (Nat.le_trans (Nat.le_trans JG.out.size HGq.out.size) hq)
            clear hbad hq
            unfold err
            refine wp_region_list (WL.out ?_)
            refine WL.val (by kernel_rfl) (.iface 68 (ptr q)) (by go_simp) ?_
            simp only [Act.put, List.setIfInBounds_toArray, List.set_cons_zero, List.set_cons_succ]
            refine WL.val (by kernel_rfl) (.bool true) (by go_simp) ?_
            simp only [Act.put, List.setIfInBounds_toArray, List.set_cons_zero, List.set_cons_succ]
            refine WL.nil ?_
            refine hK39 _ _ ?_
            refine wp_cond_true rfl ?_
            refine wp_seq_k fun K40 hK40 => ?_
            refine wp_region_list (WL.out ?_)
            refine WL.bld (by kernel_rfl) 79 _ rfl [] (by simp) (opA zeroOp) Try.built79 ?_
            simp only [Act.put, List.setIfInBounds_toArray, List.set_cons_zero, List.set_cons_succ]
            refine WL.val (by kernel_rfl) (.iface 68 (ptr q)) (by go_simp) ?_
            simp only [Act.put, List.setIfInBounds_toArray, List.set_cons_zero, List.set_cons_succ]
            refine WL.storeR (by kernel_rfl) 79 (.tmp 6) (.tmp 58) rfl gz (opA zeroOp) rfl rfl 79 (opA zeroOp) HZ9.out (Try.size79B _) rfl (opA_one _) ?_
            simp only [Act.put]
            refine WL.val (by kernel_rfl) (.iface 68 (ptr q)) (by go_simp) ?_
            simp only [Act.put, List.setIfInBounds_toArray, List.set_cons_zero, List.set_cons_succ]
            refine WL.nil ?_
            refine hK40 _ _ ?_
            refine wp_ret ?_
            refine bodyPost_ret (v := .tuple #[.agg (opA zeroOp), .iface 68 (ptr q)]) (results_cell_row2 Try.results92 _ _ gz 79 _ (0, 0) _ _ rfl rfl (HZ9.out.setRow _) Try.underlying79 rfl (Try.size79B _)) rfl ?_
            refine ⟨zeroOp, err q, rfl, HG9.out.next (Grown.setRow w9 gz _ (S := fun k => k = gz) fun _ => rfl) (fun k hk e => by have := Hgz.out; omega), ?_⟩
            rw [HR.out, JC.out, Jst.out, if_neg hE]
            exact .inr ⟨hE, q, Hq.out, rfl, Hbad.out.setRow_ne (blk_ne Hbad.out HZ9.out (by decide)) _⟩
      · have hte : Keep (t = is.length) := ⟨by omega⟩
        have htl' : ¬ (t : Int) < (is.length : Int) := by omega
        refine wp_seq_k fun K41 hK41 => ?_
        refine wp_region_list (WL.out ?_)
        refine WL.val (by kernel_rfl) (.bool false) (by go_simp) ?_
        simp only [Act.put, List.setIfInBounds_toArray, List.set_cons_zero, List.set_cons_succ]
        refine WL.nil ?_
        refine hK41 _ _ ?_
        refine wp_seq_k fun K42 hK42 => ?_
        refine wp_cond_false rfl ?_
        refine wp_exit ?_
        refine hK11 _ _ ?_
        refine wp_seq_k fun K43 hK43 => ?_
        refine wp_region_list (WL.out ?_)
        refine WL.row (by kernel_rfl) 79 (.tmp 11) rfl gx rfl 79 (opA xt) _ hX Try.underlying79 rfl (Try.size79B xt) ?_
        simp only [Act.put, List.setIfInBounds_toArray, List.set_cons_zero, List.set_cons_succ]
        refine WL.storeR (by kernel_rfl) 79 (.tmp 6) (.tmp 61) rfl gz (opA xt) rfl rfl 79 (opA zeroOp) hZ (Try.size79B _) (opA_sizes _ _) (opA_one _) ?_
        simp only [Act.put]
        refine WL.val (by kernel_rfl) (.nilIface) (by go_simp) ?_
        simp only [Act.put, List.setIfInBounds_toArray, List.set_cons_zero, List.set_cons_succ]
        refine WL.nil ?_
        refine hK43 _ _ ?_
        refine wp_ret ?_
        refine bodyPost_ret (v := .tuple #[.agg (opA xt), .nilIface]) (results_cell_row2 Try.results92 _ _ gz 79 _ (0, 0) _ _ rfl rfl (hZ.setRow _) Try.underlying79 rfl (Try.size79B _)) rfl ?_
        rw [hte.out, List.drop_length] at hC
        refine ⟨xt, .nilIface, rfl, hG.next (Grown.setRow wr gz _ (S := fun k => k = gz) fun _ => rfl) (fun k hk e => by have := Hgz.out; omega), ?_⟩
        rw [HR.out, hC]
        exact .inl ⟨rfl, rfl, rfl, ⟨hI.blk.setRow_ne (blk_ne hI.blk hZ (by decide)) _, hI.le⟩, hOk⟩
  · rcases H3.out with ⟨e1, _⟩ | ⟨_, q, hq, rfl, rfl, hbad⟩
    · exact absurd e1 hE
    have Hbad := Keep.mk hbad
    have Hq := Keep.mk (Nat.le_trans HG0.out.size hq)
    clear hbad hq
    unfold err
    refine wp_region_list (WL.out ?_)
    refine WL.val (by kernel_rfl) (.iface 68 (ptr q)) (by go_simp) ?_
    simp only [Act.put, List.setIfInBounds_toArray, List.set_cons_zero, List.set_cons_succ]
    refine WL.val (by kernel_rfl) (.bool true) (by go_simp) ?_
    simp only [Act.put, List.setIfInBounds_toArray, List.set_cons_zero, List.set_cons_succ]
    refine WL.nil ?_
    refine hK5 _ _ ?_
    refine wp_cond_true rfl ?_
    refine wp_seq_k fun K44 hK44 => ?_
    refine wp_region_list (WL.out ?_)
    refine WL.bld (by kernel_rfl) 79 _ rfl [] (by simp) (opA zeroOp) Try.built79 ?_
    simp only [Act.put, List.setIfInBounds_toArray, List.set_cons_zero, List.set_cons_succ]
    refine WL.val (by kernel_rfl) (.iface 68 (ptr q)) (by go_simp) ?_
    simp only [Act.put, List.setIfInBounds_toArray, List.set_cons_zero, List.set_cons_succ]
    refine WL.storeR (by kernel_rfl) 79 (.tmp 6) (.tmp 26) rfl gz (opA zeroOp) rfl rfl 79 (opA zeroOp) HZ1.out (Try.size79B _) rfl (opA_one _) ?_
    simp only [Act.put]
    refine WL.val (by kernel_rfl) (.iface 68 (ptr q)) (by go_simp) ?_
    simp only [Act.put, List.setIfInBounds_toArray, List.set_cons_zero, List.set_cons_succ]
    refine WL.nil ?_
    refine hK44 _ _ ?_
    refine wp_ret ?_
    refine bodyPost_ret (v := .tuple #[.agg (opA zeroOp), .iface 68 (ptr q)]) (results_cell_row2 Try.results92 _ _ gz 79 _ (0, 0) _ _ rfl rfl (HZ1.out.setRow _) Try.underlying79 rfl (Try.size79B _)) rfl ?_
    refine ⟨zeroOp, err q, rfl, HG1.out.next (Grown.setRow w1 gz _ (S := fun k => k = gz) fun _ => rfl) (fun k hk e => by have := Hgz.out; omega), ?_⟩
    rw [HR.out, if_pos hE]
    exact .inr ⟨hE, q, Hq.out, rfl, Hbad.out.setRow_ne (blk_ne Hbad.out HZ1.out (by decide)) _⟩

def OwnO (w : World) (v : Value) (l : List OpV) : Prop := w.ownsRow 0 79 37 v l.length (flatO l)
theorem OwnO.form {w : World} {v : Value} {l : List OpV} (h : OwnO w v l) : (v = .slice none 0 0 ∧ l = []) ∨ ∃ g cap cur, v = .slice (some ⟨g, 0, none⟩) l.length cap ∧ Blk w g 79 cur ∧ l.length ≤ cap ∧ cur.toList.take (l.length * 37) = flatO l := by
  rcases h.2 with ⟨rfl, h0⟩ | ⟨g, cap, cur, rfl, _, h3, h4, h5, h6, h7⟩
  · exact .inl ⟨rfl, List.eq_nil_of_length_eq_zero h0⟩
  · exact .inr ⟨g, cap, cur, rfl, h3, h4, h7⟩
theorem OwnO.ops {w : World} {v : Value} {l : List OpV} (h : OwnO w v l) : OpsAt w v l := by
  rcases h.form with ⟨rfl, rfl⟩ | ⟨g, cap, cur, rfl, h1, h2, h3⟩
  · exact .inl ⟨_, _, rfl, rfl⟩
  · exact ops_block h1 h3 h2
theorem OwnO.sl {w : World} {v : Value} {l : List OpV} (h : OwnO w v l) : ∃ a c, v = .slice a l.length c := h.ops.form
theorem OwnO.lt {w : World} {v : Value} {l : List OpV} (h : OwnO w v l) : ∀ k, v.ownBlock = some k → k < w.heap.size := fun k hk => (World.ownsRow.lt h k hk).2
theorem OwnO.grown {w w' : World} {v : Value} {l : List OpV} {S : Nat → Prop} (h : OwnO w v l) (hg : Grown w w' S) (hs : ∀ k, v.ownBlock = some k → ¬ S k) : OwnO w' v l := by
  refine ⟨h.1, ?_⟩
  rcases h.2 with h1 | ⟨g, cap, cur, rfl, h2, h3, h4⟩
  · exact .inl h1
  · exact .inr ⟨g, cap, cur, rfl, h2, hg.blk h3 (hs g rfl), h4⟩
theorem OwnO.below {w w' : World} {v : Value} {l : List OpV} (h : OwnO w v l) (hb : Below w.heap.size w w') : OwnO w' v l := h.grown (Grown.below (S := fun _ => False) hb) fun _ _ h => h
theorem OwnO.ne {w : World} {v : Value} {l : List OpV} {p : Nat} {T : TypeId} {cs : Array Value} (h : OwnO w v l) (hp : Blk w p T cs) (hT : T ≠ 79) : v.ownBlock ≠ some p := by
  intro e
  rcases h.form with ⟨rfl, _⟩ | ⟨g, cap, cur, rfl, h3, _⟩
  · simp [Value.ownBlock] at e
  · simp [Value.ownBlock] at e
    subst e
    exact hT (blk_type hp h3)
theorem ownO_empty (w : World) : OwnO (w.alloc (.cells #[] 79)) (.slice (some ⟨w.heap.size, 0, none⟩) 0 0) [] :=
  ⟨rfl, .inr ⟨w.heap.size, 0, #[], rfl, Nat.zero_le _, Blk.new w 79 #[], Nat.le_refl _, by decide, rfl, rfl⟩⟩
theorem Try.info79 : (Try.prog.info? 79).map (fun i => (i.zero, i.size, i.bytes)) = some (some (.agg (opA zeroOp)), 37, 88) := by kernel_rfl
theorem run_appO (w : World) (ty : TypeId) (v : Value) (l : List OpV) (hown : OwnO w v l) (g : Nat) (x : OpV) (hg : Blk w g 79 (opA x)) (hb : l.length ≤ 1000000000000) :
    ∃ v' w', (Builtin.append_ #[25, 25] ty #[v, .slice (some ⟨g, 0, none⟩) 1 1]).run Try.prog w = .ok v' w' ∧ OwnO w' v' (l ++ [x]) ∧ (Grown w w' fun k => v.ownBlock = some k) ∧ Moved w v v' := by
  obtain ⟨i, hi, hzz⟩ := Option.map_eq_some_iff.1 Try.info79
  simp only [Prod.mk.injEq] at hzz
  obtain ⟨hz, hsz, hby⟩ := hzz
  obtain ⟨v', w', hr, h1, h2, _, h3⟩ := run_append_own_at (P := Try.prog) w 0 25 ty 79 i (.agg (opA zeroOp)) 37 88 Try.underlying25 hi hz hsz hby (opA_size _) (by omega) v l.length (flatO l) hown ⟨g, 0, none⟩ 1 1 (opL x) (by rw [opL_len]) (fun j u hu => by
      rw [Addr.add_mid, Nat.zero_add, hg.cell]
      unfold opA
      rw [List.getElem?_toArray]; exact hu)
    (fun u hu => (Array.all_eq_true_iff_forall_mem.1 (opA_one x)) u (by unfold opA; simpa using hu)) (by unfold maxLen; omega) (by omega) (Nat.zero_le _)
  refine ⟨v', w', hr, ?_, Grown.of h2 fun k _ e => e, ?_⟩
  · unfold OwnO
    rw [List.length_append, show flatO (l ++ [x]) = flatO l ++ opL x by simp [flatO]]
    exact h1
  · rcases h3 with h3 | h3
    · exact .inl h3
    · exact .inr ⟨_, h3, Nat.le_refl _⟩
theorem WL.appO {ops : Array Oper} {rest : List Oper} {o : Oper} {a : Act} {w : World} {Q : Exit → Act → World → Prop} (hw : Region.wanted o (yielded ops a.tmps) = true) (s x : Operand)
    (ho : o.op = .call { callee := .builtin .append, args := #[s, x], argTypes := #[25, 25] }) (v : Value) (l : List OpV) (g : Nat) (y : OpV)
    (hs : a.eval s = v) (hx : a.eval x = .slice (some ⟨g, 0, none⟩) 1 1) (hown : OwnO w v l) (hg : Blk w g 79 (opA y)) (hb : l.length ≤ 1000000000000)
    (h : ∀ v' w', OwnO w' v' (l ++ [y]) → (Grown w w' fun k => v.ownBlock = some k) → Moved w v v' → WL Try.prog ops Q rest (a.put o.dst v') w') : WL Try.prog ops Q (o :: rest) a w :=
  ⟨wpList_wanted hw fun K hK => by
    obtain ⟨v', w', hr, h1, h2, h3⟩ := run_appO w o.type v l hown g y hg hb
    unfold Oper.wp execOp
    simp only [ho, resolve, invoke, builtin, Sem.run_bind, Sem.run_pure, Result.andThen_ok, List.map_toArray, List.map_cons, List.map_nil, hs, hx, hr]
    exact hK _ _ (h v' w' h1 h2 h3).out⟩
theorem bsO (x : OpV) (w : World) : (Instr.buildSlice 25 1 #[(0, .agg (opA x))]).run Try.prog w = .ok (.slice (some ⟨w.heap.size, 0, none⟩) 1 1) (w.alloc (.cells (opA x) 79)) := by kernel_rfl
theorem bsE (w : World) : (Instr.buildSlice 25 0 #[]).run Try.prog w = .ok (.slice (some ⟨w.heap.size, 0, none⟩) 0 0) (w.alloc (.cells #[] 79)) := by kernel_rfl
def getN (L : List Int) : Nat → List OpV → Nat → Int × Nat × List OpV
  | 0, l, a => (0, a, l)
  | n + 1, l, a => if (getO L l a).1 = 0 then getN L n (l ++ [(getO L l a).2.2]) (getO L l a).2.1 else ((getO L l a).1, (getO L l a).2.1, [])
def getL (L : List Int) (a : Nat) : Int × Nat × List OpV :=
  if (fstM (L.drop a) 1024).2.2 ≠ 0 then ((fstM (L.drop a) 1024).2.2, a + (fstM (L.drop a) 1024).2.1.toNat, []) else getN L (fstM (L.drop a) 1024).1.toNat [] (a + (fstM (L.drop a) 1024).2.1.toNat)
def ListPost (p : Nat) (s : ByteArray) (R : Int × Nat × List OpV) (w : World) (e : Ending) (w' : World) : Prop :=
  ∃ v er, e = .returned (.tuple #[v, er]) ∧ (Grown w w' fun k => k = p) ∧
    ((R.1 = 0 ∧ er = .nilIface ∧ OwnO w' v R.2.2 ∧ (∀ k, v.ownBlock = some k → w.heap.size ≤ k) ∧ InAt w' p s R.2.1 none ∧ (∀ x ∈ R.2.2, OpOk x) ∧ R.2.2.length ≤ 1024) ∨ (R.1 ≠ 0 ∧ v = .slice none 0 0 ∧ ∃ q, w.heap.size ≤ q ∧ er = err q ∧ BadAt w' q R.1 R.2.1))
set_option maxRecDepth 8000 in
set_option maxHeartbeats 4000000 in
theorem get_any (p : Nat) (s : ByteArray) (a : Nat) (w : World) (hI : InAt w p s a none) (hb : s.size ≤ 140737488355328) :
    Calls Try.prog 65 #[ptr p] w (ListPost p s (getL (lst s) a) w) := by
  have HI := Keep.mk hI
  have Hb := Keep.mk hb
  have hrg := fst_rng ((lst s).drop a) ((lst_byts s).drop a) 1024 (by decide)
  have hc := inum_good p s a 1024 w hI hb
  obtain ⟨G, hG⟩ : ∃ G, G = getL (lst s) a := ⟨_, rfl⟩
  rw [← hG]
  unfold getL at hG
  have hc' : Calls Try.prog 61 #[ptr p, .int .u64 1024] w (RdPost p s (fstM ((lst s).drop a) 1024).2.2 (a + (fstM ((lst s).drop a) 1024).2.1.toNat) (.int .u64 (fstM ((lst s).drop a) 1024).1) w) := hc
  clear hc
  generalize fstM ((lst s).drop a) 1024 = R at *
  obtain ⟨rv, rn, re⟩ := R
  simp only at hG hc' hrg
  obtain ⟨a1, ha1⟩ : ∃ a1, a1 = a + rn.toNat := ⟨_, rfl⟩
  rw [← ha1] at hG hc'
  have HC := Keep.mk hc'
  have Hrg := Keep.mk hrg
  have HG1 : Keep (¬ re = 0 → G = (re, a1, [])) := ⟨fun h => by rw [hG, if_pos h]⟩
  have HG0 : Keep (re = 0 → G = getN (lst s) rv.toNat [] a1) := ⟨fun h => by rw [hG, if_neg (by simp [h])]⟩
  clear hI hb hrg hc' hG ha1
  go_enter Try.func65, Try.ntmps65
  refine wp_seq_k fun K1 hK1 => ?_
  refine wp_region_list (WL.out ?_)
  refine WL.val (by kernel_rfl) (.slice none 0 0) (by go_simp) ?_
  simp only [Act.put, List.setIfInBounds_toArray, List.set_cons_zero, List.set_cons_succ]
  refine WL.val (by kernel_rfl) (.nilIface) (by go_simp) ?_
  simp only [Act.put, List.setIfInBounds_toArray, List.set_cons_zero, List.set_cons_succ]
  refine WL.nil ?_
  refine hK1 _ _ ?_
  refine wp_seq_k fun K2 hK2 => ?_
  refine wp_region_list (WL.out ?_)
  refine WL.val (by kernel_rfl) (.pointer (some ⟨p, 0, none⟩)) (by go_simp) ?_
  simp only [Act.put, List.setIfInBounds_toArray, List.set_cons_zero, List.set_cons_succ]
  refine WL.callF (by kernel_rfl) 61 _ _ rfl Try.in61 #[ptr p, .int .u64 1024] (by simp [Act.eval]) ?_
  refine (HC.out).mono ?_
  rintro e w1 ⟨bad, er, rfl, h1, h2, h3⟩
  refine ⟨_, rfl, ?_⟩
  have H1 := Keep.mk h1
  have H2 := Keep.mk h2
  have H3 := Keep.mk h3
  clear h1 h2 h3
  simp only [Act.put, List.setIfInBounds_toArray, List.set_cons_zero, List.set_cons_succ]
  refine WL.val (by kernel_rfl) (.tuple #[.int .u64 rv, er]) (by go_simp) ?_
  simp only [Act.put, List.setIfInBounds_toArray, List.set_cons_zero, List.set_cons_succ]
  refine WL.val (by kernel_rfl) (.int .u64 rv) (by go_simp) ?_
  simp only [Act.put, List.setIfInBounds_toArray, List.set_cons_zero, List.set_cons_succ]
  refine WL.val (by kernel_rfl) (er) (by go_simp) ?_
  simp only [Act.put, List.setIfInBounds_toArray, List.set_cons_zero, List.set_cons_succ]
  refine WL.val (by kernel_rfl) (.int .u64 rv) (by go_simp) ?_
  simp only [Act.put, List.setIfInBounds_toArray, List.set_cons_zero, List.set_cons_succ]
  refine WL.val (by kernel_rfl) (er) (by go_simp) ?_
  simp only [Act.put, List.setIfInBounds_toArray, List.set_cons_zero, List.set_cons_succ]
  refine WL.nil ?_
  refine hK2 _ _ ?_
  refine wp_seq_k fun K3 hK3 => ?_
  refine wp_seq_k fun K4 hK4 => ?_
  by_cases hE : re = 0
  · rcases H3.out with ⟨e1, rfl, rfl⟩ | ⟨e1, _⟩
    rotate_left
    · exact absurd hE e1
    obtain ⟨n, hn⟩ : ∃ n : Nat, rv = (n : Int) := ⟨rv.toNat, by have := Hrg.out; omega⟩
    have Hn : Keep (n ≤ 1024) := ⟨by have := Hrg.out; omega⟩
    have HR : Keep (G = getN (lst s) n [] a1) := ⟨by rw [HG0.out hE, hn, Int.toNat_natCast]⟩
    subst hn
    refine wp_region_list (WL.out ?_)
    refine WL.val (by kernel_rfl) (.nilIface) (by go_simp) ?_
    simp only [Act.put, List.setIfInBounds_toArray, List.set_cons_zero, List.set_cons_succ]
    refine WL.val (by kernel_rfl) (.bool false) (by go_simp) ?_
    simp only [Act.put, List.setIfInBounds_toArray, List.set_cons_zero, List.set_cons_succ]
    refine WL.nil ?_
    refine hK4 _ _ ?_
    refine wp_cond_false rfl ?_
    refine wp_skip ?_
    refine hK3 _ _ ?_
    refine wp_seq_k fun K5 hK5 => ?_
    refine wp_region_list (WL.out ?_)
    refine WL.callF (by kernel_rfl) 53 _ _ rfl Try.in53 #[] (by simp) ?_
    refine (tab_any w1).mono ?_
    rintro e w2 ⟨m, rfl, hT2, hm2, hB2⟩
    refine ⟨_, rfl, ?_⟩
    have HT2 := Keep.mk hT2
    have HI2 : Keep (InAt w2 p s a1 none) := ⟨H1.out.blk.below hB2 H1.out.blk.lt, H1.out.le⟩
    have HG2 : Keep (Grown w w2 fun k => k = p) := ⟨H2.out.trans (Grown.below hB2)⟩
    clear hT2 hm2 hB2
    simp only [Act.put, List.setIfInBounds_toArray, List.set_cons_zero, List.set_cons_succ]
    refine WL.val (by kernel_rfl) (.map (some m)) (by go_simp) ?_
    simp only [Act.put, List.setIfInBounds_toArray, List.set_cons_zero, List.set_cons_succ]
    refine WL.nil ?_
    refine hK5 _ _ ?_
    refine wp_seq_k fun K6 hK6 => ?_
    refine wp_region_list (WL.out ?_)
    refine WL.bs (by kernel_rfl) 25 0 _ rfl #[] (by simp) _ _ (bsE w2) ?_
    have HO3 := Keep.mk (ownO_empty w2)
    have B3 : Keep (Below w2.heap.size w2 (w2.alloc (.cells #[] 79))) := ⟨below_new w2 _⟩
    generalize w2.alloc (.cells #[] 79) = w3 at *
    have HOn3 : Keep (∀ k, (Value.slice (some ⟨w2.heap.size, 0, none⟩) 0 0).ownBlock = some k → w.heap.size ≤ k) := ⟨fun k hk => by simp [Value.ownBlock] at hk; have := HG2.out.size; omega⟩
    have HI3 : Keep (InAt w3 p s a1 none) := ⟨HI2.out.blk.below B3.out HI2.out.blk.lt, HI2.out.le⟩
    have HT3 := Keep.mk (HT2.out.below B3.out)
    have HG3 : Keep (Grown w w3 fun k => k = p) := ⟨HG2.out.trans (Grown.below B3.out)⟩
    simp only [Act.put, List.setIfInBounds_toArray, List.set_cons_zero, List.set_cons_succ]
    refine WL.val (by kernel_rfl) (.slice (some ⟨w2.heap.size, 0, none⟩) 0 0) (by go_simp) ?_
    simp only [Act.put, List.setIfInBounds_toArray, List.set_cons_zero, List.set_cons_succ]
    refine WL.nil ?_
    refine hK6 _ _ ?_
    refine wp_seq_k fun K7 hK7 => ?_
    refine wp_seq_k fun K8 hK8 => ?_
    refine wp_region_list (WL.out ?_)
    refine WL.val (by kernel_rfl) (.int .u64 (n : Int)) (by go_simp) ?_
    simp only [Act.put, List.setIfInBounds_toArray, List.set_cons_zero, List.set_cons_succ]
    refine WL.val (by kernel_rfl) (.int .u64 0) (by go_simp) ?_
    simp only [Act.put, List.setIfInBounds_toArray, List.set_cons_zero, List.set_cons_succ]
    refine WL.nil ?_
    refine hK8 _ _ ?_
    refine wp_block ?_
    refine wp_loop (fun ac wr => ∃ (t : Nat) (u2 u3 u7 u8 u9 u22 u23 u24 u25 u26 u27 u28 u29 u30 u31 u32 u33 u34 u35 u36 u37 : Value), ac = { tmps := #[.pointer (some ⟨p, 0, none⟩), undef, u2, u3, .int .u64 (n : Int), .nilIface, .map (some m), u7, u8, u9, .tuple #[.int .u64 (n : Int), .nilIface], .pointer (some ⟨p, 0, none⟩), .tuple #[.int .u64 (n : Int), .nilIface], .int .u64 (n : Int), .nilIface, .nilIface, .bool false, undef, .map (some m), .slice (some ⟨w2.heap.size, 0, none⟩) 0 0, .int .u64 (n : Int), .int .u64 (t : Int), u22, u23, u24, u25, u26, u27, u28, u29, u30, u31, u32, u33, u34, u35, u36, u37, undef], defers := [] } ∧ t ≤ n ∧ ∃ l at_, getN (lst s) n [] a1 = getN (lst s) (n - t) l at_ ∧ InAt wr p s at_ none ∧ OwnO wr u7 l ∧ (∀ k, u7.ownBlock = some k → w.heap.size ≤ k) ∧ TabAt wr m ∧ (Grown w wr fun k => k = p) ∧ (∀ x ∈ l, OpOk x) ∧ l.length = t) (fun a _ => n - (intOf (a.tmps.getD 21 undef)).toNat) ⟨0, .slice none 0 0, .nilIface, .slice (some ⟨w2.heap.size, 0, none⟩) 0 0, undef, undef, undef, undef, undef, undef, undef, undef, undef, undef, undef, undef, undef, undef, undef, undef, undef, undef, rfl, by omega, [], a1, rfl, HI3.out, HO3.out, HOn3.out, HT3.out, HG3.out, by simp, rfl⟩ ?_
    rintro ac wr ⟨t, u2, u3, u7, u8, u9, u22, u23, u24, u25, u26, u27, u28, u29, u30, u31, u32, u33, u34, u35, u36, u37, rfl, ht, l, at_, hC, hI, hO, hOn, hT, hG, hOk, hLn⟩
    by_cases htl : t < n
    · have htl' : (t : Int) < (n : Int) := by omega
      obtain ⟨k1, hk1⟩ : ∃ k1, n - t = k1 + 1 := ⟨n - t - 1, by omega⟩
      rw [hk1, getN] at hC
      have hk2 : k1 = n - (t + 1) := by omega
      rw [hk2] at hC
      have hwr1 : IntKind.u64.wrap ((t : Int) + 1) = (t : Int) + 1 := by rw [IntKind.wrap_u64]; have := Hn.out; omega
      obtain ⟨oa, oc, rfl⟩ := hO.sl
      obtain ⟨G, hGG⟩ : ∃ G, Keep (G = getO (lst s) l at_) := ⟨_, ⟨rfl⟩⟩
      rw [← hGG.out] at hC
      have JC := Keep.mk hC
      have JI := Keep.mk hI
      have JO := Keep.mk hO
      have JOn := Keep.mk hOn
      have JT := Keep.mk hT
      have JG := Keep.mk hG
      have JOk := Keep.mk hOk
      have JLn := Keep.mk hLn
      clear hC hI hO hOn hT hG hOk hLn hk1 hk2
      refine wp_seq_k fun K9 hK9 => ?_
      refine wp_region_list (WL.out ?_)
      refine WL.val (by kernel_rfl) (.bool true) (by go_simp) ?_
      simp only [Act.put, List.setIfInBounds_toArray, List.set_cons_zero, List.set_cons_succ]
      refine WL.nil ?_
      refine hK9 _ _ ?_
      refine wp_seq_k fun K10 hK10 => ?_
      refine wp_cond_true rfl ?_
      refine wp_skip ?_
      refine hK10 _ _ ?_
      refine wp_seq_k fun K11 hK11 => ?_
      refine wp_block ?_
      refine wp_seq_k fun K12 hK12 => ?_
      refine wp_region_list (WL.out ?_)
      refine WL.val (by kernel_rfl) (.pointer (some ⟨p, 0, none⟩)) (by go_simp) ?_
      simp only [Act.put, List.setIfInBounds_toArray, List.set_cons_zero, List.set_cons_succ]
      refine WL.val (by kernel_rfl) (.map (some m)) (by go_simp) ?_
      simp only [Act.put, List.setIfInBounds_toArray, List.set_cons_zero, List.set_cons_succ]
      refine WL.val (by kernel_rfl) (.slice oa l.length oc) (by go_simp) ?_
      simp only [Act.put, List.setIfInBounds_toArray, List.set_cons_zero, List.set_cons_succ]
      refine WL.callF (by kernel_rfl) 92 _ _ rfl Try.in92 #[ptr p, .map (some m), .slice oa l.length oc] (by simp [Act.eval]) ?_
      refine (getOne_any p m s at_ _ l wr JI.out Hb.out JT.out (fun wx hx => (JO.out.grown hx (fun k hk e => JO.out.ne JI.out.blk (by decide) (e ▸ hk))).ops) (by have := JLn.out; have := Hn.out; omega)).mono ?_
      rintro e w1 ⟨y, er, rfl, hg1, hc1⟩
      refine ⟨_, rfl, ?_⟩
      rw [← hGG.out] at hc1
      have HG1 := Keep.mk hg1
      have HGw : Keep (Grown w w1 fun k => k = p) := ⟨JG.out.trans hg1⟩
      have HC1 := Keep.mk hc1
      have HO1 := Keep.mk (JO.out.grown hg1 (fun k hk e => JO.out.ne JI.out.blk (by decide) (e ▸ hk)))
      have HT1 := Keep.mk (JT.out.grown hg1 (fun e => JT.out.ne JI.out.blk e) (fun g cs hg e => blk_ne hg JI.out.blk (by decide) e))
      clear hg1 hc1
      simp only [Act.put, List.setIfInBounds_toArray, List.set_cons_zero, List.set_cons_succ]
      refine WL.val (by kernel_rfl) (.tuple #[.agg (opA y), er]) (by go_simp) ?_
      simp only [Act.put, List.setIfInBounds_toArray, List.set_cons_zero, List.set_cons_succ]
      refine WL.val (by kernel_rfl) (.agg (opA y)) (by go_simp) ?_
      simp only [Act.put, List.setIfInBounds_toArray, List.set_cons_zero, List.set_cons_succ]
      refine WL.val (by kernel_rfl) (er) (by go_simp) ?_
      simp only [Act.put, List.setIfInBounds_toArray, List.set_cons_zero, List.set_cons_succ]
      refine WL.new (by kernel_rfl) 79 rfl _ Try.new79 ?_
      simp only [Act.put, List.setIfInBounds_toArray, List.set_cons_zero, List.set_cons_succ]
      refine WL.storeR (by kernel_rfl) 79 (.tmp 8) (.tmp 28) rfl w1.heap.size (opA y) rfl rfl 79 (opA zeroOp) (Blk.new w1 79 _) (Try.size79B y) (opA_sizes _ _) (opA_one y) ?_
      have HY2 := Keep.mk ((Blk.new w1 79 (opA zeroOp)).setRow (opA y))
      have B2 : Keep (Below w1.heap.size w1 ((w1.alloc (.cells (opA zeroOp) 79)).setRow w1.heap.size (opA y))) := ⟨below_setRow (below_new w1 _) (Nat.le_refl _) _⟩
      generalize (w1.alloc (.cells (opA zeroOp) 79)).setRow w1.heap.size (opA y) = w2 at *
      have HG2 : Keep (Grown w w2 fun k => k = p) := ⟨HGw.out.trans (Grown.below B2.out)⟩
      have HO2 := Keep.mk (HO1.out.below B2.out)
      have HT2 := Keep.mk (HT1.out.below B2.out)
      simp only [Act.put]
      refine WL.val (by kernel_rfl) (er) (by go_simp) ?_
      simp only [Act.put, List.setIfInBounds_toArray, List.set_cons_zero, List.set_cons_succ]
      refine WL.nil ?_
      refine hK12 _ _ ?_
      refine wp_seq_k fun K13 hK13 => ?_
      refine wp_seq_k fun K14 hK14 => ?_
      by_cases hE : G.1 = 0
      · rcases HC1.out with ⟨e1, rfl, rfl, e3, e4⟩ | ⟨e1, _⟩
        rotate_left
        · exact absurd hE e1
        have HI2 : Keep (InAt w2 p s G.2.1 none) := ⟨e3.blk.below B2.out e3.blk.lt, e3.le⟩
        have K3 := Keep.mk e4
        clear e3 e4
        rw [if_pos hE] at JC
        refine wp_region_list (WL.out ?_)
        refine WL.val (by kernel_rfl) (.nilIface) (by go_simp) ?_
        simp only [Act.put, List.setIfInBounds_toArray, List.set_cons_zero, List.set_cons_succ]
        refine WL.val (by kernel_rfl) (.bool false) (by go_simp) ?_
        simp only [Act.put, List.setIfInBounds_toArray, List.set_cons_zero, List.set_cons_succ]
        refine WL.nil ?_
        refine hK14 _ _ ?_
        refine wp_cond_false rfl ?_
        refine wp_skip ?_
        refine hK13 _ _ ?_
        refine wp_region_list (WL.out ?_)
        refine WL.val (by kernel_rfl) (.slice oa l.length oc) (by go_simp) ?_
        simp only [Act.put, List.setIfInBounds_toArray, List.set_cons_zero, List.set_cons_succ]
        refine WL.row (by kernel_rfl) 79 (.tmp 8) rfl w1.heap.size rfl 79 (opA G.2.2) _ HY2.out Try.underlying79 rfl (Try.size79B _) ?_
        simp only [Act.put, List.setIfInBounds_toArray, List.set_cons_zero, List.set_cons_succ]
        refine WL.bs (by kernel_rfl) 25 1 _ rfl #[(0, .agg (opA G.2.2))] (by simp [Act.eval]) _ _ (bsO G.2.2 w2) ?_
        have HB3 := Keep.mk (Blk.new w2 79 (opA G.2.2))
        have B3 : Keep (Below w2.heap.size w2 (w2.alloc (.cells (opA G.2.2) 79))) := ⟨below_new w2 _⟩
        generalize w2.alloc (.cells (opA G.2.2) 79) = w3 at *
        simp only [Act.put, List.setIfInBounds_toArray, List.set_cons_zero, List.set_cons_succ]
        refine WL.appO (by kernel_rfl) (.tmp 33) (.tmp 35) rfl (.slice oa l.length oc) l w2.heap.size G.2.2 rfl rfl (HO2.out.below B3.out) HB3.out (by have := JLn.out; have := Hn.out; omega) ?_
        intro v4 w4 h1 h2 h3
        have HO4 := Keep.mk h1
        have Hg4 : Keep (Grown w w4 fun k => k = p) := ⟨(HG2.out.trans (Grown.below B3.out)).next h2 (fun k hk e => absurd (JOn.out k e) (by omega))⟩
        have HT4 := Keep.mk ((HT2.out.below B3.out).grown h2 (fun e => by
          rcases (HO2.out.below B3.out).form with ⟨e1, _⟩ | ⟨g, cap, cur, e1, hgb, _⟩
          · rw [e1] at e; simp [Value.ownBlock] at e
          · rw [e1] at e; simp [Value.ownBlock] at e; subst e; exact (HT2.out.below B3.out).ne hgb rfl) (fun g cs hg e => (HO2.out.below B3.out).ne hg (by decide) e))
        have HI4 : Keep (InAt w4 p s G.2.1 none) := ⟨h2.blk (HI2.out.blk.below B3.out HI2.out.blk.lt) (fun e => (HO2.out.below B3.out).ne (HI2.out.blk.below B3.out HI2.out.blk.lt) (by decide) e), HI2.out.le⟩
        have HOn4 : Keep (∀ k, v4.ownBlock = some k → w.heap.size ≤ k) := ⟨fun k hk => by
          rcases h3 with e | ⟨j, e, hj⟩
          · rw [e] at hk; exact JOn.out k hk
          · rw [e] at hk; injection hk with hk; have := HG2.out.size; have := B3.out.size; omega⟩
        clear h1 h2 h3
        simp only [Act.put, List.setIfInBounds_toArray, List.set_cons_zero, List.set_cons_succ]
        refine WL.val (by kernel_rfl) (v4) (by go_simp) ?_
        simp only [Act.put, List.setIfInBounds_toArray, List.set_cons_zero, List.set_cons_succ]
        refine WL.nil ?_
        refine hK11 _ _ ?_
        refine wp_region_list (WL.out ?_)
        refine WL.val (by kernel_rfl) (.int .u64 ((t : Int) + 1)) (by go_simp) ?_
        simp only [Act.put, List.setIfInBounds_toArray, List.set_cons_zero, List.set_cons_succ]
        refine WL.val (by kernel_rfl) (.int .u64 ((t : Int) + 1)) (by go_simp) ?_
        simp only [Act.put, List.setIfInBounds_toArray, List.set_cons_zero, List.set_cons_succ]
        refine WL.nil ?_
        refine ⟨⟨t + 1, u2, u3, v4, .pointer (some ⟨w1.heap.size, 0, none⟩), .nilIface, .bool true, .tuple #[.agg (opA G.2.2), .nilIface], .pointer (some ⟨p, 0, none⟩), .map (some m), .slice oa l.length oc, .tuple #[.agg (opA G.2.2), .nilIface], .agg (opA G.2.2), .nilIface, .nilIface, .bool false, u32, .slice oa l.length oc, .agg (opA G.2.2), .slice (some ⟨w2.heap.size, 0, none⟩) 1 1, v4, .int .u64 ((t : Int) + 1), rfl, by omega, l ++ [G.2.2], G.2.1, JC.out, HI4.out, HO4.out, HOn4.out, HT4.out, Hg4.out, ?_, by rw [List.length_append]; simp [JLn.out]⟩, ?_⟩
        · intro z hz; rcases List.mem_append.1 hz with hz | hz; exact JOk.out z hz; simp at hz; subst hz; exact K3.out
        · simp only [intOf]; show n - ((t : Int) + 1).toNat < n - ((t : Int)).toNat; omega
      · rcases HC1.out with ⟨e1, _⟩ | ⟨_, q, hq, rfl, hbad⟩
        · exact absurd e1 hE
        have Hbad := Keep.mk (hbad.below B2.out hbad.lt)
        have Hq := Keep.mk (Nat.le_trans JG.out.size hq)
        clear hbad hq
        unfold err
        rw [if_neg hE] at JC
        refine wp_region_list (WL.out ?_)
        refine WL.val (by kernel_rfl) (.iface 68 (ptr q)) (by go_simp) ?_
        simp only [Act.put, List.setIfInBounds_toArray, List.set_cons_zero, List.set_cons_succ]
        refine WL.val (by kernel_rfl) (.bool true) (by go_simp) ?_
        simp only [Act.put, List.setIfInBounds_toArray, List.set_cons_zero, List.set_cons_succ]
        refine WL.nil ?_
        refine hK14 _ _ ?_
        refine wp_cond_true rfl ?_
        refine wp_seq_k fun K15 hK15 => ?_
        refine wp_region_list (WL.out ?_)
        refine WL.val (by kernel_rfl) (.iface 68 (ptr q)) (by go_simp) ?_
        simp only [Act.put, List.setIfInBounds_toArray, List.set_cons_zero, List.set_cons_succ]
        refine WL.val (by kernel_rfl) (.slice none 0 0) (by go_simp) ?_
        simp only [Act.put, List.setIfInBounds_toArray, List.set_cons_zero, List.set_cons_succ]
        refine WL.val (by kernel_rfl) (.iface 68 (ptr q)) (by go_simp) ?_
        simp only [Act.put, List.setIfInBounds_toArray, List.set_cons_zero, List.set_cons_succ]
        refine WL.nil ?_
        refine hK15 _ _ ?_
        refine wp_ret ?_
        go_ret2
        refine ⟨.slice none 0 0, err q, rfl, HG2.out, ?_⟩
        rw [HR.out, JC.out]
        exact .inr ⟨hE, rfl, q, Hq.out, rfl, Hbad.out⟩
    · have hte : Keep (t = n) := ⟨by omega⟩
      have htl' : ¬ (t : Int) < (n : Int) := by omega
      refine wp_seq_k fun K16 hK16 => ?_
      refine wp_region_list (WL.out ?_)
      refine WL.val (by kernel_rfl) (.bool false) (by go_simp) ?_
      simp only [Act.put, List.setIfInBounds_toArray, List.set_cons_zero, List.set_cons_succ]
      refine WL.nil ?_
      refine hK16 _ _ ?_
      refine wp_seq_k fun K17 hK17 => ?_
      refine wp_cond_false rfl ?_
      refine wp_exit ?_
      refine hK7 _ _ ?_
      refine wp_seq_k fun K18 hK18 => ?_
      refine wp_region_list (WL.out ?_)
      refine WL.val (by kernel_rfl) (u7) (by go_simp) ?_
      simp only [Act.put, List.setIfInBounds_toArray, List.set_cons_zero, List.set_cons_succ]
      refine WL.val (by kernel_rfl) (u7) (by go_simp) ?_
      simp only [Act.put, List.setIfInBounds_toArray, List.set_cons_zero, List.set_cons_succ]
      refine WL.val (by kernel_rfl) (.nilIface) (by go_simp) ?_
      simp only [Act.put, List.setIfInBounds_toArray, List.set_cons_zero, List.set_cons_succ]
      refine WL.nil ?_
      refine hK18 _ _ ?_
      refine wp_ret ?_
      go_ret2
      rw [hte.out, Nat.sub_self, getN] at hC
      refine ⟨u7, .nilIface, rfl, hG, ?_⟩
      rw [HR.out, hC]
      exact .inl ⟨rfl, rfl, hO, hOn, hI, hOk, by rw [hLn]; have := Hn.out; omega⟩
  · rcases H3.out with ⟨e1, _, _⟩ | ⟨_, q, hq, rfl, rfl, hbad⟩
    · exact absurd e1 hE
    have Hbad := Keep.mk hbad
    clear hbad
    unfold err
    refine wp_region_list (WL.out ?_)
    refine WL.val (by kernel_rfl) (.iface 68 (ptr q)) (by go_simp) ?_
    simp only [Act.put, List.setIfInBounds_toArray, List.set_cons_zero, List.set_cons_succ]
    refine WL.val (by kernel_rfl) (.bool true) (by go_simp) ?_
    simp only [Act.put, List.setIfInBounds_toArray, List.set_cons_zero, List.set_cons_succ]
    refine WL.nil ?_
    refine hK4 _ _ ?_
    refine wp_cond_true rfl ?_
    refine wp_seq_k fun K19 hK19 => ?_
    refine wp_region_list (WL.out ?_)
    refine WL.val (by kernel_rfl) (.iface 68 (ptr q)) (by go_simp) ?_
    simp only [Act.put, List.setIfInBounds_toArray, List.set_cons_zero, List.set_cons_succ]
    refine WL.val (by kernel_rfl) (.slice none 0 0) (by go_simp) ?_
    simp only [Act.put, List.setIfInBounds_toArray, List.set_cons_zero, List.set_cons_succ]
    refine WL.val (by kernel_rfl) (.iface 68 (ptr q)) (by go_simp) ?_
    simp only [Act.put, List.setIfInBounds_toArray, List.set_cons_zero, List.set_cons_succ]
    refine WL.nil ?_
    refine hK19 _ _ ?_
    refine wp_ret ?_
    go_ret2
    exact ⟨.slice none 0 0, err q, rfl, H2.out, by rw [HG1.out hE]; exact .inr ⟨hE, rfl, q, hq, rfl, Hbad.out⟩⟩
theorem get_bad (p q : Nat) (s : ByteArray) (a : Nat) (w : World) (hI : InAt w p s a (some q)) :
    Calls Try.prog 65 #[ptr p] w fun e w' => e = .returned (.tuple #[.slice none 0 0, err q]) ∧ Below w.heap.size w w' := by
  have HI := Keep.mk hI
  clear hI
  go_enter Try.func65, Try.ntmps65
  refine wp_seq_k fun K1 hK1 => ?_
  refine wp_region_list (WL.out ?_)
  refine WL.val (by kernel_rfl) (.slice none 0 0) (by go_simp) ?_
  simp only [Act.put, List.setIfInBounds_toArray, List.set_cons_zero, List.set_cons_succ]
  refine WL.val (by kernel_rfl) (.nilIface) (by go_simp) ?_
  simp only [Act.put, List.setIfInBounds_toArray, List.set_cons_zero, List.set_cons_succ]
  refine WL.nil ?_
  refine hK1 _ _ ?_
  refine wp_seq_k fun K2 hK2 => ?_
  refine wp_region_list (WL.out ?_)
  refine WL.val (by kernel_rfl) (.pointer (some ⟨p, 0, none⟩)) (by go_simp) ?_
  simp only [Act.put, List.setIfInBounds_toArray, List.set_cons_zero, List.set_cons_succ]
  refine WL.callF (by kernel_rfl) 61 _ _ rfl Try.in61 #[ptr p, .int .u64 1024] (by simp [Act.eval]) ?_
  refine (inum_bad p s a q (.int .u64 1024) w HI.out).mono ?_
  rintro e w1 ⟨rfl, h1⟩
  refine ⟨_, rfl, ?_⟩
  unfold err
  simp only [Act.put, List.setIfInBounds_toArray, List.set_cons_zero, List.set_cons_succ]
  refine WL.val (by kernel_rfl) (.tuple #[.int .u64 0, .iface 68 (ptr q)]) (by go_simp) ?_
  simp only [Act.put, List.setIfInBounds_toArray, List.set_cons_zero, List.set_cons_succ]
  refine WL.val (by kernel_rfl) (.int .u64 0) (by go_simp) ?_
  simp only [Act.put, List.setIfInBounds_toArray, List.set_cons_zero, List.set_cons_succ]
  refine WL.val (by kernel_rfl) (.iface 68 (ptr q)) (by go_simp) ?_
  simp only [Act.put, List.setIfInBounds_toArray, List.set_cons_zero, List.set_cons_succ]
  refine WL.val (by kernel_rfl) (.int .u64 0) (by go_simp) ?_
  simp only [Act.put, List.setIfInBounds_toArray, List.set_cons_zero, List.set_cons_succ]
  refine WL.val (by kernel_rfl) (.iface 68 (ptr q)) (by go_simp) ?_
  simp only [Act.put, List.setIfInBounds_toArray, List.set_cons_zero, List.set_cons_succ]
  refine WL.nil ?_
  refine hK2 _ _ ?_
  refine wp_seq_k fun K3 hK3 => ?_
  refine wp_seq_k fun K4 hK4 => ?_
  refine wp_region_list (WL.out ?_)
  refine WL.val (by kernel_rfl) (.iface 68 (ptr q)) (by go_simp) ?_
  simp only [Act.put, List.setIfInBounds_toArray, List.set_cons_zero, List.set_cons_succ]
  refine WL.val (by kernel_rfl) (.bool true) (by go_simp) ?_
  simp only [Act.put, List.setIfInBounds_toArray, List.set_cons_zero, List.set_cons_succ]
  refine WL.nil ?_
  refine hK4 _ _ ?_
  refine wp_cond_true rfl ?_
  refine wp_seq_k fun K5 hK5 => ?_
  refine wp_region_list (WL.out ?_)
  refine WL.val (by kernel_rfl) (.iface 68 (ptr q)) (by go_simp) ?_
  simp only [Act.put, List.setIfInBounds_toArray, List.set_cons_zero, List.set_cons_succ]
  refine WL.val (by kernel_rfl) (.slice none 0 0) (by go_simp) ?_
  simp only [Act.put, List.setIfInBounds_toArray, List.set_cons_zero, List.set_cons_succ]
  refine WL.val (by kernel_rfl) (.iface 68 (ptr q)) (by go_simp) ?_
  simp only [Act.put, List.setIfInBounds_toArray, List.set_cons_zero, List.set_cons_succ]
  refine WL.nil ?_
  refine hK5 _ _ ?_
  refine wp_ret ?_
  go_ret2
  exact ⟨rfl, h1⟩
end Go.Proofs.Ytgpgnldcdimmbaa
namespace Go.Proofs.Ytgpgnldcdimmbaa
open Go.RowKit
set_option linter.unusedSimpArgs false
set_option linter.unusedVariables false

theorem drop_next {L e r : List Int} {a : Nat} (h : L.drop a = e ++ r) : L.drop (a + e.length) = r := by
  rw [← List.drop_drop, h, List.drop_left]
theorem pre_split {D more A B : List Int} (h : D ++ more = A ++ B) : (∃ s, s ≠ [] ∧ D ++ s = A) ∨ (∃ E, D = A ++ E ∧ E ++ more = B) := by
  rcases List.append_eq_append_iff.1 h with ⟨s, h1, h2⟩ | ⟨E, h1, h2⟩
  · by_cases hs : s = []
    · subst hs
      exact .inr ⟨[], by rw [List.append_nil]; simpa using h1.symm, by simpa using h2⟩
    · exact .inl ⟨s, hs, h1.symm⟩
  · exact .inr ⟨E, h1, h2.symm⟩
theorem fst_num (X : Nat) (hX : X < 18446744073709551616) (rest : List Int) (most : Int) (h : (X : Int) ≤ most) : fstM (numL X ++ rest) most = ((X : Int), ((numL X).length : Int), 0) := by
  unfold fstM
  rw [fstG_numL X hX rest, if_neg]
  rintro ⟨_, h2⟩
  simp only at h2
  omega
theorem fst_form (D : List Int) (most : Int) (hB : Byts D) (h : (fstM D most).2.2 = 0) : ∃ x : Nat, x < 18446744073709551616 ∧ (x : Int) ≤ most ∧ (fstM D most).1 = x ∧ (fstM D most).2.1 = ((numL x).length : Int) ∧ ∃ r, D = numL x ++ r := by
  have hle := fstM_le D most hB h
  have h2 : fstM D most = fstG D 0 0 := by
    unfold fstM at h ⊢
    split at h
    · simp at h
    · rename_i hn; rw [if_neg hn]
  rw [h2] at h hle ⊢
  obtain ⟨x, h3, h4, h5, r, h6⟩ := fstG_form D _ _ hB (Prod.ext rfl (Prod.ext rfl h))
  exact ⟨x, h4, by rw [← h3]; exact hle.2, h3, h5, r, h6⟩
theorem fstG_short (f : Nat) : ∀ (i x : Nat) (y : Int) (D m : List Int), i + f = 9 → D ++ m = numF f x → m ≠ [] → fstG D i y = (0, 0, 20) := by
  induction f with
  | zero =>
    intro i x y D m _ h hm
    cases D with
    | nil => rfl
    | cons c D =>
      rw [numF, List.cons_append] at h
      injection h with h1 h2
      exact absurd (List.append_eq_nil_iff.1 h2).2 hm
  | succ f ih =>
    intro i x y D m hi h hm
    cases D with
    | nil => rfl
    | cons c D =>
      rw [numF] at h
      by_cases hx : x < 128
      · rw [if_pos hx, List.cons_append] at h
        injection h with h1 h2
        exact absurd (List.append_eq_nil_iff.1 h2).2 hm
      · rw [if_neg hx, List.cons_append] at h
        injection h with h1 h2
        rw [fstG, if_neg (by omega), if_neg (by rintro ⟨h3, _⟩; omega), if_neg (by omega)]
        exact ih (i + 1) (x / 128) _ D m (by omega) h2 hm
theorem fst_short (X : Nat) (D m : List Int) (most : Int) (h : D ++ m = numL X) (hm : m ≠ []) : fstM D most = (0, 0, 20) := by
  unfold fstM
  rw [fstG_short 9 0 X 0 D m rfl h hm, if_neg (by simp)]
theorem next_app (l rest : List Int) : nextW (l ++ rest) (l.length : Int) = 0 ∧ nextN (l ++ rest) (l.length : Int) = l.length := by
  have h : nextW (l ++ rest) (l.length : Int) = 0 := by unfold nextW; rw [if_neg (by omega), if_neg (by rw [List.length_append]; omega)]
  exact ⟨h, by rw [(nextN_0 _ _ h).1, Int.toNat_natCast]⟩
theorem next_short (D m l : List Int) (h : D ++ m = l) (hm : m ≠ []) : nextW D (l.length : Int) = 20 := by
  have : 0 < m.length := List.length_pos_iff.2 hm
  unfold nextW; rw [if_neg (by omega), if_pos (by rw [← h, List.length_append]; omega)]
theorem byt_form (m rest : List Int) (mm : Int) (h : (m.length : Int) ≤ mm) (hl : m.length < 18446744073709551616) : byt (bform m ++ rest) mm = (0, (bform m).length, m) := by
  have hf := fst_num m.length hl (m ++ rest) mm h
  rw [byt_eq, bform, List.append_assoc, hf]
  simp only [if_true, Int.toNat_natCast]
  rw [List.drop_left, (next_app m rest).1, (next_app m rest).2, List.take_left]
  simp
theorem byt_back (D : List Int) (mm : Int) (hB : Byts D) (h : (byt D mm).1 = 0) : ((byt D mm).2.2.length : Int) ≤ mm ∧ (byt D mm).2.1 = (bform (byt D mm).2.2).length ∧ ∃ r, D = bform (byt D mm).2.2 ++ r := by
  rw [byt_eq] at h ⊢
  by_cases h0 : (fstM D mm).2.2 = 0
  · rw [if_pos h0] at h ⊢
    obtain ⟨x, h1, h2, h3, h4, r, h5⟩ := fst_form D mm hB h0
    simp only at h ⊢
    rw [h3, h4, Int.toNat_natCast] at h ⊢
    have hd : D.drop (numL x).length = r := by rw [h5, List.drop_left]
    rw [hd] at h ⊢
    have hN := nextN_0 _ _ h
    rw [hN.1, Int.toNat_natCast]
    have hlx : (r.take x).length = x := by rw [List.length_take]; have := hN.2.2; rw [Int.toNat_natCast] at this; omega
    refine ⟨by rw [hlx]; exact h2, by rw [bform, hlx, List.length_append, hlx], r.drop x, ?_⟩
    rw [bform, hlx, List.append_assoc, List.take_append_drop, ← h5]
  · rw [if_neg h0] at h; exact absurd h h0
theorem byt_short (D more m : List Int) (mm : Int) (h : (m.length : Int) ≤ mm) (hl : m.length < 18446744073709551616) (hD : D ++ more = bform m) (hm : more ≠ []) : (byt D mm).1 = 20 ∧ (byt D mm).2.1 ≤ D.length := by
  rw [byt_eq]
  rcases pre_split (A := numL m.length) (B := m) hD with ⟨s, h1, h2⟩ | ⟨E, h1, h2⟩
  · rw [fst_short m.length D s mm h2 h1]; simp
  · subst h1
    rw [fst_num m.length hl E mm h]
    simp only [if_true, Int.toNat_natCast]
    rw [List.drop_left, next_short E more m h2 hm, nextN_1 _ _ (by rw [next_short E more m h2 hm]; decide)]
    refine ⟨rfl, ?_⟩
    rw [List.length_append]; omega
theorem zag_zig (x : Int) : zag (zig x) = x := by
  unfold zag zig
  by_cases h : 0 ≤ x
  · rw [if_pos h, if_neg (by omega)]; omega
  · rw [if_neg h, if_pos (by omega)]; omega
theorem zig_zag (x : Nat) : zig (zag (x : Int)) = x := by
  unfold zig zag
  by_cases h : (x : Int) % 2 = 1
  · rw [if_pos h, if_neg (by omega)]; omega
  · rw [if_neg h, if_pos (by omega)]; omega
def setF (i : Nat) (y x : OpV) : OpV := if i = 0 then { x with key := y.key } else if i = 1 then { x with text := y.text } else if i = 2 then { x with n := y.n } else { x with node := y.node, op := y.op }
structure MayF (ah : List OpV) (i : Nat) (y x : OpV) : Prop where
  key : i = 0 → y.key.size ≤ 65536
  text : i = 1 → y.text.size ≤ 65536
  n : i = 2 → -9223372036854775808 ≤ y.n ∧ y.n ≤ 9223372036854775807
  at_ : 3 ≤ i → mayAt ah y = true ∧ y.node.length = 32 ∧ 0 ≤ y.op ∧ y.op ≤ 1024 ∧ y.kind = x.kind ∧ y.key = x.key ∧ (y.op = 0 → y.node = x.node)
theorem mayAt_congr (ah : List OpV) {x y : OpV} (h1 : x.kind = y.kind) (h2 : x.key = y.key) (h3 : x.node = y.node) (h4 : x.op = y.op) : mayAt ah x = mayAt ah y := by
  unfold mayAt; rw [h1, h2, h3, h4]
theorem getF_there {L : List Int} {ah : List OpV} {i : Nat} {y x : OpV} {a : Nat} {r : List Int} (hi : i < 4) (hm : MayF ah i y x) (h : L.drop a = putF i y ++ r) : getF L ah i x a = (0, a + (putF i y).length, setF i y x) := by
  have hc : i = 0 ∨ i = 1 ∨ i = 2 ∨ i = 3 := by omega
  rcases hc with rfl | rfl | rfl | rfl
  · have hk := hm.key rfl
    have hb := byt_form (lst y.key) r 65536 (by rw [lst_len]; omega) (by rw [lst_len]; omega)
    show ((byt (L.drop a) 65536).1, a + (byt (L.drop a) 65536).2.1, _) = _
    rw [h, show putF 0 y = bform (lst y.key) from rfl, hb]
    simp only
    rw [nums_lst]; rfl
  · have hk := hm.text rfl
    have hb := byt_form (lst y.text) r 65536 (by rw [lst_len]; omega) (by rw [lst_len]; omega)
    show ((byt (L.drop a) 65536).1, a + (byt (L.drop a) 65536).2.1, _) = _
    rw [h, show putF 1 y = bform (lst y.text) from rfl, hb]
    simp only
    rw [nums_lst]; rfl
  · have hn := hm.n rfl
    have hz := zig_lt y.n hn.1 hn.2
    have hb := fst_num (zig y.n) hz r 18446744073709551615 (by omega)
    show ((fstM (L.drop a) 18446744073709551615).2.2, a + (fstM (L.drop a) 18446744073709551615).2.1.toNat, _) = _
    rw [h, show putF 2 y = numL (zig y.n) from rfl, hb]
    simp only [if_true, Int.toNat_natCast]
    rw [zag_zig]; rfl
  · obtain ⟨h1, h2, h3, h4, h5, h6, h7⟩ := hm.at_ (by omega)
    show getA L ah x a = _
    have hp : putF 3 y = numL y.op.toNat ++ (if y.op = 0 then [] else hl 32 (hof y.node)) := rfl
    rw [hp, List.append_assoc] at h
    have hb := fst_num y.op.toNat (by omega) ((if y.op = 0 then [] else hl 32 (hof y.node)) ++ r) 1024 (by omega)
    unfold getA
    rw [h, hb]
    simp only [Int.toNat_natCast]
    rw [if_neg (by simp)]
    by_cases h0 : y.op = 0
    · rw [if_pos (by omega), mayAt_congr ah (x := { x with op := 0 }) (y := y) h5.symm h6.symm (h7 h0).symm h0.symm, h1, if_pos rfl]
      rw [hp, if_pos h0, List.append_nil]
      simp only [setF, Prod.mk.injEq, true_and]
      simp [h0, h7 h0]
    · rw [if_neg (by omega)]
      have hd := drop_next h
      rw [if_neg h0, hl_hof _ h2] at hd
      rw [hd]
      have hn := next_app y.node r
      rw [h2] at hn
      rw [show (32 : Int) = ((32 : Nat) : Int) from rfl, hn.1, if_neg (by simp)]
      have ht : (y.node ++ r).take 32 = y.node := List.take_left' h2
      rw [ht, mayAt_congr ah (x := { x with op := ((y.op.toNat : Nat) : Int), node := y.node }) (y := y) h5.symm h6.symm rfl (by show ((y.op.toNat : Nat) : Int) = y.op; omega), h1, if_pos rfl]
      rw [hp, if_neg h0, hl_hof _ h2, List.length_append, h2, Nat.add_assoc]
      simp only [setF, Prod.mk.injEq, true_and]
      simp only [show ¬ (3 : Nat) = 0 by decide, show ¬ (3 : Nat) = 1 by decide, show ¬ (3 : Nat) = 2 by decide, if_false]
      rw [show ((y.op.toNat : Nat) : Int) = y.op by omega]
theorem getF_short {L : List Int} {ah : List OpV} {i : Nat} {y x : OpV} {a : Nat} {m : List Int} (hi : i < 4) (hm : MayF ah i y x) (h : L.drop a ++ m = putF i y) (hne : m ≠ []) (ha : a ≤ L.length) : (getF L ah i x a).1 = 20 ∧ (getF L ah i x a).2.1 ≤ L.length := by
  have hdl : (L.drop a).length = L.length - a := List.length_drop
  have hc : i = 0 ∨ i = 1 ∨ i = 2 ∨ i = 3 := by omega
  rcases hc with rfl | rfl | rfl | rfl
  · have hk := hm.key rfl
    have hb := byt_short (L.drop a) m (lst y.key) 65536 (by rw [lst_len]; omega) (by rw [lst_len]; omega) h hne
    exact ⟨hb.1, by show a + (byt (L.drop a) 65536).2.1 ≤ _; have := hb.2; omega⟩
  · have hk := hm.text rfl
    have hb := byt_short (L.drop a) m (lst y.text) 65536 (by rw [lst_len]; omega) (by rw [lst_len]; omega) h hne
    exact ⟨hb.1, by show a + (byt (L.drop a) 65536).2.1 ≤ _; have := hb.2; omega⟩
  · have hb := fst_short (zig y.n) (L.drop a) m 18446744073709551615 h hne
    show (fstM (L.drop a) 18446744073709551615).2.2 = 20 ∧ a + (fstM (L.drop a) 18446744073709551615).2.1.toNat ≤ _
    rw [hb]; exact ⟨rfl, by simpa using ha⟩
  · obtain ⟨h1, h2, h3, h4, h5, h6, h7⟩ := hm.at_ (by omega)
    show (getA L ah x a).1 = 20 ∧ (getA L ah x a).2.1 ≤ _
    rcases pre_split (A := numL y.op.toNat) (B := if y.op = 0 then [] else hl 32 (hof y.node)) h with ⟨s, h8, h9⟩ | ⟨E, h8, h9⟩
    · have hb := fst_short y.op.toNat (L.drop a) s 1024 h9 h8
      unfold getA
      rw [hb, if_pos (by simp)]
      exact ⟨rfl, by simpa using ha⟩
    · by_cases h0 : y.op = 0
      · rw [if_pos h0] at h9
        exact absurd (List.append_eq_nil_iff.1 h9).2 hne
      rw [if_neg h0, hl_hof _ h2] at h9
      have hb := fst_num y.op.toNat (by omega) E 1024 (by omega)
      have hd := drop_next h8
      have hs := next_short E m y.node h9 hne
      rw [h2] at hs
      have hs' : nextW E 32 = 20 := hs
      unfold getA
      rw [h8, hb]
      simp only [Int.toNat_natCast]
      rw [if_neg (by simp), if_neg (by omega), hd, hs', nextN_1 _ _ (by rw [hs']; decide), if_pos (by decide)]
      refine ⟨rfl, ?_⟩
      simp only [Nat.add_zero]
      rw [h8, List.length_append] at hdl
      omega
def MayFs (ah : List OpV) (y : OpV) : List Nat → OpV → Prop
  | [], _ => True
  | i :: is, x => i < 4 ∧ MayF ah i y x ∧ MayFs ah y is (setF i y x)
def fillF (y : OpV) (is : List Nat) (x : OpV) : OpV := is.foldl (fun x i => setF i y x) x
theorem getFs_there {L : List Int} {ah : List OpV} {y : OpV} : ∀ (is : List Nat) (x : OpV) (a : Nat) (r : List Int), MayFs ah y is x → L.drop a = (is.flatMap fun i => putF i y) ++ r → getFs L ah is x a = (0, a + (is.flatMap fun i => putF i y).length, fillF y is x)
  | [], x, a, r, _, _ => by simp [getFs, fillF]
  | i :: is, x, a, r, ⟨h1, h2, h3⟩, h => by
    rw [List.flatMap_cons, List.append_assoc] at h
    rw [getFs, getF_there h1 h2 h]
    simp only [if_true]
    rw [getFs_there is (setF i y x) _ r h3 (drop_next h), List.flatMap_cons, List.length_append, Nat.add_assoc]
    rfl
theorem getFs_short {L : List Int} {ah : List OpV} {y : OpV} {m : List Int} (hne : m ≠ []) : ∀ (is : List Nat) (x : OpV) (a : Nat), MayFs ah y is x → a ≤ L.length → L.drop a ++ m = (is.flatMap fun i => putF i y) → (getFs L ah is x a).1 = 20 ∧ (getFs L ah is x a).2.1 ≤ L.length
  | [], x, a, _, _, h => by
    simp only [List.flatMap_nil] at h
    exact absurd (List.append_eq_nil_iff.1 h).2 hne
  | i :: is, x, a, ⟨h1, h2, h3⟩, ha, h => by
    rw [List.flatMap_cons] at h
    rcases pre_split h with ⟨s, h4, h5⟩ | ⟨E, h4, h5⟩
    · have hs := getF_short h1 h2 h5 h4 ha
      rw [getFs, if_neg (by rw [hs.1]; decide)]
      exact hs
    · rw [getFs, getF_there h1 h2 h4]
      simp only [if_true]
      have hl := congrArg List.length h4
      rw [List.length_drop, List.length_append] at hl
      refine getFs_short hne is (setF i y x) _ h3 (by
        have := List.length_drop (i := a) (l := L); omega) (by rw [drop_next h4]; exact h5)
theorem next_one (c : Int) (D : List Int) : nextW (c :: D) 1 = 0 := by unfold nextW; rw [if_neg (by decide), if_neg (by rw [List.length_cons]; omega)]
theorem str_nil : ({ data := #[] } : ByteArray) = ByteArray.empty := rfl
theorem mayFs_of {ah : List OpV} {y : OpV} (hy : OpOk y) (hal : ah.length ≤ 1024) (h : wrongV ah y = 0) : MayFs ah y (hasI y.kind) { zeroOp with kind := y.kind } ∧ fillF y (hasI y.kind) { zeroOp with kind := y.kind } = y := by
  obtain ⟨h1, h2, h3, h4, h5⟩ := wrongV_ok h
  have hk := hasI_mem h1
  have hn := And.intro hy.n1 hy.n2
  obtain ⟨kind, key, text, n, node, op⟩ := y
  have hnode : node.length = 32 := hy.node
  simp only at h1 h2 h3 h4 h5 hk hn
  simp only [List.mem_cons, List.not_mem_nil, or_false] at hk
  have m0 : ∀ x, MayF ah 0 ⟨kind, key, text, n, node, op⟩ x := fun x => ⟨fun _ => h2, fun h => absurd h (by decide), fun h => absurd h (by decide), fun h => absurd h (by decide)⟩
  have m1 : ∀ x, MayF ah 1 ⟨kind, key, text, n, node, op⟩ x := fun x => ⟨fun h => absurd h (by decide), fun _ => h3, fun h => absurd h (by decide), fun h => absurd h (by decide)⟩
  have m2 : ∀ x, MayF ah 2 ⟨kind, key, text, n, node, op⟩ x := fun x => ⟨fun h => absurd h (by decide), fun h => absurd h (by decide), fun _ => hn, fun h => absurd h (by decide)⟩
  have hz : ∀ is, hasI kind = is → wipes is ⟨0, key, text, n, node, op⟩ = zeroOp := fun is e => by
    rw [← e]
    refine (sm_iff ?_ z32_len).1 h4
    rcases hk with rfl | rfl | rfl | rfl | rfl | rfl | rfl | rfl | rfl <;> first | exact hnode | exact z32_len
  have m3 : cellV kind = 4 → ∀ x : OpV, kind = x.kind → key = x.key → z32 = x.node → MayF ah 3 ⟨kind, key, text, n, node, op⟩ x := by
    intro hc x e1 e2 e3
    refine ⟨fun h => absurd h (by decide), fun h => absurd h (by decide), fun h => absurd h (by decide), fun _ => ?_⟩
    have hop := mayAt_op hal (h5 hc)
    refine ⟨h5 hc, hnode, hop.1, hop.2, e1, e2, fun h0 => ?_⟩
    rw [← e3]
    have hmm := h5 hc
    unfold mayAt at hmm
    simp only at hmm h0
    subst h0
    by_cases hnd : nd node z32 = true
    · rw [nd_eq hnode z32_len] at hnd; simpa using hnd
    · rw [if_neg (by simp [hnd]), if_pos (by simpa using hnd)] at hmm
      simp at hmm
  rcases hk with rfl | rfl | rfl | rfl | rfl | rfl | rfl | rfl | rfl
  · have e := hz [0, 1] rfl
    simp only [wipes, wipe, List.foldl, zeroOp] at e
    refine ⟨⟨by decide, m0 _, by decide, m1 _, trivial⟩, ?_⟩
    simp_all [fillF, setF, zeroOp, hasI]
  · have e := hz [0] rfl
    simp only [wipes, wipe, List.foldl, zeroOp] at e
    refine ⟨⟨by decide, m0 _, trivial⟩, ?_⟩
    simp_all [fillF, setF, zeroOp, hasI]
  · have e := hz [0, 1] rfl
    simp only [wipes, wipe, List.foldl, zeroOp] at e
    refine ⟨⟨by decide, m0 _, by decide, m1 _, trivial⟩, ?_⟩
    simp_all [fillF, setF, zeroOp, hasI]
  · have e := hz [0, 1] rfl
    simp only [wipes, wipe, List.foldl, zeroOp] at e
    refine ⟨⟨by decide, m0 _, by decide, m1 _, trivial⟩, ?_⟩
    simp_all [fillF, setF, zeroOp, hasI]
  · have e := hz [0] rfl
    simp only [wipes, wipe, List.foldl, zeroOp] at e
    refine ⟨⟨by decide, m0 _, trivial⟩, ?_⟩
    simp_all [fillF, setF, zeroOp, hasI]
  · have e := hz [0, 2] rfl
    simp only [wipes, wipe, List.foldl, zeroOp] at e
    refine ⟨⟨by decide, m0 _, by decide, m2 _, trivial⟩, ?_⟩
    simp_all [fillF, setF, zeroOp, hasI]
  · have e := hz [0] rfl
    simp only [wipes, wipe, List.foldl, zeroOp] at e
    refine ⟨⟨by decide, m0 _, trivial⟩, ?_⟩
    simp_all [fillF, setF, zeroOp, hasI]
  · have e := hz [0, 1, 3] rfl
    simp only [wipes, wipe, List.foldl, zeroOp] at e
    refine ⟨⟨by decide, m0 _, by decide, m1 _, by decide, m3 rfl _ rfl rfl rfl, trivial⟩, ?_⟩
    simp_all [fillF, setF, zeroOp, hasI]
  · have e := hz [0, 3] rfl
    simp only [wipes, wipe, List.foldl, zeroOp] at e
    refine ⟨⟨by decide, m0 _, by decide, m3 rfl _ rfl rfl rfl, trivial⟩, ?_⟩
    simp_all [fillF, setF, zeroOp, hasI]
theorem getO_there {L : List Int} {ah : List OpV} {y : OpV} {a : Nat} {r : List Int} (hy : OpOk y) (hal : ah.length ≤ 1024) (hw : wrongV ah y = 0) (h : L.drop a = oneF y ++ r) : getO L ah a = (0, a + (oneF y).length, y) := by
  obtain ⟨h1, h2⟩ := mayFs_of hy hal hw
  have hk := (wrongV_ok hw).1
  have hcons : L.drop a = y.kind :: ((hasI y.kind).flatMap (fun i => putF i y) ++ r) := by rw [h]; rfl
  have hd : L.drop (a + 1) = (hasI y.kind).flatMap (fun i => putF i y) ++ r := by rw [← List.drop_drop, hcons]; rfl
  unfold getO
  rw [hcons, next_one]
  rw [if_neg (by decide)]
  simp only [List.getD_cons_zero]
  rw [if_neg hk, getFs_there _ _ _ r h1 hd, h2]
  simp only [oneF, List.length_cons, Prod.mk.injEq, true_and, and_true]
  omega
theorem getO_short {L : List Int} {ah : List OpV} {y : OpV} {a : Nat} {m : List Int} (hy : OpOk y) (hal : ah.length ≤ 1024) (hw : wrongV ah y = 0) (ha : a ≤ L.length) (hne : m ≠ []) (h : L.drop a ++ m = oneF y) : (getO L ah a).1 = 20 ∧ (getO L ah a).2.1 ≤ L.length := by
  obtain ⟨h1, h2⟩ := mayFs_of hy hal hw
  have hk := (wrongV_ok hw).1
  cases hD : L.drop a with
  | nil =>
    unfold getO
    rw [hD, show nextW ([] : List Int) 1 = 20 from rfl, show nextN ([] : List Int) 1 = 0 from rfl]
    exact ⟨rfl, ha⟩
  | cons c D =>
    rw [hD, oneF, List.cons_append] at h
    injection h with h3 h4
    have hd : L.drop (a + 1) = D := by rw [← List.drop_drop, hD]; rfl
    have hl := congrArg List.length hD
    rw [List.length_drop, List.length_cons] at hl
    unfold getO
    rw [hD, next_one, if_neg (by decide)]
    simp only [List.getD_cons_zero]
    rw [h3, if_neg hk]
    exact getFs_short hne _ _ _ h1 (by omega) (by rw [hd]; exact h4)
theorem getN_there {L : List Int} : ∀ (ys l : List OpV) (a : Nat) (r : List Int), (∀ y ∈ ys, OpOk y) → l.length + ys.length ≤ 1024 → (chkF l ys).1 = 0 → L.drop a = ys.flatMap oneF ++ r → getN L ys.length l a = (0, a + (ys.flatMap oneF).length, l ++ ys)
  | [], l, a, r, _, _, _, _ => by simp [getN]
  | y :: ys, l, a, r, hok, hl, hc, h => by
    rw [List.flatMap_cons, List.append_assoc] at h
    rw [chkF] at hc
    by_cases hw : wrongV l y = 0
    · rw [if_pos hw] at hc
      simp only [List.length_cons] at hl ⊢
      rw [getN, getO_there (hok y (by simp)) (by omega) hw h]
      simp only [if_true]
      rw [getN_there ys (l ++ [y]) _ r (fun z hz => hok z (by simp [hz])) (by simp; omega) hc (drop_next h)]
      simp only [List.flatMap_cons, List.length_append, Prod.mk.injEq, true_and, List.append_assoc, List.cons_append, List.nil_append, and_true]
      omega
    · rw [if_neg hw] at hc; exact absurd hc hw
theorem getN_short {L : List Int} {m : List Int} (hne : m ≠ []) : ∀ (ys l : List OpV) (a : Nat), (∀ y ∈ ys, OpOk y) → l.length + ys.length ≤ 1024 → (chkF l ys).1 = 0 → a ≤ L.length → L.drop a ++ m = ys.flatMap oneF → (getN L ys.length l a).1 = 20 ∧ (getN L ys.length l a).2.1 ≤ L.length
  | [], l, a, _, _, _, _, h => by
    simp only [List.flatMap_nil] at h
    exact absurd (List.append_eq_nil_iff.1 h).2 hne
  | y :: ys, l, a, hok, hl, hc, ha, h => by
    rw [List.flatMap_cons] at h
    rw [chkF] at hc
    by_cases hw : wrongV l y = 0
    · rw [if_pos hw] at hc
      simp only [List.length_cons] at hl ⊢
      rcases pre_split h with ⟨s, h4, h5⟩ | ⟨E, h4, h5⟩
      · have hs := getO_short (hok y (by simp)) (by omega) hw ha h4 h5
        rw [getN, if_neg (by rw [hs.1]; decide)]
        exact hs
      · have hll := congrArg List.length h4
        rw [List.length_drop, List.length_append] at hll
        rw [getN, getO_there (hok y (by simp)) (by omega) hw h4]
        simp only [if_true]
        exact getN_short hne ys (l ++ [y]) _ (fun z hz => hok z (by simp [hz])) (by simp; omega) hc (by
          have h6 : 0 < (oneF y).length := by simp [oneF]
          omega) (by rw [drop_next h4]; exact h5)
    · rw [if_neg hw] at hc; exact absurd hc hw
theorem chk_F {l : List OpV} (h : (chk l).1 = 0) : l.length ≤ 1024 ∧ (chkF [] l).1 = 0 := by
  unfold chk at h
  by_cases hl : 1024 < l.length
  · rw [if_pos hl] at h; simp at h
  · rw [if_neg hl] at h; exact ⟨by omega, h⟩
theorem getL_there {L : List Int} {l : List OpV} {a : Nat} {r : List Int} (hok : ∀ y ∈ l, OpOk y) (hc : (chk l).1 = 0) (h : L.drop a = formL l ++ r) : getL L a = (0, a + (formL l).length, l) := by
  obtain ⟨h1, h2⟩ := chk_F hc
  rw [formL, List.append_assoc] at h
  have hb := fst_num l.length (by omega) (l.flatMap oneF ++ r) 1024 (by omega)
  unfold getL
  rw [h, hb]
  simp only [Int.toNat_natCast]
  rw [if_neg (by simp), getN_there l [] _ r hok (by simpa using h1) h2 (drop_next h)]
  simp only [formL, List.length_append, List.nil_append, Prod.mk.injEq, true_and, and_true]
  omega
theorem getL_short {L : List Int} {l : List OpV} {a : Nat} {m : List Int} (hok : ∀ y ∈ l, OpOk y) (hc : (chk l).1 = 0) (ha : a ≤ L.length) (hne : m ≠ []) (h : L.drop a ++ m = formL l) : (getL L a).1 = 20 ∧ (getL L a).2.1 ≤ L.length := by
  obtain ⟨h1, h2⟩ := chk_F hc
  rcases pre_split (A := numL l.length) (B := l.flatMap oneF) h with ⟨s, h4, h5⟩ | ⟨E, h4, h5⟩
  · unfold getL
    rw [fst_short l.length _ s 1024 h5 h4, if_pos (by simp)]
    exact ⟨rfl, by simpa using ha⟩
  · have hb := fst_num l.length (by omega) E 1024 (by omega)
    have hll := congrArg List.length h4
    rw [List.length_drop, List.length_append] at hll
    have hp : 0 < (numL l.length).length := List.length_pos_iff.2 (numL_ne _)
    unfold getL
    rw [h4, hb]
    simp only [Int.toNat_natCast]
    rw [if_neg (by simp)]
    exact getN_short hne l [] _ hok (by simpa using h1) h2 (by omega) (by rw [drop_next h4]; exact h5)
theorem get0_back {L : List Int} {ah : List OpV} {x : OpV} {a : Nat} (hB : Byts L) (h : (getF L ah 0 x a).1 = 0) : ∃ (K : ByteArray) (r : List Int), K.size ≤ 65536 ∧ L.drop a = bform (lst K) ++ r ∧ getF L ah 0 x a = (0, a + (bform (lst K)).length, { x with key := K }) := by
  have h' : (byt (L.drop a) 65536).1 = 0 := h
  obtain ⟨h1, h2, r, h3⟩ := byt_back (L.drop a) 65536 (hB.drop a) h'
  have hby := (byt_l (L.drop a) 65536).2 (hB.drop a)
  refine ⟨strOfNums (byt (L.drop a) 65536).2.2, r, by rw [str_size hby]; omega, by rw [lst_nums hby]; exact h3, ?_⟩
  rw [lst_nums hby, ← h2]
  show ((byt (L.drop a) 65536).1, _, _) = _
  rw [h']
theorem get1_back {L : List Int} {ah : List OpV} {x : OpV} {a : Nat} (hB : Byts L) (h : (getF L ah 1 x a).1 = 0) : ∃ (K : ByteArray) (r : List Int), K.size ≤ 65536 ∧ L.drop a = bform (lst K) ++ r ∧ getF L ah 1 x a = (0, a + (bform (lst K)).length, { x with text := K }) := by
  have h' : (byt (L.drop a) 65536).1 = 0 := h
  obtain ⟨h1, h2, r, h3⟩ := byt_back (L.drop a) 65536 (hB.drop a) h'
  have hby := (byt_l (L.drop a) 65536).2 (hB.drop a)
  refine ⟨strOfNums (byt (L.drop a) 65536).2.2, r, by rw [str_size hby]; omega, by rw [lst_nums hby]; exact h3, ?_⟩
  rw [lst_nums hby, ← h2]
  show ((byt (L.drop a) 65536).1, _, _) = _
  rw [h']
theorem get2_back {L : List Int} {ah : List OpV} {x : OpV} {a : Nat} (hB : Byts L) (h : (getF L ah 2 x a).1 = 0) : ∃ (n : Int) (r : List Int), -9223372036854775808 ≤ n ∧ n ≤ 9223372036854775807 ∧ L.drop a = numL (zig n) ++ r ∧ getF L ah 2 x a = (0, a + (numL (zig n)).length, { x with n := n }) := by
  have h' : (fstM (L.drop a) 18446744073709551615).2.2 = 0 := h
  obtain ⟨m, h1, _, h3, h4, r, h5⟩ := fst_form (L.drop a) 18446744073709551615 (hB.drop a) h'
  refine ⟨zag (m : Int), r, by unfold zag; split <;> omega, by unfold zag; split <;> omega, by rw [zig_zag]; exact h5, ?_⟩
  show ((fstM (L.drop a) 18446744073709551615).2.2, _, _) = _
  rw [zig_zag, h3, h4, h', Int.toNat_natCast]
  simp only [if_true]
theorem get3_back {L : List Int} {ah : List OpV} {x : OpV} {a : Nat} (hB : Byts L) (hn : x.node = z32) (ho : x.op = 0) (h : (getF L ah 3 x a).1 = 0) : ∃ (node : List Int) (op : Int) (r : List Int), node.length = 32 ∧ Byts node ∧ 0 ≤ op ∧ op ≤ 1024 ∧ mayAt ah { x with node := node, op := op } = true ∧ L.drop a = (numL op.toNat ++ (if op = 0 then [] else hl 32 (hof node))) ++ r ∧ getF L ah 3 x a = (0, a + (numL op.toNat ++ (if op = 0 then [] else hl 32 (hof node))).length, { x with node := node, op := op }) := by
  have h' : (getA L ah x a).1 = 0 := h
  show ∃ (node : List Int) (op : Int) (r : List Int), node.length = 32 ∧ Byts node ∧ 0 ≤ op ∧ op ≤ 1024 ∧ mayAt ah { x with node := node, op := op } = true ∧ L.drop a = (numL op.toNat ++ (if op = 0 then [] else hl 32 (hof node))) ++ r ∧ getA L ah x a = _
  unfold getA at h' ⊢
  by_cases h0 : (fstM (L.drop a) 1024).2.2 = 0
  · obtain ⟨m, h1, h2, h3, h4, r, h5⟩ := fst_form (L.drop a) 1024 (hB.drop a) h0
    rw [if_neg (by simp [h0]), h3, h4, Int.toNat_natCast] at h' ⊢
    have hd := drop_next h5
    by_cases hm : (m : Int) = 0
    · have hm0 : m = 0 := by omega
      subst hm0
      rw [if_pos hm] at h' ⊢
      cases hy : mayAt ah { x with op := 0 } with
      | false => rw [hy] at h'; simp at h'
      | true =>
        rw [if_pos rfl]
        refine ⟨z32, 0, r, z32_len, z32_byts, by decide, by decide, ?_, by simpa using h5, ?_⟩
        · rw [← hn]; exact hy
        · rw [← hn]; simp
    · rw [if_neg hm] at h' ⊢
      rw [hd] at h' ⊢
      by_cases hw : nextW r 32 = 0
      · have hN := nextN_0 _ _ hw
        have hlen : (r.take 32).length = 32 := by rw [List.length_take]; have := hN.2.2; omega
        have hr : Byts r := by rw [← hd]; exact hB.drop _
        rw [if_neg (by simp [hw])] at h' ⊢
        cases hy : mayAt ah { x with op := (m : Int), node := r.take 32 } with
        | false => rw [hy] at h'; simp at h'
        | true =>
          rw [if_pos rfl]
          refine ⟨r.take 32, (m : Int), r.drop 32, hlen, hr.take 32, by omega, h2, hy, ?_, ?_⟩
          · rw [if_neg hm, Int.toNat_natCast, hl_hof _ hlen, List.append_assoc, List.take_append_drop]; exact h5
          · rw [if_neg hm, Int.toNat_natCast, hl_hof _ hlen, List.length_append, hlen, Nat.add_assoc]
      · rw [if_pos hw] at h'; exact absurd h' hw
  · rw [if_pos h0] at h'; exact absurd h' h0
theorem getFs_one {L : List Int} {ah : List OpV} {i : Nat} {is : List Nat} {x : OpV} {a : Nat} (h : (getFs L ah (i :: is) x a).1 = 0) : (getF L ah i x a).1 = 0 ∧ getFs L ah (i :: is) x a = getFs L ah is (getF L ah i x a).2.2 (getF L ah i x a).2.1 := by
  by_cases h0 : (getF L ah i x a).1 = 0
  · exact ⟨h0, by rw [getFs, if_pos h0]⟩
  · rw [getFs, if_neg h0] at h; exact absurd h h0
theorem hat_no (k : Int) (h : k = 1 ∨ k = 2 ∨ k = 3 ∨ k = 4 ∨ k = 5 ∨ k = 6 ∨ k = 7) : cellV k ≠ 4 := by
  rcases h with rfl | rfl | rfl | rfl | rfl | rfl | rfl <;> decide
theorem wrongV_is {ah : List OpV} {y : OpV} (h1 : hasI y.kind ≠ []) (h2 : y.key.size ≤ 65536) (h3 : y.text.size ≤ 65536) (h4 : wipes (hasI y.kind) { y with kind := 0 } = zeroOp) (h5 : cellV y.kind = 4 → mayAt ah y = true) : wrongV ah y = 0 := by
  unfold wrongV
  rw [if_neg h1, if_neg (by omega), if_neg (by omega), h4, sm_refl, if_neg (by decide)]
  by_cases h : cellV y.kind = 4
  · rw [if_pos h, h5 h]; rfl
  · rw [if_neg h]
theorem ok_of {k n op : Int} {K T : ByteArray} {node : List Int} (hk : k = 1 ∨ k = 2 ∨ k = 3 ∨ k = 4 ∨ k = 5 ∨ k = 6 ∨ k = 7 ∨ k = 8 ∨ k = 9) (h1 : K.size ≤ 65536) (h2 : T.size ≤ 65536) (h3 : -9223372036854775808 ≤ n) (h4 : n ≤ 9223372036854775807) (h5 : node.length = 32) (h6 : Byts node) (h7 : 0 ≤ op) (h8 : op ≤ 1024) : OpOk ⟨k, K, T, n, node, op⟩ :=
  ⟨h5, h6, by show _ ≤ k; omega, by show k ≤ _; omega, h3, h4, by show _ ≤ op; omega, by show op ≤ _; omega, by show K.size ≤ _; omega, by show T.size ≤ _; omega⟩
theorem app3 (a b c r : List Int) : a ++ (b ++ (c ++ r)) = (a ++ (b ++ c)) ++ r := by simp
theorem getO_back {L : List Int} {ah : List OpV} {a : Nat} (hB : Byts L) (h : (getO L ah a).1 = 0) : ∃ (y : OpV) (r : List Int), OpOk y ∧ wrongV ah y = 0 ∧ L.drop a = oneF y ++ r ∧ getO L ah a = (0, a + (oneF y).length, y) := by
  unfold getO at h ⊢
  by_cases h0 : nextW (L.drop a) 1 = 0
  · rw [if_neg (by simp [h0])] at h ⊢
    obtain ⟨k, D, hD⟩ : ∃ k D, L.drop a = k :: D := by
      cases hd : L.drop a with
      | nil => rw [hd] at h0; exact absurd h0 (by decide)
      | cons k D => exact ⟨k, D, rfl⟩
    have hd : L.drop (a + 1) = D := by rw [← List.drop_drop, hD]; rfl
    rw [hD] at h ⊢
    simp only [List.getD_cons_zero] at h ⊢
    by_cases hk : hasI k = []
    · rw [if_pos hk] at h; simp at h
    rw [if_neg hk] at h ⊢
    have hkm := hasI_mem hk
    simp only [List.mem_cons, List.not_mem_nil, or_false] at hkm
    -- the shapes
    have s0 : hasI k = [0] → cellV k ≠ 4 → ∃ (y : OpV) (r : List Int), OpOk y ∧ wrongV ah y = 0 ∧ k :: D = oneF y ++ r ∧ getFs L ah (hasI k) { zeroOp with kind := k } (a + 1) = (0, a + (oneF y).length, y) := by
      intro hi hc
      rw [hi] at h ⊢
      obtain ⟨e1, e2⟩ := getFs_one h
      obtain ⟨K, r1, k1, k2, k3⟩ := get0_back hB e1
      rw [e2, k3]
      simp only [getFs]
      refine ⟨⟨k, K, ByteArray.empty, 0, z32, 0⟩, r1, ok_of hkm k1 (by decide) (by decide) (by decide) z32_len z32_byts (by decide) (by decide), wrongV_is hk k1 (by show ByteArray.empty.size ≤ 65536; decide) (by show wipes (hasI k) _ = _; rw [hi]; rfl) (fun e => absurd e hc), ?_, ?_⟩
      · rw [hd] at k2; rw [k2]; simp [oneF, hi, putF]
      · simp only [oneF, hi, putF, zeroOp, List.flatMap_cons, List.flatMap_nil, List.append_nil, List.length_cons, Prod.mk.injEq, true_and, if_true, and_true]; omega
    have s01 : hasI k = [0, 1] → cellV k ≠ 4 → ∃ (y : OpV) (r : List Int), OpOk y ∧ wrongV ah y = 0 ∧ k :: D = oneF y ++ r ∧ getFs L ah (hasI k) { zeroOp with kind := k } (a + 1) = (0, a + (oneF y).length, y) := by
      intro hi hc
      rw [hi] at h ⊢
      obtain ⟨e1, e2⟩ := getFs_one h
      obtain ⟨K, r1, k1, k2, k3⟩ := get0_back hB e1
      rw [e2, k3] at h
      rw [e2, k3]
      obtain ⟨e3, e4⟩ := getFs_one h
      obtain ⟨T, r2, t1, t2, t3⟩ := get1_back hB e3
      rw [e4, t3]
      simp only [getFs]
      refine ⟨⟨k, K, T, 0, z32, 0⟩, r2, ok_of hkm k1 t1 (by decide) (by decide) z32_len z32_byts (by decide) (by decide), wrongV_is hk k1 t1 (by show wipes (hasI k) _ = _; rw [hi]; rfl) (fun e => absurd e hc), ?_, ?_⟩
      · simp only at t2; rw [drop_next k2] at t2; rw [hd, t2] at k2; rw [k2]; simp [oneF, hi, putF]
      · simp only [oneF, hi, putF, zeroOp, List.flatMap_cons, List.flatMap_nil, List.append_nil, List.length_cons, List.length_append, Prod.mk.injEq, true_and, if_true, and_true, show ¬ (1 : Nat) = 0 by decide, if_false]; omega
    have s02 : hasI k = [0, 2] → cellV k ≠ 4 → ∃ (y : OpV) (r : List Int), OpOk y ∧ wrongV ah y = 0 ∧ k :: D = oneF y ++ r ∧ getFs L ah (hasI k) { zeroOp with kind := k } (a + 1) = (0, a + (oneF y).length, y) := by
      intro hi hc
      rw [hi] at h ⊢
      obtain ⟨e1, e2⟩ := getFs_one h
      obtain ⟨K, r1, k1, k2, k3⟩ := get0_back hB e1
      rw [e2, k3] at h
      rw [e2, k3]
      obtain ⟨e3, e4⟩ := getFs_one h
      obtain ⟨n, r2, n1, n2, t2, t3⟩ := get2_back hB e3
      rw [e4, t3]
      simp only [getFs]
      refine ⟨⟨k, K, ByteArray.empty, n, z32, 0⟩, r2, ok_of hkm k1 (by decide) n1 n2 z32_len z32_byts (by decide) (by decide), wrongV_is hk k1 (by show ByteArray.empty.size ≤ 65536; decide) (by show wipes (hasI k) _ = _; rw [hi]; rfl) (fun e => absurd e hc), ?_, ?_⟩
      · simp only at t2; rw [drop_next k2] at t2; rw [hd, t2] at k2; rw [k2]; simp [oneF, hi, putF]
      · simp only [oneF, hi, putF, zeroOp, List.flatMap_cons, List.flatMap_nil, List.append_nil, List.length_cons, List.length_append, Prod.mk.injEq, true_and, if_true, and_true, show ¬ (2 : Nat) = 0 by decide, show ¬ (2 : Nat) = 1 by decide, if_false]; omega
    have s03 : hasI k = [0, 3] → ∃ (y : OpV) (r : List Int), OpOk y ∧ wrongV ah y = 0 ∧ k :: D = oneF y ++ r ∧ getFs L ah (hasI k) { zeroOp with kind := k } (a + 1) = (0, a + (oneF y).length, y) := by
      intro hi
      rw [hi] at h ⊢
      obtain ⟨e1, e2⟩ := getFs_one h
      obtain ⟨K, r1, k1, k2, k3⟩ := get0_back hB e1
      rw [e2, k3] at h
      rw [e2, k3]
      obtain ⟨e3, e4⟩ := getFs_one h
      obtain ⟨node, op, r2, n1, n2, n3, n4, n5, t2, t3⟩ := get3_back hB rfl rfl e3
      rw [e4, t3]
      simp only [getFs]
      refine ⟨⟨k, K, ByteArray.empty, 0, node, op⟩, r2, ok_of hkm k1 (by decide) (by decide) (by decide) n1 n2 n3 n4, wrongV_is hk k1 (by show ByteArray.empty.size ≤ 65536; decide) (by show wipes (hasI k) _ = _; rw [hi]; rfl) (fun _ => n5), ?_, ?_⟩
      · simp only at t2; rw [drop_next k2] at t2; rw [hd, t2] at k2; rw [k2]; simp [oneF, hi, putF]
      · simp only [oneF, hi, putF, zeroOp, List.flatMap_cons, List.flatMap_nil, List.append_nil, List.length_cons, List.length_append, Prod.mk.injEq, true_and, if_true, and_true, show ¬ (3 : Nat) = 0 by decide, show ¬ (3 : Nat) = 1 by decide, show ¬ (3 : Nat) = 2 by decide, if_false]; omega
    have s013 : hasI k = [0, 1, 3] → ∃ (y : OpV) (r : List Int), OpOk y ∧ wrongV ah y = 0 ∧ k :: D = oneF y ++ r ∧ getFs L ah (hasI k) { zeroOp with kind := k } (a + 1) = (0, a + (oneF y).length, y) := by
      intro hi
      rw [hi] at h ⊢
      obtain ⟨e1, e2⟩ := getFs_one h
      obtain ⟨K, r1, k1, k2, k3⟩ := get0_back hB e1
      rw [e2, k3] at h
      rw [e2, k3]
      obtain ⟨e3, e4⟩ := getFs_one h
      obtain ⟨T, r2, t1, t2, t3⟩ := get1_back hB e3
      rw [e4, t3] at h
      rw [e4, t3]
      obtain ⟨e5, e6⟩ := getFs_one h
      obtain ⟨node, op, r3, n1, n2, n3, n4, n5, u2, u3⟩ := get3_back hB rfl rfl e5
      rw [e6, u3]
      simp only [getFs]
      refine ⟨⟨k, K, T, 0, node, op⟩, r3, ok_of hkm k1 t1 (by decide) (by decide) n1 n2 n3 n4, wrongV_is hk k1 t1 (by show wipes (hasI k) _ = _; rw [hi]; rfl) (fun _ => n5), ?_, ?_⟩
      · simp only at t2 u2; rw [drop_next t2] at u2; rw [drop_next k2] at t2; rw [u2] at t2; rw [hd, t2] at k2; rw [k2]; simp [oneF, hi, putF]
      · simp only [oneF, hi, putF, zeroOp, List.flatMap_cons, List.flatMap_nil, List.append_nil, List.length_cons, List.length_append, Prod.mk.injEq, true_and, if_true, and_true, show ¬ (1 : Nat) = 0 by decide, show ¬ (3 : Nat) = 0 by decide, show ¬ (3 : Nat) = 1 by decide, show ¬ (3 : Nat) = 2 by decide, if_false]; omega
    rcases hkm with e | e | e | e | e | e | e | e | e
    · exact s01 (by rw [e]; rfl) (by rw [e]; decide)
    · exact s0 (by rw [e]; rfl) (by rw [e]; decide)
    · exact s01 (by rw [e]; rfl) (by rw [e]; decide)
    · exact s01 (by rw [e]; rfl) (by rw [e]; decide)
    · exact s0 (by rw [e]; rfl) (by rw [e]; decide)
    · exact s02 (by rw [e]; rfl) (by rw [e]; decide)
    · exact s0 (by rw [e]; rfl) (by rw [e]; decide)
    · exact s013 (by rw [e]; rfl)
    · exact s03 (by rw [e]; rfl)
  · rw [if_pos h0] at h; exact absurd h h0
theorem getN_back {L : List Int} (hB : Byts L) : ∀ (n : Nat) (l : List OpV) (a : Nat), (getN L n l a).1 = 0 → ∃ (ys : List OpV) (r : List Int), ys.length = n ∧ (∀ y ∈ ys, OpOk y) ∧ (chkF l ys).1 = 0 ∧ L.drop a = ys.flatMap oneF ++ r ∧ getN L n l a = (0, a + (ys.flatMap oneF).length, l ++ ys)
  | 0, l, a, _ => ⟨[], L.drop a, rfl, by simp, rfl, by simp, by simp [getN]⟩
  | n + 1, l, a, h => by
    rw [getN] at h ⊢
    by_cases h0 : (getO L l a).1 = 0
    · rw [if_pos h0] at h ⊢
      obtain ⟨y, r1, h1, h2, h3, h4⟩ := getO_back hB h0
      rw [h4] at h ⊢
      simp only at h ⊢
      obtain ⟨ys, r, h5, h6, h7, h8, h9⟩ := getN_back hB n _ _ h
      refine ⟨y :: ys, r, by simp [h5], fun z hz => ?_, by rw [chkF, if_pos h2]; exact h7, ?_, ?_⟩
      · rcases List.mem_cons.1 hz with rfl | hz
        · exact h1
        · exact h6 z hz
      · rw [h3, ← drop_next h3, h8, List.flatMap_cons, List.append_assoc]
      · rw [h9]; simp only [List.flatMap_cons, List.length_append, List.append_assoc, List.cons_append, List.nil_append, Prod.mk.injEq, true_and, and_true]; omega
    · rw [if_neg h0] at h; exact absurd h h0
theorem getL_back {L : List Int} {a : Nat} (hB : Byts L) (h : (getL L a).1 = 0) : ∃ (l : List OpV) (r : List Int), (∀ y ∈ l, OpOk y) ∧ (chk l).1 = 0 ∧ L.drop a = formL l ++ r ∧ getL L a = (0, a + (formL l).length, l) := by
  unfold getL at h ⊢
  by_cases h0 : (fstM (L.drop a) 1024).2.2 = 0
  · obtain ⟨m, h1, h2, h3, h4, r, h5⟩ := fst_form (L.drop a) 1024 (hB.drop a) h0
    rw [if_neg (by simp [h0]), h3, h4, Int.toNat_natCast, Int.toNat_natCast] at h ⊢
    obtain ⟨ys, r2, h6, h7, h8, h9, h10⟩ := getN_back hB m [] _ h
    refine ⟨ys, r2, h7, by unfold chk; rw [if_neg (by omega)]; exact h8, ?_, ?_⟩
    · rw [drop_next h5] at h9; rw [h5, h9, formL, h6, List.append_assoc]
    · rw [h10, formL, h6, List.length_append, List.nil_append, Nat.add_assoc]
  · rw [if_pos h0] at h; exact absurd h h0
section
variable {P : Program} {ops : Array Oper} {rest : List Oper} {o : Oper} {a : Act} {w : World} {Q : Exit → Act → World → Prop}
theorem WL.callP (hw : Region.wanted o (yielded ops a.tmps) = true) (f : FuncId) (args : Array Operand) (ts : Array TypeId) (ho : o.op = .call { callee := .value (.func f), args := args, argTypes := ts })
    (hf : ∀ (w : World) (vs : Array Value), (callFunc f vs).run P w = .ok (.enter f vs) w) (vs : Array Value) (hvs : args.map a.eval = vs)
    (hc : Calls P f vs w fun e w' => (∃ v, e = .returned v ∧ WL P ops Q rest (a.put o.dst v) w') ∨ (∃ ch, e = .panicked ch ∧ Q (.panic ch) a w')) : WL P ops Q (o :: rest) a w :=
  ⟨wpList_wanted hw fun K hK => by
    unfold Oper.wp
    rw [run_callF a o f args ts ho hf w, Oper.upon_enter, hvs]
    refine hc.mono ?_
    rintro e w' (⟨v, rfl, hr⟩ | ⟨ch, rfl, hr⟩)
    · exact hK _ _ hr.out
    · exact hr⟩
theorem WL.panic (hw : Region.wanted o (yielded ops a.tmps) = true) (x : Operand) (ho : o.op = .panic x) (t : TypeId) (v : Value) (hx : a.eval x = .iface t v)
    (h : Q (.panic [{ v := .iface t v, recovered := false }]) a w) : WL P ops Q (o :: rest) a w :=
  ⟨wpList_wanted hw fun K hK => by
    unfold Oper.wp execOp
    simp only [ho, hx, Sem.run_bind, run_panic_iface]
    exact h⟩
end
def wr (q : Nat) : PanicEntry := { v := .iface 103 (.agg #[err q]), recovered := false }
theorem Try.in67 (w : World) (vs : Array Value) : (callFunc 67 vs).run Try.prog w = .ok (.enter 67 vs) w := by kernel_rfl
theorem Try.in62 (w : World) (vs : Array Value) : (callFunc 62 vs).run Try.prog w = .ok (.enter 62 vs) w := by kernel_rfl
theorem Try.in60 (w : World) (vs : Array Value) : (callFunc 60 vs).run Try.prog w = .ok (.enter 60 vs) w := by kernel_rfl
theorem Try.in64 (w : World) (vs : Array Value) : (callFunc 64 vs).run Try.prog w = .ok (.enter 64 vs) w := by kernel_rfl
theorem Try.in86 (w : World) (vs : Array Value) : (callFunc 86 vs).run Try.prog w = .ok (.enter 86 vs) w := by kernel_rfl
theorem Try.in90 (w : World) (vs : Array Value) : (callFunc 90 vs).run Try.prog w = .ok (.enter 90 vs) w := by kernel_rfl
theorem Try.in50 (w : World) (vs : Array Value) : (callFunc 50 vs).run Try.prog w = .ok (.enter 50 vs) w := by kernel_rfl
theorem Try.in51 (w : World) (vs : Array Value) : (callFunc 51 vs).run Try.prog w = .ok (.enter 51 vs) w := by kernel_rfl
theorem wr_built (q : Nat) : Try.prog.built 103 [(0, .iface 68 (ptr q))] = some #[.iface 68 (ptr q)] := by kernel_rfl
theorem giveUp_any (q : Nat) (w : World) : Calls Try.prog 67 #[err q] w fun e w' => e = .panicked [wr q] ∧ w' = w := by
  unfold wr err
  go_enter Try.func67, Try.ntmps67
  refine wp_region_list (WL.out ?_)
  refine WL.val (by kernel_rfl) (.iface 68 (ptr q)) (by go_simp) ?_
  simp only [Act.put, List.setIfInBounds_toArray, List.set_cons_zero, List.set_cons_succ]
  refine WL.bld (by kernel_rfl) 103 _ rfl [(0, .iface 68 (ptr q))] (by simp [Act.eval]) _ (wr_built _) ?_
  simp only [Act.put, List.setIfInBounds_toArray, List.set_cons_zero, List.set_cons_succ]
  refine WL.val (by kernel_rfl) (.iface 103 (.agg #[.iface 68 (ptr q)])) (by go_simp) ?_
  simp only [Act.put, List.setIfInBounds_toArray, List.set_cons_zero, List.set_cons_succ]
  refine WL.panic (by kernel_rfl) (.tmp 4) rfl 103 _ rfl ?_
  exact ⟨rfl, rfl, rfl⟩
theorem bad_built (why : Int) (a : Nat) : Try.prog.built 70 [(0, .int .i64 why), (1, .int .i64 (a : Int))] = some #[.int .i64 why, .int .i64 (a : Int)] := by kernel_rfl
theorem at_any (why : Int) (a : Nat) (w : World) : Calls Try.prog 62 #[.int .i64 why, .int .i64 (a : Int)] w fun e w' => e = .panicked [wr w.heap.size] ∧ BadAt w' w.heap.size why a ∧ Below w.heap.size w w' := by
  go_enter Try.func62, Try.ntmps62
  refine wp_region_list (WL.out ?_)
  refine WL.val (by kernel_rfl) (.int .i64 why) (by go_simp) ?_
  simp only [Act.put, List.setIfInBounds_toArray, List.set_cons_zero, List.set_cons_succ]
  refine WL.val (by kernel_rfl) (.int .i64 (a : Int)) (by go_simp) ?_
  simp only [Act.put, List.setIfInBounds_toArray, List.set_cons_zero, List.set_cons_succ]
  refine WL.bld (by kernel_rfl) 70 _ rfl [(0, .int .i64 why), (1, .int .i64 (a : Int))] (by simp [Act.eval]) _ (bad_built why a) ?_
  simp only [Act.put, List.setIfInBounds_toArray, List.set_cons_zero, List.set_cons_succ]
  refine WL.box (by kernel_rfl) 70 (.tmp 6) rfl _ rfl ?_
  have HBd : Keep (BadAt (w.alloc (.cells #[.int .i64 why, .int .i64 (a : Int)] 70)) w.heap.size why a) := ⟨Blk.new w 70 _⟩
  have HB : Keep (Below w.heap.size w (w.alloc (.cells #[.int .i64 why, .int .i64 (a : Int)] 70))) := ⟨below_new w _⟩
  generalize w.alloc (.cells #[.int .i64 why, .int .i64 (a : Int)] 70) = w1 at *
  simp only [Act.put, List.setIfInBounds_toArray, List.set_cons_zero, List.set_cons_succ]
  refine WL.val (by kernel_rfl) (.iface 68 (.pointer (some ⟨w.heap.size, 0, none⟩))) (by go_simp) ?_
  simp only [Act.put, List.setIfInBounds_toArray, List.set_cons_zero, List.set_cons_succ]
  refine WL.callP (by kernel_rfl) 67 _ _ rfl Try.in67 #[err w.heap.size] (by simp [Act.eval, err, ptr]) ?_
  refine (giveUp_any w.heap.size w1).mono ?_
  rintro e w' ⟨rfl, rfl⟩
  refine .inr ⟨_, rfl, ?_⟩
  exact ⟨rfl, rfl, HBd.out, HB.out⟩
theorem must60_ok (x : Value) (w : World) : Calls Try.prog 60 #[x, .nilIface] w fun e w' => e = .returned x ∧ w' = w := by
  go_enter Try.func60, Try.ntmps60
  go_wp2
  go_ret
  exact ⟨rfl, rfl⟩
theorem must60_bad (x : Value) (q : Nat) (w : World) : Calls Try.prog 60 #[x, err q] w fun e w' => e = .panicked [wr q] ∧ w' = w := by
  have HG := Keep.mk (giveUp_any q w)
  unfold err at HG ⊢
  go_enter Try.func60, Try.ntmps60
  go_wp2_with fail
  refine HG.out.mono ?_
  rintro e w' ⟨rfl, rfl⟩
  exact ⟨rfl, rfl, rfl⟩
theorem must64_ok (x : Value) (w : World) : Calls Try.prog 64 #[x, .nilIface] w fun e w' => e = .returned x ∧ w' = w := by
  go_enter Try.func64, Try.ntmps64
  go_wp2
  go_ret
  exact ⟨rfl, rfl⟩
theorem must64_bad (x : Value) (q : Nat) (w : World) : Calls Try.prog 64 #[x, err q] w fun e w' => e = .panicked [wr q] ∧ w' = w := by
  have HG := Keep.mk (giveUp_any q w)
  unfold err at HG ⊢
  go_enter Try.func64, Try.ntmps64
  go_wp2_with fail
  refine HG.out.mono ?_
  rintro e w' ⟨rfl, rfl⟩
  exact ⟨rfl, rfl, rfl⟩
theorem must86_ok (x : Value) (w : World) : Calls Try.prog 86 #[x, .nilIface] w fun e w' => e = .returned x ∧ w' = w := by
  go_enter Try.func86, Try.ntmps86
  go_wp2
  go_ret
  exact ⟨rfl, rfl⟩
theorem must86_bad (x : Value) (q : Nat) (w : World) : Calls Try.prog 86 #[x, err q] w fun e w' => e = .panicked [wr q] ∧ w' = w := by
  have HG := Keep.mk (giveUp_any q w)
  unfold err at HG ⊢
  go_enter Try.func86, Try.ntmps86
  go_wp2_with fail
  refine HG.out.mono ?_
  rintro e w' ⟨rfl, rfl⟩
  exact ⟨rfl, rfl, rfl⟩
theorem mustH_ok (c : Nat → Int) (w : World) : Calls Try.prog 90 #[.agg (bytesA 32 c), .nilIface] w fun e w' => e = .returned (.agg (bytesA 32 c)) ∧ Below w.heap.size w w' := by
  go_enter Try.func90, Try.ntmps90
  refine wp_seq_k fun K1 hK1 => ?_
  refine wp_region_list (WL.out ?_)
  refine WL.box (by kernel_rfl) 40 (.tmp 0) rfl _ rfl ?_
  have HX1 := Keep.mk (Blk.new w 40 (bytesA 32 c))
  have B1 := Keep.mk (below_new w (.cells (bytesA 32 c) 40))
  generalize w.alloc (.cells (bytesA 32 c) 40) = w1 at *
  simp only [Act.put, List.setIfInBounds_toArray, List.set_cons_zero, List.set_cons_succ]
  refine WL.new (by kernel_rfl) 40 rfl _ Try.new40 ?_
  have HX2 := Keep.mk (HX1.out.alloc (.cells (bytesA 32 fun _ => 0) 40))
  have HY2 := Keep.mk (Blk.new w1 40 (bytesA 32 fun _ => 0))
  have B2 : Keep (Below w.heap.size w (w1.alloc (.cells (bytesA 32 fun _ => 0) 40))) := ⟨B1.out.trans ((below_new w1 _).mono B1.out.size)⟩
  have hs : Keep (w.heap.size < w1.heap.size) := ⟨HX1.out.lt⟩
  have hne : Keep (w.heap.size ≠ w1.heap.size) := ⟨by have := hs.out; omega⟩
  generalize w1.alloc (.cells (bytesA 32 fun _ => 0) 40) = w2 at *
  simp only [Act.put, List.setIfInBounds_toArray, List.set_cons_zero, List.set_cons_succ]
  refine WL.nil ?_
  refine hK1 _ _ ?_
  refine wp_seq_k fun K2 hK2 => ?_
  refine wp_seq_k fun K3 hK3 => ?_
  refine wp_region_list (WL.out ?_)
  refine WL.val (by kernel_rfl) (.nilIface) (by go_simp) ?_
  simp only [Act.put, List.setIfInBounds_toArray, List.set_cons_zero, List.set_cons_succ]
  refine WL.val (by kernel_rfl) (.bool false) (by go_simp) ?_
  simp only [Act.put, List.setIfInBounds_toArray, List.set_cons_zero, List.set_cons_succ]
  refine WL.nil ?_
  refine hK3 _ _ ?_
  refine wp_cond_false rfl ?_
  refine wp_skip ?_
  refine hK2 _ _ ?_
  refine wp_seq_k fun K4 hK4 => ?_
  refine wp_region_list (WL.out ?_)
  refine WL.row (by kernel_rfl) 40 (.tmp 2) rfl w.heap.size rfl 40 (bytesA 32 c) _ HX2.out Try.underlying40 rfl (Try.size40B _) ?_
  simp only [Act.put, List.setIfInBounds_toArray, List.set_cons_zero, List.set_cons_succ]
  refine WL.storeR (by kernel_rfl) 40 (.tmp 4) (.tmp 9) rfl w1.heap.size (bytesA 32 c) rfl rfl 40 (bytesA 32 fun _ => 0) HY2.out (Try.size40B _) (bytesA_sizes _ _ _) (bytesA_one _ _) ?_
  have HY3 := Keep.mk (HY2.out.setRow (bytesA 32 c))
  have B3 : Keep (Below w.heap.size w (w2.setRow w1.heap.size (bytesA 32 c))) := ⟨below_setRow B2.out (by have := hs.out; omega) _⟩
  generalize w2.setRow w1.heap.size (bytesA 32 c) = w3 at *
  simp only [Act.put]
  refine WL.nil ?_
  refine hK4 _ _ ?_
  refine wp_ret ?_
  refine bodyPost_ret (v := .agg (bytesA 32 c)) (results_cell_row Try.results90 _ _ w1.heap.size 40 _ (0, 0) _ rfl HY3.out Try.underlying40 rfl (Try.size40B _)) rfl ?_
  exact ⟨rfl, B3.out⟩
theorem mustH_bad (c : Nat → Int) (q : Nat) (w : World) : Calls Try.prog 90 #[.agg (bytesA 32 c), err q] w fun e w' => e = .panicked [wr q] ∧ Below w.heap.size w w' := by
  unfold err
  go_enter Try.func90, Try.ntmps90
  refine wp_seq_k fun K1 hK1 => ?_
  refine wp_region_list (WL.out ?_)
  refine WL.box (by kernel_rfl) 40 (.tmp 0) rfl _ rfl ?_
  have HX1 := Keep.mk (Blk.new w 40 (bytesA 32 c))
  have B1 := Keep.mk (below_new w (.cells (bytesA 32 c) 40))
  generalize w.alloc (.cells (bytesA 32 c) 40) = w1 at *
  simp only [Act.put, List.setIfInBounds_toArray, List.set_cons_zero, List.set_cons_succ]
  refine WL.new (by kernel_rfl) 40 rfl _ Try.new40 ?_
  have HX2 := Keep.mk (HX1.out.alloc (.cells (bytesA 32 fun _ => 0) 40))
  have HY2 := Keep.mk (Blk.new w1 40 (bytesA 32 fun _ => 0))
  have B2 : Keep (Below w.heap.size w (w1.alloc (.cells (bytesA 32 fun _ => 0) 40))) := ⟨B1.out.trans ((below_new w1 _).mono B1.out.size)⟩
  have hs : Keep (w.heap.size < w1.heap.size) := ⟨HX1.out.lt⟩
  have hne : Keep (w.heap.size ≠ w1.heap.size) := ⟨by have := hs.out; omega⟩
  generalize w1.alloc (.cells (bytesA 32 fun _ => 0) 40) = w2 at *
  simp only [Act.put, List.setIfInBounds_toArray, List.set_cons_zero, List.set_cons_succ]
  refine WL.nil ?_
  refine hK1 _ _ ?_
  refine wp_seq_k fun K2 hK2 => ?_
  refine wp_seq_k fun K3 hK3 => ?_
  refine wp_region_list (WL.out ?_)
  refine WL.val (by kernel_rfl) (.iface 68 (ptr q)) (by go_simp) ?_
  simp only [Act.put, List.setIfInBounds_toArray, List.set_cons_zero, List.set_cons_succ]
  refine WL.val (by kernel_rfl) (.bool true) (by go_simp) ?_
  simp only [Act.put, List.setIfInBounds_toArray, List.set_cons_zero, List.set_cons_succ]
  refine WL.nil ?_
  refine hK3 _ _ ?_
  refine wp_cond_true rfl ?_
  refine wp_region_list (WL.out ?_)
  refine WL.val (by kernel_rfl) (.iface 68 (ptr q)) (by go_simp) ?_
  simp only [Act.put, List.setIfInBounds_toArray, List.set_cons_zero, List.set_cons_succ]
  refine WL.callP (by kernel_rfl) 67 _ _ rfl Try.in67 #[err q] (by simp [Act.eval, err]) ?_
  refine (giveUp_any q w2).mono ?_
  rintro e w' ⟨rfl, rfl⟩
  refine .inr ⟨_, rfl, ?_⟩
  try simp only [Exit.inBlock, Exit.then]
  refine ⟨rfl, ?_⟩
  exact ⟨rfl, B2.out⟩
theorem isAuthor_any (x : Int) (w : World) : Calls Try.prog 50 #[.int .i64 x] w fun e w' => e = .returned (.bool (decide (1 ≤ x ∧ x ≤ 8))) ∧ w' = w := by
  go_enter Try.func50, Try.ntmps50
  refine wp_seq_k fun K1 hK1 => ?_
  refine wp_region_list (WL.out ?_)
  refine WL.val (by kernel_rfl) (.bool false) (by go_simp) ?_
  simp only [Act.put, List.setIfInBounds_toArray, List.set_cons_zero, List.set_cons_succ]
  refine WL.nil ?_
  refine hK1 _ _ ?_
  refine wp_seq_k fun K2 hK2 => ?_
  refine wp_region_list (WL.out ?_)
  refine WL.val (by kernel_rfl) (.int .i64 x) (by go_simp) ?_
  simp only [Act.put, List.setIfInBounds_toArray, List.set_cons_zero, List.set_cons_succ]
  by_cases h1_1 : 1 ≤ x
  · skip
    refine WL.val (by kernel_rfl) (.bool true) (by go_simp) ?_
    simp only [Act.put, List.setIfInBounds_toArray, List.set_cons_zero, List.set_cons_succ]
    refine WL.val (by kernel_rfl) (.bool true) (by go_simp) ?_
    simp only [Act.put, List.setIfInBounds_toArray, List.set_cons_zero, List.set_cons_succ]
    refine WL.val (by kernel_rfl) (.int .i64 x) (by go_simp) ?_
    simp only [Act.put, List.setIfInBounds_toArray, List.set_cons_zero, List.set_cons_succ]
    by_cases h1_4 : x ≤ 8
    · skip
      refine WL.val (by kernel_rfl) (.bool true) (by go_simp) ?_
      simp only [Act.put, List.setIfInBounds_toArray, List.set_cons_zero, List.set_cons_succ]
      refine WL.val (by kernel_rfl) (.bool true) (by go_simp) ?_
      simp only [Act.put, List.setIfInBounds_toArray, List.set_cons_zero, List.set_cons_succ]
      refine WL.val (by kernel_rfl) (.bool true) (by go_simp) ?_
      simp only [Act.put, List.setIfInBounds_toArray, List.set_cons_zero, List.set_cons_succ]
      refine WL.nil ?_
      refine hK2 _ _ ?_
      refine wp_ret ?_
      go_ret
      exact ⟨by simp [*], rfl⟩
    · skip
      refine WL.val (by kernel_rfl) (.bool false) (by go_simp) ?_
      simp only [Act.put, List.setIfInBounds_toArray, List.set_cons_zero, List.set_cons_succ]
      refine WL.val (by kernel_rfl) (.bool false) (by go_simp) ?_
      simp only [Act.put, List.setIfInBounds_toArray, List.set_cons_zero, List.set_cons_succ]
      refine WL.val (by kernel_rfl) (.bool false) (by go_simp) ?_
      simp only [Act.put, List.setIfInBounds_toArray, List.set_cons_zero, List.set_cons_succ]
      refine WL.nil ?_
      refine hK2 _ _ ?_
      refine wp_ret ?_
      go_ret
      exact ⟨by simp [*], rfl⟩
  · skip
    refine WL.val (by kernel_rfl) (.bool false) (by go_simp) ?_
    simp only [Act.put, List.setIfInBounds_toArray, List.set_cons_zero, List.set_cons_succ]
    refine WL.val (by kernel_rfl) (.bool false) (by go_simp) ?_
    simp only [Act.put, List.setIfInBounds_toArray, List.set_cons_zero, List.set_cons_succ]
    refine WL.skip (by kernel_rfl) ?_
    simp only [Act.put, List.setIfInBounds_toArray, List.set_cons_zero, List.set_cons_succ]
    refine WL.skip (by kernel_rfl) ?_
    simp only [Act.put, List.setIfInBounds_toArray, List.set_cons_zero, List.set_cons_succ]
    refine WL.val (by kernel_rfl) (.bool false) (by go_simp) ?_
    simp only [Act.put, List.setIfInBounds_toArray, List.set_cons_zero, List.set_cons_succ]
    refine WL.val (by kernel_rfl) (.bool false) (by go_simp) ?_
    simp only [Act.put, List.setIfInBounds_toArray, List.set_cons_zero, List.set_cons_succ]
    refine WL.nil ?_
    refine hK2 _ _ ?_
    refine wp_ret ?_
    go_ret
    exact ⟨by simp [*], rfl⟩
theorem isAuthor_yes (x : Int) (w : World) (h : 1 ≤ x ∧ x ≤ 8) : Calls Try.prog 50 #[.int .i64 x] w fun e w' => e = .returned (.bool true) ∧ w' = w := by
  have := isAuthor_any x w
  rw [decide_eq_true h] at this
  exact this
theorem isAuthor_no (x : Int) (w : World) (h : ¬ (1 ≤ x ∧ x ≤ 8)) : Calls Try.prog 50 #[.int .i64 x] w fun e w' => e = .returned (.bool false) ∧ w' = w := by
  have := isAuthor_any x w
  rw [decide_eq_false h] at this
  exact this
theorem clockFits_any (x y : Int) (w : World) : Calls Try.prog 51 #[.int .i64 x, .int .i64 y] w fun e w' => e = .returned (.bool ((x == 1) == (y == 0))) ∧ w' = w := by
  go_enter Try.func51, Try.ntmps51
  refine wp_seq_k fun K1 hK1 => ?_
  refine wp_region_list (WL.out ?_)
  refine WL.val (by kernel_rfl) (.bool false) (by go_simp) ?_
  simp only [Act.put, List.setIfInBounds_toArray, List.set_cons_zero, List.set_cons_succ]
  refine WL.nil ?_
  refine hK1 _ _ ?_
  refine wp_seq_k fun K2 hK2 => ?_
  refine wp_region_list (WL.out ?_)
  refine WL.val (by kernel_rfl) (.int .i64 x) (by go_simp) ?_
  simp only [Act.put, List.setIfInBounds_toArray, List.set_cons_zero, List.set_cons_succ]
  refine WL.val (by kernel_rfl) (.bool (x == 1)) (by go_simp) ?_
  simp only [Act.put, List.setIfInBounds_toArray, List.set_cons_zero, List.set_cons_succ]
  refine WL.val (by kernel_rfl) (.int .i64 y) (by go_simp) ?_
  simp only [Act.put, List.setIfInBounds_toArray, List.set_cons_zero, List.set_cons_succ]
  refine WL.val (by kernel_rfl) (.bool (y == 0)) (by go_simp) ?_
  simp only [Act.put, List.setIfInBounds_toArray, List.set_cons_zero, List.set_cons_succ]
  refine WL.val (by kernel_rfl) (.bool ((x == 1) == (y == 0))) (by go_simp) ?_
  simp only [Act.put, List.setIfInBounds_toArray, List.set_cons_zero, List.set_cons_succ]
  refine WL.val (by kernel_rfl) (.bool ((x == 1) == (y == 0))) (by go_simp) ?_
  simp only [Act.put, List.setIfInBounds_toArray, List.set_cons_zero, List.set_cons_succ]
  refine WL.nil ?_
  refine hK2 _ _ ?_
  refine wp_ret ?_
  go_ret
  exact ⟨rfl, rfl⟩
theorem clockFits_is (x y : Int) (w : World) (b : Bool) (h : ((x == 1) == (y == 0)) = b) : Calls Try.prog 51 #[.int .i64 x, .int .i64 y] w fun e w' => e = .returned (.bool b) ∧ w' = w := by
  have := clockFits_any x y w
  rw [h] at this
  exact this
end Go.Proofs.Ytgpgnldcdimmbaa
